/-
  Contracts of the functions of package value, of its specification and of what the statements of layer 1 share (values and types made of numbers, the chapter's examples), each for every argument: used by the proofs of layer 1's statements.
  Part 14 of 14.
-/
import Derived.Test.YtkofebafmjjljaaGreatDoorBb11
import Derived.Test.YtkofebafmjjljaaGreatDoorBb13
import Derived.Test.YtkofebafmjjljaaGreatDoorBb06
import Derived.Test.YtkofebafmjjljaaGreatDoorBb09
import Derived.Test.YtkofebafmjjljaaGreatDoorBb10
import Derived.Laws.BytesArg
import Derived.Deep.RegionLaw
import Derived.Deep.DeepCutAuto
import Derived.Test.YtkofebafmjjljaaGreatDoorBb12
/-
  PLAIN MATHEMATICS: WHAT IS READ OF THE TEXT OF A VALUE.
-/
namespace Go.Proofs.YtkofebafmjjljaaGreatDoor
open Go.RowKit

/-- No byte of a number comes next. -/
def StopL (r : List UInt8) : Prop := ∀ c, r.head? = some c → numC c = false

theorem stop_cons {c : UInt8} {r : List UInt8} (h : numC c = false) : StopL (c :: r) := by
  intro d hd
  simp at hd
  subst hd
  exact h
theorem stop_nil : StopL [] := by intro c h; simp at h

theorem takeWhile_stop : ∀ (a r : List UInt8), (∀ c ∈ a, numC c = true) → StopL r → (a ++ r).takeWhile numC = a ∧ (a ++ r).dropWhile numC = r
  | [], r, _, h => by
    cases r with
    | nil => simp
    | cons c r =>
      have := h c rfl
      simp [this]
  | c :: a, r, ha, h => by
    have hc := ha c (by simp)
    have := takeWhile_stop a r (fun d hd => ha d (by simp [hd])) h
    simp [hc, this]

theorem pN_itoa (n : Int) (r : List UInt8) (h : -2147483648 ≤ n ∧ n ≤ 2147483647) (hr : StopL r) : pN (Lib.itoa n ++ r) = some (n, r) := by
  obtain ⟨h1, h2⟩ := takeWhile_stop (Lib.itoa n) r (itoa_num n) hr
  unfold pN
  rw [h1, h2, atoi_itoa n h]
  simp

theorem pQ_text : ∀ (l r : List UInt8), pQ (esc l ++ 34 :: r) = some (l, r)
  | [], r => rfl
  | c :: l, r => by
    have ih := pQ_text l r
    have e : esc (c :: l) = escB c ++ esc l := by simp [esc]
    rw [e]
    unfold escB
    by_cases h : c = 34 ∨ c = 92
    · rw [if_pos h]
      simp only [List.cons_append, List.nil_append]
      rw [pQ_esc h, ih]; rfl
    · rw [if_neg h]
      simp only [List.cons_append, List.nil_append]
      rw [pQ_go (fun e => h (.inl e)) (fun e => h (.inr e)), ih]; rfl

theorem pl_inv {j : Nat} {l : List UInt8} {o : Option (List V × List UInt8)} (h : PL j l o) :
    (∃ r, l = 41 :: r ∧ o = some ([], r)) ∨ (l.head? ≠ some 41 ∧ j = 8 ∧ o = none) ∨
    (l.head? ≠ some 41 ∧ j = 0 ∧ ((PV l none ∧ o = none) ∨ ∃ x r o', PV l (some (x, r)) ∧ PL 1 r o' ∧ o = o'.map fun y => (x :: y.1, y.2))) ∨
    (l.head? ≠ some 41 ∧ 0 < j ∧ j < 8 ∧ ¬ [44, 32] <+: l ∧ o = none) ∨
    (∃ r, l = 44 :: 32 :: r ∧ 0 < j ∧ j < 8 ∧ ((PV r none ∧ o = none) ∨ ∃ x r1 o', PV r (some (x, r1)) ∧ PL (j + 1) r1 o' ∧ o = o'.map fun y => (x :: y.1, y.2))) := by
  cases h with
  | done => exact .inl ⟨_, rfl, rfl⟩
  | wide h1 h2 => exact .inr (.inl ⟨h1, h2, rfl⟩)
  | first0 h1 h2 => exact .inr (.inr (.inl ⟨h1, rfl, .inl ⟨h2, rfl⟩⟩))
  | first1 h1 h2 h3 => exact .inr (.inr (.inl ⟨h1, rfl, .inr ⟨_, _, _, h2, h3, rfl⟩⟩))
  | next0 h1 h2 h3 h4 => exact .inr (.inr (.inr (.inl ⟨h1, h2, h3, h4, rfl⟩)))
  | next1 h1 h2 h3 => exact .inr (.inr (.inr (.inr ⟨_, rfl, h1, h2, .inl ⟨h3, rfl⟩⟩)))
  | next2 h1 h2 h3 h4 => exact .inr (.inr (.inr (.inr ⟨_, rfl, h1, h2, .inr ⟨_, _, _, h3, h4, rfl⟩⟩)))

theorem pv_inv {l : List UInt8} {o : Option (V × List UInt8)} (h : PV l o) :
    (∃ r, l = 34 :: r ∧ o = (pQ r).map fun x => (.mk 1 0 ⟨x.1.toArray⟩ none 0 [], x.2)) ∨
    (∃ r o', l = 40 :: r ∧ PL 0 r o' ∧ o = o'.map fun x => (.mk 2 0 ⟨#[]⟩ none 0 x.1, x.2)) ∨
    (∃ r, l = 35 :: r ∧ ((pN r = none ∧ o = none) ∨ (∃ n r1, pN r = some (n, r1) ∧ r1.head? ≠ some 32 ∧ o = none) ∨ ∃ n r2 o', pN r = some (n, 32 :: r2) ∧ PV r2 o' ∧ o = o'.map fun x => (.mk 3 n ⟨#[]⟩ none 0 [x.1], x.2))) ∨
    (l.head? ≠ some 34 ∧ l.head? ≠ some 40 ∧ l.head? ≠ some 35 ∧ o = (pN l).map fun x => (.mk 0 x.1 ⟨#[]⟩ none 0 [], x.2)) := by
  cases h with
  | quoted => exact .inl ⟨_, rfl, rfl⟩
  | tuple h => exact .inr (.inl ⟨_, _, rfl, h, rfl⟩)
  | tag0 h => exact .inr (.inr (.inl ⟨_, rfl, .inl ⟨h, rfl⟩⟩))
  | tag1 h h2 => exact .inr (.inr (.inl ⟨_, rfl, .inr (.inl ⟨_, _, h, h2, rfl⟩)⟩))
  | tag2 h h2 => exact .inr (.inr (.inl ⟨_, rfl, .inr (.inr ⟨_, _, _, h, h2, rfl⟩)⟩))
  | word h1 h2 h3 => exact .inr (.inr (.inr ⟨h1, h2, h3, rfl⟩))

/-- The texts of parts, each with a comma ahead. -/
def tailL : List V → List UInt8
  | [] => []
  | x :: xs => 44 :: 32 :: (x.txt ++ tailL xs)

theorem txtL_tail : ∀ (x : V) (xs : List V), V.txtL (x :: xs) = x.txt ++ tailL xs
  | x, [] => by simp [V.txtL, tailL]
  | x, y :: ys => by
    have := txtL_tail y ys
    rw [V.txtL, this, tailL]
    simp

/-- Its text is read as a value that is the same. -/
def Txt (y : V) : Prop := ∀ (r : List UInt8), StopL r → ∀ o, PV (y.txt ++ r) o → ∃ y', o = some (y', r) ∧ y'.same y = true

theorem pl_tail : ∀ (ys : List V) (j : Nat), 0 < j → j + ys.length ≤ 8 → (∀ y ∈ ys, Txt y) → ∀ (r : List UInt8) o, PL j (tailL ys ++ 41 :: r) o → ∃ ys', o = some (ys', r) ∧ V.sameL ys' ys = true
  | [], j, hj, _, _, r, o, h => by
    rcases pl_inv h with ⟨r', h1, rfl⟩ | ⟨h1, -⟩ | ⟨h1, -⟩ | ⟨h1, -⟩ | ⟨r', h1, -⟩
    · simp only [tailL, List.nil_append, List.cons.injEq, true_and] at h1
      exact ⟨[], by rw [h1], by simp [V.sameL]⟩
    · exact absurd rfl h1
    · exact absurd rfl h1
    · exact absurd rfl h1
    · simp [tailL] at h1
  | y :: ys, j, hj, hl, hy, r, o, h => by
    have hl' : j + (ys.length + 1) ≤ 8 := hl
    rcases pl_inv h with ⟨r', h1, rfl⟩ | ⟨h1, h2, -⟩ | ⟨h1, h2, -⟩ | ⟨h1, h2, h3, h4, -⟩ | ⟨r', h1, -, -, h2⟩
    · simp [tailL] at h1
    · omega
    · omega
    · exact absurd (by simp [tailL]) h4
    · simp only [tailL, List.cons_append, List.cons.injEq, true_and, List.append_assoc] at h1
      subst h1
      have hst : StopL (tailL ys ++ 41 :: r) := by
        cases ys with
        | nil => exact stop_cons rfl
        | cons z zs => exact stop_cons rfl
      rcases h2 with ⟨h2, -⟩ | ⟨x, r1, o', h2, h3, rfl⟩
      · obtain ⟨y', h, -⟩ := hy y (by simp) _ hst _ h2
        cases h
      · obtain ⟨y', h, hs⟩ := hy y (by simp) _ hst _ h2
        injection h with h
        injection h with h4 h5
        subst h4 h5
        obtain ⟨ys', rfl, hs'⟩ := pl_tail ys (j + 1) (by omega) (by omega) (fun z hz => hy z (by simp [hz])) r o' h3
        exact ⟨x :: ys', rfl, by simp [V.sameL, hs, hs']⟩

theorem pl_first (ys : List V) (hl : ys.length ≤ 8) (hh : ∀ y ∈ ys, ∃ c t, y.txt = c :: t ∧ c ≠ 41) (hy : ∀ y ∈ ys, Txt y) (r : List UInt8) (o : Option (List V × List UInt8)) (h : PL 0 (V.txtL ys ++ 41 :: r) o) : ∃ ys', o = some (ys', r) ∧ V.sameL ys' ys = true := by
  cases ys with
  | nil =>
    rcases pl_inv h with ⟨r', h1, rfl⟩ | ⟨h1, -⟩ | ⟨h1, -⟩ | ⟨h1, -⟩ | ⟨r', h1, -⟩
    · simp only [V.txtL, List.nil_append, List.cons.injEq, true_and] at h1
      exact ⟨[], by rw [h1], by simp [V.sameL]⟩
    · exact absurd rfl h1
    · exact absurd rfl h1
    · exact absurd rfl h1
    · simp [V.txtL] at h1
  | cons y ys =>
    have hl' : ys.length + 1 ≤ 8 := hl
    obtain ⟨c, t, hc, hc41⟩ := hh y (by simp)
    rw [txtL_tail, List.append_assoc] at h
    rcases pl_inv h with ⟨r', h1, rfl⟩ | ⟨h1, h2, -⟩ | ⟨h1, h2, h3⟩ | ⟨h1, h2, h3, h4, -⟩ | ⟨r', h1, h2, -⟩
    · rw [hc] at h1
      simp only [List.cons_append, List.cons.injEq] at h1
      exact absurd h1.1 hc41
    · omega
    · have hst : StopL (tailL ys ++ 41 :: r) := by
        cases ys with
        | nil => exact stop_cons rfl
        | cons z zs => exact stop_cons rfl
      rcases h3 with ⟨h2, -⟩ | ⟨x, r1, o', h2, h3, rfl⟩
      · obtain ⟨y', h, -⟩ := hy y (by simp) _ hst _ h2
        cases h
      · obtain ⟨y', h, hs⟩ := hy y (by simp) _ hst _ h2
        injection h with h
        injection h with h4 h5
        subst h4 h5
        obtain ⟨ys', rfl, hs'⟩ := pl_tail ys 1 (by omega) (by omega) (fun z hz => hy z (by simp [hz])) r o' h3
        exact ⟨x :: ys', rfl, by simp [V.sameL, hs, hs']⟩
    · omega
    · omega

theorem num_ne {c d : UInt8} (h : numC c = true) (hd : numC d = false) : c ≠ d := by
  intro e
  subst e
  rw [h] at hd
  cases hd

theorem txt_head (y : V) (d : Nat) (h : y.sh d = true) : ∃ c t, y.txt = c :: t ∧ c ≠ 41 := by
  cases y with
  | mk k n s a cap l =>
  by_cases k1 : k = 1
  · exact ⟨34, _, by simp [V.txt, k1]; rfl, by decide⟩
  by_cases k2 : k = 2
  · exact ⟨40, _, by simp [V.txt, k2]; rfl, by decide⟩
  by_cases k3 : k = 3
  · exact ⟨35, _, by simp [V.txt, k3]; rfl, by decide⟩
  · obtain ⟨c, t, hc, hn⟩ := itoa_cons n
    exact ⟨c, t, by simp [V.txt, k1, k2, k3, hc], num_ne hn rfl⟩

theorem bare_of {s : ByteArray} (h : s.toList = []) : s.data = #[] := by
  rw [ByteArray.toList_eq] at h
  exact Array.toList_eq_nil_iff.1 h

/-- The text of each value is read as a value that is the same. -/
theorem txt_all : ∀ (N : Nat) (y : V) (d : Nat), y.rank ≤ N → y.sh d = true → Txt y := by
  intro N
  induction N with
  | zero => intro y d h; have := y.rank_pos; omega
  | succ N IH =>
    intro y d hN hsh r hr o h
    cases y with
    | mk k n s a cap l =>
    cases d with
    | zero => simp [V.sh] at hsh
    | succ d =>
    simp [V.sh] at hsh
    obtain ⟨hf, hl⟩ := hsh
    have part : ∀ x ∈ l, Txt x := fun x hx => by
      obtain ⟨j, hj⟩ := List.getElem?_of_mem hx
      have := V.rank_part (v := .mk k n s a cap l) (j := j) (x := x) hj
      exact IH x d (by omega) (shLK_at hl hj)
    by_cases k1 : k = 1
    · subst k1
      simp [fitsB, textB] at hf
      obtain ⟨rfl, rfl, -⟩ := hf
      have e : (V.mk 1 0 s a cap []).txt ++ r = 34 :: (esc s.data.toList ++ 34 :: r) := by simp [V.txt]
      rw [e] at h
      rcases pv_inv h with ⟨r', h1, rfl⟩ | ⟨r', o', h1, -⟩ | ⟨r', h1, -⟩ | ⟨h1, -⟩
      · simp only [List.cons.injEq, true_and] at h1
        subst h1
        rw [pQ_text]
        exact ⟨_, rfl, by simp [V.same, V.sameL, ByteArray.toList_eq]⟩
      · simp at h1
      · simp at h1
      · exact absurd rfl h1
    by_cases k2 : k = 2
    · subst k2
      simp [fitsB, tupleB] at hf
      obtain ⟨rfl, hs, h8⟩ := hf
      have e : (V.mk 2 0 s a cap l).txt ++ r = 40 :: (V.txtL l ++ 41 :: r) := by simp [V.txt]
      rw [e] at h
      rcases pv_inv h with ⟨r', h1, rfl⟩ | ⟨r', o', h1, h2, rfl⟩ | ⟨r', h1, -⟩ | ⟨-, h1, -⟩
      · simp at h1
      · simp only [List.cons.injEq, true_and] at h1
        subst h1
        obtain ⟨ys', rfl, hs'⟩ := pl_first l h8 (fun x hx => by
          obtain ⟨j, hj⟩ := List.getElem?_of_mem hx
          exact txt_head x d (shLK_at hl hj)) part r o' h2
        exact ⟨_, rfl, by simp [V.same, hs', hs, ByteArray.toList_eq]⟩
      · simp at h1
      · exact absurd rfl h1
    by_cases k3 : k = 3
    · subst k3
      simp [fitsB, taggedB] at hf
      obtain ⟨h1, h2, hs, h4⟩ := hf
      match l, h4 with
      | [x], _ =>
      have e : (V.mk 3 n s a cap [x]).txt ++ r = 35 :: (Lib.itoa n ++ (32 :: (x.txt ++ r))) := by simp [V.txt, V.txtH]
      rw [e] at h
      have hpn := pN_itoa n (32 :: (x.txt ++ r)) (by omega) (stop_cons rfl)
      rcases pv_inv h with ⟨r', h1, rfl⟩ | ⟨r', o', h1, -⟩ | ⟨r', h1, h2⟩ | ⟨-, -, h1, -⟩
      · simp at h1
      · simp at h1
      · simp only [List.cons.injEq, true_and] at h1
        subst h1
        rw [hpn] at h2
        rcases h2 with ⟨h2, -⟩ | ⟨n', r1, h2, h3, -⟩ | ⟨n', r2, o', h2, h3, rfl⟩
        · cases h2
        · injection h2 with h2
          injection h2 with h4 h5
          subst h5
          exact absurd rfl h3
        · injection h2 with h2
          injection h2 with h4 h5
          injection h5 with h6 h7
          subst h4 h7
          obtain ⟨y', rfl, hs'⟩ := part x (by simp) r hr o' h3
          exact ⟨_, rfl, by simp [V.same, V.sameL, hs', ByteArray.toList_eq, bare_of hs]⟩
      · exact absurd rfl h1
    · by_cases k0 : k = 0
      · subst k0
        simp [fitsB, wordB] at hf
        obtain ⟨h1, h2, hs, rfl⟩ := hf
        have e : (V.mk 0 n s a cap []).txt = Lib.itoa n := by simp [V.txt]
        rw [e] at h
        obtain ⟨c, t, hc, hnc⟩ := itoa_cons n
        have hpn := pN_itoa n r ⟨h1, h2⟩ hr
        rcases pv_inv h with ⟨r', h3, -⟩ | ⟨r', o', h3, -⟩ | ⟨r', h3, -⟩ | ⟨-, -, -, rfl⟩
        · rw [hc] at h3; simp only [List.cons_append, List.cons.injEq] at h3; exact absurd h3.1 (num_ne hnc rfl)
        · rw [hc] at h3; simp only [List.cons_append, List.cons.injEq] at h3; exact absurd h3.1 (num_ne hnc rfl)
        · rw [hc] at h3; simp only [List.cons_append, List.cons.injEq] at h3; exact absurd h3.1 (num_ne hnc rfl)
        · rw [hpn]
          exact ⟨_, rfl, by simp [V.same, V.sameL, ByteArray.toList_eq, bare_of hs]⟩
      · simp [fitsB, k0, k1, k2, k3] at hf

end Go.Proofs.YtkofebafmjjljaaGreatDoor

/-
  Text OF ANY VALID VALUE, THE PROGRAM's; TypeText OF ANY VALID TYPE.
-/
namespace Go.Proofs.YtkofebafmjjljaaGreatDoor
open Go.RowKit

theorem fits_num {k n : Int} {s : ByteArray} {m : Nat} (h : fitsB k n s m = true) : -2147483648 ≤ n ∧ n ≤ 2147483647 := by
  by_cases k0 : k = 0
  · subst k0; simp [fitsB, wordB] at h; omega
  by_cases k1 : k = 1
  · subst k1; simp [fitsB, textB] at h; omega
  by_cases k2 : k = 2
  · subst k2; simp [fitsB, tupleB] at h; omega
  by_cases k3 : k = 3
  · subst k3; simp [fitsB, taggedB] at h; omega
  · simp [fitsB, k0, k1, k2, k3] at h

mutual
theorem V.sh_ok : ∀ (x : V) (d : Nat), x.sh d = true → x.ok
  | .mk k n s a c l, d, h => by
    cases d with
    | zero => simp [V.sh] at h
    | succ d =>
      simp [V.sh] at h
      have hn := fits_num h.1
      refine ⟨?_, by unfold I64; omega, ?_, V.shL_ok l d h.2⟩
      · by_cases k0 : k = 0
        · exact .inl k0
        by_cases k1 : k = 1
        · exact .inr (.inl k1)
        by_cases k2 : k = 2
        · exact .inr (.inr (.inl k2))
        by_cases k3 : k = 3
        · exact .inr (.inr (.inr k3))
        · have := h.1; simp [fitsB, k0, k1, k2, k3] at this
      · rintro rfl rfl
        have := h.1
        simp [fitsB, taggedB] at this
theorem V.shL_ok : ∀ (l : List V) (d : Nat), V.shL l d = true → V.okL l
  | [], _, _ => trivial
  | x :: xs, d, h => by
    simp [V.shL] at h
    exact ⟨V.sh_ok x d h.1, V.shL_ok xs d h.2⟩
end

theorem V.txt_ne (v : V) : v.txt ≠ [] := by
  cases v with
  | mk k n s a c l =>
  obtain ⟨b, t, h, -⟩ := itoa_cons n
  simp only [V.txt]
  split
  · simp
  · split
    · simp
    · split
      · simp
      · rw [h]; simp

set_option maxHeartbeats 1000000 in
theorem writtenTextV (k n : Int) (s : ByteArray) (a : Option Addr) (cap : Nat) (l : List V) (w : World) (hin : (V.mk k n s a cap l).In w w.heap.size) (hv : (V.mk k n s a cap l).valid = true) (ht : Tb w w.heap.size) :
    Calls Tryz.prog 68 #[.agg #[.int .i64 k, .int .i64 n, .string s, .slice a l.length cap], .func (.methodOf 93 "deltaworks/value.text") #[] #[]] w fun e w' =>
      e = .returned (.tuple #[.string ⟨(V.mk k n s a cap l).txt.toArray⟩, .int .i64 0]) ∧ Kp w w' := by
  have hc : ¬ (V.mk k n s a cap l).cnt = 0 := fun h => by
    have := (cnt_valid (V.mk k n s a cap l)).1 h
    rw [hv] at this; cases this
  have hsh : (V.mk k n s a cap l).sh 6 = true := by simp [V.valid] at hv; exact hv.1
  have hrk : (V.mk k n s a cap l).rank ≤ 60 := by simp [V.valid] at hv; exact hv.2
  have hlen := V.txt_len _ 6 hsh
  have hb6 : (V.mk k n s a cap l).txt.length ≤ 1000000000000 := by omega
  have K : ∀ (w1 : World) (S b : Nat), Kp w w1 → w.heap.size ≤ S → PtrAt w1 b 0 k n s (.slice a l.length cap) → b < S → Sink w1 S [] → (V.mk k n s a cap l).In w1 S ∧ Tb w1 S := fun w1 S b hk hS hp hb hs => ⟨hin.keep hS hk, ht.keep hk hS⟩
  have hsh2 := hsh
  simp [V.sh] at hsh2
  obtain ⟨hf, hpl⟩ := hsh2
  have hn := fits_num hf
  have part : ∀ (w1 : World) (S b0 off0 : Nat), Tb w1 S → (∀ (j : Nat) (x : V), l[j]? = some x → PtrAt w1 b0 (off0 + j * 4) x.k x.n x.s (.slice x.a x.l.length x.cap) ∧ x.In w1 S) → b0 < S → Sink w1 S [] →
      ∀ (j : Nat) (x : V), l[j]? = some x → ∀ (w2 : World) (xs1 : List UInt8), Sk S w1 w2 → Sink w2 S xs1 → xs1.length + x.txt.length ≤ 1000000000000 →
        Calls Tryz.prog 183 #[.pointer (some ⟨b0, off0 + j * 4, none⟩), takeF S] w2 fun e w' => e = .returned (.tuple #[]) ∧ Sink w' S (xs1 ++ x.txt) ∧ Sk S w2 w' := by
    intro w1 S b0 off0 ht1 hpt hb0 hs j x hj w2 xs1 hk2 hs2 hx1
    have hbl := hk2.below hs
    exact textV _ x w2 S b0 (off0 + j * 4) xs1 (Nat.le_refl _) ((hpt j x hj).2.keep (Nat.le_refl _) hbl) ((hpt j x hj).1.keep hb0 hbl) hb0 (ht1.keep hbl (Nat.le_refl _)) (V.sh_ok _ _ (shLK_at hpl hj)) hs2 hx1
  by_cases k0 : k = 0
  · subst k0
    have e : (V.mk 0 n s a cap l).txt = Lib.itoa n := by simp [V.txt]
    have hne : Lib.itoa n ≠ [] := by obtain ⟨b, t, h, -⟩ := itoa_cons n; rw [h]; simp
    rw [e] at hb6 ⊢
    exact writtenText_word n s a cap l w _ hin hc hne (fun w1 S b hk hS hp hb hs => by simpa using wordText_any w1 S b 0 [] 0 n s _ hs hp (by unfold I64; omega) (K w1 S b hk hS hp hb hs).2 (by simpa using hb6))
  by_cases k1 : k = 1
  · subst k1
    have e : (V.mk 1 n s a cap l).txt = 34 :: esc s.data.toList ++ [34] := by simp [V.txt]
    rw [e] at hb6 ⊢
    exact writtenText_let n s a cap l w _ hin hc (by simp) (fun w1 S b hk hS hp hb hs => by simpa using lettersText_any w1 S b 0 [] 1 n s _ hs hp hb (by simp at hb6 ⊢; omega))
  by_cases k2 : k = 2
  · subst k2
    have e : (V.mk 2 n s a cap l).txt = 40 :: joinF V.txt [44, 32] l ++ [41] := by simp [V.txt, V.txtL_join]
    rw [e] at hb6 ⊢
    refine writtenText_tup n s a cap l w _ hin hc (by simp) (fun w1 S b hk hS hp hb hs => ?_)
    obtain ⟨hin1, ht1⟩ := K w1 S b hk hS hp hb hs
    have hll := V.lenLe hin1
    by_cases hl : l = []
    · simpa using tupleText_any V.txt w1 S b 0 0 0 [] n s a cap l hs hp (fun h => absurd hl h) hll (fun j x hj => by subst hl; simp at hj) (by simp at hb6 ⊢; omega)
    · obtain ⟨b0, off0, ha, hb0, hpt⟩ := V.ptrPart hin1 hl
      simpa using tupleText_any V.txt w1 S b 0 b0 off0 [] n s a cap l hs hp (fun _ => ha) hll (part w1 S b0 off0 ht1 hpt hb0 hs) (by simp at hb6 ⊢; omega)
  by_cases k3 : k = 3
  · subst k3
    simp [fitsB, taggedB] at hf
    obtain ⟨h1, h2, -, h4⟩ := hf
    match l, h4 with
    | [x], _ =>
    have e : (V.mk 3 n s a cap [x]).txt = 35 :: Lib.itoa n ++ 32 :: x.txt := by simp [V.txt, V.txtH]
    rw [e] at hb6 ⊢
    refine writtenText_tagg n s a cap [x] w _ hin hc (by simp) (fun w1 S b hk hS hp hb hs => ?_)
    obtain ⟨hin1, ht1⟩ := K w1 S b hk hS hp hb hs
    obtain ⟨b0, off0, rfl, hb0, hpt⟩ := V.ptrPart hin1 (by simp)
    simpa using taggedText_any w1 S b 0 b0 off0 [] n s _ cap x.txt hs hb hp (by simp) (V.lenLe hin1) (by unfold I64; omega) ht1 (by simpa using part w1 S b0 off0 ht1 hpt hb0 hs 0 x (by simp)) (by simp at hb6 ⊢; omega)
  · simp [fitsB, k0, k1, k2, k3] at hf

set_option maxHeartbeats 1000000 in
/-- Text of a valid value. -/
theorem textOk (x : V) (w : World) (hin : x.In w w.heap.size) (hv : x.valid = true) (ht : Tb w w.heap.size) :
    Calls Tryz.prog 27 #[x.val] w fun e w' => e = .returned (.tuple #[.string ⟨x.txt.toArray⟩, .int .i64 0]) ∧ Kp w w' := by
  cases x with
  | mk k n s a cap l =>
  have C : ∀ w1, Kp w w1 → _ := fun w1 h => writtenTextV k n s a cap l w1 (hin.keep h.size h) hv (ht.keep h h.size)
  rw [V.val_mk]
  generalize (V.mk k n s a cap l).txt = E at C ⊢
  have CC := Lib.hid C
  clear C hin hv ht
  go_enter Tryz.func27, Tryz.ntmps27
  go_wp2_with fail
  refine (CC.out _ (ka _ _)).mono ?_
  rintro e w1 ⟨rfl, hk⟩
  have HK := Lib.hid (kk (ka _ _) hk)
  clear hk
  go_wp2_with fail
  go_ret2
  exact ⟨rfl, HK.out⟩

mutual
theorem T.txt_len : ∀ (v : T) (d : Nat), v.sh d = true → v.txt.length ≤ 30 * v.rank
  | .mk k a c l, d, h => by
    cases d with
    | zero => simp [T.sh] at h
    | succ d =>
    simp [T.sh] at h
    obtain ⟨hf, hl⟩ := h
    have i1 := T.txtL_len [44, 32] (by simp) l d hl
    have i2 := T.txtL_len [32, 43, 32] (by simp) l d hl
    by_cases k0 : k = 0
    · simp [T.txt, T.rank, k0]; omega
    by_cases k1 : k = 1
    · simp [T.txt, T.rank, k1]; omega
    by_cases k2 : k = 2
    · subst k2
      have h8 : l.length ≤ 8 := by simpa [fitsT] using hf
      simp [T.txt, T.rank]; omega
    by_cases k3 : k = 3
    · subst k3
      have h8 : 0 < l.length ∧ l.length ≤ 8 := by simpa [fitsT] using hf
      simp [T.txt, T.rank]; omega
    · simp [fitsT, k0, k1, k2, k3] at hf
theorem T.txtL_len (bt : List UInt8) (hb : bt.length ≤ 3) : ∀ (l : List T) (d : Nat), T.shL l d = true → (T.txtL bt l).length ≤ 30 * T.rank.ranks l + 3 * l.length
  | [], _, _ => by simp [T.txtL]
  | [x], d, h => by
    simp [T.shL] at h
    have h1 := T.txt_len x d h
    simp [T.txtL, T.rank.ranks]; omega
  | x :: y :: ys, d, h => by
    simp only [T.shL, Bool.and_eq_true] at h
    have h1 := T.txt_len x d h.1
    have h2 := T.txtL_len bt hb (y :: ys) d (by simp only [T.shL, Bool.and_eq_true]; exact h.2)
    rw [T.txtL, T.rank.ranks]
    simp only [List.length_append, List.length_cons] at h2 ⊢
    omega
end

/-- TypeText of a valid type. -/
theorem typeTextOk (t : T) (w : World) (hin : t.In w w.heap.size) (hv : t.valid = true) (hne : t.txt ≠ []) :
    Calls Tryz.prog 29 #[t.val] w fun e w' => e = .returned (.tuple #[.string ⟨t.txt.toArray⟩, .int .i64 0]) ∧ Kp w w' := by
  cases t with
  | mk k a c l =>
  have hsh : (T.mk k a c l).sh 6 = true := by simp [T.valid] at hv; exact hv.1
  have hrk : (T.mk k a c l).rank ≤ 40 := by simp [T.valid] at hv; exact hv.2
  have hlen := T.txt_len _ 6 hsh
  have hc : ¬ (T.mk k a c l).cnt = 0 := fun h => by
    have := badT_valid (.mk k a c l)
    rw [hv] at this
    simp [bad, h] at this
  exact typeText k a c l w hin hc hne (by omega)

end Go.Proofs.YtkofebafmjjljaaGreatDoor

/-
  ValueSorts: the statement's function, at any two lists of numbers and any bytes.
-/
namespace Go.Proofs.YtkofebafmjjljaaGreatDoor
open Go.RowKit

theorem tail_conv {w w1 : World} {B : Nat} {a : Option Addr} {cap : Nat} {l : List Int} (h : Bys w B a cap l) (k : Below B w w1) (n : Nat) (hn : n ≤ l.length) (c : Nat) :
    (convert 57 9 (.slice a n c)).run Tryz.prog w1 = .ok (.string (strOfNums (l.take n))) w1 := by
  obtain ⟨-, -, h⟩ := h
  by_cases hz : n = 0
  · subst hz
    cases a with
    | none => exact run_convert_bytes_nil w1 _ _ Tryz.underlying57 Tryz.underlying5 _ _ _ Tryz.underlying9
    | some a =>
      rw [run_convert_bytes_string w1 _ _ _ _ _ _ Tryz.underlying57 Tryz.underlying5 Tryz.underlying9]
      exact run_bytesToString w1 a 0 c [] (run_loadCells_list (P := Tryz.prog) w1 a [] (fun j v hj => by simp at hj))
  · rcases h with rfl | ⟨b, off, rfl, hb, hc⟩
    · simp at hn; omega
    · refine run_convert_bytes_arg w1 _ _ Tryz.underlying57 Tryz.underlying5 b off n c (l.take n) (by simp; omega) (fun i hi => ?_) _ Tryz.underlying9
      have hil : i < l.length := by omega
      have := (k.cell (p := ⟨b, off + i, none⟩) hb).trans (hc i l[i] (by simp))
      rw [this, List.getD_eq_getElem?_getD, List.getElem?_take_of_lt hi]
      simp [hil]

/-- What OfKey says of a key and more: the same as what is behind it says. -/
theorem ofKey_tail (w : World) (y : V) (hy : y.sh 3 = true) (hr : y.rank ≤ 13) (r : List Int) (hl : r.length ≤ 30) :
    Calls Tryz.prog 38 #[.string (⟨y.keyB.toArray⟩ ++ strOfNums r)] w fun e w' => ∃ k n s a l c, e = .returned (.tuple #[.agg #[.int .i64 k, .int .i64 n, .string s, .slice a l c], .int .i64 (if r.length = 0 then 0 else 8)]) ∧ Kp w w' := by
  have hkl := V.keyB_len y 3 hy
  have hd : ((⟨y.keyB.toArray⟩ : ByteArray) ++ strOfNums r).data.toList = y.keyB ++ r.map fun n => UInt8.ofNat n.toNat := by
    simp [strOfNums]
  have hs : ((⟨y.keyB.toArray⟩ : ByteArray) ++ strOfNums r).size = y.keyB.length + r.length := by
    have := congrArg List.length hd
    rw [Array.length_toList, List.length_append, List.length_map] at this
    exact this
  by_cases h0 : r.length = 0
  · have : r = [] := List.length_eq_zero_iff.1 h0
    subst this
    have he : ((⟨y.keyB.toArray⟩ : ByteArray) ++ strOfNums []) = ⟨y.keyB.toArray⟩ := by
      apply ByteArray.ext
      apply Array.ext'
      simpa using hd
    rw [he]
    have hval : y.valid = true := by
      have := V.sh_up _ _ (V.sh_up _ _ (V.sh_up _ _ hy))
      simp [V.valid, this]; omega
    refine (ofKeyP w y 3 hy (by omega) (fun x w1 hx hs => ?_)).mono ?_
    · cases x with
      | mk k n s a c l =>
      have hv : (V.mk k n s a c l).valid = true := by rw [same_valid hs]; exact hval
      have := checkV k n s a c l w1 hx
      rw [show bad (V.mk k n s a c l).cnt = 0 from by
        have := (cnt_valid (.mk k n s a c l)); by_cases hc : (V.mk k n s a c l).cnt = 0
        · rw [this.1 hc] at hv; cases hv
        · simp [bad, hc]] at this
      exact this
    · rintro e w' ⟨x, rfl, -, -, -, hk⟩
      cases x with
      | mk k n s a c l => exact ⟨k, n, s, a, l.length, c, by rw [V.val_mk, h0]; rfl, hk⟩
  · refine (ofKey_more w y 3 _ _ hd (by intro h; simp at h; exact h0 (by simp [h])) hy (by omega)).mono ?_
    rintro e w' ⟨rfl, hk⟩
    exact ⟨0, 0, ⟨#[]⟩, none, 0, 0, by simp [h0], hk⟩

/-- Key of a valid value. -/
theorem keyOk (x : V) (w : World) (hin : x.In w w.heap.size) (hv : x.valid = true) :
    Calls Tryz.prog 36 #[x.val] w fun e w' => e = .returned (.tuple #[.string ⟨x.keyB.toArray⟩, .int .i64 0]) ∧ Kp w w' := by
  cases x with
  | mk k n s a c l =>
  have := keyP k n s a c l w hin
  rwa [keyOut, if_pos hv] at this

end Go.Proofs.YtkofebafmjjljaaGreatDoor

/-
  Is, THE PROGRAM's, AT ANY VALUE AND TYPE.
-/
namespace Go.Proofs.YtkofebafmjjljaaGreatDoor
open Go.RowKit

set_option maxRecDepth 100000 in
set_option maxHeartbeats 4000000 in
theorem isP_no (k n : Int) (s : ByteArray) (a : Option Addr) (cap : Nat) (ls : List V) (tk : Int) (ta : Option Addr) (tcap : Nat) (tl : List T) (w : World)
    (hv : (V.mk k n s a cap ls).In w w.heap.size) (h : (V.mk k n s a cap ls).valid = false) :
    Calls Tryz.prog 21 #[.agg #[.int .i64 k, .int .i64 n, .string s, .slice a ls.length cap], .agg #[.int .i64 tk, .slice ta tl.length tcap]] w fun e w' =>
      e = .returned (.bool false) ∧ Kp w w' := by
  have C := fun (w1 : World) (h : Kp w w1) => checkV k n s a cap ls w1 (hv.keep h.size h)
  rw [bad_arg, h] at C
  have HC := Lib.hid C
  clear C hv h
  refine (callsIn_wide (n := 0)).1 ?_
  refine callsIn_of_wp_marks Tryz.func21 rfl trivial ?_ rfl
  simp only [Tryz.ntmps21, List.size_toArray, List.length_cons, List.length_nil, Nat.reduceAdd, Nat.reduceSub, Array.replicate_succ, Array.replicate_zero, List.push_toArray, List.append_toArray, List.nil_append, List.cons_append]
  refine wpIn_wide.2 ?_
  go_wp2_with fail
  go_step3
  go_wp2_with fail
  refine (HC.out _ (kk (ka _ _) (ka _ _))).mono ?_
  rintro e w1 ⟨rfl, hk1⟩
  have HK1 := Lib.hid (kk (kk (ka _ _) (ka _ _)) hk1)
  clear hk1
  go_wp2_with fail
  rw [Exit.noGoto_ret]
  exact ⟨_, results_tmp rfl _ _ _, rfl, HK1.out⟩

set_option maxRecDepth 100000 in
set_option maxHeartbeats 4000000 in
theorem isP_type (k n : Int) (s : ByteArray) (a : Option Addr) (cap : Nat) (ls : List V) (tk : Int) (ta : Option Addr) (tcap : Nat) (tl : List T) (w : World)
    (hv : (V.mk k n s a cap ls).In w w.heap.size) (ht : (T.mk tk ta tcap tl).In w w.heap.size) (h : (V.mk k n s a cap ls).valid = true) (h' : (T.mk tk ta tcap tl).valid = false) :
    Calls Tryz.prog 21 #[.agg #[.int .i64 k, .int .i64 n, .string s, .slice a ls.length cap], .agg #[.int .i64 tk, .slice ta tl.length tcap]] w fun e w' =>
      e = .returned (.bool false) ∧ Kp w w' := by
  have C := fun (w1 : World) (h : Kp w w1) => checkV k n s a cap ls w1 (hv.keep h.size h)
  have D := fun (w1 : World) (h : Kp w w1) => typeV tk ta tcap tl w1 (ht.keep h.size h)
  rw [bad_arg, h] at C
  rw [badT_arg, h'] at D
  have HC := Lib.hid C
  have HD := Lib.hid D
  clear C D hv ht h h'
  refine (callsIn_wide (n := 0)).1 ?_
  refine callsIn_of_wp_marks Tryz.func21 rfl trivial ?_ rfl
  simp only [Tryz.ntmps21, List.size_toArray, List.length_cons, List.length_nil, Nat.reduceAdd, Nat.reduceSub, Array.replicate_succ, Array.replicate_zero, List.push_toArray, List.append_toArray, List.nil_append, List.cons_append]
  refine wpIn_wide.2 ?_
  go_wp2_with fail
  go_step3
  go_wp2_with fail
  refine (HC.out _ (kk (ka _ _) (ka _ _))).mono ?_
  rintro e w1 ⟨rfl, hk1⟩
  obtain ⟨b0, b1, b2, b3, d0, d1⟩ := twoBoxVT hk1
  have HK1 := Lib.hid (kk (kk (ka _ _) (ka _ _)) hk1)
  clear hk1
  go_wp2_with fail
  refine (HD.out _ HK1.out).mono ?_
  rintro e w2 ⟨rfl, hk2⟩
  have HK2 := Lib.hid (kk HK1.out hk2)
  clear hk2
  go_wp2_with fail
  rw [Exit.noGoto_ret]
  exact ⟨_, results_tmp rfl _ _ _, rfl, HK2.out⟩

theorem isP (k n : Int) (s : ByteArray) (a : Option Addr) (cap : Nat) (l : List V) (tk : Int) (ta : Option Addr) (tcap : Nat) (tl : List T) (w : World) (hin : (V.mk k n s a cap l).In w w.heap.size) (hin' : (T.mk tk ta tcap tl).In w w.heap.size) :
    Calls Tryz.prog 21 #[.agg #[.int .i64 k, .int .i64 n, .string s, .slice a l.length cap], .agg #[.int .i64 tk, .slice ta tl.length tcap]] w fun e w' => e = .returned (.bool (isV (V.mk k n s a cap l) (.mk tk ta tcap tl))) ∧ Kp w w' := by
  cases hv : (V.mk k n s a cap l).valid with
  | false => simpa [isV, hv] using isP_no k n s a cap l tk ta tcap tl w hin hv
  | true =>
    cases ht : (T.mk tk ta tcap tl).valid with
    | false => simpa [isV, hv, ht] using isP_type k n s a cap l tk ta tcap tl w hin hin' hv ht
    | true => simpa [isV, hv, ht] using is_valid k n s a cap l tk ta tcap tl w hin hin' (by rw [bad_valid, hv]; rfl) (by rw [badT_valid, ht]; rfl)

end Go.Proofs.YtkofebafmjjljaaGreatDoor

/-
  ValueBack: THERE AND BACK, call by call.
-/
namespace Go.Proofs.YtkofebafmjjljaaGreatDoor
open Go.RowKit

theorem Gets.to {w w' : World} {y z : V} {e : Ending} (h : Gets w y e w') (hyz : y.same z = true) : Gets w z e w' := by
  obtain ⟨x, h1, h2, h3, h4, h5⟩ := h
  exact ⟨x, h1, h2, h3, V.same_trans _ _ _ h4 hyz, h5⟩
theorem GetsT.to {w w' : World} {y z : T} {e : Ending} (h : GetsT w y e w') (hyz : y.same z = true) : GetsT w z e w' := by
  obtain ⟨x, h1, h2, h3, h4, h5⟩ := h
  exact ⟨x, h1, h2, h3, T.same_trans _ _ _ h4 hyz, h5⟩

theorem V.valid_sh {x : V} (h : x.valid = true) : x.sh 6 = true ∧ x.rank ≤ 60 := by simpa [V.valid] using h
theorem T.valid_sh {x : T} (h : x.valid = true) : x.sh 6 = true ∧ x.rank ≤ 40 := by simpa [T.valid] using h

theorem blank_list (l : List UInt8) : ((⟨l.toArray⟩ : ByteArray) ++ (⟨#[32]⟩ : ByteArray)).data.toList = l ++ [32] := by simp
theorem blank_size (l : List UInt8) : ((⟨l.toArray⟩ : ByteArray) ++ (⟨#[32]⟩ : ByteArray)).size = l.length + 1 := by
  have := congrArg List.length (blank_list l)
  rw [Array.length_toList, List.length_append] at this
  exact this

theorem typeParse_txt (t : T) (hv : t.valid = true) (hr : t.rank ≤ 13) (w : World) : Calls Tryz.prog 33 #[.string ⟨t.txt.toArray⟩] w (GetsT w t) := by
  obtain ⟨hs, -⟩ := T.valid_sh hv
  have hl := T.txt_len t 6 hs
  refine (typeParse_any w ⟨t.txt.toArray⟩ (by simp [ByteArray.size]; omega)).mono ?_
  rintro e w' (⟨y, ⟨h1, -⟩, h3⟩ | ⟨⟨o, h1, h2⟩, -⟩)
  · obtain ⟨y', h4, h5⟩ := txtT_all t.rank t 6 (Nat.le_refl _) hs [] _ (by simpa using h1)
    injection h4 with h4
    injection h4 with h4 _
    subst h4
    exact h3.to h5
  · obtain ⟨y', rfl, h5⟩ := txtT_all t.rank t 6 (Nat.le_refl _) hs [] o (by simpa using h1)
    have := h2 y' rfl
    rw [T.same_valid h5, hv] at this
    cases this

theorem typeParse_blank (t : T) (hv : t.valid = true) (hr : t.rank ≤ 13) (w : World) : Calls Tryz.prog 33 #[.string ((⟨t.txt.toArray⟩ : ByteArray) ++ (⟨#[32]⟩ : ByteArray))] w fun e w' => e = .returned (.tuple #[.agg #[.int .i64 0, .slice none 0 0], .int .i64 8]) ∧ Kp w w' := by
  obtain ⟨hs, -⟩ := T.valid_sh hv
  have hl := T.txt_len t 6 hs
  refine (typeParse_any w _ (by rw [blank_size]; omega)).mono ?_
  rintro e w' (⟨y, ⟨h1, -⟩, h3⟩ | ⟨-, h2, h3⟩)
  · obtain ⟨y', h4, h5⟩ := txtT_all t.rank t 6 (Nat.le_refl _) hs [32] _ (by rw [blank_list] at h1; exact h1)
    injection h4 with h4
    injection h4 with h4 h6
    cases h6
  · exact ⟨h2, h3⟩

theorem parse_txt (x : V) (hv : x.valid = true) (w : World) (ht : Tb w w.heap.size) (he : Eb w w.heap.size) : Calls Tryz.prog 31 #[.string ⟨x.txt.toArray⟩] w (Gets w x) := by
  obtain ⟨hs, hr⟩ := V.valid_sh hv
  have hl := V.txt_len x 6 hs
  refine (parse_any w ⟨x.txt.toArray⟩ (by simp [ByteArray.size]; omega) ht he).mono ?_
  rintro e w' (⟨y, ⟨h1, -⟩, h3⟩ | ⟨⟨o, h1, h2⟩, -⟩)
  · obtain ⟨y', h4, h5⟩ := txt_all x.rank x 6 (Nat.le_refl _) hs [] stop_nil _ (by simpa using h1)
    injection h4 with h4
    injection h4 with h4 _
    subst h4
    exact h3.to h5
  · obtain ⟨y', rfl, h5⟩ := txt_all x.rank x 6 (Nat.le_refl _) hs [] stop_nil o (by simpa using h1)
    have := h2 y' rfl
    rw [same_valid h5, hv] at this
    cases this

theorem parse_blank (x : V) (hv : x.valid = true) (w : World) (ht : Tb w w.heap.size) (he : Eb w w.heap.size) : Calls Tryz.prog 31 #[.string ((⟨x.txt.toArray⟩ : ByteArray) ++ (⟨#[32]⟩ : ByteArray))] w fun e w' => e = .returned (.tuple #[.agg zero4, .int .i64 8]) ∧ Kp w w' := by
  obtain ⟨hs, hr⟩ := V.valid_sh hv
  have hl := V.txt_len x 6 hs
  refine (parse_any w _ (by rw [blank_size]; omega) ht he).mono ?_
  rintro e w' (⟨y, ⟨h1, -⟩, h3⟩ | ⟨-, h2, h3⟩)
  · obtain ⟨y', h4, h5⟩ := txt_all x.rank x 6 (Nat.le_refl _) hs [32] (stop_cons rfl) _ (by rw [blank_list] at h1; exact h1)
    injection h4 with h4
    injection h4 with h4 h6
    cases h6
  · exact ⟨h2, h3⟩

theorem ofKey_back (x : V) (hv : x.valid = true) (hr : x.rank ≤ 13) (w : World) : Calls Tryz.prog 38 #[.string ⟨x.keyB.toArray⟩] w (Gets w x) := by
  obtain ⟨hs, -⟩ := V.valid_sh hv
  have hl := V.keyB_len x 6 hs
  refine ofKeyP w x 6 hs (by omega) fun y w1 hy hsm => ?_
  have := checkOk y w1 hy
  rwa [same_valid hsm, hv, if_pos rfl] at this

/-- Is, of a value of a type. -/
theorem isOk (x : V) (t : T) (w : World) (hx : x.In w w.heap.size) (ht : t.In w w.heap.size) (hv : x.valid = true) (htv : t.valid = true) (hi : x.is t = true) :
    Calls Tryz.prog 21 #[x.val, t.val] w fun e w' => e = .returned (.bool true) ∧ Kp w w' := by
  cases x with
  | mk k n s a cap l =>
  cases t with
  | mk tk ta tc tl =>
  have := isP k n s a cap l tk ta tc tl w hx ht
  rwa [show isV (V.mk k n s a cap l) (.mk tk ta tc tl) = true from by simp [isV, hv, htv, hi]] at this

/-- The parts of a value of a tuple's type. -/
theorem is_parts {k n : Int} {s : ByteArray} {a : Option Addr} {cap : Nat} {l : List V} {ta : Option Addr} {tc : Nat} {tl : List T} (h : (V.mk k n s a cap l).is (.mk 2 ta tc tl) = true) :
    l.length = tl.length ∧ ∀ (j : Nat) (x : V) (u : T), l[j]? = some x → tl[j]? = some u → x.is u = true := by
  simp only [V.is, Bool.and_eq_true, T.k, T.l] at h
  obtain ⟨h1, h2⟩ := h
  have hk : k = 2 ∧ l.length = tl.length := by
    simp [okB, kindI] at h1
    omega
  obtain ⟨rfl, hl⟩ := hk
  refine ⟨hl, ?_⟩
  have key : ∀ (m : List V) (i : Nat), V.isL 2 n (.mk 2 ta tc tl) m i = true → ∀ (j : Nat) (x : V) (u : T), m[j]? = some x → tl[i + j]? = some u → x.is u = true := by
    intro m
    induction m with
    | nil => intro i _ j x u hx; simp at hx
    | cons y ys ih =>
      intro i hi j x u hx hu
      simp only [V.isL, Bool.and_eq_true, T.l, show ¬ (2 : Int) = 3 by decide, if_false] at hi
      cases j with
      | zero =>
        simp at hx
        subst hx
        rw [Nat.add_zero] at hu
        rw [hu] at hi
        exact hi.1
      | succ j => exact ih (i + 1) hi.2 j x u (by simpa using hx) (by rw [← hu]; congr 1; omega)
  intro j x u hx hu
  exact key l 0 h2 j x u hx (by simpa using hu)

theorem part_valid {k n : Int} {s : ByteArray} {a : Option Addr} {cap : Nat} {l : List V} (h : (V.mk k n s a cap l).valid = true) {j : Nat} {x : V} (hx : l[j]? = some x) : x.valid = true := by
  obtain ⟨h1, h2⟩ := V.valid_sh h
  simp [V.sh] at h1
  have h3 := shLK_at h1.2 hx
  have h4 := V.rank_part (v := .mk k n s a cap l) (j := j) (x := x) hx
  simp [V.valid, V.sh_up x 5 h3]; omega

mutual
theorem T.sh_up2 : ∀ (x : T) (d : Nat), x.sh d = true → x.sh (d + 1) = true
  | .mk k a c l, d, h => by
    cases d with
    | zero => simp [T.sh] at h
    | succ d =>
      simp [T.sh] at h ⊢
      exact ⟨h.1, T.shL_up2 l d h.2⟩
theorem T.shL_up2 : ∀ (l : List T) (d : Nat), T.shL l d = true → T.shL l (d + 1) = true
  | [], _, _ => by simp [T.shL]
  | x :: xs, d, h => by
    simp [T.shL] at h ⊢
    exact ⟨T.sh_up2 x d h.1, T.shL_up2 xs d h.2⟩
end

theorem partT_valid {k : Int} {a : Option Addr} {cap : Nat} {l : List T} (h : (T.mk k a cap l).valid = true) {j : Nat} {x : T} (hx : l[j]? = some x) : x.valid = true := by
  obtain ⟨h1, h2⟩ := T.valid_sh h
  simp [T.sh] at h1
  have h3 := shLT_at h1.2 hx
  have h4 := T.rank_part (v := .mk k a cap l) (j := j) (x := x) hx
  simp [T.valid, T.sh_up2 x 5 h3]; omega

theorem T.valid_made {t : T} (h : t.sh 3 = true) (hr : t.rank ≤ 13) : t.valid = true := by
  have := T.sh_up2 _ _ (T.sh_up2 _ _ (T.sh_up2 _ _ h))
  simp [T.valid, this]; omega

theorem txtT_ne {t : T} (h : t.valid = true) : t.txt ≠ [] := by
  obtain ⟨c, r, hc, -⟩ := txtT_head t 6 (T.valid_sh h).1
  rw [hc]; simp

end Go.Proofs.YtkofebafmjjljaaGreatDoor
