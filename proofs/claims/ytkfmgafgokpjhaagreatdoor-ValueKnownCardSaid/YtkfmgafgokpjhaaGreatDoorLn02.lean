/-
  Proved: the statement ValueKnown (what the chapter says of single values, types, texts and keys: valid ones are taken, each other one is refused with its error, and the chapter's examples hold), as its tied card says it, with no condition beyond the card's own.
  Part 2 of 6.
-/
import Derived.Test.YtkfmgafgokpjhaaGreatDoorLn01
import Derived.Test.YtkfmgafgokpjhaaGreatDoorBc06
import Derived.Test.YtkfmgafgokpjhaaGreatDoorBc08
import Derived.Test.YtkfmgafgokpjhaaGreatDoorBc11
import Derived.Test.YtkfmgafgokpjhaaGreatDoorBc09
import Derived.Test.YtkfmgafgokpjhaaGreatDoorBc04
/-
  PLAIN MATHEMATICS: WHAT THE READER READS OF ANY BYTES AS A TYPE; the text of a type is read back.
-/
namespace Go.Proofs.YtkfmgafgokpjhaaGreatDoor
open Go.RowKit

mutual
/-- What the reader makes of the bytes that come next: a type and what is behind it, or nothing. -/
inductive PT : List UInt8 → Option (T × List UInt8) → Prop
  | tuple {r : List UInt8} {o : Option (List T × List UInt8)} : PTL [44, 32] 41 0 r o → PT (40 :: r) (o.map fun x => (.mk 2 none 0 x.1, x.2))
  | sum {r : List UInt8} {o : Option (List T × List UInt8)} : PTL [32, 43, 32] 93 0 r o → PT (91 :: r) (o.map fun x => (.mk 3 none 0 x.1, x.2))
  | text {r : List UInt8} : PT ([116, 101, 120, 116] ++ r) (some (.mk 1 none 0 [], r))
  | int {r : List UInt8} : PT ([105, 110, 116] ++ r) (some (.mk 0 none 0 [], r))
  | bad {l : List UInt8} : l.head? ≠ some 40 → l.head? ≠ some 91 → ¬ [116, 101, 120, 116] <+: l → ¬ [105, 110, 116] <+: l → PT l none
/-- The parts from the j-th on, bt between each two, up to en. -/
inductive PTL : List UInt8 → UInt8 → Nat → List UInt8 → Option (List T × List UInt8) → Prop
  | done {bt : List UInt8} {en : UInt8} {j : Nat} {r : List UInt8} : PTL bt en j (en :: r) (some ([], r))
  | wide {bt : List UInt8} {en : UInt8} {j : Nat} {l : List UInt8} : l.head? ≠ some en → j = 8 → PTL bt en j l none
  | first0 {bt : List UInt8} {en : UInt8} {l : List UInt8} : l.head? ≠ some en → PT l none → PTL bt en 0 l none
  | first1 {bt : List UInt8} {en : UInt8} {l r : List UInt8} {x : T} {o : Option (List T × List UInt8)} : l.head? ≠ some en → PT l (some (x, r)) → PTL bt en 1 r o → PTL bt en 0 l (o.map fun y => (x :: y.1, y.2))
  | next0 {bt : List UInt8} {en : UInt8} {j : Nat} {l : List UInt8} : l.head? ≠ some en → 0 < j → j < 8 → ¬ bt <+: l → PTL bt en j l none
  | next1 {bt : List UInt8} {en : UInt8} {j : Nat} {l r : List UInt8} : l.head? ≠ some en → 0 < j → j < 8 → l = bt ++ r → PT r none → PTL bt en j l none
  | next2 {bt : List UInt8} {en : UInt8} {j : Nat} {l r r1 : List UInt8} {x : T} {o : Option (List T × List UInt8)} : l.head? ≠ some en → 0 < j → j < 8 → l = bt ++ r → PT r (some (x, r1)) → PTL bt en (j + 1) r1 o → PTL bt en j l (o.map fun y => (x :: y.1, y.2))
end

theorem ptl_inv {bt : List UInt8} {en : UInt8} {j : Nat} {l : List UInt8} {o : Option (List T × List UInt8)} (h : PTL bt en j l o) :
    (∃ r, l = en :: r ∧ o = some ([], r)) ∨ (l.head? ≠ some en ∧ j = 8 ∧ o = none) ∨
    (l.head? ≠ some en ∧ j = 0 ∧ ((PT l none ∧ o = none) ∨ ∃ x r o', PT l (some (x, r)) ∧ PTL bt en 1 r o' ∧ o = o'.map fun y => (x :: y.1, y.2))) ∨
    (l.head? ≠ some en ∧ 0 < j ∧ j < 8 ∧ ¬ bt <+: l ∧ o = none) ∨
    (∃ r, l.head? ≠ some en ∧ l = bt ++ r ∧ 0 < j ∧ j < 8 ∧ ((PT r none ∧ o = none) ∨ ∃ x r1 o', PT r (some (x, r1)) ∧ PTL bt en (j + 1) r1 o' ∧ o = o'.map fun y => (x :: y.1, y.2))) := by
  cases h with
  | done => exact .inl ⟨_, rfl, rfl⟩
  | wide h1 h2 => exact .inr (.inl ⟨h1, h2, rfl⟩)
  | first0 h1 h2 => exact .inr (.inr (.inl ⟨h1, rfl, .inl ⟨h2, rfl⟩⟩))
  | first1 h1 h2 h3 => exact .inr (.inr (.inl ⟨h1, rfl, .inr ⟨_, _, _, h2, h3, rfl⟩⟩))
  | next0 h1 h2 h3 h4 => exact .inr (.inr (.inr (.inl ⟨h1, h2, h3, h4, rfl⟩)))
  | next1 h1 h2 h3 h4 h5 => exact .inr (.inr (.inr (.inr ⟨_, h1, h4, h2, h3, .inl ⟨h5, rfl⟩⟩)))
  | next2 h1 h2 h3 h4 h5 h6 => exact .inr (.inr (.inr (.inr ⟨_, h1, h4, h2, h3, .inr ⟨_, _, _, h5, h6, rfl⟩⟩)))

theorem pt_inv {l : List UInt8} {o : Option (T × List UInt8)} (h : PT l o) :
    (∃ r o', l = 40 :: r ∧ PTL [44, 32] 41 0 r o' ∧ o = o'.map fun x => (.mk 2 none 0 x.1, x.2)) ∨
    (∃ r o', l = 91 :: r ∧ PTL [32, 43, 32] 93 0 r o' ∧ o = o'.map fun x => (.mk 3 none 0 x.1, x.2)) ∨
    (∃ r, l = [116, 101, 120, 116] ++ r ∧ o = some (.mk 1 none 0 [], r)) ∨
    (∃ r, l = [105, 110, 116] ++ r ∧ o = some (.mk 0 none 0 [], r)) ∨
    (l.head? ≠ some 40 ∧ l.head? ≠ some 91 ∧ ¬ [116, 101, 120, 116] <+: l ∧ ¬ [105, 110, 116] <+: l ∧ o = none) := by
  cases h with
  | tuple h => exact .inl ⟨_, _, rfl, h, rfl⟩
  | sum h => exact .inr (.inl ⟨_, _, rfl, h, rfl⟩)
  | text => exact .inr (.inr (.inl ⟨_, rfl, rfl⟩))
  | int => exact .inr (.inr (.inr (.inl ⟨_, rfl, rfl⟩)))
  | bad h1 h2 h3 h4 => exact .inr (.inr (.inr (.inr ⟨h1, h2, h3, h4, rfl⟩)))

/-- The texts of parts, each with bt ahead. -/
def tailT (bt : List UInt8) : List T → List UInt8
  | [] => []
  | x :: xs => bt ++ (x.txt ++ tailT bt xs)

theorem txtLT_tail (bt : List UInt8) : ∀ (x : T) (xs : List T), T.txtL bt (x :: xs) = x.txt ++ tailT bt xs
  | x, [] => by simp [T.txtL, tailT]
  | x, y :: ys => by
    have := txtLT_tail bt y ys
    rw [T.txtL, this, tailT]
    simp

/-- Its text is read as a type that is the same. -/
def TxtT (y : T) : Prop := ∀ (r : List UInt8), ∀ o, PT (y.txt ++ r) o → ∃ y', o = some (y', r) ∧ y'.same y = true

theorem ptl_tail (bt : List UInt8) (en c : UInt8) (t : List UInt8) (hb : bt = c :: t) (hc : c ≠ en) : ∀ (ys : List T) (j : Nat), 0 < j → j + ys.length ≤ 8 → (∀ y ∈ ys, TxtT y) → ∀ (r : List UInt8) o, PTL bt en j (tailT bt ys ++ en :: r) o → ∃ ys', o = some (ys', r) ∧ T.sameL ys' ys = true
  | [], j, hj, _, _, r, o, h => by
    rcases ptl_inv h with ⟨r', h1, rfl⟩ | ⟨h1, -⟩ | ⟨h1, -⟩ | ⟨h1, -⟩ | ⟨r', h1, -⟩
    · simp only [tailT, List.nil_append, List.cons.injEq, true_and] at h1
      exact ⟨[], by rw [h1], by simp [T.sameL]⟩
    · exact absurd rfl h1
    · exact absurd rfl h1
    · exact absurd rfl h1
    · exact absurd rfl h1
  | y :: ys, j, hj, hl, hy, r, o, h => by
    have hl' : j + (ys.length + 1) ≤ 8 := hl
    have e : tailT bt (y :: ys) ++ en :: r = bt ++ (y.txt ++ (tailT bt ys ++ en :: r)) := by simp [tailT]
    rw [e] at h
    rcases ptl_inv h with ⟨r', h1, rfl⟩ | ⟨h1, h2, -⟩ | ⟨h1, h2, -⟩ | ⟨h1, h2, h3, h4, -⟩ | ⟨r', -, h1, -, -, h2⟩
    · rw [hb] at h1
      simp only [List.cons_append, List.cons.injEq] at h1
      exact absurd h1.1 hc
    · omega
    · omega
    · exact absurd ⟨_, rfl⟩ h4
    · have h1 := (List.append_cancel_left h1).symm
      subst h1
      rcases h2 with ⟨h2, -⟩ | ⟨x, r1, o', h2, h3, rfl⟩
      · obtain ⟨y', h, -⟩ := hy y (by simp) _ _ h2
        cases h
      · obtain ⟨y', h, hs⟩ := hy y (by simp) _ _ h2
        injection h with h
        injection h with h4 h5
        subst h4 h5
        obtain ⟨ys', rfl, hs'⟩ := ptl_tail bt en c t hb hc ys (j + 1) (by omega) (by omega) (fun z hz => hy z (by simp [hz])) r o' h3
        exact ⟨x :: ys', rfl, by simp [T.sameL, hs, hs']⟩

theorem ptl_first (bt : List UInt8) (en c : UInt8) (t : List UInt8) (hb : bt = c :: t) (hc : c ≠ en) (ys : List T) (hl : ys.length ≤ 8) (hh : ∀ y ∈ ys, ∃ c t, y.txt = c :: t ∧ c ≠ en) (hy : ∀ y ∈ ys, TxtT y) (r : List UInt8) (o : Option (List T × List UInt8)) (h : PTL bt en 0 (T.txtL bt ys ++ en :: r) o) :
    ∃ ys', o = some (ys', r) ∧ T.sameL ys' ys = true := by
  cases ys with
  | nil =>
    rcases ptl_inv h with ⟨r', h1, rfl⟩ | ⟨h1, -⟩ | ⟨h1, -⟩ | ⟨h1, -⟩ | ⟨r', h1, -⟩
    · simp only [T.txtL, List.nil_append, List.cons.injEq, true_and] at h1
      exact ⟨[], by rw [h1], by simp [T.sameL]⟩
    · exact absurd rfl h1
    · exact absurd rfl h1
    · exact absurd rfl h1
    · exact absurd rfl h1
  | cons y ys =>
    have hl' : ys.length + 1 ≤ 8 := hl
    obtain ⟨c', t', hc', hce⟩ := hh y (by simp)
    rw [txtLT_tail, List.append_assoc] at h
    rcases ptl_inv h with ⟨r', h1, rfl⟩ | ⟨h1, h2, -⟩ | ⟨h1, h2, h3⟩ | ⟨h1, h2, h3, h4, -⟩ | ⟨r', h1, h1', h2, -⟩
    · rw [hc'] at h1
      simp only [List.cons_append, List.cons.injEq] at h1
      exact absurd h1.1 hce
    · omega
    · rcases h3 with ⟨h2, -⟩ | ⟨x, r1, o', h2, h3, rfl⟩
      · obtain ⟨y', h, -⟩ := hy y (by simp) _ _ h2
        cases h
      · obtain ⟨y', h, hs⟩ := hy y (by simp) _ _ h2
        injection h with h
        injection h with h4 h5
        subst h4 h5
        obtain ⟨ys', rfl, hs'⟩ := ptl_tail bt en c t hb hc ys 1 (by omega) (by omega) (fun z hz => hy z (by simp [hz])) r o' h3
        exact ⟨x :: ys', rfl, by simp [T.sameL, hs, hs']⟩
    · omega
    · omega

theorem kindsT_of {k : Int} {n : Nat} (h : fitsT k n = true) : k = 0 ∨ k = 1 ∨ k = 2 ∨ k = 3 := by
  by_cases k0 : k = 0
  · exact .inl k0
  by_cases k1 : k = 1
  · exact .inr (.inl k1)
  by_cases k2 : k = 2
  · exact .inr (.inr (.inl k2))
  by_cases k3 : k = 3
  · exact .inr (.inr (.inr k3))
  · simp [fitsT, k0, k1, k2, k3] at h

theorem txtT_head (y : T) (d : Nat) (h : y.sh d = true) : ∃ c t, y.txt = c :: t ∧ c ≠ 41 ∧ c ≠ 93 := by
  cases y with
  | mk k a cap l =>
  cases d with
  | zero => simp [T.sh] at h
  | succ d =>
  simp [T.sh] at h
  rcases kindsT_of h.1 with rfl | rfl | rfl | rfl
  · exact ⟨105, _, by simp [T.txt]; rfl, by decide, by decide⟩
  · exact ⟨116, _, by simp [T.txt]; rfl, by decide, by decide⟩
  · exact ⟨40, _, by simp [T.txt]; rfl, by decide, by decide⟩
  · exact ⟨91, _, by simp [T.txt]; rfl, by decide, by decide⟩

/-- The text of each type is read as a type that is the same. -/
theorem txtT_all : ∀ (N : Nat) (y : T) (d : Nat), y.rank ≤ N → y.sh d = true → TxtT y := by
  intro N
  induction N with
  | zero => intro y d h; have := y.rank_pos; omega
  | succ N IH =>
    intro y d hN hsh r o h
    cases y with
    | mk k a cap l =>
    cases d with
    | zero => simp [T.sh] at hsh
    | succ d =>
    simp [T.sh] at hsh
    obtain ⟨hf, hl⟩ := hsh
    have part : ∀ x ∈ l, TxtT x := fun x hx => by
      obtain ⟨j, hj⟩ := List.getElem?_of_mem hx
      have := T.rank_part (v := .mk k a cap l) (j := j) (x := x) hj
      exact IH x d (by omega) (shLT_at hl hj)
    have head : ∀ x ∈ l, ∃ c t, x.txt = c :: t ∧ c ≠ 41 ∧ c ≠ 93 := fun x hx => by
      obtain ⟨j, hj⟩ := List.getElem?_of_mem hx
      exact txtT_head x d (shLT_at hl hj)
    rcases kindsT_of hf with rfl | rfl | rfl | rfl
    · have : l = [] := by simpa [fitsT] using hf
      subst this
      have e : (T.mk 0 a cap []).txt = [105, 110, 116] := by simp [T.txt]
      rw [e] at h
      rcases pt_inv h with ⟨r', o', h1, -⟩ | ⟨r', o', h1, -⟩ | ⟨r', h1, -⟩ | ⟨r', h1, rfl⟩ | ⟨-, -, -, h1, -⟩
      · simp at h1
      · simp at h1
      · simp at h1
      · have h1 := List.append_cancel_left h1
        subst h1
        exact ⟨_, rfl, by simp [T.same, T.sameL]⟩
      · exact absurd ⟨_, rfl⟩ h1
    · have : l = [] := by simpa [fitsT] using hf
      subst this
      have e : (T.mk 1 a cap []).txt = [116, 101, 120, 116] := by simp [T.txt]
      rw [e] at h
      rcases pt_inv h with ⟨r', o', h1, -⟩ | ⟨r', o', h1, -⟩ | ⟨r', h1, rfl⟩ | ⟨r', h1, -⟩ | ⟨-, -, h1, -⟩
      · simp at h1
      · simp at h1
      · have h1 := List.append_cancel_left h1
        subst h1
        exact ⟨_, rfl, by simp [T.same, T.sameL]⟩
      · simp at h1
      · exact absurd ⟨_, rfl⟩ h1
    · have h8 : l.length ≤ 8 := by simpa [fitsT] using hf
      have e : (T.mk 2 a cap l).txt ++ r = 40 :: (T.txtL [44, 32] l ++ 41 :: r) := by simp [T.txt]
      rw [e] at h
      rcases pt_inv h with ⟨r', o', h1, h2, rfl⟩ | ⟨r', o', h1, -⟩ | ⟨r', h1, -⟩ | ⟨r', h1, -⟩ | ⟨h1, -⟩
      · simp only [List.cons.injEq, true_and] at h1
        subst h1
        obtain ⟨ys', rfl, hs'⟩ := ptl_first [44, 32] 41 44 [32] rfl (by decide) l h8 (fun x hx => by
          obtain ⟨c, t, h1, h2, -⟩ := head x hx
          exact ⟨c, t, h1, h2⟩) part r o' h2
        exact ⟨_, rfl, T.same_node hs'⟩
      · simp at h1
      · simp at h1
      · simp at h1
      · exact absurd rfl h1
    · have h8 : l.length ≤ 8 := by
        have : 0 < l.length ∧ l.length ≤ 8 := by simpa [fitsT] using hf
        exact this.2
      have e : (T.mk 3 a cap l).txt ++ r = 91 :: (T.txtL [32, 43, 32] l ++ 93 :: r) := by simp [T.txt]
      rw [e] at h
      rcases pt_inv h with ⟨r', o', h1, -⟩ | ⟨r', o', h1, h2, rfl⟩ | ⟨r', h1, -⟩ | ⟨r', h1, -⟩ | ⟨-, h1, -⟩
      · simp at h1
      · simp only [List.cons.injEq, true_and] at h1
        subst h1
        obtain ⟨ys', rfl, hs'⟩ := ptl_first [32, 43, 32] 93 32 [43, 32] rfl (by decide) l h8 (fun x hx => by
          obtain ⟨c, t, h1, -, h2⟩ := head x hx
          exact ⟨c, t, h1, h2⟩) part r o' h2
        exact ⟨_, rfl, T.same_node hs'⟩
      · simp at h1
      · simp at h1
      · exact absurd rfl h1

end Go.Proofs.YtkfmgafgokpjhaaGreatDoor

/-
  readList OF TYPES, AT ANY BYTES.
-/
namespace Go.Proofs.YtkfmgafgokpjhaaGreatDoor
open Go.RowKit

/-- A reading has come to place q and made a type that is the same as y. -/
def ReadsT (w : World) (R : Nat) (s : ByteArray) (q : Nat) (y : T) (e : Ending) (w' : World) : Prop :=
  ∃ x : T, e = .returned x.val ∧ x.In w' w'.heap.size ∧ x.foot (fun b => w.heap.size ≤ b) ∧ x.same y = true ∧ Reader w' R s q ∧ Bt R w w'

/-- What typeOf tells. -/
def OutT (w : World) (R : Nat) (s : ByteArray) (p : Nat) (e : Ending) (w' : World) : Prop :=
  (∃ y q, PT (s.data.toList.drop p) (some (y, s.data.toList.drop q)) ∧ p < q ∧ q ≤ s.size ∧ ReadsT w R s q y e w') ∨
  (PT (s.data.toList.drop p) none ∧ e = .panicked formP ∧ Bt R w w')

/-- What readList tells. -/
def OutLT (bt : List UInt8) (en : UInt8) (w : World) (R : Nat) (s : ByteArray) (p : Nat) (e : Ending) (w' : World) : Prop :=
  (∃ (ys : List T) (q g : Nat) (vs : List T), PTL bt en 0 (s.data.toList.drop p) (some (ys, s.data.toList.drop q)) ∧ p < q ∧ q ≤ s.size ∧ ys.length ≤ 8 ∧ e = .returned (.slice (some ⟨g, 0, none⟩) ys.length ys.length) ∧ w.heap.size ≤ g ∧ w'.heap[g]? = some (.cells (cellsTL vs).toArray 27 (0, 0)) ∧
    T.sameL vs ys = true ∧ T.InL w' w'.heap.size vs ∧ T.footL (fun b => w.heap.size ≤ b) vs ∧ Reader w' R s q ∧ Bt R w w') ∨
  (PTL bt en 0 (s.data.toList.drop p) none ∧ e = .panicked formP ∧ Bt R w w')

abbrev put2a (w : World) (b i : Nat) (v0 v1 : Value) : World := (w.setCell ⟨b, i, none⟩ v0).setCell ⟨b, i + 1, none⟩ v1
theorem put2a_block {w : World} {b i : Nat} {cs : Array Value} {v0 v1 : Value} {t : Nat} (h : w.heap[b]? = some (.cells cs t (0, 0))) :
    (put2a w b i v0 v1).heap[b]? = some (.cells ((cs.setIfInBounds i v0).setIfInBounds (i + 1) v1) t (0, 0)) := heap_set (heap_set h)
theorem put2a_other {w : World} {b i k : Nat} {v0 v1 : Value} (h : k ≠ b) : (put2a w b i v0 v1).heap[k]? = w.heap[k]? := by
  rw [Below.heap_setCell _ _ _ _ h, Below.heap_setCell _ _ _ _ h]
theorem put2a_bt {R b i : Nat} {w w' : World} {v0 v1 : Value} (h : Bt R w w') (hb : w.heap.size ≤ b) : Bt R w (put2a w' b i v0 v1) :=
  ⟨h.os, h.tape, h.output, by have := h.size; simp [World.setCell]; omega, fun k hk hc => (put2a_other (by omega)).trans (h.block k hk hc)⟩
theorem put2a_kp {b i : Nat} {w w' : World} {v0 v1 : Value} (h : Kp w w') (hb : w.heap.size ≤ b) : Kp w (put2a w' b i v0 v1) := put1_kp (put1_kp h hb) hb

theorem take_put2 {cs : Array Value} {j n : Nat} {v0 v1 : Value} (hs : cs.size = n * 2) (hj : j < n) :
    ((cs.setIfInBounds (j * 2) v0).setIfInBounds (j * 2 + 1) v1).toList.take ((j + 1) * 2) = cs.toList.take (j * 2) ++ [v0, v1] := by
  apply List.ext_getElem?
  intro i
  simp only [Array.toList_setIfInBounds, List.getElem?_take, List.getElem?_set, List.getElem?_append, List.length_take, Array.length_toList, List.length_set]
  have hmin : min (j * 2) cs.size = j * 2 := by omega
  rw [hmin]
  by_cases h0 : i < j * 2
  · have h1 : i < (j + 1) * 2 := by omega
    simp [h0, h1, show ¬ j * 2 + 1 = i from by omega, show ¬ j * 2 = i from by omega]
  · by_cases h1 : i < (j + 1) * 2
    · obtain ⟨r, hr, hr4⟩ : ∃ r, i = j * 2 + r ∧ r < 2 := ⟨i - j * 2, by omega, by omega⟩
      subst hr
      have : r = 0 ∨ r = 1 := by omega
      rcases this with rfl | rfl
      · simp [show (0 : Nat) < 2 from by omega, show j * 2 < (j + 1) * 2 from by omega, show j * 2 < cs.size from by omega]
      · simp [h1, show j * 2 + 1 < cs.size from by omega]
        try (intro h; omega)
    · simp [h0, h1]
      omega

theorem cellsTL_one : ∀ (l : List T), ∀ v ∈ cellsTL l, v.oneCell' = true := by
  intro l
  induction l with
  | nil => intro v h; simp [cellsTL] at h
  | cons x xs ih =>
    intro v h
    have e : cellsTL (x :: xs) = x.cells2 ++ cellsTL xs := by simp [cellsTL]
    rw [e, List.mem_append] at h
    rcases h with h | h
    · simp [T.cells2] at h
      rcases h with rfl | rfl <;> simp [Value.oneCell']
    · exact ih v h

theorem AtT.of_block {w : World} {g t : Nat} {fr : Nat × Nat} {cs : Array Value} {l : List T} (h : w.heap[g]? = some (.cells cs t fr)) (hc : cs.toList = cellsTL l) : AtT w g 0 l := fun j x hj => by
  obtain ⟨h0, h1⟩ := cellsTL_at l j x hj
  rw [← hc] at h0 h1
  simp only [Array.getElem?_toList] at h0 h1
  simp only [Nat.zero_add, World.cell?, h, h0, h1]
  simp

theorem slice_arrT (w : World) (g n : Nat) (hn : n ≤ 8) :
    (Instr.sliceAt 156 (.pointer (some ⟨g, 0, none⟩)) none (some (.int .i64 n)) none).run Tryz.prog w = .ok (.slice (some ⟨g, 0, none⟩) n 8) w := by
  have ha : Tryz.prog.arrayLen 156 = 8 := by kernel_rfl
  have hu : Tryz.prog.underlying 156 = some (.array (Tryz.prog.arrayLen 156) (Tryz.prog.elem 156)) := by kernel_rfl
  have hs : (sizeOf (Tryz.prog.elem 156)).run Tryz.prog w = .ok 2 w := by kernel_rfl
  rw [run_sliceAt_array_h w 156 _ hu .i64 n (by omega) (by rw [ha]; omega), hs, ha]
  simp [slicedAt, Addr.add, Result.andThen]

theorem sizeT2 : (Tryz.prog.info? 27).map (·.size) = some 2 := by kernel_rfl

set_option maxRecDepth 100000 in
set_option maxHeartbeats 4000000 in
theorem togetherT (w : World) (g cap n : Nat) (cs : List Value) (hcs : cs.length = n * 2) (hsrc : ∀ j v, cs[j]? = some v → w.cell? ⟨g, j, none⟩ = some v) (h1 : ∀ v ∈ cs, v.oneCell' = true) (hn : n ≤ 8) :
    Calls Tryz.prog 134 #[.slice (some ⟨g, 0, none⟩) n cap] w fun e w' => ∃ q, e = .returned (.slice (some ⟨q, 0, none⟩) n n) ∧ w.heap.size ≤ q ∧ w'.heap[q]? = some (.cells cs.toArray 27 (0, 0)) ∧ Kp w w' := by
  obtain ⟨i0, hi, hz0, hz1, hz2⟩ := info_parts infoT
  have HS := Lib.hid hsrc
  have H1 := Lib.hid h1
  have HC := Lib.hid hcs
  clear hsrc h1 hcs
  go_enter Tryz.func134, Tryz.ntmps134
  go_wp2_with (refine wpList_make_full _ rfl _ _ 25 rfl 0 27 i0 _ 2 Tryz.underlying25 hi hz0 hz1 .i64 .i64 _ _ n rfl rfl rfl rfl ?c1 ?c2 ?c3 ?_)
  case c1 => rw [hz2]; omega
  case c2 => unfold maxLen; omega
  case c3 => omega
  intro w1 hown hgrow
  obtain ⟨cur, hblk, hsz⟩ : ∃ cs : Array Value, w1.heap[w.heap.size]? = some (.cells cs 27 (0, 0)) ∧ cs.size = n * 2 := by
    rcases hown.2 with ⟨h, -⟩ | ⟨g, cap', cur, hv, -, hg, -, -, hsz, -⟩
    · cases h
    · cases hv; exact ⟨cur, hg, hsz⟩
  have hk1 : Kp w w1 := grown_kp hgrow
  have hcp : ∀ ty, (Builtin.copy_ #[25, 25] ty #[.slice (some ⟨w.heap.size, 0, none⟩) n n, .slice (some ⟨g, 0, none⟩) n cap]).run Tryz.prog w1 = .ok (.int .i64 n) (w1.setRow w.heap.size cs.toArray) := by
    intro ty
    have := run_copy_rows (P := Tryz.prog) w1 25 25 ty 27 2 w.heap.size 0 n n ⟨g, 0, none⟩ n cap cur 27 cs Tryz.underlying25 sizeT2 hblk (by rw [HC.out, show n.min n = n from Nat.min_self n]) (fun j v hj => by
      have := kc hk1 (HS.out j v hj)
      rw [show (⟨g, 0, none⟩ : Addr).add j = ⟨g, j, none⟩ by unfold Addr.add; split <;> simp_all]
      exact this) (by rw [HC.out, hsz]; omega) H1.out
    rw [show n.min n = n from Nat.min_self n] at this
    rw [this, List.drop_of_length_le (by rw [Array.length_toList, hsz, HC.out]; omega)]
    simp [goInt]
  have HW := Lib.hid (setRow_heap _ w.heap.size _ cs.toArray _ _ hblk)
  have HK := Lib.hid (below_setRow hk1 (Nat.le_refl _) cs.toArray)
  clear hblk hsz hk1 hown hgrow hi hz0 hz1 hz2
  go_wp2_with fail
  go_ret
  exact ⟨w.heap.size, rfl, Nat.le_refl _, HW.out, HK.out⟩

/-- A row of eight types in block g, of which the first j have been read: vs. -/
structure RowT (w : World) (g : Nat) (ys : List T) (j : Nat) (cs : Array Value) (vs : List T) : Prop where
  blk : w.heap[g]? = some (.cells cs 156 (0, 0))
  size : cs.size = 8 * 2
  take : cs.toList.take (j * 2) = cellsTL vs
  same : T.sameL vs (ys.take j) = true
  hin : T.InL w w.heap.size vs
  foot : T.footL (fun b => g < b) vs

theorem RowT.bt {w w2 : World} {R g j : Nat} {ys : List T} {cs : Array Value} {vs : List T} (h : RowT w g ys j cs vs) (hk : Bt R w w2) (hR : R < g) : RowT w2 g ys j cs vs :=
  ⟨(hk.block _ (lt_of_block h.blk) (by omega)).trans h.blk, h.size, h.take, h.same, T.InL.move hk.size (fun b h1 h2 => hk.block b h1 (by omega)) _ h.hin h.foot, h.foot⟩

theorem RowT.step {w w2 : World} {R g j : Nat} {ys : List T} {cs : Array Value} {vs : List T} {z y : T} (h : RowT w g ys j cs vs) (hj : j < 8) (hR : R < g) (hg : g < w.heap.size) (hk : Bt R w w2) (hz : z.In w2 w2.heap.size)
    (hf : z.foot (fun b => w.heap.size ≤ b)) (hs : z.same y = true) (hy : ys[j]? = some y) :
    RowT (put2a w2 g (j * 2) (.int .i64 z.k) (.slice z.a z.l.length z.cap)) g ys (j + 1)
      ((cs.setIfInBounds (j * 2) (.int .i64 z.k)).setIfInBounds (j * 2 + 1) (.slice z.a z.l.length z.cap)) (vs ++ [z]) := by
  have h := h.bt hk hR
  have hS : (put2a w2 g (j * 2) (.int .i64 z.k) (.slice z.a z.l.length z.cap)).heap.size = w2.heap.size := by simp [World.setCell]
  have hmv : ∀ b, b < w2.heap.size → g < b → (put2a w2 g (j * 2) (.int .i64 z.k) (.slice z.a z.l.length z.cap)).heap[b]? = w2.heap[b]? := fun b _ hb => put2a_other (by omega)
  refine ⟨put2a_block h.blk, by simp [h.size], ?_, ?_, ?_, ?_⟩
  · rw [take_put2 h.size hj, h.take, cellsTL_snoc]; rfl
  · rw [List.take_add_one, hy]; exact T.sameL_snoc h.same hs
  · rw [hS]
    exact T.InL_snoc (T.InL.move (Nat.le_refl _) hmv _ h.hin h.foot) (T.In.move (Nat.le_refl _) hmv _ hz (T.foot.mono (fun b hb => by omega) _ hf))
  · exact T.footL_snoc h.foot (T.foot.mono (fun b hb => by omega) _ hf)

theorem RowT.grow {w : World} {g j : Nat} {ys : List T} {cs : Array Value} {vs : List T} (h : RowT w g ys j cs vs) (hj : ys.length = j) (y : T) : RowT w g (ys ++ [y]) j cs vs :=
  ⟨h.blk, h.size, h.take, by rw [List.take_append_of_le_length (by omega)]; exact h.same, h.hin, h.foot⟩

set_option maxRecDepth 100000 in
set_option maxHeartbeats 8000000 in
theorem listT_any (w : World) (R : Nat) (s : ByteArray) (p : Nat) (hr : Reader w R s p) (hp : p ≤ s.size) (hs : s.size ≤ 1000000) (bt : ByteArray) (en : UInt8) (hbs : bt.size ≤ 10)
    (ih : ∀ (q : Nat) (w1 : World), p ≤ q → q ≤ s.size → Reader w1 R s q → Calls Tryz.prog 77 #[.pointer (some ⟨R, 0, none⟩)] w1 (OutT w1 R s q)) :
    Calls Tryz.prog 124 #[.pointer (some ⟨R, 0, none⟩), .string bt, .string ⟨#[en]⟩, .func (.func 77) #[] #[]] w (OutLT bt.data.toList en w R s p) := by
  have hRl := lt_of_block hr
  have HR := Lib.hid hr
  have ih2 := fun (q : Nat) (w1 : World) (h1 : p ≤ q) (h2 : q ≤ s.size) (h3 : Reader w1 R s q) (_ : Bt R w w1) => ih q w1 h1 h2 h3
  have HI := Lib.hid ih2
  clear hr ih ih2
  go_enter Tryz.func124, Tryz.ntmps124
  go_wp2_with fail
  go_loopw [10] (fun i wr => ∃ (j q : Nat) (cs : Array Value) (vs ys : List T), j ≤ 8 ∧ ys.length = j ∧ i = .int .i64 j ∧ RowT wr w.heap.size ys j cs vs ∧ Bt R w wr ∧ Reader wr R s q ∧ p ≤ q ∧ q ≤ s.size ∧ (∀ o, PTL bt.data.toList en j (s.data.toList.drop q) o → PTL bt.data.toList en 0 (s.data.toList.drop p) (o.map fun x => (ys ++ x.1, x.2)))) (fun i _ => 9 - (intOf i).toNat)
  case atStart => exact ⟨0, p, _, [], [], Nat.zero_le _, rfl, rfl, ⟨blockHere rfl, rfl, by simp [cellsTL], by simp [T.sameL], trivial, trivial⟩, Bt.kp (ka _ _), HR.out.kp (ka _ _), Nat.le_refl _, hp, fun o h => by cases o <;> simpa using h⟩
  case round =>
    obtain ⟨j, q, cs, vs, ys, hj, hyl, rfl, hrow, hbt, hrd, hpq, hqs, hPL⟩ := hrel
    have hgl := lt_of_block hrow.blk
    have HROW := Lib.hid hrow
    have HBT := Lib.hid hbt
    have HRD := Lib.hid hrd
    have HPL := Lib.hid hPL
    clear hrow hbt hrd hPL
    by_cases h41 : (s.data.toList.drop q).head? = some en
    · obtain ⟨r, hr⟩ := head_yes h41
      obtain ⟨hr2, hq⟩ := drop_tail hr
      have hes : Lib.hasPrefix (s.extract q s.size).data.toList (⟨#[en]⟩ : ByteArray).data.toList = true := by
        rw [rest_eq, pre_one]; simpa using h41
      have hfin := HPL.out (some ([], s.data.toList.drop (q + 1))) (by rw [hr, ← hr2]; exact .done)
      rw [Option.map_some, List.append_nil] at hfin
      have hrow := HROW.out
      have hlv : vs.length = j := by
        have := congrArg List.length hrow.take
        have hcl : cs.toList.length = 8 * 2 := Array.length_toList.trans hrow.size
        rw [cellsTL_length, List.length_take, hcl] at this
        omega
      have htg := fun (w1 : World) (h : Bt R wr w1) => togetherT w1 w.heap.size 8 j (cellsTL vs) (by rw [cellsTL_length, hlv]) (fun i v hv => by
        have h1 : cs[i]? = some v := by
          rw [← hrow.take] at hv
          rw [← Array.getElem?_toList]
          rw [List.getElem?_take] at hv
          split at hv
          · exact hv
          · cases hv
        exact cellOf ((hrow.bt h (by omega)).blk) h1) (cellsTL_one vs) hj
      have HS := Lib.hid (fun (w1 : World) (h : Reader w1 R s _) => skip_yes w1 R s ⟨#[en]⟩ _ h (by omega) hs (by simp [ByteArray.size]) hes)
      have HTG := Lib.hid htg
      have HFIN := Lib.hid hfin
      clear hes htg hrow hr hr2 h41 hfin
      go_wp2_with fail
      refine (HS.out _ HRD.out).mono ?_
      rintro e w1 ⟨rfl, hr1, hb1⟩
      have HR1 := Lib.hid hr1
      have HB1 := Lib.hid hb1
      clear hr1 hb1
      go_wp2_with fail
      rw [slice_arrT w1 w.heap.size j hj]
      go_wp2_with fail
      refine (HTG.out _ HB1.out).mono ?_
      rintro e w2 ⟨g, rfl, hg, hgb, hk2⟩
      have HG := Lib.hid hgb
      have HK := Lib.hid hk2
      clear hgb hk2
      go_wp2_with fail
      go_ret
      have hh := HROW.out.bt HB1.out (by omega)
      have hz := HBT.out.size
      have hz1 := HB1.out.size
      have hsm := hh.same
      rw [List.take_of_length_le (by omega)] at hsm
      subst hyl
      exact .inl ⟨ys, q + 1, g, vs, HFIN.out, by omega, by omega, hj, rfl, by omega, HG.out, hsm, hh.hin.keep HK.out.size HK.out, T.footL.mono (fun b hb => by omega) _ hh.foot, HR1.out.kp HK.out, (HBT.out.trans HB1.out).trans (.kp HK.out)⟩
    · have hgo : Lib.hasPrefix (s.extract q s.size).data.toList (⟨#[en]⟩ : ByteArray).data.toList = false := by
        rw [rest_eq, pre_one]; simpa using h41
      have hsk := fun (w1 : World) (h : Reader w1 R s q) => skip_no w1 R s ⟨#[en]⟩ q h (by omega) hgo
      have HSK := Lib.hid hsk
      clear hsk hgo
      by_cases h8 : j = 8
      · have g8 : ((j : Int) == 8) = true := by subst h8; rfl
        have hfin := HPL.out none (.wide h41 h8)
        rw [Option.map_none] at hfin
        go_wp2_with fail
        refine (HSK.out _ HRD.out).mono ?_
        rintro e w1 ⟨rfl, hk1⟩
        have HB1 := Lib.hid (HBT.out.trans (Bt.kp hk1))
        clear hk1
        go_wp2_with fail
        refine (refuse_any _).mono ?_
        rintro e3 w3 ⟨rfl, rfl⟩
        exact ⟨rfl, .inr ⟨hfin, rfl, HB1.out⟩⟩
      · have g8 : ((j : Int) == 8) = false := by rw [beq_eq_false_iff_ne]; omega
        by_cases h0 : j = 0
        · have g0 : decide ((0 : Int) < (j : Int)) = false := by subst h0; rfl
          have g1 : decide (0 < j) = false := by subst h0; rfl
          have HJ := Lib.hid h0
          clear h0
          go_wp2_with fail
          refine (HSK.out _ HRD.out).mono ?_
          rintro e w1 ⟨rfl, hk1⟩
          have HB1 := Lib.hid (HBT.out.trans (Bt.kp hk1))
          have HR1 := Lib.hid (HRD.out.kp hk1)
          have HRW1 := Lib.hid (HROW.out.bt (Bt.kp (c := R) hk1) (by omega))
          clear hk1
          go_wp2_with fail
          refine (HI.out q _ hpq hqs HR1.out HB1.out).mono ?_
          rintro e w3 (⟨y, q3, hpv, hq3, hq3s, z, rfl, hzi, hzf, hzs, hr3, hb3⟩ | ⟨hpv, rfl, hb3⟩)
          rotate_left
          · exact ⟨rfl, .inr ⟨by
              have := HPL.out none (by rw [HJ.out]; exact .first0 h41 hpv)
              simpa using this, rfl, HB1.out.trans hb3⟩⟩
          have hPL3 : ∀ o, PTL bt.data.toList en (j + 1) (s.data.toList.drop q3) o → PTL bt.data.toList en 0 (s.data.toList.drop p) (o.map fun x => ((ys ++ [y]) ++ x.1, x.2)) := fun o ho => by
            have := HPL.out _ (by rw [HJ.out] at ho ⊢; exact .first1 h41 hpv ho)
            cases o <;> simpa using this
          have hgl1 := lt_of_block HRW1.out.blk
          have hst := (HRW1.out.grow hyl y).step (by omega) (by omega) hgl1 hb3 hzi (T.foot.mono (fun b hb => by omega) z hzf) hzs (show (ys ++ [y])[j]? = some y by rw [← hyl]; simp)
          have hb2 := (HRW1.out.bt hb3 (by omega)).blk
          have hsz := HRW1.out.size
          obtain ⟨u0, hu0⟩ : ∃ u, cs[j * 2]? = some u := ⟨cs[j * 2]'(by omega), by simp⟩
          obtain ⟨u1, hu1⟩ : ∃ u, cs[j * 2 + 1]? = some u := ⟨cs[j * 2 + 1]'(by omega), by simp⟩
          have m0 := cellOf hb2 hu0
          have m1 := cellOf hb2 hu1
          have n0 := freeOf (i := j * 2) hb2
          have n1 := freeOf (i := j * 2 + 1) hb2
          have HST := Lib.hid hst
          have HB3 := Lib.hid (HB1.out.trans hb3)
          have HR3 := Lib.hid hr3
          have HPL3 := Lib.hid hPL3
          clear hst hzi hzf hzs hb2 hu0 hu1 hr3 hb3 hPL3
          cases z with
          | mk k za zc zl =>
          simp only [T.val_mk]
          go_wp2_with fail
          go_roundw
          case rel => exact ⟨j + 1, q3, _, _, ys ++ [y], by omega, by simp; omega, by first | go_num | simp, HST.out, put2a_bt HB3.out (Nat.le_refl _), (put2a_other (by omega)).trans HR3.out, by omega, hq3s, HPL3.out⟩
          case measure => simp [intOf]; omega
        · have g0 : (0 : Int) < (j : Int) := by omega
          have g1 : decide ((0 : Int) < (j : Int)) = true := by simpa using g0
          by_cases hbt2 : bt.data.toList <+: s.data.toList.drop q
          · obtain ⟨r, hr⟩ := hbt2
            have hbl : bt.data.toList.length = bt.size := rfl
            have hrr : r = s.data.toList.drop (q + bt.size) := by
              have := congrArg (List.drop bt.size) hr
              rw [List.drop_drop, ← hbl, List.drop_left] at this
              rw [this, hbl]
            have hq2 : q + bt.size ≤ s.size := by
              have := congrArg List.length hr
              rw [List.length_append, List.length_drop, hbl] at this
              have e : s.data.toList.length = s.size := rfl
              omega
            have hpre : Lib.hasPrefix (s.extract q s.size).data.toList bt.data.toList = true := by
              rw [rest_eq, pre_iff]; exact ⟨r, hr⟩
            have HEX := Lib.hid (fun (w1 : World) (h : Reader w1 R s q) => expect_yes w1 R s bt q h (by omega) hs (by omega) hpre)
            have HRR := Lib.hid (show s.data.toList.drop q = bt.data.toList ++ s.data.toList.drop (q + bt.size) by rw [← hrr]; exact hr.symm)
            clear hpre hr hrr hbl
            go_wp2_with fail
            refine (HSK.out _ HRD.out).mono ?_
            rintro e w1 ⟨rfl, hk1⟩
            have HB0 := Lib.hid (HBT.out.trans (Bt.kp hk1))
            have HR0 := Lib.hid (HRD.out.kp hk1)
            have HRW0 := Lib.hid (HROW.out.bt (Bt.kp (c := R) hk1) (by omega))
            clear hk1
            go_wp2_with fail
            refine (HEX.out _ HR0.out).mono ?_
            rintro e w2 ⟨rfl, hr2, hb2⟩
            have HB1 := Lib.hid (HB0.out.trans hb2)
            have HR1 := Lib.hid hr2
            have HRW1 := Lib.hid (HRW0.out.bt hb2 (by omega))
            clear hr2 hb2
            go_wp2_with fail
            refine (HI.out (q + bt.size) _ (by omega) (by omega) HR1.out HB1.out).mono ?_
            rintro e w3 (⟨y, q3, hpv, hq3, hq3s, z, rfl, hzi, hzf, hzs, hr3, hb3⟩ | ⟨hpv, rfl, hb3⟩)
            rotate_left
            · exact ⟨rfl, .inr ⟨by
                have := HPL.out none (.next1 h41 (by omega) (by omega) HRR.out hpv)
                simpa using this, rfl, HB1.out.trans hb3⟩⟩
            have hPL3 : ∀ o, PTL bt.data.toList en (j + 1) (s.data.toList.drop q3) o → PTL bt.data.toList en 0 (s.data.toList.drop p) (o.map fun x => ((ys ++ [y]) ++ x.1, x.2)) := fun o ho => by
              have := HPL.out _ (.next2 h41 (by omega) (by omega) HRR.out hpv ho)
              cases o <;> simpa using this
            have hgl1 := lt_of_block HRW1.out.blk
            have hst := (HRW1.out.grow hyl y).step (by omega) (by omega) hgl1 hb3 hzi (T.foot.mono (fun b hb => by omega) z hzf) hzs (show (ys ++ [y])[j]? = some y by rw [← hyl]; simp)
            have hb2 := (HRW1.out.bt hb3 (by omega)).blk
            have hsz := HRW1.out.size
            obtain ⟨u0, hu0⟩ : ∃ u, cs[j * 2]? = some u := ⟨cs[j * 2]'(by omega), by simp⟩
            obtain ⟨u1, hu1⟩ : ∃ u, cs[j * 2 + 1]? = some u := ⟨cs[j * 2 + 1]'(by omega), by simp⟩
            have m0 := cellOf hb2 hu0
            have m1 := cellOf hb2 hu1
            have n0 := freeOf (i := j * 2) hb2
            have n1 := freeOf (i := j * 2 + 1) hb2
            have HST := Lib.hid hst
            have HB3 := Lib.hid (HB1.out.trans hb3)
            have HR3 := Lib.hid hr3
            have HPL3 := Lib.hid hPL3
            clear hst hzi hzf hzs hb2 hu0 hu1 hr3 hb3 hPL3
            cases z with
            | mk k za zc zl =>
            simp only [T.val_mk]
            go_wp2_with fail
            go_roundw
            case rel => exact ⟨j + 1, q3, _, _, ys ++ [y], by omega, by simp; omega, by first | go_num | simp, HST.out, put2a_bt HB3.out (Nat.le_refl _), (put2a_other (by omega)).trans HR3.out, by omega, hq3s, HPL3.out⟩
            case measure => simp [intOf]; omega
          · have hpre : Lib.hasPrefix (s.extract q s.size).data.toList bt.data.toList = false := by
              rw [Bool.eq_false_iff]
              intro h
              rw [rest_eq, pre_iff] at h
              exact hbt2 h
            have HEX := Lib.hid (fun (w1 : World) (h : Reader w1 R s q) => expect_no w1 R s bt q h (by omega) hpre)
            have hfin := HPL.out none (.next0 h41 (by omega) (by omega) hbt2)
            rw [Option.map_none] at hfin
            clear hpre
            go_wp2_with fail
            refine (HSK.out _ HRD.out).mono ?_
            rintro e w1 ⟨rfl, hk1⟩
            have HB0 := Lib.hid (HBT.out.trans (Bt.kp hk1))
            have HR0 := Lib.hid (HRD.out.kp hk1)
            clear hk1
            go_wp2_with fail
            refine (HEX.out _ HR0.out).mono ?_
            rintro e w2 ⟨rfl, hk2⟩
            exact ⟨rfl, .inr ⟨hfin, rfl, HB0.out.trans (.kp hk2)⟩⟩

end Go.Proofs.YtkfmgafgokpjhaaGreatDoor

/-
  typeOf, AT ANY BYTES.
-/
namespace Go.Proofs.YtkfmgafgokpjhaaGreatDoor
open Go.RowKit

theorem put2_fin {w w2 : World} {R q : Nat} {s : ByteArray} {z : T} {v0 v1 : Value} (hzi : z.In w2 w2.heap.size) (hzf : z.foot (fun b => w.heap.size + 1 ≤ b)) (hr : Reader w2 R s q) (hb : Bt R w w2) (hRl : R < w.heap.size) :
    z.In (put2 w2 w.heap.size v0 v1) (put2 w2 w.heap.size v0 v1).heap.size ∧ z.foot (fun b => w.heap.size ≤ b) ∧ Reader (put2 w2 w.heap.size v0 v1) R s q ∧ Bt R w (put2 w2 w.heap.size v0 v1) := by
  have hS : (put2 w2 w.heap.size v0 v1).heap.size = w2.heap.size := by simp [World.setCell]
  refine ⟨?_, T.foot.mono (fun b hb => by omega) z hzf, (put2_other (by omega)).trans hr, ⟨hb.os, hb.tape, hb.output, by rw [hS]; exact hb.size, fun k hk hc => (put2_other (by omega)).trans (hb.block k hk hc)⟩⟩
  rw [hS]
  exact T.In.move (Nat.le_refl _) (fun b _ hb => put2_other (by omega)) _ hzi hzf

theorem leafT_in {w : World} {B : Nat} (k : Int) (hk : I64 k) : (T.mk k none 0 []).In w B := by simp [T.In, T.InL, hk]

set_option maxRecDepth 100000 in
set_option maxHeartbeats 4000000 in
theorem type_tup (w : World) (R : Nat) (s : ByteArray) (p : Nat) (r : List UInt8) (hr : Reader w R s p) (hs : s.size ≤ 1000000) (h : s.data.toList.drop p = 40 :: r)
    (ih : ∀ w1 : World, Reader w1 R s (p + 1) → Calls Tryz.prog 124 #[.pointer (some ⟨R, 0, none⟩), .string ⟨#[44, 32]⟩, .string ⟨#[41]⟩, .func (.func 77) #[] #[]] w1 (OutLT [44, 32] 41 w1 R s (p + 1))) :
    Calls Tryz.prog 77 #[.pointer (some ⟨R, 0, none⟩)] w (OutT w R s p) := by
  obtain ⟨hr2, hp⟩ := drop_tail h
  have hRl := lt_of_block hr
  have hpre : Lib.hasPrefix (s.extract p s.size).data.toList (⟨#[40]⟩ : ByteArray).data.toList = true := by
    rw [rest_eq, pre_one, h]; rfl
  have HP9 := Lib.hid (fun (w1 : World) (h : Reader w1 R s p) => skip_yes w1 R s ⟨#[40]⟩ p h (by omega) hs (by decide) hpre)
  have HR := Lib.hid hr
  have HI := Lib.hid ih
  have HH := Lib.hid (show s.data.toList.drop p = 40 :: s.data.toList.drop (p + 1) by rw [h, hr2])
  clear hr hpre  h hr2 ih
  go_enter Tryz.func77, Tryz.ntmps77
  go_wp2_with fail
  refine (HP9.out _ (HR.out.kp (ka _ _))).mono ?_
  rintro e w1 ⟨rfl, hr1, hb1⟩
  have HB1 := Lib.hid hb1
  have hs1 := HB1.out.size
  simp at hs1
  have HR1 := Lib.hid (show Reader w1 R s (p + 1) from hr1)
  clear hr1 hb1
  go_wp2_with fail
  refine (HI.out _ HR1.out).mono ?_
  rintro e w2 (⟨ys, q, g, vs, hpl, hq1, hq2, hl8, rfl, hg, hgb, hsm, hvi, hvf, hr2, hb2⟩ | ⟨hpl, rfl, hb2⟩)
  rotate_left
  · refine ⟨rfl, .inr ⟨?_, rfl, (Bt.kp (c := R) (ka w (.cells #[.int .i64 0, .slice none 0 0] 27))).trans (HB1.out.trans hb2)⟩⟩
    have := PT.tuple hpl
    rw [← HH.out] at this
    exact this
  have hpv : PT (s.data.toList.drop p) (some (.mk 2 none 0 ys, s.data.toList.drop q)) := by
    have := PT.tuple hpl
    rw [← HH.out] at this
    exact this
  have hblk := boxAny hRl (HB1.out.trans hb2)
  obtain ⟨c0, c1, f0, f1⟩ := cell2 hblk
  have HBL := Lib.hid hblk
  have HPV := Lib.hid hpv
  have HB2 := Lib.hid ((Bt.kp (c := R) (ka w (.cells #[.int .i64 0, .slice none 0 0] 27))).trans (HB1.out.trans hb2))
  have HR2 := Lib.hid hr2
  have HG := Lib.hid hgb
  have HSM := Lib.hid hsm
  have HVI := Lib.hid hvi
  have HVF := Lib.hid (T.footL.mono (Q := fun b => w.heap.size + 1 ≤ b) (fun b hb => by omega) vs hvf)
  clear hpl hpv hblk hr2 hb2 hgb hsm hvi hvf
  go_wp2_with fail
  obtain ⟨e0, e1, -⟩ := cell2 (put2_block (v0 := .int .i64 2) (v1 := .slice (some ⟨g, 0, none⟩) ys.length ys.length) HBL.out)
  refine bodyPost_ret (v := .agg #[.int .i64 2, .slice (some ⟨g, 0, none⟩) ys.length ys.length]) (by simp [results, Tryz.results77, go_sem, e0, e1]) rfl ?_
  have hgs := lt_of_block HG.out
  have hlen : vs.length = ys.length := T.sameL_len HSM.out
  rw [← hlen]
  have hz : (T.mk 2 (some ⟨g, 0, none⟩) vs.length vs).In w2 w2.heap.size := by
    simp only [T.In]
    exact ⟨by unfold I64; omega, Nat.le_refl _, by unfold maxLen; omega, .inr ⟨g, 0, rfl, hgs, AtT.of_block HG.out rfl⟩, HVI.out⟩
  have hzf : (T.mk 2 (some ⟨g, 0, none⟩) vs.length vs).foot (fun b => w.heap.size + 1 ≤ b) := by
    simp only [T.foot]
    exact ⟨.inr ⟨g, 0, rfl, by omega⟩, HVF.out⟩
  obtain ⟨g1, g2, g3, g4⟩ := put2_fin (v0 := .int .i64 2) (v1 := .slice (some ⟨g, 0, none⟩) vs.length vs.length) hz hzf HR2.out HB2.out hRl
  exact .inl ⟨_, q, HPV.out, by omega, hq2, .mk 2 (some ⟨g, 0, none⟩) vs.length vs, rfl, g1, g2, T.same_node HSM.out, g3, g4⟩

set_option maxRecDepth 100000 in
set_option maxHeartbeats 4000000 in
theorem type_sum (w : World) (R : Nat) (s : ByteArray) (p : Nat) (r : List UInt8) (hr : Reader w R s p) (hs : s.size ≤ 1000000) (h : s.data.toList.drop p = 91 :: r)
    (ih : ∀ w1 : World, Reader w1 R s (p + 1) → Calls Tryz.prog 124 #[.pointer (some ⟨R, 0, none⟩), .string ⟨#[32, 43, 32]⟩, .string ⟨#[93]⟩, .func (.func 77) #[] #[]] w1 (OutLT [32, 43, 32] 93 w1 R s (p + 1))) :
    Calls Tryz.prog 77 #[.pointer (some ⟨R, 0, none⟩)] w (OutT w R s p) := by
  obtain ⟨hr2, hp⟩ := drop_tail h
  have hRl := lt_of_block hr
  have hpre0 : Lib.hasPrefix (s.extract p s.size).data.toList (⟨#[40]⟩ : ByteArray).data.toList = false := by
    rw [rest_eq, pre_one, h]; rfl
  have hpre : Lib.hasPrefix (s.extract p s.size).data.toList (⟨#[91]⟩ : ByteArray).data.toList = true := by
    rw [rest_eq, pre_one, h]; rfl
  have HP0 := Lib.hid (fun (w1 : World) (h : Reader w1 R s p) => skip_no w1 R s ⟨#[40]⟩ p h (by omega) hpre0)
  have HP9 := Lib.hid (fun (w1 : World) (h : Reader w1 R s p) => skip_yes w1 R s ⟨#[91]⟩ p h (by omega) hs (by decide) hpre)
  have HR := Lib.hid hr
  have HI := Lib.hid ih
  have HH := Lib.hid (show s.data.toList.drop p = 91 :: s.data.toList.drop (p + 1) by rw [h, hr2])
  clear hr hpre hpre0 h hr2 ih
  go_enter Tryz.func77, Tryz.ntmps77
  go_wp2_with fail
  refine (HP0.out _ (HR.out.kp (ka _ _))).mono ?_
  rintro e w0 ⟨rfl, hk0⟩
  have HK0 := Lib.hid hk0
  clear hk0
  go_wp2_with fail
  refine (HP9.out _ (HR.out.kp (kk (ka _ _) HK0.out))).mono ?_
  rintro e w1 ⟨rfl, hr1, hb1⟩
  have HB1 := Lib.hid ((Bt.kp (c := R) HK0.out).trans hb1)
  have hs1 := HB1.out.size
  simp at hs1
  have HR1 := Lib.hid (show Reader w1 R s (p + 1) from hr1)
  clear hr1 hb1
  go_wp2_with fail
  refine (HI.out _ HR1.out).mono ?_
  rintro e w2 (⟨ys, q, g, vs, hpl, hq1, hq2, hl8, rfl, hg, hgb, hsm, hvi, hvf, hr2, hb2⟩ | ⟨hpl, rfl, hb2⟩)
  rotate_left
  · refine ⟨rfl, .inr ⟨?_, rfl, (Bt.kp (c := R) (ka w (.cells #[.int .i64 0, .slice none 0 0] 27))).trans (HB1.out.trans hb2)⟩⟩
    have := PT.sum hpl
    rw [← HH.out] at this
    exact this
  have hpv : PT (s.data.toList.drop p) (some (.mk 3 none 0 ys, s.data.toList.drop q)) := by
    have := PT.sum hpl
    rw [← HH.out] at this
    exact this
  have hblk := boxAny hRl (HB1.out.trans hb2)
  obtain ⟨c0, c1, f0, f1⟩ := cell2 hblk
  have HBL := Lib.hid hblk
  have HPV := Lib.hid hpv
  have HB2 := Lib.hid ((Bt.kp (c := R) (ka w (.cells #[.int .i64 0, .slice none 0 0] 27))).trans (HB1.out.trans hb2))
  have HR2 := Lib.hid hr2
  have HG := Lib.hid hgb
  have HSM := Lib.hid hsm
  have HVI := Lib.hid hvi
  have HVF := Lib.hid (T.footL.mono (Q := fun b => w.heap.size + 1 ≤ b) (fun b hb => by omega) vs hvf)
  clear hpl hpv hblk hr2 hb2 hgb hsm hvi hvf
  go_wp2_with fail
  obtain ⟨e0, e1, -⟩ := cell2 (put2_block (v0 := .int .i64 3) (v1 := .slice (some ⟨g, 0, none⟩) ys.length ys.length) HBL.out)
  refine bodyPost_ret (v := .agg #[.int .i64 3, .slice (some ⟨g, 0, none⟩) ys.length ys.length]) (by simp [results, Tryz.results77, go_sem, e0, e1]) rfl ?_
  have hgs := lt_of_block HG.out
  have hlen : vs.length = ys.length := T.sameL_len HSM.out
  rw [← hlen]
  have hz : (T.mk 3 (some ⟨g, 0, none⟩) vs.length vs).In w2 w2.heap.size := by
    simp only [T.In]
    exact ⟨by unfold I64; omega, Nat.le_refl _, by unfold maxLen; omega, .inr ⟨g, 0, rfl, hgs, AtT.of_block HG.out rfl⟩, HVI.out⟩
  have hzf : (T.mk 3 (some ⟨g, 0, none⟩) vs.length vs).foot (fun b => w.heap.size + 1 ≤ b) := by
    simp only [T.foot]
    exact ⟨.inr ⟨g, 0, rfl, by omega⟩, HVF.out⟩
  obtain ⟨g1, g2, g3, g4⟩ := put2_fin (v0 := .int .i64 3) (v1 := .slice (some ⟨g, 0, none⟩) vs.length vs.length) hz hzf HR2.out HB2.out hRl
  exact .inl ⟨_, q, HPV.out, by omega, hq2, .mk 3 (some ⟨g, 0, none⟩) vs.length vs, rfl, g1, g2, T.same_node HSM.out, g3, g4⟩

theorem pre_no {s : ByteArray} {p : Nat} {c : UInt8} (h : (s.data.toList.drop p).head? ≠ some c) : Lib.hasPrefix (s.extract p s.size).data.toList (⟨#[c]⟩ : ByteArray).data.toList = false := by
  rw [rest_eq, pre_one]; simpa using h
theorem pre_not {s b : ByteArray} {p : Nat} (h : ¬ b.data.toList <+: s.data.toList.drop p) : Lib.hasPrefix (s.extract p s.size).data.toList b.data.toList = false := by
  rw [Bool.eq_false_iff, rest_eq]; exact fun e => h (pre_iff.1 e)
theorem pre_yes {s b : ByteArray} {p : Nat} (h : b.data.toList <+: s.data.toList.drop p) : Lib.hasPrefix (s.extract p s.size).data.toList b.data.toList = true := by
  rw [rest_eq]; exact pre_iff.2 h
theorem pre_split {s b : ByteArray} {p : Nat} (h : b.data.toList <+: s.data.toList.drop p) : s.data.toList.drop p = b.data.toList ++ s.data.toList.drop (p + b.size) ∧ (0 < b.size → p + b.size ≤ s.size) := by
  obtain ⟨r, hr⟩ := h
  have hbl : b.data.toList.length = b.size := rfl
  have hrr := congrArg (List.drop b.size) hr
  rw [List.drop_drop, ← hbl, List.drop_left] at hrr
  refine ⟨by rw [← hbl, ← hrr, hr], fun hb => ?_⟩
  have := congrArg List.length hr
  rw [List.length_append, List.length_drop, hbl] at this
  have e : s.data.toList.length = s.size := rfl
  omega

set_option maxRecDepth 100000 in
set_option maxHeartbeats 4000000 in
theorem type_text (w : World) (R : Nat) (s : ByteArray) (p : Nat) (hr : Reader w R s p) (hp : p ≤ s.size) (hs : s.size ≤ 1000000) (n40 : (s.data.toList.drop p).head? ≠ some 40) (n91 : (s.data.toList.drop p).head? ≠ some 91) (h : (⟨#[116, 101, 120, 116]⟩ : ByteArray).data.toList <+: s.data.toList.drop p) :
    Calls Tryz.prog 77 #[.pointer (some ⟨R, 0, none⟩)] w (OutT w R s p) := by
  have hRl := lt_of_block hr
  obtain ⟨hsp, hle⟩ := pre_split h
  have hle := hle (by decide)
  have hz : (⟨#[116, 101, 120, 116]⟩ : ByteArray).size = 4 := rfl
  rw [hz] at hsp hle
  have hpt : PT (s.data.toList.drop p) (some (.mk 1 none 0 [], s.data.toList.drop (p + 4))) := by
    have := @PT.text (s.data.toList.drop (p + 4))
    rw [hsp]; exact this
  have HP0 := Lib.hid (fun (w1 : World) (h : Reader w1 R s p) => skip_no w1 R s ⟨#[40]⟩ p h hp (pre_no n40))
  have HP1 := Lib.hid (fun (w1 : World) (h : Reader w1 R s p) => skip_no w1 R s ⟨#[91]⟩ p h hp (pre_no n91))
  have HP2 := Lib.hid (fun (w1 : World) (hq : Reader w1 R s p) => skip_yes w1 R s ⟨#[116, 101, 120, 116]⟩ p hq hp hs (by decide) (pre_yes h))
  have HR := Lib.hid hr
  have HPT := Lib.hid hpt
  clear hr h hsp hpt n40 n91
  go_enter Tryz.func77, Tryz.ntmps77
  go_wp2_with fail
  refine (HP0.out _ (HR.out.kp (ka _ _))).mono ?_
  rintro e w0 ⟨rfl, hk0⟩
  have HK0 := Lib.hid hk0
  clear hk0
  go_wp2_with fail
  refine (HP1.out _ (HR.out.kp (kk (ka _ _) HK0.out))).mono ?_
  rintro e w0' ⟨rfl, hk0⟩
  have HK1 := Lib.hid (kk HK0.out hk0)
  clear hk0
  go_wp2_with fail
  refine (HP2.out _ (HR.out.kp (kk (ka _ _) HK1.out))).mono ?_
  rintro e w1 ⟨rfl, hr1, hb1⟩
  rw [hz] at hr1
  have HB1 := Lib.hid ((Bt.kp (c := R) HK1.out).trans hb1)
  have hblk := boxAny hRl HB1.out
  obtain ⟨c0, c1, f0, f1⟩ := cell2 hblk
  have HBL := Lib.hid hblk
  have HR1 := Lib.hid hr1
  have HB2 := Lib.hid ((Bt.kp (c := R) (ka w (.cells #[.int .i64 0, .slice none 0 0] 27))).trans HB1.out)
  clear hr1 hb1 hblk
  go_wp2_with fail
  obtain ⟨e0, e1, -⟩ := cell2 (put2_block (v0 := .int .i64 1) (v1 := .slice none 0 0) HBL.out)
  refine bodyPost_ret (v := .agg #[.int .i64 1, .slice none 0 0]) (by simp [results, Tryz.results77, go_sem, e0, e1]) rfl ?_
  obtain ⟨g1, g2, g3, g4⟩ := put2_fin (z := .mk 1 none 0 []) (v0 := .int .i64 1) (v1 := .slice none 0 0) (leafT_in 1 (by unfold I64; omega)) (T.foot_leaf _ _ _) HR1.out HB2.out hRl
  exact .inl ⟨_, p + 4, HPT.out, by omega, hle, .mk 1 none 0 [], rfl, g1, g2, T.same_refl _, g3, g4⟩

set_option maxRecDepth 100000 in
set_option maxHeartbeats 4000000 in
theorem type_int (w : World) (R : Nat) (s : ByteArray) (p : Nat) (hr : Reader w R s p) (hp : p ≤ s.size) (hs : s.size ≤ 1000000) (n40 : (s.data.toList.drop p).head? ≠ some 40) (n91 : (s.data.toList.drop p).head? ≠ some 91) (hn : ¬ (⟨#[116, 101, 120, 116]⟩ : ByteArray).data.toList <+: s.data.toList.drop p) :
    Calls Tryz.prog 77 #[.pointer (some ⟨R, 0, none⟩)] w (OutT w R s p) := by
  have hRl := lt_of_block hr
  have HP0 := Lib.hid (fun (w1 : World) (h : Reader w1 R s p) => skip_no w1 R s ⟨#[40]⟩ p h hp (pre_no n40))
  have HP1 := Lib.hid (fun (w1 : World) (h : Reader w1 R s p) => skip_no w1 R s ⟨#[91]⟩ p h hp (pre_no n91))
  have HP2 := Lib.hid (fun (w1 : World) (hq : Reader w1 R s p) => skip_no w1 R s ⟨#[116, 101, 120, 116]⟩ p hq hp (pre_not hn))
  have HR := Lib.hid hr
  by_cases h : (⟨#[105, 110, 116]⟩ : ByteArray).data.toList <+: s.data.toList.drop p
  · obtain ⟨hsp, hle⟩ := pre_split h
    have hle := hle (by decide)
    have hz : (⟨#[105, 110, 116]⟩ : ByteArray).size = 3 := rfl
    rw [hz] at hsp hle
    have hpt : PT (s.data.toList.drop p) (some (.mk 0 none 0 [], s.data.toList.drop (p + 3))) := by
      have := @PT.int (s.data.toList.drop (p + 3))
      rw [hsp]; exact this
    have HP3 := Lib.hid (fun (w1 : World) (hq : Reader w1 R s p) => expect_yes w1 R s ⟨#[105, 110, 116]⟩ p hq hp hs (by decide) (pre_yes h))
    have HPT := Lib.hid hpt
    clear hr h hsp hpt n40 n91 hn
    go_enter Tryz.func77, Tryz.ntmps77
    go_wp2_with fail
    refine (HP0.out _ (HR.out.kp (ka _ _))).mono ?_
    rintro e w0 ⟨rfl, hk0⟩
    have HK0 := Lib.hid hk0
    clear hk0
    go_wp2_with fail
    refine (HP1.out _ (HR.out.kp (kk (ka _ _) HK0.out))).mono ?_
    rintro e w0' ⟨rfl, hk0⟩
    have HK1 := Lib.hid (kk HK0.out hk0)
    clear hk0
    go_wp2_with fail
    refine (HP2.out _ (HR.out.kp (kk (ka _ _) HK1.out))).mono ?_
    rintro e w0'' ⟨rfl, hk0⟩
    have HK2 := Lib.hid (kk HK1.out hk0)
    clear hk0
    go_wp2_with fail
    refine (HP3.out _ (HR.out.kp (kk (ka _ _) HK2.out))).mono ?_
    rintro e w1 ⟨rfl, hr1, hb1⟩
    rw [hz] at hr1
    have HB1 := Lib.hid ((Bt.kp (c := R) HK2.out).trans hb1)
    have hblk := boxAny hRl HB1.out
    obtain ⟨c0, c1, f0, f1⟩ := cell2 hblk
    have HBL := Lib.hid hblk
    have HR1 := Lib.hid hr1
    have HB2 := Lib.hid ((Bt.kp (c := R) (ka w (.cells #[.int .i64 0, .slice none 0 0] 27))).trans HB1.out)
    clear hr1 hb1 hblk
    go_wp2_with fail
    obtain ⟨e0, e1, -⟩ := cell2 (put2_block (v0 := .int .i64 0) (v1 := .slice none 0 0) HBL.out)
    refine bodyPost_ret (v := .agg #[.int .i64 0, .slice none 0 0]) (by simp [results, Tryz.results77, go_sem, e0, e1]) rfl ?_
    obtain ⟨g1, g2, g3, g4⟩ := put2_fin (z := .mk 0 none 0 []) (v0 := .int .i64 0) (v1 := .slice none 0 0) (leafT_in 0 (by unfold I64; omega)) (T.foot_leaf _ _ _) HR1.out HB2.out hRl
    exact .inl ⟨_, p + 3, HPT.out, by omega, hle, .mk 0 none 0 [], rfl, g1, g2, T.same_refl _, g3, g4⟩
  · have HP3 := Lib.hid (fun (w1 : World) (hq : Reader w1 R s p) => expect_no w1 R s ⟨#[105, 110, 116]⟩ p hq hp (pre_not h))
    have HPT := Lib.hid (PT.bad n40 n91 hn h)
    clear hr h n40 n91 hn
    go_enter Tryz.func77, Tryz.ntmps77
    go_wp2_with fail
    refine (HP0.out _ (HR.out.kp (ka _ _))).mono ?_
    rintro e w0 ⟨rfl, hk0⟩
    have HK0 := Lib.hid hk0
    clear hk0
    go_wp2_with fail
    refine (HP1.out _ (HR.out.kp (kk (ka _ _) HK0.out))).mono ?_
    rintro e w0' ⟨rfl, hk0⟩
    have HK1 := Lib.hid (kk HK0.out hk0)
    clear hk0
    go_wp2_with fail
    refine (HP2.out _ (HR.out.kp (kk (ka _ _) HK1.out))).mono ?_
    rintro e w0'' ⟨rfl, hk0⟩
    have HK2 := Lib.hid (kk HK1.out hk0)
    clear hk0
    go_wp2_with fail
    refine (HP3.out _ (HR.out.kp (kk (ka _ _) HK2.out))).mono ?_
    rintro e w1 ⟨rfl, hk1⟩
    exact ⟨rfl, .inr ⟨HPT.out, rfl, .kp (kk (ka _ _) (kk HK2.out hk1))⟩⟩

theorem type_any : ∀ (N : Nat) (w : World) (R : Nat) (s : ByteArray) (p : Nat), s.size - p ≤ N → Reader w R s p → p ≤ s.size → s.size ≤ 1000000 →
    Calls Tryz.prog 77 #[.pointer (some ⟨R, 0, none⟩)] w (OutT w R s p) := by
  intro N
  induction N using Nat.strongRecOn with
  | ind N IH =>
    intro w R s p hN hr hp hs
    have ih : ∀ (q : Nat) (w1 : World), p < q → q ≤ s.size → Reader w1 R s q → Calls Tryz.prog 77 #[.pointer (some ⟨R, 0, none⟩)] w1 (OutT w1 R s q) := fun q w1 h1 h2 h3 =>
      IH (s.size - q) (by omega) w1 R s q (Nat.le_refl _) h3 h2 hs
    by_cases n40 : (s.data.toList.drop p).head? = some 40
    · obtain ⟨r, h⟩ := head_yes n40
      have hlt := (drop_tail h).2
      exact type_tup w R s p r hr hs h fun w1 h1 => listT_any w1 R s (p + 1) h1 (by omega) hs ⟨#[44, 32]⟩ 41 (by decide) fun q w2 g1 g2 g3 => ih q w2 (by omega) g2 g3
    by_cases n91 : (s.data.toList.drop p).head? = some 91
    · obtain ⟨r, h⟩ := head_yes n91
      have hlt := (drop_tail h).2
      exact type_sum w R s p r hr hs h fun w1 h1 => listT_any w1 R s (p + 1) h1 (by omega) hs ⟨#[32, 43, 32]⟩ 93 (by decide) fun q w2 g1 g2 g3 => ih q w2 (by omega) g2 g3
    by_cases ht : (⟨#[116, 101, 120, 116]⟩ : ByteArray).data.toList <+: s.data.toList.drop p
    · exact type_text w R s p hr hp hs n40 n91 ht
    · exact type_int w R s p hr hp hs n40 n91 ht

end Go.Proofs.YtkfmgafgokpjhaaGreatDoor

/-
  read OF A TYPE, whatever the reading tells; TypeParse OF ANY TEXT.
-/
namespace Go.Proofs.YtkfmgafgokpjhaaGreatDoor
open Go.RowKit

set_option maxHeartbeats 1000000 in
theorem catchT_panicking (p q : Nat) (u : TypeId) (pv : Value) (older : List PanicEntry) (w : World) (c0 c1 c4 : Value) (h0 : w.heap[p]? = some (.cells #[c0, c1] 27 (0, 0))) (h1 : w.heap[q]? = some (.cells #[c4] 28 (0, 0))) (hne : p ≠ q) :
    CallsD Tryz.prog 123 #[.pointer (some ⟨p, 0, none⟩), .pointer (some ⟨q, 0, none⟩)] (.panicking ({ v := .iface u pv, recovered := false } :: older)) w fun e u' w' =>
      e = .returned (.tuple #[]) ∧ u' = .panicking ({ v := .iface u pv, recovered := true } :: older) ∧ w'.heap[p]? = some (.cells #[.int .i64 0, .slice none 0 0] 27 (0, 0)) ∧ w'.heap[q]? = some (.cells #[.int .i64 8] 28 (0, 0)) ∧
        (∀ k, k < w.heap.size → k ≠ p → k ≠ q → w'.heap[k]? = w.heap[k]?) ∧ w'.os = w.os ∧ w'.tape = w.tape ∧ w'.output = w.output ∧ w.heap.size ≤ w'.heap.size := by
  refine callsD_of_wpS Tryz.func123 rfl fun c₀ cs hu => ?_
  have p0 := cellOf (i := 0) h0 rfl
  have p1 := cellOf (i := 1) h0 rfl
  have r0 := freeOf (i := 0) h0
  have r1 := freeOf (i := 1) h0
  have q0 := cellOf (i := 0) h1 rfl
  have q1 := freeOf (i := 0) h1
  have hp : p < w.heap.size := lt_of_block h0
  have hq : q < w.heap.size := lt_of_block h1
  have H0 := Lib.hid h0
  have H1 := Lib.hid h1
  clear h0 h1
  apply wpS_seq
  apply wpS_region
  simp [wpOpsS, go_sem, recoverD, hu, Tryz.ntmps123, Exit.thenS]
  refine wpS_cond (t := true) (by simp [Act.eval, Array.replicate]) ?_
  simp only [if_true]
  refine wpS_of_wp ?_
  go_wp2
  have hB := heap_set (i := 0) (u := .int .i64 8) ((put2_other (v0 := .int .i64 0) (v1 := .slice none 0 0) (Ne.symm hne)).trans H1.out)
  have hA := put2_block (v0 := .int .i64 0) (v1 := .slice none 0 0) H0.out
  refine bodyPostS_none (u' := .panicking ({ v := .iface u pv, recovered := true } :: older)) rfl rfl ?_
  refine ⟨rfl, rfl, ?_, ?_, ?_, by simp [World.setCell, World.alloc], by simp [World.setCell, World.alloc], by simp [World.setCell, World.alloc], ?_⟩
  · exact (Below.heap_alloc _ _ _ (by simpa [World.setCell] using hp)).trans ((Below.heap_setCell _ _ _ _ hne).trans hA)
  · exact (Below.heap_alloc _ _ _ (by simpa [World.setCell] using hq)).trans hB
  · intro k hk hkp hkq
    exact (Below.heap_alloc _ _ _ (by simpa [World.setCell] using hk)).trans ((Below.heap_setCell _ _ _ _ hkq).trans (put2_other hkp))
  · simp [World.setCell]

theorem catchT_idle (p q : Nat) (w : World) :
    CallsD Tryz.prog 123 #[.pointer (some ⟨p, 0, none⟩), .pointer (some ⟨q, 0, none⟩)] .returning w fun e u' w' => e = .returned (.tuple #[]) ∧ u' = .returning ∧ w' = w := by
  refine callsD_of_wpS Tryz.func123 rfl fun c₀ cs hu => ?_
  apply wpS_seq
  apply wpS_region
  simp [wpOpsS, go_sem, recoverD, hu, Tryz.ntmps123, Exit.thenS]
  refine wpS_cond (t := false) (by simp [Act.eval, Array.replicate]) ?_
  simp only [Bool.false_eq_true, if_false]
  refine wpS_of_wp (wp_skip ?_)
  cases c₀
  simp_all [bodyPostS, results, Tryz.results123]

/-- read's own world as its reader begins: both results and the reader. -/
abbrev readWT (w : World) (s : ByteArray) : World := ((w.alloc (.cells #[.int .i64 0, .slice none 0 0] 27)).alloc (.cells #[.int .i64 0] 28)).alloc (.cells #[.string s, .int .i64 0] 129)
theorem readWT_kp (w : World) (s : ByteArray) : Kp w (readWT w s) := (((Below.refl _ _).alloc (Nat.le_refl _) _).alloc (by simp) _).alloc (by simp; omega) _
theorem readWT_reader (w : World) (s : ByteArray) : Reader (readWT w s) (w.heap.size + 2) s 0 := blockHere (by simp)

/-- What is returned: a type in new memory that is the same as y, and OK. -/
def GetsT (w : World) (y : T) (e : Ending) (w' : World) : Prop :=
  ∃ x : T, e = .returned (.tuple #[x.val, .int .i64 0]) ∧ x.In w' w'.heap.size ∧ x.foot (fun b => w.heap.size ≤ b) ∧ x.same y = true ∧ Kp w w'

/-- Type of any type. -/
theorem typeOk (x : T) (w : World) (hin : x.In w w.heap.size) :
    Calls Tryz.prog 17 #[x.val] w fun e w' => e = .returned (.int .i64 (if x.valid then 0 else 1)) ∧ Kp w w' := by
  cases x with
  | mk k a c l =>
  have := typeV k a c l w hin
  rwa [badT_valid] at this

mutual
theorem T.same_sh : ∀ (x y : T) (d : Nat), x.same y = true → x.sh d = y.sh d
  | .mk k a c l, .mk k' a' c' l', d, h => by
    simp [T.same] at h
    obtain ⟨rfl, h2⟩ := h
    cases d with
    | zero => simp [T.sh]
    | succ d => simp [T.sh, T.sameL_len h2, T.same_shL l l' d h2]
theorem T.same_shL : ∀ (l m : List T) (d : Nat), T.sameL l m = true → T.shL l d = T.shL m d
  | [], [], _, _ => rfl
  | [], _ :: _, _, h => by simp [T.sameL] at h
  | _ :: _, [], _, h => by simp [T.sameL] at h
  | x :: xs, y :: ys, d, h => by
    simp [T.sameL] at h
    simp [T.shL, T.same_sh x y d h.1, T.same_shL xs ys d h.2]
end
mutual
theorem T.same_rank : ∀ (x y : T), x.same y = true → x.rank = y.rank
  | .mk k a c l, .mk k' a' c' l', h => by
    simp [T.same] at h
    simp [T.rank, T.same_ranks l l' h.2]
theorem T.same_ranks : ∀ (l m : List T), T.sameL l m = true → T.rank.ranks l = T.rank.ranks m
  | [], [], _ => rfl
  | [], _ :: _, h => by simp [T.sameL] at h
  | _ :: _, [], h => by simp [T.sameL] at h
  | x :: xs, y :: ys, h => by
    simp [T.sameL] at h
    simp [T.rank.ranks, T.same_rank x y h.1, T.same_ranks xs ys h.2]
end
theorem T.same_valid {x y : T} (h : x.same y = true) : x.valid = y.valid := by
  unfold T.valid
  rw [T.same_sh x y 6 h, T.same_rank x y h]

set_option maxRecDepth 100000 in
set_option maxHeartbeats 8000000 in
theorem readT_any (w : World) (s : ByteArray) (A : T → Nat → Prop) (B : Prop) (hM : (s.size : Int) ≤ 1000)
    (hF : Calls Tryz.prog 77 #[.pointer (some ⟨w.heap.size + 2, 0, none⟩)] (readWT w s) fun e w' => (∃ y q, A y q ∧ q ≤ s.size ∧ ReadsT (readWT w s) (w.heap.size + 2) s q y e w') ∨ (B ∧ e = .panicked formP ∧ Bt (w.heap.size + 2) (readWT w s) w')) :
    Calls Tryz.prog 76 #[.string s, .int .i64 1000, .func (.func 77) #[] #[], .func (.func 17) #[] #[]] w fun e w' =>
      (∃ y, A y s.size ∧ y.valid = true ∧ GetsT w y e w') ∨ (((∃ y q, A y q ∧ (q = s.size → y.valid = false)) ∨ B) ∧ e = .returned (.tuple #[.agg #[.int .i64 0, .slice none 0 0], .int .i64 8]) ∧ Kp w w') := by
  have HF := Lib.hid hF
  clear hF
  have hmf : ∀ (fn : Fn) (first cap : Array Value) (w : World), (Instr.makeFunc fn first cap).run Tryz.prog w = .ok (.func fn first cap) w := fun _ _ _ _ => rfl
  go_enter_defers Tryz.func76, Tryz.ntmps76
  go_wp2_with fail
  refine HF.out.mono ?_
  rintro e w1 (⟨y, q, hA, hq, x, rfl, hxi, hxf, hxs, hr1, hb1⟩ | ⟨hB, rfl, hb1⟩)
  rotate_left
  · have x0 : w1.heap[w.heap.size]? = some (.cells #[.int .i64 0, .slice none 0 0] 27 (0, 0)) := (hb1.block _ (by simp; omega) (by omega)).trans ((Below.heap_alloc _ _ _ (by simp; omega)).trans ((Below.heap_alloc _ _ _ (by simp)).trans (blockHere rfl)))
    have x1 : w1.heap[w.heap.size + 1]? = some (.cells #[.int .i64 0] 28 (0, 0)) := (hb1.block _ (by simp) (by omega)).trans ((Below.heap_alloc _ _ _ (by simp)).trans (blockHere (by simp)))
    have K1 : Kp w w1 := ⟨hb1.os, hb1.tape, hb1.output, by have := hb1.size; simp at this; omega, fun k hk => (hb1.block k (by simp; omega) (by omega)).trans ((readWT_kp w s).block k hk)⟩
    refine leaves_cons (f := 123) (args := #[.pointer (some ⟨w.heap.size, 0, none⟩), .pointer (some ⟨w.heap.size + 1, 0, none⟩)]) (by simp) (by simp [go_sem]) ?_
    refine (catchT_panicking w.heap.size (w.heap.size + 1) 28 (.int .i64 8) [] _ _ _ _ x0 x1 (by omega)).mono ?_
    rintro e u' w'' ⟨rfl, rfl, m0, m1, ho, h1, h2, h3, h4⟩
    obtain ⟨a0, a1, -⟩ := cell2 m0
    have b0 := cellOf (i := 0) m1 rfl
    exact ⟨.tuple #[.agg #[.int .i64 0, .slice none 0 0], .int .i64 8], by simp [results, Tryz.results76, go_sem, a0, a1, b0], .inr ⟨.inr hB, rfl, h1.trans K1.os, h2.trans K1.tape, h3.trans K1.output, Nat.le_trans K1.size h4, fun k hk => (ho k (Nat.lt_of_lt_of_le hk K1.size) (by omega) (by omega)).trans (K1.block k hk)⟩⟩

  have x0 : w1.heap[w.heap.size]? = some (.cells #[.int .i64 0, .slice none 0 0] 27 (0, 0)) := (hb1.block _ (by simp; omega) (by omega)).trans ((Below.heap_alloc _ _ _ (by simp; omega)).trans ((Below.heap_alloc _ _ _ (by simp)).trans (blockHere rfl)))
  have x1 : w1.heap[w.heap.size + 1]? = some (.cells #[.int .i64 0] 28 (0, 0)) := (hb1.block _ (by simp) (by omega)).trans ((Below.heap_alloc _ _ _ (by simp)).trans (blockHere (by simp)))
  have hxf2 : x.foot (fun b => w.heap.size + 2 ≤ b) := T.foot.mono (fun b hb => by simp at hb; omega) _ hxf
  obtain ⟨c0, c1, f0, f1⟩ := cell2 x0
  have K1 : Kp w w1 := ⟨hb1.os, hb1.tape, hb1.output, by have := hb1.size; simp at this; omega, fun k hk => (hb1.block k (by simp; omega) (by omega)).trans ((readWT_kp w s).block k hk)⟩
  have HK1 := Lib.hid K1
  have HX := Lib.hid hxi
  have HXF := Lib.hid hxf2
  have HXS := Lib.hid hxs
  have X0 := Lib.hid x0
  have X1 := Lib.hid x1
  have HAA := Lib.hid hA
  have r0 := hr1.c0
  have r1 := hr1.c1
  clear K1 hxi hxf hxf2 hxs hr1 x0 x1 hb1 hA
  have C := fun (w1 : World) hin => typeOk x w1 hin
  have hval := T.same_valid HXS.out
  rw [hval] at C
  cases x with
  | mk k a cap l =>
  simp only [T.val_mk] at C ⊢
  have HC2 := Lib.hid C
  clear C hval
  by_cases hlt : q < s.size
  · have g1 : (q : Int) < (s.size : Int) := by omega
    have g2 : decide ((q : Int) < (s.size : Int)) = true := by simpa using g1
    go_wp2_with fail
    refine (refuse_any _).mono ?_
    rintro e w2 ⟨rfl, rfl⟩
    have x0 := put2_block (v0 := .int .i64 k) (v1 := .slice a l.length cap) X0.out
    have x1 := (put2_other (w := w1) (b := w.heap.size) (v0 := .int .i64 k) (v1 := .slice a l.length cap) (by omega : w.heap.size + 1 ≠ w.heap.size)).trans X1.out
    have K1 := put2_kp (b := w.heap.size) (v0 := .int .i64 k) (v1 := .slice a l.length cap) HK1.out (Nat.le_refl _)
    refine leaves_cons (f := 123) (args := #[.pointer (some ⟨w.heap.size, 0, none⟩), .pointer (some ⟨w.heap.size + 1, 0, none⟩)]) (by simp) (by simp [go_sem]) ?_
    refine (catchT_panicking w.heap.size (w.heap.size + 1) 28 (.int .i64 8) [] _ _ _ _ x0 x1 (by omega)).mono ?_
    rintro e u' w'' ⟨rfl, rfl, m0, m1, ho, h1, h2, h3, h4⟩
    obtain ⟨a0, a1, -⟩ := cell2 m0
    have b0 := cellOf (i := 0) m1 rfl
    exact ⟨.tuple #[.agg #[.int .i64 0, .slice none 0 0], .int .i64 8], by simp [results, Tryz.results76, go_sem, a0, a1, b0], .inr ⟨.inl ⟨y, q, HAA.out, fun h => by omega⟩, rfl, h1.trans K1.os, h2.trans K1.tape, h3.trans K1.output, Nat.le_trans K1.size h4, fun k hk => (ho k (Nat.lt_of_lt_of_le hk K1.size) (by omega) (by omega)).trans (K1.block k hk)⟩⟩
  · obtain rfl : q = s.size := by omega
    have g2 : decide ((s.size : Int) < (s.size : Int)) = false := by simp
    go_wp2_with fail
    have hS : (put2 w1 w.heap.size (.int .i64 k) (.slice a l.length cap)).heap.size = w1.heap.size := by simp [World.setCell]
    have hin2 : (T.mk k a cap l).In (put2 w1 w.heap.size (.int .i64 k) (.slice a l.length cap)) w1.heap.size := T.In.move (Nat.le_refl _) (fun b _ hb => put2_other (by omega)) _ HX.out HXF.out
    have hin3 : (T.mk k a cap l).In (put2 w1 w.heap.size (.int .i64 k) (.slice a l.length cap)) (put2 w1 w.heap.size (.int .i64 k) (.slice a l.length cap)).heap.size := by rw [hS]; exact hin2
    refine (HC2.out _ hin3).mono ?_
    rintro e w2 ⟨rfl, hk2⟩
    have y0 : w2.heap[w.heap.size]? = some (.cells #[.int .i64 k, .slice a l.length cap] 27 (0, 0)) := (hk2.block _ (by have := lt_of_block X0.out; simpa [World.setCell] using this)).trans (put2_block X0.out)
    have y1 : w2.heap[w.heap.size + 1]? = some (.cells #[.int .i64 0] 28 (0, 0)) := (hk2.block _ (by have := lt_of_block X1.out; simpa [World.setCell] using this)).trans ((put2_other (by omega)).trans X1.out)
    have K2 := kk (put2_kp (b := w.heap.size) (v0 := .int .i64 k) (v1 := .slice a l.length cap) HK1.out (Nat.le_refl _)) hk2
    have q2 : (T.mk k a cap l).In w2 w2.heap.size := hin3.keep hk2.size hk2
    clear c0 c1 f0 f1
    obtain ⟨e0, e1, g0, g1⟩ := cell2 y0
    have z0 := cellOf (i := 0) y1 rfl
    have z1 := freeOf (i := 0) y1
    have HY0 := Lib.hid y0
    have HY1 := Lib.hid y1
    have HK2 := Lib.hid K2
    have HQ2 := Lib.hid q2
    clear K2 q2 y0 y1 hk2 hin2 hin3
    by_cases hv : y.valid = true
    · rw [if_pos hv]
      go_wp2_with fail
      refine leaves_cons (f := 123) (args := #[.pointer (some ⟨w.heap.size, 0, none⟩), .pointer (some ⟨w.heap.size + 1, 0, none⟩)]) (by simp) (by simp [go_sem]) ?_
      refine (catchT_idle w.heap.size (w.heap.size + 1) _).mono ?_
      rintro e u' w'' ⟨rfl, rfl, rfl⟩
      have m0 := (Below.heap_setCell _ ⟨w.heap.size + 1, 0, none⟩ (Value.int .i64 0) w.heap.size (by simp)).trans (put2_block (v0 := .int .i64 k) (v1 := .slice a l.length cap) HY0.out)
      have m1 := heap_set (i := 0) (u := Value.int .i64 0) ((put2_other (v0 := .int .i64 k) (v1 := .slice a l.length cap) (by omega : w.heap.size + 1 ≠ w.heap.size)).trans HY1.out)
      obtain ⟨a0, a1, -⟩ := cell2 m0
      have b0 := cellOf (i := 0) m1 rfl
      have kz : Kp w ((put2 w2 w.heap.size (.int .i64 k) (.slice a l.length cap)).setCell ⟨w.heap.size + 1, 0, none⟩ (.int .i64 0)) := put1_kp (put2_kp HK2.out (Nat.le_refl _)) (by simp)
      refine ⟨.tuple #[.agg #[.int .i64 k, .slice a l.length cap], .int .i64 0], by simp [results, Tryz.results76, go_sem, a0, a1, b0], .inl ⟨y, HAA.out, hv, .mk k a cap l, rfl, ?_, T.foot.mono (fun b hb => by omega) _ HXF.out, HXS.out, kz⟩⟩
      have hZ : ((put2 w2 w.heap.size (.int .i64 k) (.slice a l.length cap)).setCell ⟨w.heap.size + 1, 0, none⟩ (.int .i64 0)).heap.size = w2.heap.size := by simp [World.setCell]
      rw [hZ]
      exact T.In.move (Nat.le_refl _) (fun b _ hb => (Below.heap_setCell _ _ _ _ (by simp; omega)).trans (put2_other (by omega))) _ HQ2.out HXF.out
    · have hv' : y.valid = false := by simpa using hv
      rw [if_neg hv]
      go_wp2_with fail
      refine (refuse_any _).mono ?_
      rintro e w3 ⟨rfl, rfl⟩
      have x0 := HY0.out
      have x1 := HY1.out
      have K1 := HK2.out
      refine leaves_cons (f := 123) (args := #[.pointer (some ⟨w.heap.size, 0, none⟩), .pointer (some ⟨w.heap.size + 1, 0, none⟩)]) (by simp) (by simp [go_sem]) ?_
      refine (catchT_panicking w.heap.size (w.heap.size + 1) 28 (.int .i64 8) [] _ _ _ _ x0 x1 (by omega)).mono ?_
      rintro e u' w'' ⟨rfl, rfl, m0, m1, ho, h1, h2, h3, h4⟩
      obtain ⟨a0, a1, -⟩ := cell2 m0
      have b0 := cellOf (i := 0) m1 rfl
      exact ⟨.tuple #[.agg #[.int .i64 0, .slice none 0 0], .int .i64 8], by simp [results, Tryz.results76, go_sem, a0, a1, b0], .inr ⟨.inl ⟨y, s.size, HAA.out, fun _ => hv'⟩, rfl, h1.trans K1.os, h2.trans K1.tape, h3.trans K1.output, Nat.le_trans K1.size h4, fun k hk => (ho k (Nat.lt_of_lt_of_le hk K1.size) (by omega) (by omega)).trans (K1.block k hk)⟩⟩

set_option maxHeartbeats 4000000 in
/-- What hands on what read returns. -/
theorem typeParse_hands (w : World) (s : ByteArray) (Y : T → Prop) (N : Prop)
    (hR : ∀ w1 : World, Kp w w1 → Calls Tryz.prog 76 #[.string s, .int .i64 1000, .func (.func 77) #[] #[], .func (.func 17) #[] #[]] w1 fun e w' => (∃ y, Y y ∧ GetsT w1 y e w') ∨ (N ∧ e = .returned (.tuple #[.agg #[.int .i64 0, .slice none 0 0], .int .i64 8]) ∧ Kp w1 w')) :
    Calls Tryz.prog 33 #[.string s] w fun e w' => (∃ y, Y y ∧ GetsT w y e w') ∨ (N ∧ e = .returned (.tuple #[.agg #[.int .i64 0, .slice none 0 0], .int .i64 8]) ∧ Kp w w') := by
  have HC := Lib.hid hR
  clear hR
  go_enter Tryz.func33, Tryz.ntmps33
  go_wp2_with fail
  refine (HC.out _ (ka _ _)).mono ?_
  rintro e w1 (⟨y, hY, x, rfl, hxi, hxf, hxs, hk⟩ | ⟨hN, rfl, hk⟩)
  · have hblk := boxK hk
    have hxf2 : x.foot (fun b => w.heap.size + 1 ≤ b) := T.foot.mono (fun b hb => by simp at hb; omega) _ hxf
    have HK := Lib.hid (kk (ka _ _) hk)
    obtain ⟨c0, c1, f0, f1⟩ := cell2 hblk
    have HBL := Lib.hid hblk
    have HX := Lib.hid hxi
    have HXF := Lib.hid hxf2
    have HXS := Lib.hid hxs
    clear hk hblk hxi hxf hxf2 hxs
    cases x with
    | mk k a cap l =>
    simp only [T.val_mk]
    go_wp2_with fail
    obtain ⟨d0, d1, -⟩ := cell2 (put2_block (v0 := .int .i64 k) (v1 := .slice a l.length cap) HBL.out)
    have hS : (put2 w1 w.heap.size (.int .i64 k) (.slice a l.length cap)).heap.size = w1.heap.size := by simp [World.setCell]
    refine bodyPost_ret (v := .tuple #[.agg #[.int .i64 k, .slice a l.length cap], .int .i64 0]) (by simp [results, Tryz.results33, go_sem, d0, d1]) rfl ?_
    exact .inl ⟨y, hY, .mk k a cap l, rfl, by rw [hS]; exact T.In.move (Nat.le_refl _) (fun b _ hb => put2_other (by omega)) _ HX.out HXF.out, T.foot.mono (fun b hb => by omega) _ HXF.out, HXS.out, put2_kp HK.out (Nat.le_refl _)⟩
  · have hblk := boxK hk
    have HK := Lib.hid (kk (ka _ _) hk)
    obtain ⟨c0, c1, f0, f1⟩ := cell2 hblk
    have HBL := Lib.hid hblk
    clear hk hblk
    go_wp2_with fail
    obtain ⟨d0, d1, -⟩ := cell2 (put2_block (v0 := .int .i64 0) (v1 := .slice none 0 0) HBL.out)
    refine bodyPost_ret (v := .tuple #[.agg #[.int .i64 0, .slice none 0 0], .int .i64 8]) (by simp [results, Tryz.results33, go_sem, d0, d1]) rfl
      (.inr ⟨hN, rfl, put2_kp HK.out (Nat.le_refl _)⟩)

/-- Parse of any text that is not too long: the value that is read, or none. -/
theorem typeParse_any (w : World) (s : ByteArray) (hs : s.size ≤ 1000) :
    Calls Tryz.prog 33 #[.string s] w fun e w' => (∃ y, (PT s.data.toList (some (y, [])) ∧ y.valid = true) ∧ GetsT w y e w') ∨
      ((∃ o, PT s.data.toList o ∧ ∀ y, o = some (y, []) → y.valid = false) ∧ e = .returned (.tuple #[.agg #[.int .i64 0, .slice none 0 0], .int .i64 8]) ∧ Kp w w') := by
  refine typeParse_hands w s _ _ fun w1 _ => ?_
  have hv := type_any s.size (readWT w1 s) (w1.heap.size + 2) s 0 (by omega) (readWT_reader w1 s) (Nat.zero_le _) (by omega)
  refine (readT_any w1 s (fun y q => PT s.data.toList (some (y, s.data.toList.drop q)) ∧ q ≤ s.size) (PT s.data.toList none) (by omega) (hv.mono ?_)).mono ?_
  · rintro e w' (⟨y, q, h1, h2, h3, h4⟩ | ⟨h1, h2, h3⟩)
    · exact .inl ⟨y, q, ⟨by simpa using h1, h3⟩, h3, h4⟩
    · exact .inr ⟨by simpa using h1, h2, h3⟩
  · rintro e w' (⟨y, ⟨h1, -⟩, h2, h3⟩ | ⟨h1, h2, h3⟩)
    · left
      refine ⟨y, ⟨?_, h2⟩, h3⟩
      rwa [List.drop_of_length_le (by simp)] at h1
    · right
      refine ⟨?_, h2, h3⟩
      rcases h1 with ⟨y, q, ⟨h1, h4⟩, h5⟩ | h1
      · refine ⟨_, h1, fun y' hy => ?_⟩
        injection hy with hy
        injection hy with h6 h7
        subst h6
        refine h5 ?_
        have := congrArg List.length h7
        simp at this
        have e : s.data.size = s.size := rfl
        omega
      · exact ⟨none, h1, fun y hy => by cases hy⟩

end Go.Proofs.YtkfmgafgokpjhaaGreatDoor
