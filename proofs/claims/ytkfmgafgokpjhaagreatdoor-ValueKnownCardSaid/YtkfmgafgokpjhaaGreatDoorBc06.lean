/-
  Contracts of the functions of package value, of its specification and of what the statements of layer 1 share (values and types made of numbers, the chapter's examples), each for every argument: used by the proofs of layer 1's statements.
  Part 6 of 12.
-/
import Derived.Test.YtkfmgafgokpjhaaGreatDoorBc05
import Derived.StillTailTactics
import Derived.Test.YtkfmgafgokpjhaaGreatDoorBc03
/-
  THE SPECIFICATION's Valid; that it says what the program's count says.
-/
namespace Go.Proofs.YtkfmgafgokpjhaaGreatDoor
open Go.RowKit

theorem fits_len {k n : Int} {s : ByteArray} {m : Nat} (h : fitsB k n s m = true) : m ≤ 8 := by
  unfold fitsB at h
  repeat' split at h
  · simp [wordB] at h; omega
  · simp [textB] at h; omega
  · simp [tupleB] at h; omega
  · simp [taggedB] at h; omega
  · cases h

mutual
theorem V.sh_rank : ∀ (v : V) (d : Nat), v.sh d = true → v.rank ≤ 9 ^ d
  | .mk k n s a cap l, d, h => by
    cases d with
    | zero => simp [V.sh] at h
    | succ d =>
      simp [V.sh] at h
      have h1 := fits_len h.1
      have h2 := V.shL_rank l d h.2
      have h3 : l.length * 9 ^ d ≤ 8 * 9 ^ d := Nat.mul_le_mul_right _ h1
      have h4 : 1 ≤ 9 ^ d := Nat.one_le_pow _ _ (by decide)
      have h5 : 9 ^ (d + 1) = 9 * 9 ^ d := by rw [Nat.pow_succ, Nat.mul_comm]
      simp [V.rank]
      omega
theorem V.shL_rank : ∀ (l : List V) (d : Nat), V.shL l d = true → V.rank.ranks l ≤ l.length * 9 ^ d
  | [], d, _ => by simp [V.rank.ranks]
  | x :: xs, d, h => by
    simp [V.shL] at h
    have h1 := V.sh_rank x d h.1
    have h2 := V.shL_rank xs d h.2
    simp [V.rank.ranks, Nat.add_mul]
    omega
end

mutual
theorem V.wk_sh : ∀ (v : V) (deep c : Nat), 1 ≤ deep → c ≤ 60 → ((v.wk deep c).1 = true ↔ v.sh (7 - deep) = true ∧ c + v.rank ≤ 60) ∧ ((v.wk deep c).1 = true → (v.wk deep c).2 = c + v.rank)
  | .mk k n s a cap l, deep, c, hd, hc => by
    have hrk : (V.mk k n s a cap l).rank = 1 + V.rank.ranks l := rfl
    by_cases h : 60 < c + 1 ∨ 6 < deep ∨ fitsB k n s l.length = false
    · simp only [V.wk, if_pos h]
      refine ⟨⟨(fun h => by cases h), ?_⟩, (fun h => by cases h)⟩
      rintro ⟨h1, h2⟩
      simp only [V.sh] at h1
      split at h1
      · cases h1
      · rcases h with h | h | h
        · omega
        · omega
        · rw [h] at h1; cases h1
    · have ih := V.wkL_sh l (deep + 1) (c + 1) (by omega) (by omega)
      have hf : fitsB k n s l.length = true := by
        cases hf : fitsB k n s l.length with
        | true => rfl
        | false => exact absurd (.inr (.inr hf)) h
      have hsh : (V.mk k n s a cap l).sh (7 - deep) = V.shL l (7 - (deep + 1)) := by
        simp only [V.sh, hf, Bool.true_and]
        rw [if_neg (by omega), show 7 - deep - 1 = 7 - (deep + 1) from by omega]
      simp only [V.wk, if_neg h, hsh, hrk]
      refine ⟨ih.1.trans ⟨fun h => ⟨h.1, by omega⟩, fun h => ⟨h.1, by omega⟩⟩, fun h => by rw [ih.2 h]; omega⟩
theorem V.wkL_sh : ∀ (l : List V) (deep c : Nat), 1 ≤ deep → c ≤ 60 → ((V.wkL l deep c).1 = true ↔ V.shL l (7 - deep) = true ∧ c + V.rank.ranks l ≤ 60) ∧ ((V.wkL l deep c).1 = true → (V.wkL l deep c).2 = c + V.rank.ranks l)
  | [], deep, c, hd, hc => by simp [V.wkL, V.shL, V.rank.ranks]; omega
  | x :: xs, deep, c, hd, hc => by
    have h1 := V.wk_sh x deep c hd hc
    simp only [V.wkL, V.shL, V.rank.ranks, Bool.and_eq_true]
    cases hx : x.wk deep c with
    | mk b c' =>
      rw [hx] at h1
      cases b with
      | true =>
        have hc' : c' = c + x.rank := h1.2 rfl
        have h3 := h1.1.1 rfl
        subst hc'
        have h2 := V.wkL_sh xs deep (c + x.rank) hd h3.2
        refine ⟨h2.1.trans ⟨fun h => ⟨⟨h3.1, h.1⟩, by omega⟩, fun h => ⟨h.1.2, by omega⟩⟩, fun h => by rw [h2.2 h]; omega⟩
      | false =>
        refine ⟨⟨(fun h => by cases h), (fun h => ?_)⟩, (fun h => by cases h)⟩
        exact absurd (h1.1.2 ⟨h.1.1, by omega⟩) (by simp)
end

/-- Valid: what the specification says of a value. -/
def V.valid (v : V) : Bool := v.sh 6 && decide (v.rank ≤ 60)

theorem bad_valid (v : V) : bad v.cnt = if v.valid then 0 else 1 := by
  have h := V.wk_sh v 1 0 (by omega) (by omega)
  have hp := V.rank_pos v
  unfold V.valid V.cnt bad
  cases hw : (v.wk 1 0).1 with
  | true =>
    have h1 := h.1.1 hw
    have h2 := h.2 hw
    have h3 : v.rank ≤ 60 := by omega
    simp [h2, h1.1, h3]
    omega
  | false =>
    have h1 : ¬ (v.sh 6 = true ∧ v.rank ≤ 60) := fun hh => by
      have := h.1.2 ⟨hh.1, by omega⟩
      rw [hw] at this; cases this
    have h2 : (v.sh 6 && decide (v.rank ≤ 60)) = false := by
      cases hv : (v.sh 6 && decide (v.rank ≤ 60)) with
      | false => rfl
      | true => exact absurd (by simpa using hv) h1
    simp [h2]

set_option maxRecDepth 100000 in
set_option maxHeartbeats 4000000 in
theorem valid_ref (k n : Int) (s : ByteArray) (a : Option Addr) (cap : Nat) (l : List V) (w : World) (hin : (V.mk k n s a cap l).In w w.heap.size) :
    Calls Tryz.prog 52 #[.agg #[.int .i64 k, .int .i64 n, .string s, .slice a l.length cap]] w fun e w' => e = .returned (.bool (V.mk k n s a cap l).valid) ∧ Kp w w' := by
  have C := fun (w1 : World) (h : (V.mk k n s a cap l).In w1 w1.heap.size) => shaped_ref _ k n s a cap l 6 w1 (Nat.le_refl _) (by omega) h
  have HIN := Lib.hid hin
  cases hs : (V.mk k n s a cap l).sh 6 with
  | false =>
    have hv : (V.mk k n s a cap l).valid = false := by simp [V.valid, hs]
    rw [hv]
    rw [hs] at C
    have HC := Lib.hid C
    clear C hin hs hv
    go_enter Tryz.func52, Tryz.ntmps52
    go_wp2_with fail
    refine (HC.out _ (HIN.out.keep (by simp) (ka _ _))).mono ?_
    rintro e w1 ⟨rfl, hk⟩
    have HK := Lib.hid (kk (ka _ _) hk)
    clear hk
    go_wp2_with fail
    go_ret
    exact ⟨rfl, HK.out⟩
  | true =>
    have hr := V.sh_rank _ _ hs
    have hv : (V.mk k n s a cap l).valid = decide ((V.mk k n s a cap l).rank ≤ 60) := by simp [V.valid, hs]
    rw [hv]
    rw [hs] at C
    have D := fun (w1 : World) (h : (V.mk k n s a cap l).In w1 w1.heap.size) => count_ref _ k n s a cap l w1 (Nat.le_refl _) (Nat.le_trans hr (by decide)) h
    have HC := Lib.hid C
    have HD := Lib.hid D
    clear C D hin hs hv hr
    generalize (V.mk k n s a cap l).rank = rk at *
    go_enter Tryz.func52, Tryz.ntmps52
    go_wp2_with fail
    refine (HC.out _ (HIN.out.keep (by simp) (ka _ _))).mono ?_
    rintro e w1 ⟨rfl, hk⟩
    obtain ⟨b0, b1, b2, b3, hz⟩ := box4 hk
    have HK := Lib.hid (kk (ka _ _) hk)
    clear hk
    go_wp2_with fail
    refine (HD.out _ (HIN.out.keep HK.out.size HK.out)).mono ?_
    rintro e w2 ⟨rfl, hk2⟩
    have HK2 := Lib.hid (kk HK.out hk2)
    clear hk2
    go_wp2_with fail
    go_ret
    have hdd : decide ((rk : Int) ≤ 60) = decide (rk ≤ 60) := by rw [decide_eq_decide]; omega
    exact ⟨by show Ending.returned (.bool (decide ((rk : Int) ≤ 60))) = _; rw [hdd], HK2.out⟩

end Go.Proofs.YtkfmgafgokpjhaaGreatDoor

/-
  THE SPECIFICATION's texts: the order of two texts, byte by byte.
-/
namespace Go.Proofs.YtkfmgafgokpjhaaGreatDoor
open Go.RowKit

theorem cb_step (l m : List UInt8) (j : Nat) (h : j < l.length) (h' : j < m.length) :
    Lib.compareBytes (l.drop j) (m.drop j) = if cmpI (l[j].toNat : Int) (m[j].toNat : Int) ≠ 0 then cmpI (l[j].toNat : Int) (m[j].toNat : Int) else Lib.compareBytes (l.drop (j + 1)) (m.drop (j + 1)) := by
  rw [List.drop_eq_getElem_cons h, List.drop_eq_getElem_cons h']
  simp only [Lib.compareBytes, cmpI, UInt8.lt_iff_toNat_lt, Int.ofNat_lt]
  split
  · simp
  · split <;> simp
theorem cb_end (l m : List UInt8) (j : Nat) (h : j ≤ l.length) (h' : j ≤ m.length) (he : j = l.length ∨ j = m.length) : Lib.compareBytes (l.drop j) (m.drop j) = cmpI (l.length : Int) (m.length : Int) := by
  rcases he with rfl | rfl
  · rw [List.drop_length]
    by_cases hlt : l.length < m.length
    · rw [List.drop_eq_getElem_cons hlt]; simp [Lib.compareBytes, cmpI]; omega
    · rw [List.drop_of_length_le (by omega)]; simp [Lib.compareBytes, cmpI]; omega
  · rw [List.drop_length]
    by_cases hlt : m.length < l.length
    · rw [List.drop_eq_getElem_cons hlt]; simp [Lib.compareBytes, cmpI]; omega
    · rw [List.drop_of_length_le (by omega)]; simp [Lib.compareBytes, cmpI]; omega

set_option maxRecDepth 100000 in
set_option maxHeartbeats 4000000 in
theorem texts_ref (a b : ByteArray) (ha : a.size ≤ 9223372036854775807) (_hb : b.size ≤ 9223372036854775807) (w : World) :
    Calls Tryz.prog 106 #[.string a, .string b] w fun e w' => e = .returned (.int .i64 (Lib.compareBytes a.data.toList b.data.toList)) ∧ Kp w w' := by
  go_enter Tryz.func106, Tryz.ntmps106
  go_wp2_with fail
  go_loopw [5] (fun i wr => ∃ j : Nat, j ≤ a.size ∧ j ≤ b.size ∧ i = .int .i64 j ∧ Lib.compareBytes a.data.toList b.data.toList = Lib.compareBytes (a.data.toList.drop j) (b.data.toList.drop j) ∧ Kp w wr) (fun i _ => a.size - (intOf i).toNat)
  case atStart => exact ⟨0, Nat.zero_le _, Nat.zero_le _, rfl, rfl, Below.refl _ _⟩
  case round =>
    obtain ⟨j, hj, hj', rfl, heq, hk⟩ := hrel
    by_cases h1 : j < a.size
    · by_cases h2 : j < b.size
      · have hst := cb_step a.data.toList b.data.toList j (by simpa using h1) (by simpa using h2)
        rw [← heq] at hst
        have hst' : Lib.compareBytes a.data.toList b.data.toList = if cmpI (a[j].toNat : Int) (b[j].toNat : Int) ≠ 0 then cmpI (a[j].toNat : Int) (b[j].toNat : Int) else Lib.compareBytes (a.data.toList.drop (j + 1)) (b.data.toList.drop (j + 1)) := hst
        have hwa : wrap64 ((a[j].toNat : Nat) : Int) = ((a[j].toNat : Nat) : Int) := by have := a[j].toNat_lt; simp [wrap64]; omega
        have hwb : wrap64 ((b[j].toNat : Nat) : Int) = ((b[j].toNat : Nat) : Int) := by have := b[j].toNat_lt; simp [wrap64]; omega
        have HST := Lib.hid hst'
        have HK := Lib.hid hk
        have q0 : (0 : Int) ≤ (j : Int) := by omega
        have q1 : (j : Int) < (a.size : Int) := by omega
        have q2 : (j : Int) < (b.size : Int) := by omega
        clear hst hst' heq hk
        by_cases hn : cmpI (a[j].toNat : Int) (b[j].toNat : Int) = 0
        · have C := numbers_any (a[j].toNat : Int) (b[j].toNat : Int)
          simp only [hn] at C
          have HC := Lib.hid C
          have HN := Lib.hid hn
          clear C hn
          go_wp2_with fail
          go_quiet ((go_at_call 105; first | exact Calls.quiet_of_same (HC.out _) | (rw [hwa, hwb]; exact Calls.quiet_of_same (HC.out _))))
          go_wp2_with fail
          go_roundw
          case rel => exact ⟨j + 1, by omega, by omega, by first | go_num | simp, by rw [HST.out, HN.out]; simp, HK.out.trans ((drew_kp _ _).mono HK.out.size)⟩
          case measure => simp [intOf]; omega
        · have C := numbers_any (a[j].toNat : Int) (b[j].toNat : Int)
          have hst2 : Lib.compareBytes a.data.toList b.data.toList = cmpI (a[j].toNat : Int) (b[j].toNat : Int) := by rw [HST.out, if_pos hn]
          have HS2 := Lib.hid hst2
          have hne : (cmpI (a[j].toNat : Int) (b[j].toNat : Int) == 0) = false := by rw [beq_eq_false_iff_ne]; exact hn
          generalize cmpI (a[j].toNat : Int) (b[j].toNat : Int) = q at C HS2 hne
          have HC := Lib.hid C
          clear C hn hst2
          go_wp2_with fail
          go_quiet ((go_at_call 105; first | exact Calls.quiet_of_same (HC.out _) | (rw [hwa, hwb]; exact Calls.quiet_of_same (HC.out _))))
          go_wp2_with fail
          go_ret
          exact ⟨by rw [HS2.out] <;> rfl, HK.out.trans ((drew_kp _ _).mono HK.out.size)⟩
      · have he := cb_end a.data.toList b.data.toList j (by simpa using hj) (by simpa using hj') (.inr (by simp; omega))
        rw [← heq] at he
        have HE := Lib.hid he
        have HK := Lib.hid hk
        clear he heq hk
        go_wp2_with fail
        refine (numbers_any _ _ _).mono ?_
        rintro e w1 ⟨rfl, rfl⟩
        go_wp2_with fail
        go_ret
        exact ⟨by rw [HE.out] <;> first | rfl | simp, HK.out⟩
    · have he := cb_end a.data.toList b.data.toList j (by simpa using hj) (by simpa using hj') (.inl (by simp; omega))
      rw [← heq] at he
      have HE := Lib.hid he
      have HK := Lib.hid hk
      clear he heq hk
      go_wp2_with fail
      refine (numbers_any _ _ _).mono ?_
      rintro e w1 ⟨rfl, rfl⟩
      go_wp2_with fail
      go_ret
      exact ⟨by rw [HE.out] <;> first | rfl | simp, HK.out⟩

end Go.Proofs.YtkfmgafgokpjhaaGreatDoor

/-
  THE SPECIFICATION's Order (written by wip/gen_order.py).
-/
namespace Go.Proofs.YtkfmgafgokpjhaaGreatDoor
open Go.RowKit

theorem cmpI_zero {a b : Int} (h : cmpI a b = 0) : a = b := by
  unfold cmpI at h; split at h; · cases h
  · split at h; · cases h
    · omega
theorem cmpI_same (a : Int) : cmpI a a = 0 := by simp [cmpI]
theorem compareBytes_same (l : List UInt8) : Lib.compareBytes l l = 0 := by
  induction l with
  | nil => rfl
  | cons x xs ih => simp [Lib.compareBytes, ih]
theorem ordL_done {l m : List V} {j : Nat} (h : ∀ i x y, i < j → l[i]? = some x → m[i]? = some y → x.ord y = 0) (hj : j ≤ l.length) (hj' : j ≤ m.length) (he : j = l.length ∨ j = m.length) : V.ordL l m = cmpI (l.length : Int) (m.length : Int) := by
  rcases he with rfl | rfl
  · rw [V.ordL_end h hj']; simp [cmpI]; omega
  · by_cases hlt : m.length < l.length
    · rw [V.ordL_over h hlt]; simp [cmpI]; omega
    · have : l.length = m.length := by omega
      rw [V.ordL_end (by rw [this]; exact h) (by omega)]; simp [cmpI]; omega

/-- The four cells of a value in a box. -/
abbrev vcells (k n : Int) (s : ByteArray) (a : Option Addr) (len cap : Nat) : Array Value := #[.int .i64 k, .int .i64 n, .string s, .slice a len cap]

theorem twoBox {w w1 : World} {c d : Array Value} {t u : Nat} (hk : Kp ((w.alloc (.cells c t)).alloc (.cells d u)) w1) :
    w1.heap[w.heap.size]? = some (.cells c t (0, 0)) ∧ w1.heap[w.heap.size + 1]? = some (.cells d u (0, 0)) :=
  ⟨(hk.block _ (by simp; omega)).trans (blockPast (blockHere rfl)), (hk.block _ (by simp)).trans (blockHere (by simp))⟩

set_option maxRecDepth 100000 in
set_option maxHeartbeats 8000000 in
theorem order_2 (n : Int) (s : ByteArray) (a : Option Addr) (cap : Nat) (l : List V) (s' : ByteArray) (a' : Option Addr) (cap' : Nat) (m : List V) (w : World) (hin : (V.mk 2 n s a cap l).In w w.heap.size) (hin' : (V.mk 2 n s' a' cap' m).In w w.heap.size)
    (ih : ∀ (j : Nat) (x y : V), l[j]? = some x → m[j]? = some y → ∀ w1 : World, x.In w1 w1.heap.size → y.In w1 w1.heap.size → Calls Tryz.prog 67 #[.agg #[.int .i64 x.k, .int .i64 x.n, .string x.s, .slice x.a x.l.length x.cap], .agg #[.int .i64 y.k, .int .i64 y.n, .string y.s, .slice y.a y.l.length y.cap]] w1 fun e w' => e = .returned (.int .i64 (x.ord y)) ∧ Kp w1 w') :
    Calls Tryz.prog 67 #[.agg #[.int .i64 2, .int .i64 n, .string s, .slice a l.length cap], .agg #[.int .i64 2, .int .i64 n, .string s', .slice a' m.length cap']] w fun e w' => e = .returned (.int .i64 (V.ordL l m)) ∧ Kp w w' := by
    have hlen := V.lenLe hin
    have hlen' := V.lenLe hin'
    have IH := Lib.hid ih
    have HIN := Lib.hid hin
    have HIN' := Lib.hid hin'
    have hn0 := numbers_any 2 2
    rw [cmpI_same] at hn0
    have HN0 := Lib.hid hn0
    have hn1 := numbers_any n n
    rw [cmpI_same] at hn1
    have HN1 := Lib.hid hn1
    clear ih hin hin' hn0 hn1
    go_enter Tryz.func67, Tryz.ntmps67
    go_wp2_with fail
    refine (HN0.out _).mono ?_
    rintro e w0 ⟨rfl, rfl⟩
    go_wp2_with fail
    go_loopw [7] (fun i wr => ∃ j : Nat, j ≤ l.length ∧ j ≤ m.length ∧ i = .int .i64 j ∧ (∀ i x y, i < j → l[i]? = some x → m[i]? = some y → x.ord y = 0) ∧ Kp ((w.alloc (.cells #[.int .i64 2, .int .i64 n, .string s, .slice a l.length cap] 24)).alloc (.cells #[.int .i64 2, .int .i64 n, .string s', .slice a' m.length cap'] 24)) wr) (fun i _ => l.length - (intOf i).toNat)
    case atStart => exact ⟨0, Nat.zero_le _, Nat.zero_le _, rfl, fun i x y h => by omega, Below.refl _ _⟩
    case round =>
      obtain ⟨j, hj, hj', rfl, heq, hk⟩ := hrel
      obtain ⟨bx, by_⟩ := twoBox hk
      have c3 : wr.cell? ⟨w.heap.size, 3, none⟩ = some (.slice a l.length cap) := cellOf bx rfl
      have d3 : wr.cell? ⟨w.heap.size + 1, 3, none⟩ = some (.slice a' m.length cap') := cellOf by_ rfl
      have hkw := kk (kk (ka _ _) (ka _ _)) hk
      clear bx by_
      by_cases h1 : j < l.length
      · by_cases h2 : j < m.length
        · obtain ⟨x, hx⟩ : ∃ x, l[j]? = some x := ⟨l[j], by simp [h1]⟩
          obtain ⟨y, hy⟩ : ∃ y, m[j]? = some y := ⟨m[j], by simp [h2]⟩
          obtain ⟨p0, off, rfl, hp0, q0, q1, q2, q3, hxin⟩ := V.atPart HIN.out hx
          obtain ⟨p1, off1, rfl, hp1, s0, s1, s2, s3, hyin⟩ := V.atPart HIN'.out hy
          have kd := kk hkw (kpD (w := wr))
          have r0 := kc kd q0
          have r1 := kc kd q1
          have r2 := kc kd q2
          have r3 := kc kd q3
          have t0 := kc kd s0
          have t1 := kc kd s1
          have t2 := kc kd s2
          have t3 := kc kd s3
          have e3 := kc kpD c3
          have f3 := kc kpD d3
          have g0 : (0 : Int) ≤ (j : Int) := by omega
          have g1 : (j : Int) < (l.length : Int) := by omega
          have g2 : (j : Int) < (m.length : Int) := by omega
          have hih := IH.out j x y hx hy wr.drew (hxin.keep kd.size kd) (hyin.keep kd.size kd)
          have hstep : ∀ i x y, i < j + 1 → l[i]? = some x → m[i]? = some y → (x.ord y = 0 ∨ i = j) := fun i x y hi hx hy => by
            rcases Nat.lt_succ_iff_lt_or_eq.1 hi with h | h
            · exact .inl (heq i x y h hx hy)
            · exact .inr h
          have hat : x.ord y ≠ 0 → V.ordL l m = x.ord y := fun h => V.ordL_at heq hx hy h
          have hnext : x.ord y = 0 → ∀ i x y, i < j + 1 → l[i]? = some x → m[i]? = some y → x.ord y = 0 := fun h i x' y' hi hx' hy' => by
            rcases hstep i x' y' hi hx' hy' with h' | h'
            · exact h'
            · subst h'
              rw [hx] at hx'; rw [hy] at hy'
              cases hx'; cases hy'; exact h
          have HK := Lib.hid hk
          generalize x.ord y = q at hih hat hnext
          generalize x.k = xk at *
          generalize x.n = xn at *
          generalize x.s = xs at *
          generalize x.a = xa at *
          generalize x.l.length = xl at *
          generalize x.cap = xc at *
          generalize y.k = yk at *
          generalize y.n = yn at *
          generalize y.s = ys at *
          generalize y.a = ya at *
          generalize y.l.length = yl at *
          generalize y.cap = yc at *
          have HIH := Lib.hid hih
          have HAT := Lib.hid hat
          have HNX := Lib.hid hnext
          clear hih hat hnext hstep hk hkw heq hx hy hxin hyin q0 q1 q2 q3 s0 s1 s2 s3
          by_cases hq : q = 0
          · subst hq
            go_wp2_with fail
            refine wp_region_still_tail 10 (by kernel_rfl) (by kernel_rfl) ?_
            change wpStill _ _ (World.drew wr) (fun a' => wpList _ _ _ _ a' (World.drew wr)) _ _
            have HD := Lib.hid (kpD (w := wr))
            generalize World.drew wr = w2 at *
            simp only [List.take_succ_cons, List.take_zero, List.drop_succ_cons, List.drop_zero]
            repeat still_step
            refine wpStill_nil ?_
            clear r0 r1 r2 r3 t0 t1 t2 t3 e3 f3 kd
            go_wp2_with fail
            refine HIH.out.mono ?_
            rintro e w3 ⟨rfl, hk3⟩
            have HK3 := Lib.hid (HK.out.trans ((kk HD.out hk3).mono HK.out.size))
            clear hk3
            go_wp2_with fail
            go_roundw
            case rel => exact ⟨j + 1, by omega, by omega, by first | go_num | simp, HNX.out trivial, HK3.out⟩
            case measure => simp [intOf]; omega
          · have hqb : (q == 0) = false := by rw [beq_eq_false_iff_ne]; exact hq
            go_wp2_with fail
            refine wp_region_still_tail 10 (by kernel_rfl) (by kernel_rfl) ?_
            change wpStill _ _ (World.drew wr) (fun a' => wpList _ _ _ _ a' (World.drew wr)) _ _
            have HD := Lib.hid (kpD (w := wr))
            generalize World.drew wr = w2 at *
            simp only [List.take_succ_cons, List.take_zero, List.drop_succ_cons, List.drop_zero]
            repeat still_step
            refine wpStill_nil ?_
            clear r0 r1 r2 r3 t0 t1 t2 t3 e3 f3 kd
            go_wp2_with fail
            refine HIH.out.mono ?_
            rintro e w3 ⟨rfl, hk3⟩
            have HK3 := Lib.hid (kk (kk (kk (ka _ _) (ka _ _)) HK.out) (kk HD.out hk3))
            have hl := HAT.out hq
            have HL := Lib.hid hl
            clear hk3 hl
            go_wp2_with fail
            go_ret
            exact ⟨by rw [HL.out] <;> rfl, HK3.out⟩
        · have hl := ordL_done heq hj hj' (.inr (by omega))
          have HL := Lib.hid hl
          have HK := Lib.hid hkw
          clear hl heq hk hkw
          go_wp2_with fail
          refine (numbers_any _ _ _).mono ?_
          rintro e w1 ⟨rfl, rfl⟩
          go_wp2_with fail
          go_ret
          exact ⟨by rw [HL.out] <;> rfl, HK.out⟩
      · have hl := ordL_done heq hj hj' (.inl (by omega))
        have HL := Lib.hid hl
        have HK := Lib.hid hkw
        clear hl heq hk hkw
        go_wp2_with fail
        refine (numbers_any _ _ _).mono ?_
        rintro e w1 ⟨rfl, rfl⟩
        go_wp2_with fail
        go_ret
        exact ⟨by rw [HL.out] <;> rfl, HK.out⟩

set_option maxRecDepth 100000 in
set_option maxHeartbeats 8000000 in
theorem order_3 (n : Int) (s : ByteArray) (a : Option Addr) (cap : Nat) (l : List V) (s' : ByteArray) (a' : Option Addr) (cap' : Nat) (m : List V) (w : World) (hin : (V.mk 3 n s a cap l).In w w.heap.size) (hin' : (V.mk 3 n s' a' cap' m).In w w.heap.size)
    (ih : ∀ (j : Nat) (x y : V), l[j]? = some x → m[j]? = some y → ∀ w1 : World, x.In w1 w1.heap.size → y.In w1 w1.heap.size → Calls Tryz.prog 67 #[.agg #[.int .i64 x.k, .int .i64 x.n, .string x.s, .slice x.a x.l.length x.cap], .agg #[.int .i64 y.k, .int .i64 y.n, .string y.s, .slice y.a y.l.length y.cap]] w1 fun e w' => e = .returned (.int .i64 (x.ord y)) ∧ Kp w1 w') :
    Calls Tryz.prog 67 #[.agg #[.int .i64 3, .int .i64 n, .string s, .slice a l.length cap], .agg #[.int .i64 3, .int .i64 n, .string s', .slice a' m.length cap']] w fun e w' => e = .returned (.int .i64 (V.ordL l m)) ∧ Kp w w' := by
    have hlen := V.lenLe hin
    have hlen' := V.lenLe hin'
    have IH := Lib.hid ih
    have HIN := Lib.hid hin
    have HIN' := Lib.hid hin'
    have hn0 := numbers_any 3 3
    rw [cmpI_same] at hn0
    have HN0 := Lib.hid hn0
    have hn1 := numbers_any n n
    rw [cmpI_same] at hn1
    have HN1 := Lib.hid hn1
    clear ih hin hin' hn0 hn1
    go_enter Tryz.func67, Tryz.ntmps67
    go_wp2_with fail
    refine (HN0.out _).mono ?_
    rintro e w0 ⟨rfl, rfl⟩
    go_wp2_with fail
    refine (HN1.out _).mono ?_
    rintro e w0 ⟨rfl, rfl⟩
    go_wp2_with fail
    go_loopw [7] (fun i wr => ∃ j : Nat, j ≤ l.length ∧ j ≤ m.length ∧ i = .int .i64 j ∧ (∀ i x y, i < j → l[i]? = some x → m[i]? = some y → x.ord y = 0) ∧ Kp ((w.alloc (.cells #[.int .i64 3, .int .i64 n, .string s, .slice a l.length cap] 24)).alloc (.cells #[.int .i64 3, .int .i64 n, .string s', .slice a' m.length cap'] 24)) wr) (fun i _ => l.length - (intOf i).toNat)
    case atStart => exact ⟨0, Nat.zero_le _, Nat.zero_le _, rfl, fun i x y h => by omega, Below.refl _ _⟩
    case round =>
      obtain ⟨j, hj, hj', rfl, heq, hk⟩ := hrel
      obtain ⟨bx, by_⟩ := twoBox hk
      have c3 : wr.cell? ⟨w.heap.size, 3, none⟩ = some (.slice a l.length cap) := cellOf bx rfl
      have d3 : wr.cell? ⟨w.heap.size + 1, 3, none⟩ = some (.slice a' m.length cap') := cellOf by_ rfl
      have hkw := kk (kk (ka _ _) (ka _ _)) hk
      clear bx by_
      by_cases h1 : j < l.length
      · by_cases h2 : j < m.length
        · obtain ⟨x, hx⟩ : ∃ x, l[j]? = some x := ⟨l[j], by simp [h1]⟩
          obtain ⟨y, hy⟩ : ∃ y, m[j]? = some y := ⟨m[j], by simp [h2]⟩
          obtain ⟨p0, off, rfl, hp0, q0, q1, q2, q3, hxin⟩ := V.atPart HIN.out hx
          obtain ⟨p1, off1, rfl, hp1, s0, s1, s2, s3, hyin⟩ := V.atPart HIN'.out hy
          have kd := kk hkw (kpD (w := wr))
          have r0 := kc kd q0
          have r1 := kc kd q1
          have r2 := kc kd q2
          have r3 := kc kd q3
          have t0 := kc kd s0
          have t1 := kc kd s1
          have t2 := kc kd s2
          have t3 := kc kd s3
          have e3 := kc kpD c3
          have f3 := kc kpD d3
          have g0 : (0 : Int) ≤ (j : Int) := by omega
          have g1 : (j : Int) < (l.length : Int) := by omega
          have g2 : (j : Int) < (m.length : Int) := by omega
          have hih := IH.out j x y hx hy wr.drew (hxin.keep kd.size kd) (hyin.keep kd.size kd)
          have hstep : ∀ i x y, i < j + 1 → l[i]? = some x → m[i]? = some y → (x.ord y = 0 ∨ i = j) := fun i x y hi hx hy => by
            rcases Nat.lt_succ_iff_lt_or_eq.1 hi with h | h
            · exact .inl (heq i x y h hx hy)
            · exact .inr h
          have hat : x.ord y ≠ 0 → V.ordL l m = x.ord y := fun h => V.ordL_at heq hx hy h
          have hnext : x.ord y = 0 → ∀ i x y, i < j + 1 → l[i]? = some x → m[i]? = some y → x.ord y = 0 := fun h i x' y' hi hx' hy' => by
            rcases hstep i x' y' hi hx' hy' with h' | h'
            · exact h'
            · subst h'
              rw [hx] at hx'; rw [hy] at hy'
              cases hx'; cases hy'; exact h
          have HK := Lib.hid hk
          generalize x.ord y = q at hih hat hnext
          generalize x.k = xk at *
          generalize x.n = xn at *
          generalize x.s = xs at *
          generalize x.a = xa at *
          generalize x.l.length = xl at *
          generalize x.cap = xc at *
          generalize y.k = yk at *
          generalize y.n = yn at *
          generalize y.s = ys at *
          generalize y.a = ya at *
          generalize y.l.length = yl at *
          generalize y.cap = yc at *
          have HIH := Lib.hid hih
          have HAT := Lib.hid hat
          have HNX := Lib.hid hnext
          clear hih hat hnext hstep hk hkw heq hx hy hxin hyin q0 q1 q2 q3 s0 s1 s2 s3
          by_cases hq : q = 0
          · subst hq
            go_wp2_with fail
            refine wp_region_still_tail 10 (by kernel_rfl) (by kernel_rfl) ?_
            change wpStill _ _ (World.drew wr) (fun a' => wpList _ _ _ _ a' (World.drew wr)) _ _
            have HD := Lib.hid (kpD (w := wr))
            generalize World.drew wr = w2 at *
            simp only [List.take_succ_cons, List.take_zero, List.drop_succ_cons, List.drop_zero]
            repeat still_step
            refine wpStill_nil ?_
            clear r0 r1 r2 r3 t0 t1 t2 t3 e3 f3 kd
            go_wp2_with fail
            refine HIH.out.mono ?_
            rintro e w3 ⟨rfl, hk3⟩
            have HK3 := Lib.hid (HK.out.trans ((kk HD.out hk3).mono HK.out.size))
            clear hk3
            go_wp2_with fail
            go_roundw
            case rel => exact ⟨j + 1, by omega, by omega, by first | go_num | simp, HNX.out trivial, HK3.out⟩
            case measure => simp [intOf]; omega
          · have hqb : (q == 0) = false := by rw [beq_eq_false_iff_ne]; exact hq
            go_wp2_with fail
            refine wp_region_still_tail 10 (by kernel_rfl) (by kernel_rfl) ?_
            change wpStill _ _ (World.drew wr) (fun a' => wpList _ _ _ _ a' (World.drew wr)) _ _
            have HD := Lib.hid (kpD (w := wr))
            generalize World.drew wr = w2 at *
            simp only [List.take_succ_cons, List.take_zero, List.drop_succ_cons, List.drop_zero]
            repeat still_step
            refine wpStill_nil ?_
            clear r0 r1 r2 r3 t0 t1 t2 t3 e3 f3 kd
            go_wp2_with fail
            refine HIH.out.mono ?_
            rintro e w3 ⟨rfl, hk3⟩
            have HK3 := Lib.hid (kk (kk (kk (ka _ _) (ka _ _)) HK.out) (kk HD.out hk3))
            have hl := HAT.out hq
            have HL := Lib.hid hl
            clear hk3 hl
            go_wp2_with fail
            go_ret
            exact ⟨by rw [HL.out] <;> rfl, HK3.out⟩
        · have hl := ordL_done heq hj hj' (.inr (by omega))
          have HL := Lib.hid hl
          have HK := Lib.hid hkw
          clear hl heq hk hkw
          go_wp2_with fail
          refine (numbers_any _ _ _).mono ?_
          rintro e w1 ⟨rfl, rfl⟩
          go_wp2_with fail
          go_ret
          exact ⟨by rw [HL.out] <;> rfl, HK.out⟩
      · have hl := ordL_done heq hj hj' (.inl (by omega))
        have HL := Lib.hid hl
        have HK := Lib.hid hkw
        clear hl heq hk hkw
        go_wp2_with fail
        refine (numbers_any _ _ _).mono ?_
        rintro e w1 ⟨rfl, rfl⟩
        go_wp2_with fail
        go_ret
        exact ⟨by rw [HL.out] <;> rfl, HK.out⟩

end Go.Proofs.YtkfmgafgokpjhaaGreatDoor

/-
  THE SPECIFICATION's Order, whole; Compare.
-/
namespace Go.Proofs.YtkfmgafgokpjhaaGreatDoor
open Go.RowKit

set_option maxRecDepth 100000 in
set_option maxHeartbeats 4000000 in
theorem order_kinds (k n : Int) (s : ByteArray) (a : Option Addr) (len cap : Nat) (k' n' : Int) (s' : ByteArray) (a' : Option Addr) (len' cap' : Nat) (w : World) (h : cmpI k k' ≠ 0) :
    Calls Tryz.prog 67 #[.agg #[.int .i64 k, .int .i64 n, .string s, .slice a len cap], .agg #[.int .i64 k', .int .i64 n', .string s', .slice a' len' cap']] w fun e w' => e = .returned (.int .i64 (cmpI k k')) ∧ Kp w w' := by
  have C := numbers_any k k'
  have hq : (cmpI k k' == 0) = false := by rw [beq_eq_false_iff_ne]; exact h
  generalize cmpI k k' = q at C hq ⊢
  have HC := Lib.hid C
  clear C h
  go_enter Tryz.func67, Tryz.ntmps67
  go_wp2_with fail
  refine (HC.out _).mono ?_
  rintro e w0 ⟨rfl, rfl⟩
  go_wp2_with fail
  go_ret
  exact ⟨rfl, kk (ka _ _) (ka _ _)⟩

set_option maxRecDepth 100000 in
set_option maxHeartbeats 4000000 in
theorem order_tags (n : Int) (s : ByteArray) (a : Option Addr) (len cap : Nat) (n' : Int) (s' : ByteArray) (a' : Option Addr) (len' cap' : Nat) (w : World) (h : cmpI n n' ≠ 0) :
    Calls Tryz.prog 67 #[.agg #[.int .i64 3, .int .i64 n, .string s, .slice a len cap], .agg #[.int .i64 3, .int .i64 n', .string s', .slice a' len' cap']] w fun e w' => e = .returned (.int .i64 (cmpI n n')) ∧ Kp w w' := by
  have C := numbers_any n n'
  have hn0 := numbers_any 3 3
  rw [cmpI_same] at hn0
  have HN0 := Lib.hid hn0
  have hq : (cmpI n n' == 0) = false := by rw [beq_eq_false_iff_ne]; exact h
  generalize cmpI n n' = q at C hq ⊢
  have HC := Lib.hid C
  clear C h hn0
  go_enter Tryz.func67, Tryz.ntmps67
  go_wp2_with fail
  refine (HN0.out _).mono ?_
  rintro e w0 ⟨rfl, rfl⟩
  go_wp2_with fail
  refine (HC.out _).mono ?_
  rintro e w0 ⟨rfl, rfl⟩
  go_wp2_with fail
  go_ret
  exact ⟨rfl, kk (ka _ _) (ka _ _)⟩

set_option maxRecDepth 100000 in
set_option maxHeartbeats 4000000 in
theorem order_ints (n : Int) (s : ByteArray) (a : Option Addr) (len cap : Nat) (n' : Int) (s' : ByteArray) (a' : Option Addr) (len' cap' : Nat) (w : World) :
    Calls Tryz.prog 67 #[.agg #[.int .i64 0, .int .i64 n, .string s, .slice a len cap], .agg #[.int .i64 0, .int .i64 n', .string s', .slice a' len' cap']] w fun e w' => e = .returned (.int .i64 (cmpI n n')) ∧ Kp w w' := by
  have C := numbers_any n n'
  have hn0 := numbers_any 0 0
  rw [cmpI_same] at hn0
  have HN0 := Lib.hid hn0
  generalize cmpI n n' = q at C ⊢
  have HC := Lib.hid C
  clear C hn0
  go_enter Tryz.func67, Tryz.ntmps67
  go_wp2_with fail
  refine (HN0.out _).mono ?_
  rintro e w0 ⟨rfl, rfl⟩
  go_wp2_with fail
  refine (HC.out _).mono ?_
  rintro e w0 ⟨rfl, rfl⟩
  go_wp2_with fail
  go_ret
  exact ⟨rfl, kk (ka _ _) (ka _ _)⟩

set_option maxRecDepth 100000 in
set_option maxHeartbeats 4000000 in
theorem order_texts (n : Int) (s : ByteArray) (a : Option Addr) (len cap : Nat) (n' : Int) (s' : ByteArray) (a' : Option Addr) (len' cap' : Nat) (w : World) (hs : s.size ≤ 9223372036854775807) (hs' : s'.size ≤ 9223372036854775807) :
    Calls Tryz.prog 67 #[.agg #[.int .i64 1, .int .i64 n, .string s, .slice a len cap], .agg #[.int .i64 1, .int .i64 n', .string s', .slice a' len' cap']] w fun e w' => e = .returned (.int .i64 (Lib.compareBytes s.data.toList s'.data.toList)) ∧ Kp w w' := by
  have C := texts_ref s s' hs hs'
  have hn0 := numbers_any 1 1
  rw [cmpI_same] at hn0
  have HN0 := Lib.hid hn0
  generalize Lib.compareBytes s.data.toList s'.data.toList = q at C ⊢
  have HC := Lib.hid C
  clear C hn0
  go_enter Tryz.func67, Tryz.ntmps67
  go_wp2_with fail
  refine (HN0.out _).mono ?_
  rintro e w0 ⟨rfl, rfl⟩
  go_wp2_with fail
  refine (HC.out _).mono ?_
  rintro e w1 ⟨rfl, hk⟩
  have HK := Lib.hid (kk (kk (ka _ _) (ka _ _)) hk)
  clear hk
  go_wp2_with fail
  go_ret
  exact ⟨rfl, HK.out⟩

theorem shL_at {l : List V} {d j : Nat} {x : V} (h : V.shL l d = true) (hx : l[j]? = some x) : x.sh d = true := by
  induction l generalizing j with
  | nil => simp at hx
  | cons y ys ih =>
    simp only [V.shL, Bool.and_eq_true] at h
    cases j with
    | zero => simp at hx; exact hx ▸ h.1
    | succ j => exact ih h.2 (by simpa using hx)

set_option maxHeartbeats 2000000 in
theorem order_ref : ∀ (N : Nat) (x y : V) (d d' : Nat) (w : World), x.rank ≤ N → x.sh d = true → y.sh d' = true → x.In w w.heap.size → y.In w w.heap.size →
    Calls Tryz.prog 67 #[.agg #[.int .i64 x.k, .int .i64 x.n, .string x.s, .slice x.a x.l.length x.cap], .agg #[.int .i64 y.k, .int .i64 y.n, .string y.s, .slice y.a y.l.length y.cap]] w fun e w' => e = .returned (.int .i64 (x.ord y)) ∧ Kp w w' := by
  intro N
  induction N with
  | zero => intro x y d d' w h; have := x.rank_pos; omega
  | succ N ih =>
    intro x y d d' w hN hx hy hin hin'
    cases x with
    | mk k n s a cap l =>
    cases y with
    | mk k' n' s' a' cap' m =>
    cases d with
    | zero => simp [V.sh] at hx
    | succ d =>
    cases d' with
    | zero => simp [V.sh] at hy
    | succ d' =>
    simp [V.sh] at hx hy
    obtain ⟨hf, hp⟩ := hx
    obtain ⟨hf', hp'⟩ := hy
    have hih : ∀ (j : Nat) (x y : V), l[j]? = some x → m[j]? = some y → ∀ w1 : World, x.In w1 w1.heap.size → y.In w1 w1.heap.size → Calls Tryz.prog 67 #[.agg #[.int .i64 x.k, .int .i64 x.n, .string x.s, .slice x.a x.l.length x.cap], .agg #[.int .i64 y.k, .int .i64 y.n, .string y.s, .slice y.a y.l.length y.cap]] w1 fun e w' => e = .returned (.int .i64 (x.ord y)) ∧ Kp w1 w' := fun j x y hx hy w1 h1 h2 =>
      ih x y d d' w1 (by have := V.rank_part (v := .mk k n s a cap l) (j := j) (x := x) hx; omega) (shL_at hp hx) (shL_at hp' hy) h1 h2
    have hs := V.sizeLe hin
    have hs' := V.sizeLe hin'
    show Calls Tryz.prog 67 #[.agg #[.int .i64 k, .int .i64 n, .string s, .slice a l.length cap], .agg #[.int .i64 k', .int .i64 n', .string s', .slice a' m.length cap']] w _
    by_cases hk : cmpI k k' = 0
    · obtain rfl := cmpI_zero hk
      by_cases h0 : k = 0
      · subst h0
        simp [fitsB, wordB] at hf hf'
        obtain rfl := empty_of s (by simpa using hf.2.2.1)
        obtain rfl := empty_of s' (by simpa using hf'.2.2.1)
        obtain rfl := hf.2.2.2
        obtain rfl := hf'.2.2.2
        have ho : (V.mk 0 n ⟨#[]⟩ a cap []).ord (.mk 0 n' ⟨#[]⟩ a' cap' []) = cmpI n n' := by
          simp only [V.ord, V.ordL, cmpI_same, compareBytes_same, orI]
          split <;> simp_all
        rw [ho]
        exact order_ints n ⟨#[]⟩ a 0 cap n' ⟨#[]⟩ a' 0 cap' w
      by_cases h1 : k = 1
      · subst h1
        simp [fitsB, textB] at hf hf'
        obtain rfl := hf.1
        obtain rfl := hf'.1
        obtain rfl := hf.2.1
        obtain rfl := hf'.2.1
        have ho : (V.mk 1 0 s a cap []).ord (.mk 1 0 s' a' cap' []) = Lib.compareBytes s.data.toList s'.data.toList := by
          simp only [V.ord, V.ordL, cmpI_same, orI]
          split <;> simp_all
        rw [ho]
        exact order_texts 0 s a 0 cap 0 s' a' 0 cap' w hs hs'
      by_cases h2 : k = 2
      · subst h2
        simp [fitsB, tupleB] at hf hf'
        obtain rfl := empty_of s (by simpa using hf.2.1)
        obtain rfl := empty_of s' (by simpa using hf'.2.1)
        obtain rfl := hf.1
        obtain rfl := hf'.1
        have ho : (V.mk 2 0 ⟨#[]⟩ a cap l).ord (.mk 2 0 ⟨#[]⟩ a' cap' m) = V.ordL l m := by
          simp [V.ord, cmpI_same, compareBytes_same, orI]
        rw [ho]
        exact order_2 0 ⟨#[]⟩ a cap l ⟨#[]⟩ a' cap' m w hin hin' hih
      by_cases h3 : k = 3
      · subst h3
        simp [fitsB, taggedB] at hf hf'
        obtain rfl := empty_of s (by simpa using hf.2.2.1)
        obtain rfl := empty_of s' (by simpa using hf'.2.2.1)
        by_cases hn : cmpI n n' = 0
        · obtain rfl := cmpI_zero hn
          have ho : (V.mk 3 n ⟨#[]⟩ a cap l).ord (.mk 3 n ⟨#[]⟩ a' cap' m) = V.ordL l m := by
            simp [V.ord, cmpI_same, compareBytes_same, orI]
          rw [ho]
          exact order_3 n ⟨#[]⟩ a cap l ⟨#[]⟩ a' cap' m w hin hin' hih
        · have ho : (V.mk 3 n ⟨#[]⟩ a cap l).ord (.mk 3 n' ⟨#[]⟩ a' cap' m) = cmpI n n' := by
            simp [V.ord, cmpI_same, orI, hn]
          rw [ho]
          exact order_tags n ⟨#[]⟩ a l.length cap n' ⟨#[]⟩ a' m.length cap' w hn
      · simp [fitsB, h0, h1, h2, h3] at hf
    · have ho : (V.mk k n s a cap l).ord (.mk k' n' s' a' cap' m) = cmpI k k' := by
        simp [V.ord, orI, hk]
      rw [ho]
      exact order_kinds k n s a l.length cap k' n' s' a' m.length cap' w hk

end Go.Proofs.YtkfmgafgokpjhaaGreatDoor

/-
  Compare, THE PROGRAM's AND THE SPECIFICATION's: ONE ANSWER.
-/
namespace Go.Proofs.YtkfmgafgokpjhaaGreatDoor
open Go.RowKit

/-- What Compare answers. -/
def cmpV (x y : V) : Value := if x.valid && y.valid then .tuple #[.int .i64 (x.ord y), .int .i64 0] else .tuple #[.int .i64 0, .int .i64 1]

theorem cnt_valid (v : V) : v.cnt = 0 ↔ v.valid = false := by
  have h := bad_valid v
  unfold bad at h
  cases hv : v.valid with
  | true => simp [hv] at h; simp; exact h
  | false => simp [hv] at h; simp; exact h

theorem compare_prog (x y : V) (w : World) (hx : x.In w w.heap.size) (hy : y.In w w.heap.size) :
    Calls Tryz.prog 25 #[x.val, y.val] w fun e w' => e = .returned (cmpV x y) ∧ Kp w w' := by
  cases hv : x.valid with
  | false => simpa [cmpV, hv] using compare_first x y w hx ((cnt_valid x).2 hv)
  | true =>
    have hx0 : ¬ x.cnt = 0 := fun h => by rw [(cnt_valid x).1 h] at hv; cases hv
    cases hw : y.valid with
    | false => simpa [cmpV, hv, hw] using compare_second x y w hx hy hx0 ((cnt_valid y).2 hw)
    | true =>
      have hy0 : ¬ y.cnt = 0 := fun h => by rw [(cnt_valid y).1 h] at hw; cases hw
      simpa [cmpV, hv, hw] using compare_both x y w hx hy hx0 hy0

set_option maxHeartbeats 2000000 in
theorem compareR_first (x y : V) (w : World) (hx : x.In w w.heap.size) (h : x.valid = false) :
    Calls Tryz.prog 26 #[x.val, y.val] w fun e w' => e = .returned (.tuple #[.int .i64 0, .int .i64 1]) ∧ Kp w w' := by
  cases x with
  | mk k n s a cap l =>
  cases y with
  | mk k' n' s' a' cap' l' =>
  rw [V.val_mk, V.val_mk]
  have C := fun w1 (h : Kp w w1) => valid_ref k n s a cap l w1 (hx.keep h.size h)
  rw [h] at C
  have CC := Lib.hid C
  clear C h hx
  go_enter Tryz.func26, Tryz.ntmps26
  go_wp2_with fail
  refine (CC.out _ (kk (ka _ _) (ka _ _))).mono ?_
  rintro e w1 ⟨rfl, hk⟩
  have HK := Lib.hid (kk (kk (ka _ _) (ka _ _)) hk)
  clear hk
  go_wp2_with fail
  go_ret2
  exact ⟨rfl, HK.out⟩

set_option maxHeartbeats 2000000 in
theorem compareR_second (x y : V) (w : World) (hx : x.In w w.heap.size) (hy : y.In w w.heap.size) (h : x.valid = true) (h' : y.valid = false) :
    Calls Tryz.prog 26 #[x.val, y.val] w fun e w' => e = .returned (.tuple #[.int .i64 0, .int .i64 1]) ∧ Kp w w' := by
  cases x with
  | mk k n s a cap l =>
  cases y with
  | mk k' n' s' a' cap' l' =>
  rw [V.val_mk, V.val_mk]
  have C := fun w1 (h : Kp w w1) => valid_ref k n s a cap l w1 (hx.keep h.size h)
  rw [h] at C
  have CC := Lib.hid C
  have C' := fun w1 (h : Kp w w1) => valid_ref k' n' s' a' cap' l' w1 (hy.keep h.size h)
  rw [h'] at C'
  have CC' := Lib.hid C'
  clear C C' h h' hx hy
  go_enter Tryz.func26, Tryz.ntmps26
  go_wp2_with fail
  refine (CC.out _ (kk (ka _ _) (ka _ _))).mono ?_
  rintro e w1 ⟨rfl, hk⟩
  obtain ⟨b0, b1, b2, b3, d0, d1, d2, d3, hz⟩ := box44 hk
  have HK := Lib.hid (kk (kk (ka _ _) (ka _ _)) hk)
  clear hk
  go_wp2_with fail
  refine (CC'.out _ HK.out).mono ?_
  rintro e w2 ⟨rfl, hk⟩
  have HK2 := Lib.hid (kk HK.out hk)
  clear hk
  go_wp2_with fail
  go_ret2
  exact ⟨rfl, HK2.out⟩

set_option maxHeartbeats 2000000 in
theorem compareR_both (x y : V) (w : World) (hx : x.In w w.heap.size) (hy : y.In w w.heap.size) (h : x.valid = true) (h' : y.valid = true) :
    Calls Tryz.prog 26 #[x.val, y.val] w fun e w' => e = .returned (.tuple #[.int .i64 (x.ord y), .int .i64 0]) ∧ Kp w w' := by
  have hsx : x.sh 6 = true := by simp [V.valid] at h; exact h.1
  have hsy : y.sh 6 = true := by simp [V.valid] at h'; exact h'.1
  have O := fun w1 (h : Kp w w1) => order_ref x.rank x y 6 6 w1 (Nat.le_refl _) hsx hsy (hx.keep h.size h) (hy.keep h.size h)
  cases x with
  | mk k n s a cap l =>
  cases y with
  | mk k' n' s' a' cap' l' =>
  rw [V.val_mk, V.val_mk]
  dsimp only [V.k, V.n, V.s, V.a, V.l, V.cap] at O
  have C := fun w1 (h : Kp w w1) => valid_ref k n s a cap l w1 (hx.keep h.size h)
  rw [h] at C
  have CC := Lib.hid C
  have C' := fun w1 (h : Kp w w1) => valid_ref k' n' s' a' cap' l' w1 (hy.keep h.size h)
  rw [h'] at C'
  have CC' := Lib.hid C'
  generalize (V.mk k n s a cap l).ord (V.mk k' n' s' a' cap' l') = o at O ⊢
  have OO := Lib.hid O
  clear C C' h h' hx hy O hsx hsy
  go_enter Tryz.func26, Tryz.ntmps26
  go_wp2_with fail
  refine (CC.out _ (kk (ka _ _) (ka _ _))).mono ?_
  rintro e w1 ⟨rfl, hk⟩
  obtain ⟨b0, b1, b2, b3, d0, d1, d2, d3, hz⟩ := box44 hk
  have HK := Lib.hid (kk (kk (ka _ _) (ka _ _)) hk)
  clear hk
  go_wp2_with fail
  refine (CC'.out _ HK.out).mono ?_
  rintro e w2 ⟨rfl, hk⟩
  have HK2 := Lib.hid (kk HK.out hk)
  have e0 := kc hk b0
  have e1 := kc hk b1
  have e2 := kc hk b2
  have e3 := kc hk b3
  have f0 := kc hk d0
  have f1 := kc hk d1
  have f2 := kc hk d2
  have f3 := kc hk d3
  clear hk b0 b1 b2 b3 d0 d1 d2 d3
  go_wp2_with fail
  refine (OO.out _ HK2.out).mono ?_
  rintro e w3 ⟨rfl, hk⟩
  have HK3 := Lib.hid (kk HK2.out hk)
  clear hk
  go_wp2_with fail
  go_ret2
  exact ⟨rfl, HK3.out⟩

theorem compare_spec (x y : V) (w : World) (hx : x.In w w.heap.size) (hy : y.In w w.heap.size) :
    Calls Tryz.prog 26 #[x.val, y.val] w fun e w' => e = .returned (cmpV x y) ∧ Kp w w' := by
  cases hv : x.valid with
  | false => simpa [cmpV, hv] using compareR_first x y w hx hv
  | true =>
    cases hw : y.valid with
    | false => simpa [cmpV, hv, hw] using compareR_second x y w hx hy hv hw
    | true => simpa [cmpV, hv, hw] using compareR_both x y w hx hy hv hw

end Go.Proofs.YtkfmgafgokpjhaaGreatDoor

/-
  THE VALUES THAT THE STATEMENTS MAKE: Int, Text, Tuple, Tag; sample, kind.
-/
namespace Go.Proofs.YtkfmgafgokpjhaaGreatDoor
open Go.RowKit

set_option maxHeartbeats 400000 in
theorem int_any (n : Int) (w : World) : Calls Tryz.prog 46 #[.int .i64 n] w fun e w' => e = .returned (.agg #[.int .i64 0, .int .i64 n, .string ⟨#[]⟩, .slice none 0 0]) ∧ Kp w w' := by
  go_enter Tryz.func46, Tryz.ntmps46
  go_wp2_with fail
  exact bodyPost_ret (v := .agg #[.int .i64 0, .int .i64 n, .string ⟨#[]⟩, .slice none 0 0]) (by simp [results, Tryz.results46, go_sem]) rfl ⟨rfl, ka _ _⟩

set_option maxHeartbeats 400000 in
theorem text_any (s : ByteArray) (w : World) : Calls Tryz.prog 47 #[.string s] w fun e w' => e = .returned (.agg #[.int .i64 1, .int .i64 0, .string s, .slice none 0 0]) ∧ Kp w w' := by
  go_enter Tryz.func47, Tryz.ntmps47
  go_wp2_with fail
  exact bodyPost_ret (v := .agg #[.int .i64 1, .int .i64 0, .string s, .slice none 0 0]) (by simp [results, Tryz.results47, go_sem]) rfl ⟨rfl, ka _ _⟩

set_option maxHeartbeats 400000 in
theorem tuple_any (a : Option Addr) (l c : Nat) (w : World) : Calls Tryz.prog 41 #[.slice a l c] w fun e w' => e = .returned (.agg #[.int .i64 2, .int .i64 0, .string ⟨#[]⟩, .slice a l c]) ∧ Kp w w' := by
  go_enter Tryz.func41, Tryz.ntmps41
  go_wp2_with fail
  exact bodyPost_ret (v := .agg #[.int .i64 2, .int .i64 0, .string ⟨#[]⟩, .slice a l c]) (by simp [results, Tryz.results41, go_sem]) rfl ⟨rfl, ka _ _⟩

set_option maxRecDepth 100000 in
set_option maxHeartbeats 1000000 in
theorem tag_any (i k n : Int) (s : ByteArray) (a : Option Addr) (l c : Nat) (w : World) : Calls Tryz.prog 44 #[.int .i64 i, .agg #[.int .i64 k, .int .i64 n, .string s, .slice a l c]] w fun e w' =>
    ∃ q, e = .returned (.agg #[.int .i64 3, .int .i64 i, .string ⟨#[]⟩, .slice (some ⟨q, 0, none⟩) 1 1]) ∧ w'.heap[q]? = some (.cells #[.int .i64 k, .int .i64 n, .string s, .slice a l c] 24 (0, 0)) ∧ w.heap.size ≤ q ∧ Kp w w' := by
  go_enter Tryz.func44, Tryz.ntmps44
  go_wp2_with fail
  exact bodyPost_ret (v := .agg #[.int .i64 3, .int .i64 i, .string ⟨#[]⟩, .slice (some ⟨w.heap.size + 1 + 1, 0, none⟩) 1 1]) (by simp [results, Tryz.results44, go_sem]) rfl
    ⟨_, rfl, blockHere (by simp), by omega, kk (kk (ka _ _) (ka _ _)) (ka _ _)⟩

/-- The sample's parts, and the tag's. -/
abbrev sampleTag : Array Value := #[.int .i64 0, .int .i64 0, .string ⟨#[]⟩, .slice none 0 0]
abbrev sampleCells (r : Nat) : Array Value := #[.int .i64 0, .int .i64 (-3), .string ⟨#[]⟩, .slice none 0 0, .int .i64 1, .int .i64 0, .string ⟨#[97, 34, 98]⟩, .slice none 0 0, .int .i64 2, .int .i64 0, .string ⟨#[]⟩, .slice none 0 0, .int .i64 3, .int .i64 2, .string ⟨#[]⟩, .slice (some ⟨r, 0, none⟩) 1 1]

set_option maxRecDepth 100000 in
set_option maxHeartbeats 2000000 in
theorem sample_any (w : World) : Calls Tryz.prog 64 #[] w fun e w' =>
    ∃ q r, e = .returned (.agg #[.int .i64 2, .int .i64 0, .string ⟨#[]⟩, .slice (some ⟨q, 0, none⟩) 4 4]) ∧ w'.heap[q]? = some (.cells (sampleCells r) 24 (0, 0)) ∧ w'.heap[r]? = some (.cells sampleTag 24 (0, 0)) ∧ w.heap.size ≤ q ∧ w.heap.size ≤ r ∧ Kp w w' := by
  go_enter Tryz.func64, Tryz.ntmps64
  go_wp2_with fail
  refine (int_any _ _).mono ?_
  rintro e w1 ⟨rfl, hk1⟩
  have HK1 := Lib.hid hk1
  clear hk1
  go_wp2_with fail
  refine (text_any _ _).mono ?_
  rintro e w2 ⟨rfl, hk2⟩
  have HK2 := Lib.hid (kk HK1.out hk2)
  clear hk2
  go_wp2_with fail
  refine (tuple_any _ _ _ _).mono ?_
  rintro e w3 ⟨rfl, hk3⟩
  have HK3 := Lib.hid (kk HK2.out hk3)
  clear hk3
  go_wp2_with fail
  refine (int_any _ _).mono ?_
  rintro e w4 ⟨rfl, hk4⟩
  have HK4 := Lib.hid (kk HK3.out hk4)
  clear hk4
  go_wp2_with fail
  refine (tag_any _ _ _ _ _ _ _ _).mono ?_
  rintro e w5 ⟨r, rfl, hr, hrz, hk5⟩
  have HK5 := Lib.hid (kk HK4.out hk5)
  have hz4 := HK4.out.size
  simp at hz4
  have HR := Lib.hid hr
  clear hk5 hr
  go_wp2_with fail
  have hq : (w5.alloc (.cells (sampleCells r) 24)).heap[w5.heap.size]? = some (.cells (sampleCells r) 24 (0, 0)) := blockHere rfl
  have hk6 := kk HK5.out (ka w5 (.cells (sampleCells r) 24))
  have hr6 := ((ka w5 (.cells (sampleCells r) 24)).block _ (lt_of_block HR.out)).trans HR.out
  have HQ := Lib.hid hq
  have HK6 := Lib.hid hk6
  have HR6 := Lib.hid hr6
  clear hq hk6 hr6
  refine (tuple_any _ _ _ _).mono ?_
  rintro e w7 ⟨rfl, hk7⟩
  have hb := boxK (kk HK6.out hk7)
  obtain ⟨c0, c1, c2, c3, f0, f1, f2, f3⟩ := cell4 hb
  have HB := Lib.hid hb
  have HK7 := Lib.hid (kk (ka _ _) (kk HK6.out hk7))
  have HQ7 := Lib.hid ((hk7.block _ (lt_of_block HQ.out)).trans HQ.out)
  have HR7 := Lib.hid ((hk7.block _ (lt_of_block HR6.out)).trans HR6.out)
  have hz5 := HK5.out.size
  simp at hz5
  clear hb hk7
  go_wp2_with fail
  obtain ⟨d0, d1, d2, d3, -⟩ := cell4 (put4_block (v0 := .int .i64 2) (v1 := .int .i64 0) (v2 := .string ⟨#[]⟩) (v3 := .slice (some ⟨w5.heap.size, 0, none⟩) 4 4) HB.out)
  refine bodyPost_ret (v := .agg #[.int .i64 2, .int .i64 0, .string ⟨#[]⟩, .slice (some ⟨w5.heap.size, 0, none⟩) 4 4]) (by simp [results, Tryz.results64, go_sem, d0, d1, d2, d3]) rfl
    ⟨_, r, rfl, (put4_other (by omega)).trans HQ7.out, (put4_other (by omega)).trans HR7.out, by omega, by omega, put4_kp HK7.out (Nat.le_refl _)⟩

set_option maxRecDepth 100000 in
set_option maxHeartbeats 2000000 in
theorem kind_any (w : World) : Calls Tryz.prog 65 #[] w fun e w' =>
    ∃ g h, e = .returned (.agg #[.int .i64 2, .slice (some ⟨g, 0, none⟩) 4 4]) ∧ w'.heap[g]? = some (.cells (kindCells h) 27 (0, 0)) ∧ w'.heap[h]? = some (.cells sumCells 27 (0, 0)) ∧ w.heap.size ≤ g ∧ w.heap.size ≤ h ∧ Kp w w' := by
  go_enter Tryz.func65, Tryz.ntmps65
  go_wp2_with fail
  exact bodyPost_ret (v := .agg #[.int .i64 2, .slice (some ⟨w.heap.size + 1 + 1 + 1 + 1 + 1, 0, none⟩) 4 4]) (by simp [results, Tryz.results65, go_sem]) rfl
    ⟨_, w.heap.size + 1 + 1 + 1, rfl, blockHere (by simp), blockPast (blockPast (blockHere (by simp))), by omega, by omega, kk (kk (kk (kk (kk (ka _ _) (ka _ _)) (ka _ _)) (ka _ _)) (ka _ _)) (ka _ _)⟩

end Go.Proofs.YtkfmgafgokpjhaaGreatDoor

/-
  THE WALKS OF THE TEXT OF A TYPE.
-/
namespace Go.Proofs.YtkfmgafgokpjhaaGreatDoor
open Go.RowKit

/-- The texts of a list, with others between. -/
def joinT (f : T → List UInt8) (sep : List UInt8) : List T → List UInt8
  | [] => []
  | [x] => f x
  | x :: y :: ys => f x ++ sep ++ joinT f sep (y :: ys)

theorem joinT_snoc (f : T → List UInt8) (sep : List UInt8) : ∀ (l : List T) (x : T), joinT f sep (l ++ [x]) = if l = [] then f x else joinT f sep l ++ sep ++ f x
  | [], x => by simp [joinT]
  | [y], x => by simp [joinT]
  | y :: z :: zs, x => by
    have ih := joinT_snoc f sep (z :: zs) x
    simp only [List.cons_append, joinT] at ih ⊢
    simp at ih ⊢
    rw [ih]
theorem joinT_pre (f : T → List UInt8) (sep : List UInt8) : ∀ (a b : List T), ∃ r, joinT f sep (a ++ b) = joinT f sep a ++ r
  | [], b => ⟨_, rfl⟩
  | [x], [] => ⟨[], by simp [joinT]⟩
  | [x], y :: ys => ⟨sep ++ joinT f sep (y :: ys), by simp [joinT]⟩
  | x :: y :: ys, b => by
    obtain ⟨r, hr⟩ := joinT_pre f sep (y :: ys) b
    refine ⟨r, ?_⟩
    simp only [List.cons_append, joinT] at hr ⊢
    rw [hr]; simp
theorem joinT_len (f : T → List UInt8) (sep : List UInt8) (l : List T) (j : Nat) : (joinT f sep (l.take j)).length ≤ (joinT f sep l).length := by
  obtain ⟨r, hr⟩ := joinT_pre f sep (l.take j) (l.drop j)
  rw [List.take_append_drop] at hr
  rw [hr]; simp

set_option maxHeartbeats 2000000 in
theorem listTextT (f : T → List UInt8) (w : World) (S b0 off : Nat) (a : Option Addr) (cap : Nat) (l : List T) (xs : List UInt8) (op bt en : ByteArray) (ha : l ≠ [] → a = some ⟨b0, off, none⟩) (hl : l.length ≤ 9223372036854775807) (hs : Sink w S xs)
    (H : ∀ (j : Nat) (x : T), l[j]? = some x → ∀ (w1 : World) (xs1 : List UInt8), Sk S w w1 → Sink w1 S xs1 → xs1.length + (f x).length ≤ 1000000000000 →
      Calls Tryz.prog 70 #[.pointer (some ⟨b0, off + j * 2, none⟩), takeF S] w1 fun e w' => e = .returned (.tuple #[]) ∧ Sink w' S (xs1 ++ f x) ∧ Sk S w1 w')
    (hx : xs.length + op.size + (joinT f bt.data.toList l).length + en.size ≤ 1000000000000) :
    Calls Tryz.prog 111 #[takeF S, .string op, .string bt, .string en, .slice a l.length cap, .func (.func 70) #[] #[]] w fun e w' =>
      e = .returned (.tuple #[]) ∧ Sink w' S (xs ++ op.data.toList ++ joinT f bt.data.toList l ++ en.data.toList) ∧ Sk S w w' := by
  have HS := Lib.hid hs
  have HH := Lib.hid H
  have HX := Lib.hid hx
  have HA := Lib.hid ha
  have zop : op.data.toList.length = op.size := by simp
  have ZOP := Lib.hid zop
  have zbt : bt.data.toList.length = bt.size := by simp
  have ZBT := Lib.hid zbt
  clear hs H hx ha zop zbt
  go_enter Tryz.func111, Tryz.ntmps111
  go_wp2_with fail
  refine (puts_any w S xs op HS.out (by have := HX.out; omega)).mono ?_
  rintro e w1 ⟨rfl, hs1, hk1⟩
  have HS1 := Lib.hid hs1
  have HK1 := Lib.hid hk1
  clear hs1 hk1
  go_wp2_with fail
  go_loopw [18] (fun i wr => ∃ j : Nat, j ≤ l.length ∧ i = .int .i64 j ∧ Sink wr S (xs ++ op.data.toList ++ joinT f bt.data.toList (l.take j)) ∧ Sk S w wr) (fun i _ => l.length - (intOf i).toNat)
  case atStart => exact ⟨0, Nat.zero_le _, rfl, by simpa [joinT] using HS1.out, HK1.out⟩
  case round =>
    obtain ⟨j, hj, rfl, hsk, hk⟩ := hrel
    have HSK := Lib.hid hsk
    have HK := Lib.hid hk
    clear hsk hk
    by_cases hlt : j < l.length
    · obtain ⟨x, hxj⟩ : ∃ x, l[j]? = some x := ⟨l[j], by simp [hlt]⟩
      have HXJ := Lib.hid hxj
      obtain rfl := HA.out (by rintro rfl; simp at hlt)
      have hb := joinT_len f bt.data.toList l (j + 1)
      have hts := take_snocT hxj
      have hjn := joinT_snoc f bt.data.toList (l.take j) x
      rw [← hts] at hjn
      have HB := Lib.hid hb
      have HJ := Lib.hid hjn
      clear hxj hb hts hjn
      by_cases h0 : j = 0
      · subst h0
        have hj1 : joinT f bt.data.toList (l.take (0 + 1)) = f x := by rw [HJ.out]; simp
        have HJ1 := Lib.hid hj1
        clear hj1
        go_wp2_with fail
        refine (HH.out 0 x HXJ.out _ _ HK.out HSK.out (by have := HX.out; have := HB.out; rw [HJ1.out] at this; simp [joinT]; have := ZOP.out; simp at this; omega)).mono ?_
        rintro e w2 ⟨rfl, hs2, hk2⟩
        have HS2 := Lib.hid hs2
        have HK2 := Lib.hid (HK.out.trans hk2)
        clear hs2 hk2
        go_wp2_with fail
        go_roundw
        case rel => exact ⟨1, by omega, by go_num, by have := HS2.out; rw [HJ1.out]; simpa [joinT] using this, HK2.out⟩
        case measure => simp [intOf]; omega
      · have hne : ¬ l.take j = [] := by
          intro h; have := congrArg List.length h; simp at this; rcases this with h | h; omega; subst h; simp at hlt
        have hj1 : joinT f bt.data.toList (l.take (j + 1)) = joinT f bt.data.toList (l.take j) ++ bt.data.toList ++ f x := by rw [HJ.out, if_neg hne]
        have HJ1 := Lib.hid hj1
        have hlen : (xs ++ op.data.toList ++ joinT f bt.data.toList (l.take j)).length + bt.size + (f x).length ≤ 1000000000000 := by
          have h1 := HX.out; have h2 := HB.out; rw [hj1] at h2; have h3 := ZOP.out; have h4 := ZBT.out
          simp only [List.length_append] at h2 ⊢; omega
        have HLEN := Lib.hid hlen
        have hpos : (0 : Int) < (j : Int) := by omega
        clear hj1 hne hlen
        generalize joinT f bt.data.toList (l.take j) = J at *
        go_wp2_with fail
        refine (puts_any _ S _ bt HSK.out (by have := HLEN.out; omega)).mono ?_
        rintro e w2 ⟨rfl, hs2, hk2⟩
        have HS2 := Lib.hid hs2
        have HK2 := Lib.hid (HK.out.trans hk2)
        clear hs2 hk2
        go_wp2_with fail
        refine (HH.out j x HXJ.out _ _ HK2.out HS2.out (by have := HLEN.out; have := ZBT.out; simp only [List.length_append] at *; omega)).mono ?_
        rintro e w3 ⟨rfl, hs3, hk3⟩
        have HS3 := Lib.hid hs3
        have HK3 := Lib.hid (HK2.out.trans hk3)
        clear hs3 hk3
        go_wp2_with fail
        go_roundw
        case rel => exact ⟨j + 1, by omega, by go_num, by have := HS3.out; rw [HJ1.out]; simpa using this, HK3.out⟩
        case measure => simp [intOf]; omega
    · have hjl : j = l.length := by omega
      subst hjl
      rw [List.take_length] at HSK
      generalize hJ : joinT f bt.data.toList l = J at *
      go_wp2_with fail
      refine (puts_any _ S _ en HSK.out (by have := HX.out; have := ZOP.out; simp only [List.length_append] at *; omega)).mono ?_
      rintro e w2 ⟨rfl, hs2, hk2⟩
      have HS2 := Lib.hid hs2
      have HK2 := Lib.hid (HK.out.trans hk2)
      clear hs2 hk2
      go_wp2_with fail
      go_end0
      exact ⟨rfl, by subst hJ; exact HS2.out, HK2.out⟩


mutual
/-- The text of a type. -/
def T.txt : T → List UInt8
  | .mk k _ _ l => if k = 0 then [105, 110, 116] else if k = 1 then [116, 101, 120, 116] else if k = 2 then 40 :: T.txtL [44, 32] l ++ [41] else if k = 3 then 91 :: T.txtL [32, 43, 32] l ++ [93] else []
def T.txtL : List UInt8 → List T → List UInt8
  | _, [] => []
  | sep, x :: xs => match xs with
    | [] => x.txt
    | y :: ys => x.txt ++ sep ++ T.txtL sep (y :: ys)
end
theorem T.txtL_join (sep : List UInt8) : ∀ (l : List T), T.txtL sep l = joinT T.txt sep l
  | [] => by simp [T.txtL, joinT]
  | [x] => by simp [T.txtL, joinT]
  | x :: y :: ys => by
    have := T.txtL_join sep (y :: ys)
    simp only [joinT]
    rw [← this]
    conv => lhs; unfold T.txtL

/-- A type's two cells lie at an address. -/
structure PtrAtT (w : World) (b off : Nat) (k : Int) (sl : Value) : Prop where
  c0 : w.cell? ⟨b, off, none⟩ = some (.int .i64 k)
  c1 : w.cell? ⟨b, off + 1, none⟩ = some sl
theorem PtrAtT.keep {w w' : World} {b off B : Nat} {k : Int} {sl : Value} (h : PtrAtT w b off k sl) (hb : b < B) (hk : Below B w w') : PtrAtT w' b off k sl :=
  ⟨(hk.cell (p := ⟨b, _, none⟩) hb).trans h.c0, (hk.cell (p := ⟨b, _, none⟩) hb).trans h.c1⟩

theorem T.ptrPart {w : World} {B : Nat} {k : Int} {a : Option Addr} {cap : Nat} {l : List T} (hin : (T.mk k a cap l).In w B) (hl : l ≠ []) :
    ∃ b0 off, a = some ⟨b0, off, none⟩ ∧ b0 < B ∧ ∀ (j : Nat) (x : T), l[j]? = some x → PtrAtT w b0 (off + j * 2) x.k (.slice x.a x.l.length x.cap) ∧ x.In w B := by
  rw [T.In_def] at hin
  obtain ⟨_, _, _, hat, hparts⟩ := hin
  simp only [T.l, T.a] at hat hparts
  rcases hat with h | ⟨b0, off, h, hb0, hat⟩
  · exact absurd h hl
  · exact ⟨b0, off, h, hb0, fun j x hx => ⟨⟨(hat j x hx).1, (hat j x hx).2⟩, T.InL_iff.1 hparts j x hx⟩⟩

set_option maxHeartbeats 1000000 in
theorem writeType_int (w : World) (S b off : Nat) (xs : List UInt8) (sl : Value) (hs : Sink w S xs) (hp : PtrAtT w b off 0 sl) (hx : xs.length + 3 ≤ 1000000000000) :
    Calls Tryz.prog 70 #[.pointer (some ⟨b, off, none⟩), takeF S] w fun e w' => e = .returned (.tuple #[]) ∧ Sink w' S (xs ++ [105, 110, 116]) ∧ Sk S w w' := by
  have h0 := hp.c0
  have CC := Lib.hid (puts_any w S xs ⟨#[105, 110, 116]⟩ hs (by simp [ByteArray.size]; omega))
  clear hs hp hx
  go_enter Tryz.func70, Tryz.ntmps70
  go_wp2_with fail
  refine CC.out.mono ?_
  rintro e w2 ⟨rfl, hs2, hk2⟩
  have HK2 := Lib.hid hk2
  have HS2 := Lib.hid hs2
  clear hs2 hk2
  go_wp2_with fail
  go_end0
  exact ⟨rfl, HS2.out, HK2.out⟩

set_option maxHeartbeats 1000000 in
theorem writeType_text (w : World) (S b off : Nat) (xs : List UInt8) (sl : Value) (hs : Sink w S xs) (hp : PtrAtT w b off 1 sl) (hx : xs.length + 4 ≤ 1000000000000) :
    Calls Tryz.prog 70 #[.pointer (some ⟨b, off, none⟩), takeF S] w fun e w' => e = .returned (.tuple #[]) ∧ Sink w' S (xs ++ [116, 101, 120, 116]) ∧ Sk S w w' := by
  have h0 := hp.c0
  have CC := Lib.hid (puts_any w S xs ⟨#[116, 101, 120, 116]⟩ hs (by simp [ByteArray.size]; omega))
  clear hs hp hx
  go_enter Tryz.func70, Tryz.ntmps70
  go_wp2_with fail
  refine CC.out.mono ?_
  rintro e w2 ⟨rfl, hs2, hk2⟩
  have HK2 := Lib.hid hk2
  have HS2 := Lib.hid hs2
  clear hs2 hk2
  go_wp2_with fail
  go_end0
  exact ⟨rfl, HS2.out, HK2.out⟩

set_option maxHeartbeats 1000000 in
theorem writeType_tuple (w : World) (S b off : Nat) (xs E : List UInt8) (a : Option Addr) (len cap : Nat) (hp : PtrAtT w b off 2 (.slice a len cap))
    (C : Calls Tryz.prog 111 #[takeF S, .string ⟨#[40]⟩, .string ⟨#[44, 32]⟩, .string ⟨#[41]⟩, .slice a len cap, .func (.func 70) #[] #[]] w fun e w' => e = .returned (.tuple #[]) ∧ Sink w' S (xs ++ E) ∧ Sk S w w') :
    Calls Tryz.prog 70 #[.pointer (some ⟨b, off, none⟩), takeF S] w fun e w' => e = .returned (.tuple #[]) ∧ Sink w' S (xs ++ E) ∧ Sk S w w' := by
  have h0 := hp.c0
  have h1 := hp.c1
  have CC := Lib.hid C
  clear C hp
  go_enter Tryz.func70, Tryz.ntmps70
  go_wp2_with fail
  refine CC.out.mono ?_
  rintro e w2 ⟨rfl, hs2, hk2⟩
  have HK2 := Lib.hid hk2
  have HS2 := Lib.hid hs2
  clear hs2 hk2
  go_wp2_with fail
  go_end0
  exact ⟨rfl, HS2.out, HK2.out⟩

set_option maxHeartbeats 1000000 in
theorem writeType_sum (w : World) (S b off : Nat) (xs E : List UInt8) (a : Option Addr) (len cap : Nat) (hp : PtrAtT w b off 3 (.slice a len cap))
    (C : Calls Tryz.prog 111 #[takeF S, .string ⟨#[91]⟩, .string ⟨#[32, 43, 32]⟩, .string ⟨#[93]⟩, .slice a len cap, .func (.func 70) #[] #[]] w fun e w' => e = .returned (.tuple #[]) ∧ Sink w' S (xs ++ E) ∧ Sk S w w') :
    Calls Tryz.prog 70 #[.pointer (some ⟨b, off, none⟩), takeF S] w fun e w' => e = .returned (.tuple #[]) ∧ Sink w' S (xs ++ E) ∧ Sk S w w' := by
  have h0 := hp.c0
  have h1 := hp.c1
  have CC := Lib.hid C
  clear C hp
  go_enter Tryz.func70, Tryz.ntmps70
  go_wp2_with fail
  refine CC.out.mono ?_
  rintro e w2 ⟨rfl, hs2, hk2⟩
  have HK2 := Lib.hid hk2
  have HS2 := Lib.hid hs2
  clear hs2 hk2
  go_wp2_with fail
  go_end0
  exact ⟨rfl, HS2.out, HK2.out⟩

set_option maxHeartbeats 1000000 in
theorem writeType_none (w : World) (S b off : Nat) (xs : List UInt8) (k : Int) (sl : Value) (hs : Sink w S xs) (hp : PtrAtT w b off k sl) (h : ¬ k = 0 ∧ ¬ k = 1 ∧ ¬ k = 2 ∧ ¬ k = 3) :
    Calls Tryz.prog 70 #[.pointer (some ⟨b, off, none⟩), takeF S] w fun e w' => e = .returned (.tuple #[]) ∧ Sink w' S (xs ++ []) ∧ Sk S w w' := by
  have h0 := hp.c0
  have HS := Lib.hid hs
  have g0 : (k == 0) = false := by simpa using h.1
  have g1 : (k == 1) = false := by simpa using h.2.1
  have g2 : (k == 2) = false := by simpa using h.2.2.1
  have g3 : (k == 3) = false := by simpa using h.2.2.2
  clear hs hp h
  go_enter Tryz.func70, Tryz.ntmps70
  go_wp2_with fail
  go_end0
  exact ⟨rfl, by simpa using HS.out, Sk.refl _ _⟩

theorem textT : ∀ (N : Nat) (v : T) (w : World) (S b off : Nat) (xs : List UInt8), v.rank ≤ N → v.In w S → PtrAtT w b off v.k (.slice v.a v.l.length v.cap) → b < S → Sink w S xs → xs.length + v.txt.length ≤ 1000000000000 →
    Calls Tryz.prog 70 #[.pointer (some ⟨b, off, none⟩), takeF S] w fun e w' => e = .returned (.tuple #[]) ∧ Sink w' S (xs ++ v.txt) ∧ Sk S w w' := by
  intro N
  induction N with
  | zero => intro v w S b off xs h; have := v.rank_pos; omega
  | succ N ih =>
    intro v w S b off xs hN hin hp hb hs hx
    cases v with
    | mk k a cap l =>
    simp only [T.k, T.a, T.l, T.cap] at hp
    have hll := T.lenLe hin
    have part : ∀ (b0 off0 : Nat), (∀ (j : Nat) (x : T), l[j]? = some x → PtrAtT w b0 (off0 + j * 2) x.k (.slice x.a x.l.length x.cap) ∧ x.In w S) → b0 < S →
        ∀ (j : Nat) (x : T), l[j]? = some x → ∀ (w1 : World) (xs1 : List UInt8), Sk S w w1 → Sink w1 S xs1 → xs1.length + x.txt.length ≤ 1000000000000 →
          Calls Tryz.prog 70 #[.pointer (some ⟨b0, off0 + j * 2, none⟩), takeF S] w1 fun e w' => e = .returned (.tuple #[]) ∧ Sink w' S (xs1 ++ x.txt) ∧ Sk S w1 w' := by
      intro b0 off0 hpt hb0 j x hj w1 xs1 hk1 hs1 hx1
      have hrk := T.rank_part (v := .mk k a cap l) (j := j) (x := x) hj
      have hbl := hk1.below hs
      exact ih x w1 S b0 (off0 + j * 2) xs1 (by omega) ((hpt j x hj).2.keep (Nat.le_refl _) hbl) ((hpt j x hj).1.keep hb0 hbl) hb0 hs1 hx1
    by_cases h0 : k = 0
    · subst h0
      have e : (T.mk 0 a cap l).txt = [105, 110, 116] := by simp [T.txt]
      rw [e] at hx ⊢
      exact writeType_int w S b off xs _ hs hp (by simpa using hx)
    by_cases h1 : k = 1
    · subst h1
      have e : (T.mk 1 a cap l).txt = [116, 101, 120, 116] := by simp [T.txt]
      rw [e] at hx ⊢
      exact writeType_text w S b off xs _ hs hp (by simpa using hx)
    by_cases h2 : k = 2
    · subst h2
      have e : (T.mk 2 a cap l).txt = 40 :: joinT T.txt [44, 32] l ++ [41] := by simp [T.txt, T.txtL_join]
      rw [e] at hx ⊢
      refine writeType_tuple w S b off xs _ a l.length cap hp ?_
      by_cases hl : l = []
      · simpa using listTextT T.txt w S 0 0 a cap l xs ⟨#[40]⟩ ⟨#[44, 32]⟩ ⟨#[41]⟩ (fun h => absurd hl h) hll hs (fun j x hj => by subst hl; simp at hj) (by simp at hx; simp [ByteArray.size]; omega)
      · obtain ⟨b0, off0, ha, hb0, hpt⟩ := T.ptrPart hin hl
        simpa using listTextT T.txt w S b0 off0 a cap l xs ⟨#[40]⟩ ⟨#[44, 32]⟩ ⟨#[41]⟩ (fun _ => ha) hll hs (part b0 off0 hpt hb0) (by simp at hx; simp [ByteArray.size]; omega)
    by_cases h3 : k = 3
    · subst h3
      have e : (T.mk 3 a cap l).txt = 91 :: joinT T.txt [32, 43, 32] l ++ [93] := by simp [T.txt, T.txtL_join]
      rw [e] at hx ⊢
      refine writeType_sum w S b off xs _ a l.length cap hp ?_
      by_cases hl : l = []
      · simpa using listTextT T.txt w S 0 0 a cap l xs ⟨#[91]⟩ ⟨#[32, 43, 32]⟩ ⟨#[93]⟩ (fun h => absurd hl h) hll hs (fun j x hj => by subst hl; simp at hj) (by simp at hx; simp [ByteArray.size]; omega)
      · obtain ⟨b0, off0, ha, hb0, hpt⟩ := T.ptrPart hin hl
        simpa using listTextT T.txt w S b0 off0 a cap l xs ⟨#[91]⟩ ⟨#[32, 43, 32]⟩ ⟨#[93]⟩ (fun _ => ha) hll hs (part b0 off0 hpt hb0) (by simp at hx; simp [ByteArray.size]; omega)
    have e : (T.mk k a cap l).txt = [] := by simp [T.txt, h0, h1, h2, h3]
    rw [e]
    exact writeType_none w S b off xs k _ hs hp ⟨h0, h1, h2, h3⟩

set_option maxHeartbeats 1000000 in
theorem typeText (k : Int) (a : Option Addr) (cap : Nat) (l : List T) (w : World) (hin : (T.mk k a cap l).In w w.heap.size) (hc : ¬ (T.mk k a cap l).cnt = 0) (hne : (T.mk k a cap l).txt ≠ [])
    (hx : (T.mk k a cap l).txt.length ≤ 1000000000000) :
    Calls Tryz.prog 29 #[.agg #[.int .i64 k, .slice a l.length cap]] w fun e w' =>
      e = .returned (.tuple #[.string ⟨(T.mk k a cap l).txt.toArray⟩, .int .i64 0]) ∧ Kp w w' := by
  have C := fun w1 (h : Kp w w1) => typeV k a cap l w1 (hin.keep h.size h)
  rw [bad1 hc] at C
  have CC := Lib.hid C
  have D : ∀ (w1 : World) (S b : Nat), Kp w w1 → w.heap.size ≤ S → PtrAtT w1 b 0 k (.slice a l.length cap) → b < S → Sink w1 S [] →
      Calls Tryz.prog 70 #[.pointer (some ⟨b, 0, none⟩), takeF S] w1 fun e w' => e = .returned (.tuple #[]) ∧ Sink w' S (T.mk k a cap l).txt ∧ Sk S w1 w' := by
    intro w1 S b hk hS hp hb hs
    simpa using textT _ (.mk k a cap l) w1 S b 0 [] (Nat.le_refl _) (hin.keep hS hk) hp hb hs (by simpa using hx)
  have DD := Lib.hid D
  have HNE := Lib.hid hne
  generalize (T.mk k a cap l).txt = E at *
  clear C D hin hc hx hne
  go_enter Tryz.func29, Tryz.ntmps29
  go_wp2_with fail
  refine (CC.out _ (ka _ _)).mono ?_
  rintro e w1 ⟨rfl, hk⟩
  obtain ⟨b0, b1, hz⟩ := box2 hk
  have HK := Lib.hid (kk (ka _ _) hk)
  have HP := Lib.hid (⟨b0, b1⟩ : PtrAtT w1 w.heap.size 0 k (.slice a l.length cap))
  clear hk b0 b1
  go_wp2_with fail
  refine (DD.out _ w1.heap.size w.heap.size (kk HK.out (ka _ _)) (by omega) (HP.out.keep hz (ka _ _)) hz ⟨.slice none 0 0, blockHere rfl, World.ownsRow_nil _ _ _ _⟩).mono ?_
  rintro e w3 ⟨rfl, hs3, hk3⟩
  obtain ⟨g, cap3, hc3, hcv⟩ := hs3.out HNE.out
  have HK3 := Lib.hid (HK.out.trans ((Below.alloc (Below.refl _ _) (by omega) _).trans ((hk3.below (S := w1.heap.size) (xs := []) ⟨.slice none 0 0, blockHere rfl, World.ownsRow_nil _ _ _ _⟩).mono (by omega))))
  clear hs3 hk3
  go_wp2_with fail
  go_ret2
  exact ⟨rfl, HK3.out⟩

end Go.Proofs.YtkfmgafgokpjhaaGreatDoor

/-
  THE WALKS OF SameValue AND SameValues, by recursion.
-/
namespace Go.Proofs.YtkfmgafgokpjhaaGreatDoor
open Go.RowKit

mutual
/-- Are two values the same? -/
def V.same : V → V → Bool
  | .mk k n s _ _ l, .mk k' n' s' _ _ l' => decide (k = k') && (decide (n = n') && (decide (s.toList = s'.toList) && V.sameL l l'))
def V.sameL : List V → List V → Bool
  | [], [] => true
  | x :: xs, y :: ys => x.same y && V.sameL xs ys
  | _, _ => false
end

theorem V.sameL_len : ∀ {l m : List V}, V.sameL l m = true → l.length = m.length
  | [], [], _ => rfl
  | x :: xs, y :: ys, h => by simp [V.sameL] at h; simp [V.sameL_len h.2]
  | [], _ :: _, h => by simp [V.sameL] at h
  | _ :: _, [], h => by simp [V.sameL] at h

/-- Two lists are the same up to a place. -/
def SameUpto (l m : List V) (j : Nat) : Prop := ∀ i x y, i < j → l[i]? = some x → m[i]? = some y → x.same y = true
theorem SameUpto.succ {l m : List V} {j : Nat} {x y : V} (h : SameUpto l m j) (hx : l[j]? = some x) (hy : m[j]? = some y) (h0 : x.same y = true) : SameUpto l m (j + 1) := by
  intro i a b hi ha hb
  rcases Nat.lt_succ_iff_lt_or_eq.1 hi with h1 | rfl
  · exact h i a b h1 ha hb
  · rw [hx] at ha; rw [hy] at hb; cases ha; cases hb; exact h0
theorem SameUpto.all : ∀ {l m : List V}, l.length = m.length → SameUpto l m l.length → V.sameL l m = true
  | [], [], _, _ => rfl
  | x :: xs, y :: ys, hl, h => by
    simp only [V.sameL, h 0 x y (by simp) (by simp) (by simp), Bool.true_and]
    exact SameUpto.all (by simpa using hl) fun i a b hi ha hb => h (i + 1) a b (by simpa using hi) (by simpa using ha) (by simpa using hb)
  | [], _ :: _, hl, _ => by simp at hl
  | _ :: _, [], hl, _ => by simp at hl
theorem V.sameL_not : ∀ {l m : List V} {j : Nat} {x y : V}, l[j]? = some x → m[j]? = some y → x.same y = false → V.sameL l m = false
  | [], _, _, _, _, h, _, _ => by simp at h
  | _, [], _, _, _, _, h, _ => by simp at h
  | x :: xs, y :: ys, 0, a, b, h, h', h0 => by simp at h h'; subst h; subst h'; simp [V.sameL, h0]
  | x :: xs, y :: ys, j + 1, a, b, h, h', h0 => by
    simp only [V.sameL]
    rw [V.sameL_not (l := xs) (m := ys) (j := j) (by simpa using h) (by simpa using h') h0]; simp

set_option maxRecDepth 100000 in
set_option maxHeartbeats 4000000 in
theorem samesV (N : Nat) (ih : ∀ (x y : V) (w : World), x.rank ≤ N → x.In w w.heap.size → y.In w w.heap.size → Calls Tryz.prog 23 #[x.val, y.val] w fun e w' => e = .returned (.bool (x.same y)) ∧ Kp w w')
    (k n : Int) (s : ByteArray) (a : Option Addr) (cap : Nat) (l : List V) (k' n' : Int) (s' : ByteArray) (a' : Option Addr) (cap' : Nat) (m : List V) (w : World) (hr : (V.mk k n s a cap l).rank ≤ N + 1)
    (hin : (V.mk k n s a cap l).In w w.heap.size) (hin' : (V.mk k' n' s' a' cap' m).In w w.heap.size) :
    Calls Tryz.prog 63 #[.slice a l.length cap, .slice a' m.length cap'] w fun e w' => e = .returned (.bool (V.sameL l m)) ∧ Kp w w' := by
  have hl := V.lenLe hin
  have hm := V.lenLe hin'
  have IH := Lib.hid ih
  have HIN := Lib.hid hin
  have HIN' := Lib.hid hin'
  have HR := Lib.hid hr
  clear ih hin hin' hr
  by_cases hlen : l.length = m.length
  · have g1 : (((l.length : Nat) : Int) != ((m.length : Nat) : Int)) = false := by simp [hlen]
    have HLEN := Lib.hid hlen
    clear hlen
    go_enter Tryz.func63, Tryz.ntmps63
    go_wp2_with fail
    go_loopw [5] (fun i wr => ∃ j : Nat, j ≤ l.length ∧ i = .int .i64 j ∧ SameUpto l m j ∧ Kp w wr) (fun i _ => l.length - (intOf i).toNat)
    case atStart => exact ⟨0, Nat.zero_le _, rfl, fun i _ _ h => absurd h (by omega), Below.refl _ _⟩
    case round =>
      obtain ⟨j, hj, rfl, heq, hk⟩ := hrel
      by_cases hlt : j < l.length
      · obtain ⟨x, hx⟩ : ∃ x, l[j]? = some x := ⟨l[j], by simp [hlt]⟩
        have hlt' : j < m.length := by rw [← HLEN.out]; exact hlt
        obtain ⟨y, hy⟩ : ∃ y, m[j]? = some y := ⟨m[j], by simp [hlt']⟩
        obtain ⟨b0, off, rfl, hb0, q0, q1, q2, q3, hxin⟩ := V.atPart HIN.out hx
        have r0 := kc hk q0
        have r1 := kc hk q1
        have r2 := kc hk q2
        have r3 := kc hk q3
        have HX := Lib.hid hx
        have HXI := Lib.hid hxin
        clear q0 q1 q2 q3 hx hxin
        obtain ⟨b1, off', rfl, hb1, q0, q1, q2, q3, hyin⟩ := V.atPart HIN'.out hy
        have t0 := kc hk q0
        have t1 := kc hk q1
        have t2 := kc hk q2
        have t3 := kc hk q3
        have HY := Lib.hid hy
        have HYI := Lib.hid hyin
        have HK := Lib.hid hk
        have hz := hk.size
        have C := fun w1 (h : Kp w w1) => IH.out x y w1 (by have := V.rank_part (v := .mk k n s (some ⟨b0, off, none⟩) cap l) HX.out; have := HR.out; omega) (HXI.out.keep h.size h) (HYI.out.keep h.size h)
        generalize hc : x.same y = c at C
        have CC := Lib.hid C
        have HC := Lib.hid hc
        clear q0 q1 q2 q3 hy hyin hk C hc
        have gi0 : (0 : Int) ≤ (j : Int) := by omega
        have gi1 : (j : Int) < (l.length : Int) := by omega
        have gi2 : (j : Int) < (m.length : Int) := by omega
        go_wp2_with fail
        go_region_held3 (fun w' => w'.cell? ⟨b0, off + j * 4, none⟩ = some (.int .i64 x.k) ∧ w'.cell? ⟨b0, off + j * 4 + 1, none⟩ = some (.int .i64 x.n) ∧ w'.cell? ⟨b0, off + j * 4 + 2, none⟩ = some (.string x.s) ∧ w'.cell? ⟨b0, off + j * 4 + 3, none⟩ = some (.slice x.a x.l.length x.cap) ∧
          w'.cell? ⟨b1, off' + j * 4, none⟩ = some (.int .i64 y.k) ∧ w'.cell? ⟨b1, off' + j * 4 + 1, none⟩ = some (.int .i64 y.n) ∧ w'.cell? ⟨b1, off' + j * 4 + 2, none⟩ = some (.string y.s) ∧ w'.cell? ⟨b1, off' + j * 4 + 3, none⟩ = some (.slice y.a y.l.length y.cap) ∧ Kp wr w')
          (first
            | (refine ⟨?_, ?_, ?_, ?_, ?_, ?_, ?_, ?_, ?_⟩ <;> first | exact (Below.refl _ _).drew | (go_keep; done))
            | (go_split_ands; exact ⟨‹_›, ‹_›, ‹_›, ‹_›, ‹_›, ‹_›, ‹_›, ‹_›, ‹_›⟩)
            | (go_split_ands; exact ⟨kc hk1 ‹_›, kc hk1 ‹_›, kc hk1 ‹_›, kc hk1 ‹_›, kc hk1 ‹_›, kc hk1 ‹_›, kc hk1 ‹_›, kc hk1 ‹_›, kk ‹_› hk1⟩))
          (first
            | (go_split_ands; go_at_call 23; refine (CC.out _ (kk HK.out ‹_›)).mono ?_; rintro e w1 ⟨rfl, hk1⟩))
        go_split_ands
        have HK1 := Lib.hid (kk HK.out ‹Kp wr _›)
        cases c
        · have hr : V.sameL l m = false := V.sameL_not HX.out HY.out HC.out
          have HRR := Lib.hid hr
          clear hr
          go_wp2_with fail
          go_ret
          exact ⟨by rw [HRR.out] <;> rfl, HK1.out⟩
        · go_wp2_with fail
          go_roundw
          case rel => exact ⟨j + 1, by omega, by go_num, heq.succ HX.out HY.out HC.out, HK1.out⟩
          case measure => simp [intOf]; omega
      · have hjl : j = l.length := by omega
        subst hjl
        have hr : V.sameL l m = true := SameUpto.all HLEN.out heq
        have HRR := Lib.hid hr
        have HK := Lib.hid hk
        clear hr hk
        go_wp2_with fail
        go_ret
        exact ⟨by rw [HRR.out] <;> rfl, HK.out⟩
  · have hr : V.sameL l m = false := by
      cases h : V.sameL l m with
      | false => rfl
      | true => exact absurd (V.sameL_len h) hlen
    have HRR := Lib.hid hr
    have g1 : (((l.length : Nat) : Int) != ((m.length : Nat) : Int)) = true := by simp; omega
    clear hr hlen
    go_enter Tryz.func63, Tryz.ntmps63
    go_wp2_with fail
    go_ret
    exact ⟨by rw [HRR.out] <;> rfl, Below.refl _ _⟩

set_option maxHeartbeats 2000000 in
theorem sameV : ∀ (N : Nat) (x y : V) (w : World), x.rank ≤ N → x.In w w.heap.size → y.In w w.heap.size →
    Calls Tryz.prog 23 #[x.val, y.val] w fun e w' => e = .returned (.bool (x.same y)) ∧ Kp w w' := by
  intro N
  induction N with
  | zero => intro x y w h; have := x.rank_pos; omega
  | succ N ih =>
    intro x y w hN hx hy
    cases x with
    | mk k n s a cap l =>
    cases y with
    | mk k' n' s' a' cap' l' =>
    rw [V.val_mk, V.val_mk]
    have C := fun w1 (h : Kp w w1) => samesV N ih k n s a cap l k' n' s' a' cap' l' w1 hN (hx.keep h.size h) (hy.keep h.size h)
    have hr : (V.mk k n s a cap l).same (V.mk k' n' s' a' cap' l') = (decide (k = k') && (decide (n = n') && (decide (s.toList = s'.toList) && V.sameL l l'))) := by simp only [V.same]
    rw [hr]
    generalize V.sameL l l' = q at C ⊢
    have CC := Lib.hid C
    clear C ih hx hy hN hr
    by_cases h1 : k = k'
    · by_cases h2 : n = n'
      · by_cases h3 : s.toList = s'.toList
        · have hr : (decide (k = k') && (decide (n = n') && (decide (s.toList = s'.toList) && q))) = q := by simp [h1, h2, h3]
          rw [hr]
          subst h1; subst h2
          have g3 : (s.toList == s'.toList) = true := by simpa using h3
          clear hr h3
          go_enter Tryz.func23, Tryz.ntmps23
          go_wp2_with fail
          refine (CC.out _ (kk (ka _ _) (ka _ _))).mono ?_
          rintro e w1 ⟨rfl, hk⟩
          have HK := Lib.hid (kk (kk (ka _ _) (ka _ _)) hk)
          clear hk
          go_wp2_with fail
          go_ret
          exact ⟨rfl, HK.out⟩
        · have hr : (decide (k = k') && (decide (n = n') && (decide (s.toList = s'.toList) && q))) = false := by simp [h3]
          rw [hr]
          subst h1; subst h2
          have g3 : (s.toList == s'.toList) = false := by simpa using h3
          clear hr CC h3
          go_enter Tryz.func23, Tryz.ntmps23
          go_wp2_with fail
          go_ret
          exact ⟨rfl, kk (ka _ _) (ka _ _)⟩
      · have hr : (decide (k = k') && (decide (n = n') && (decide (s.toList = s'.toList) && q))) = false := by simp [h2]
        rw [hr]
        subst h1
        have g2 : (n == n') = false := by simpa using h2
        clear hr CC h2
        go_enter Tryz.func23, Tryz.ntmps23
        go_wp2_with fail
        go_ret
        exact ⟨rfl, kk (ka _ _) (ka _ _)⟩
    · have hr : (decide (k = k') && (decide (n = n') && (decide (s.toList = s'.toList) && q))) = false := by simp [h1]
      rw [hr]
      have g1 : (k == k') = false := by simpa using h1
      clear hr CC h1
      go_enter Tryz.func23, Tryz.ntmps23
      go_wp2_with fail
      go_ret
      exact ⟨rfl, kk (ka _ _) (ka _ _)⟩

end Go.Proofs.YtkfmgafgokpjhaaGreatDoor

/-
  THE CALLS OF THE CHAPTER's EXAMPLES, each with its answer written out.
-/
namespace Go.Proofs.YtkfmgafgokpjhaaGreatDoor
open Go.RowKit

abbrev sampleV (q r : Nat) : V := .mk 2 0 ⟨#[]⟩ (some ⟨q, 0, none⟩) 4 [.mk 0 (-3) ⟨#[]⟩ none 0 [], .mk 1 0 ⟨#[97, 34, 98]⟩ none 0 [], .mk 2 0 ⟨#[]⟩ none 0 [], .mk 3 2 ⟨#[]⟩ (some ⟨r, 0, none⟩) 1 [.mk 0 0 ⟨#[]⟩ none 0 []]]

theorem sampleV_in {w : World} {q r B t u : Nat} (hq : w.heap[q]? = some (.cells (sampleCells r) t (0, 0))) (hr : w.heap[r]? = some (.cells sampleTag u (0, 0))) (hB : q < B) (hB2 : r < B) : (sampleV q r).In w B := by
  have i64 : ∀ n : Int, -10 ≤ n → n ≤ 10 → I64 n := fun n h1 h2 => by unfold I64; omega
  refine in_node 2 0 ⟨#[]⟩ [.mk 0 (-3) ⟨#[]⟩ none 0 [], .mk 1 0 ⟨#[97, 34, 98]⟩ none 0 [], .mk 2 0 ⟨#[]⟩ none 0 [], .mk 3 2 ⟨#[]⟩ (some ⟨r, 0, none⟩) 1 [.mk 0 0 ⟨#[]⟩ none 0 []]] (i64 2 (by omega) (by omega)) (i64 0 (by omega) (by omega)) (by decide) (by show 4 ≤ maxLen; decide) hB ?_ ⟨in_leaf _ _ _ (i64 _ (by omega) (by omega)) (i64 _ (by omega) (by omega)) (by decide), in_leaf _ _ _ (i64 _ (by omega) (by omega)) (i64 _ (by omega) (by omega)) (by decide), in_leaf _ _ _ (i64 _ (by omega) (by omega)) (i64 _ (by omega) (by omega)) (by decide), ?_, trivial⟩
  · intro j x hj
    match j, hj with
    | 0, hj => simp at hj; subst hj; exact ⟨cellOf hq rfl, cellOf hq rfl, cellOf hq rfl, cellOf hq rfl⟩
    | 1, hj => simp at hj; subst hj; exact ⟨cellOf hq rfl, cellOf hq rfl, cellOf hq rfl, cellOf hq rfl⟩
    | 2, hj => simp at hj; subst hj; exact ⟨cellOf hq rfl, cellOf hq rfl, cellOf hq rfl, cellOf hq rfl⟩
    | 3, hj => simp at hj; subst hj; exact ⟨cellOf hq rfl, cellOf hq rfl, cellOf hq rfl, cellOf hq rfl⟩
    | j + 4, hj => simp at hj
  · refine in_node 3 2 ⟨#[]⟩ [.mk 0 0 ⟨#[]⟩ none 0 []] (i64 _ (by omega) (by omega)) (i64 _ (by omega) (by omega)) (by decide) (by decide) hB2 ?_ ⟨in_leaf _ _ _ (i64 _ (by omega) (by omega)) (i64 _ (by omega) (by omega)) (by decide), trivial⟩
    intro j x hj
    match j, hj with
    | 0, hj => simp at hj; subst hj; exact ⟨cellOf hr rfl, cellOf hr rfl, cellOf hr rfl, cellOf hr rfl⟩
    | j + 1, hj => simp at hj

theorem sampleV_cnt (q r : Nat) : (sampleV q r).cnt = 6 := by
  have h3 : (⟨#[97, 34, 98]⟩ : ByteArray).size = 3 := rfl
  simp [V.cnt, V.wk, V.wkL, fitsB, wordB, textB, tupleB, taggedB, charsB, byteB, h3]
theorem sampleV_ok (q r : Nat) : (sampleV q r).ok := by simp [V.ok, V.okL, I64]
theorem sampleV_txt (q r : Nat) : (sampleV q r).txt = [40, 45, 51, 44, 32, 34, 97, 92, 34, 98, 34, 44, 32, 40, 41, 44, 32, 35, 50, 32, 48, 41] := by
  have i1 : Lib.itoa (-3) = [45, 51] := by kernel_rfl
  have i2 : Lib.itoa 2 = [50] := by kernel_rfl
  have i3 : Lib.itoa 0 = [48] := by kernel_rfl
  simp [V.txt, V.txtL, V.txtH, esc, escB, i1, i2, i3]
theorem sampleV_is (q r g h : Nat) : (sampleV q r).is (kindT g h) = true := by
  simp [V.is, V.isL, okB, kindI, T.k, T.l]
theorem sampleV_isnt (q r : Nat) : (sampleV q r).is (.mk 0 none 0 []) = false := by
  simp [V.is, okB, kindI, T.k, T.l]
theorem kindT_txt (g h : Nat) : (kindT g h).txt = [40, 105, 110, 116, 44, 32, 116, 101, 120, 116, 44, 32, 40, 41, 44, 32, 91, 116, 101, 120, 116, 32, 43, 32, 40, 41, 32, 43, 32, 105, 110, 116, 93, 41] := by
  simp [T.txt, T.txtL]

end Go.Proofs.YtkfmgafgokpjhaaGreatDoor

/-
  THE CALLS OF THE CHAPTER's EXAMPLES: their contracts, closed.
-/
namespace Go.Proofs.YtkfmgafgokpjhaaGreatDoor
open Go.RowKit

/-- The sample lies in blocks q and r. -/
def Smp (w : World) (q r : Nat) : Prop := w.heap[q]? = some (.cells (sampleCells r) 24 (0, 0)) ∧ w.heap[r]? = some (.cells sampleTag 24 (0, 0))
theorem Smp.kp {w w' : World} {q r : Nat} (h : Smp w q r) (k : Kp w w') : Smp w' q r := ⟨(k.block _ (lt_of_block h.1)).trans h.1, (k.block _ (lt_of_block h.2)).trans h.2⟩
theorem Smp.in_ {w : World} {q r : Nat} (h : Smp w q r) : (sampleV q r).In w w.heap.size := sampleV_in h.1 h.2 (lt_of_block h.1) (lt_of_block h.2)
/-- The type of the sample lies in blocks g and h. -/
def Knd (w : World) (g h : Nat) : Prop := w.heap[g]? = some (.cells (kindCells h) 27 (0, 0)) ∧ w.heap[h]? = some (.cells sumCells 27 (0, 0))
theorem Knd.kp {w w' : World} {g h : Nat} (i : Knd w g h) (k : Kp w w') : Knd w' g h := ⟨(k.block _ (lt_of_block i.1)).trans i.1, (k.block _ (lt_of_block i.2)).trans i.2⟩
theorem Knd.in_ {w : World} {g h : Nat} (i : Knd w g h) : (kindT g h).In w w.heap.size := kindT_in i.1 i.2 (lt_of_block i.1) (lt_of_block i.2)

abbrev smpVal (q : Nat) : Value := .agg #[.int .i64 2, .int .i64 0, .string ⟨#[]⟩, .slice (some ⟨q, 0, none⟩) 4 4]
abbrev kndVal (g : Nat) : Value := .agg #[.int .i64 2, .slice (some ⟨g, 0, none⟩) 4 4]

theorem ex_sample (w : World) : Calls Tryz.prog 64 #[] w fun e w' => ∃ q r, e = .returned (smpVal q) ∧ Smp w' q r ∧ Kp w w' :=
  (sample_any w).mono fun _ _ ⟨q, r, he, h1, h2, _, _, hk⟩ => ⟨q, r, he, ⟨h1, h2⟩, hk⟩
theorem ex_kind (w : World) : Calls Tryz.prog 65 #[] w fun e w' => ∃ g h, e = .returned (kndVal g) ∧ Knd w' g h ∧ Kp w w' :=
  (kind_any w).mono fun _ _ ⟨q, r, he, h1, h2, _, _, hk⟩ => ⟨q, r, he, ⟨h1, h2⟩, hk⟩

theorem ex_text (w : World) (q r : Nat) (h : Smp w q r) (ht : Tb w w.heap.size) : Calls Tryz.prog 27 #[smpVal q] w fun e w' => e = .returned (.tuple #[.string ⟨#[40, 45, 51, 44, 32, 34, 97, 92, 34, 98, 34, 44, 32, 40, 41, 44, 32, 35, 50, 32, 48, 41]⟩, .int .i64 0]) ∧ Kp w w' := by
  have := text_tuple 0 ⟨#[]⟩ (some ⟨q, 0, none⟩) 4 _ w h.in_ (by rw [sampleV_cnt]; decide) (sampleV_ok q r) ht (by rw [sampleV_txt]; decide)
  rw [sampleV_txt] at this
  exact this
theorem ex_typeText (w : World) (g h : Nat) (i : Knd w g h) : Calls Tryz.prog 29 #[kndVal g] w fun e w' => e = .returned (.tuple #[.string ⟨#[40, 105, 110, 116, 44, 32, 116, 101, 120, 116, 44, 32, 40, 41, 44, 32, 91, 116, 101, 120, 116, 32, 43, 32, 40, 41, 32, 43, 32, 105, 110, 116, 93, 41]⟩, .int .i64 0]) ∧ Kp w w' := by
  have hc : ¬ (kindT g h).cnt = 0 := fun hh => by have := kindT_cnt g h; rw [bad0 hh] at this; cases this
  have := typeText 2 (some ⟨g, 0, none⟩) 4 _ w i.in_ hc (by rw [kindT_txt]; simp) (by rw [kindT_txt]; decide)
  rw [kindT_txt] at this
  exact this
theorem ex_size (w : World) (q r : Nat) (h : Smp w q r) : Calls Tryz.prog 13 #[smpVal q] w fun e w' => e = .returned (.tuple #[.int .i64 6, .int .i64 0]) ∧ Kp w w' := by
  have := sizeV 2 0 ⟨#[]⟩ (some ⟨q, 0, none⟩) 4 _ w h.in_
  rw [sampleV_cnt] at this
  exact this
theorem leafV_in (w : World) (B : Nat) (k n : Int) (s : ByteArray) (hk : I64 k) (hn : I64 n) (hs : s.size ≤ maxLen) : (V.mk k n s none 0 []).In w B := in_leaf k n s hk hn hs
theorem ex_ints (w : World) : Calls Tryz.prog 25 #[.agg #[.int .i64 0, .int .i64 2, .string ⟨#[]⟩, .slice none 0 0], .agg #[.int .i64 0, .int .i64 10, .string ⟨#[]⟩, .slice none 0 0]] w fun e w' => e = .returned (.tuple #[.int .i64 (-1), .int .i64 0]) ∧ Kp w w' := by
  have := compare_prog (.mk 0 2 ⟨#[]⟩ none 0 []) (.mk 0 10 ⟨#[]⟩ none 0 []) w (in_leaf _ _ _ (by unfold I64; omega) (by unfold I64; omega) (by decide)) (in_leaf _ _ _ (by unfold I64; omega) (by unfold I64; omega) (by decide))
  have hv : cmpV (.mk 0 2 ⟨#[]⟩ none 0 []) (.mk 0 10 ⟨#[]⟩ none 0 []) = .tuple #[.int .i64 (-1), .int .i64 0] := by
    simp [cmpV, V.valid, V.sh, V.shL, V.rank, V.rank.ranks, fitsB, wordB, V.ord, cmpI, orI]
  rw [hv] at this
  exact this
theorem ex_texts (w : World) : Calls Tryz.prog 25 #[.agg #[.int .i64 1, .int .i64 0, .string ⟨#[98]⟩, .slice none 0 0], .agg #[.int .i64 1, .int .i64 0, .string ⟨#[97, 97]⟩, .slice none 0 0]] w fun e w' => e = .returned (.tuple #[.int .i64 1, .int .i64 0]) ∧ Kp w w' := by
  have := compare_prog (.mk 1 0 ⟨#[98]⟩ none 0 []) (.mk 1 0 ⟨#[97, 97]⟩ none 0 []) w (in_leaf _ _ _ (by unfold I64; omega) (by unfold I64; omega) (by decide)) (in_leaf _ _ _ (by unfold I64; omega) (by unfold I64; omega) (by decide))
  have h1 : (⟨#[98]⟩ : ByteArray).size = 1 := rfl
  have h2 : (⟨#[97, 97]⟩ : ByteArray).size = 2 := rfl
  have hv : cmpV (.mk 1 0 ⟨#[98]⟩ none 0 []) (.mk 1 0 ⟨#[97, 97]⟩ none 0 []) = .tuple #[.int .i64 1, .int .i64 0] := by
    simp [cmpV, V.valid, V.sh, V.shL, V.rank, V.rank.ranks, fitsB, textB, charsB, byteB, V.ord, cmpI, orI, Lib.compareBytes, h1, h2]
  rw [hv] at this
  exact this
theorem ex_is (w : World) (q r g h : Nat) (i : Smp w q r) (j : Knd w g h) : Calls Tryz.prog 21 #[smpVal q, kndVal g] w fun e w' => e = .returned (.bool true) ∧ Kp w w' := by
  have := is_valid 2 0 ⟨#[]⟩ (some ⟨q, 0, none⟩) 4 _ 2 (some ⟨g, 0, none⟩) 4 _ w i.in_ j.in_ (by rw [sampleV_cnt]; rfl) (kindT_cnt g h)
  rw [sampleV_is] at this
  exact this
theorem ex_isnt (w : World) (q r : Nat) (i : Smp w q r) : Calls Tryz.prog 21 #[smpVal q, .agg #[.int .i64 0, .slice none 0 0]] w fun e w' => e = .returned (.bool false) ∧ Kp w w' := by
  have := is_valid 2 0 ⟨#[]⟩ (some ⟨q, 0, none⟩) 4 _ 0 none 0 [] w i.in_ (inT_leaf 0 (by unfold I64; omega)) (by rw [sampleV_cnt]; rfl) (by simp [bad, T.cnt, T.wk, T.wkL, fitsT])
  rw [sampleV_isnt] at this
  exact this
theorem ex_type (w : World) : Calls Tryz.prog 17 #[.agg #[.int .i64 3, .slice none 0 0]] w fun e w' => e = .returned (.int .i64 1) ∧ Kp w w' := by
  have := typeV 3 none 0 [] w (inT_leaf 3 (by unfold I64; omega))
  have hb : bad (T.mk 3 none 0 []).cnt = 1 := by simp [bad, T.cnt, T.wk, fitsT]
  rw [hb] at this
  exact this

/-- A tuple of one text. -/
abbrev keyV (q : Nat) : V := .mk 2 0 ⟨#[]⟩ (some ⟨q, 0, none⟩) 1 [.mk 1 0 ⟨#[97]⟩ none 0 []]
theorem keyV_in {w : World} {q B t : Nat} (h : w.heap[q]? = some (.cells #[.int .i64 1, .int .i64 0, .string ⟨#[97]⟩, .slice none 0 0] t (0, 0))) (hB : q < B) : (keyV q).In w B := by
  refine in_node 2 0 ⟨#[]⟩ [.mk 1 0 ⟨#[97]⟩ none 0 []] (by unfold I64; omega) (by unfold I64; omega) (by decide) (by decide) hB ?_ ⟨in_leaf _ _ _ (by unfold I64; omega) (by unfold I64; omega) (by decide), trivial⟩
  intro j x hj
  match j, hj with
  | 0, hj => simp at hj; subst hj; exact ⟨cellOf h rfl, cellOf h rfl, cellOf h rfl, cellOf h rfl⟩
  | j + 1, hj => simp at hj
theorem ex_key (w : World) (q : Nat) (h : w.heap[q]? = some (.cells #[.int .i64 1, .int .i64 0, .string ⟨#[97]⟩, .slice none 0 0] 24 (0, 0))) (ht : Tb w w.heap.size) :
    Calls Tryz.prog 36 #[.agg #[.int .i64 2, .int .i64 0, .string ⟨#[]⟩, .slice (some ⟨q, 0, none⟩) 1 1]] w fun e w' => e = .returned (.tuple #[.string ⟨#[3, 2, 97, 0, 0]⟩, .int .i64 0]) ∧ Kp w w' := by
  have h3 : (⟨#[97]⟩ : ByteArray).size = 1 := rfl
  have hc : (keyV q).cnt = 2 := by simp [V.cnt, V.wk, V.wkL, fitsB, textB, tupleB, charsB, byteB, h3]
  have := key_tuple 0 ⟨#[]⟩ (some ⟨q, 0, none⟩) 1 [.mk 1 0 ⟨#[97]⟩ none 0 []] w (keyV_in h (lt_of_block h)) (by rw [hc]; decide) (fun j x hj => by
    match j, hj with
    | 0, hj => simp at hj; subst hj; rfl
    | j + 1, hj => simp at hj) ht (by decide)
  exact this

/-- What Least makes, and what it is held against. -/
abbrev leastV (q r : Nat) (b : Option Addr) : V := .mk 2 0 ⟨#[]⟩ (some ⟨q, 0, none⟩) 4 [.mk 0 (-2147483648) ⟨#[]⟩ none 0 [], .mk 1 0 ⟨#[]⟩ none 0 [], .mk 2 0 ⟨#[]⟩ b 0 [], .mk 3 0 ⟨#[]⟩ (some ⟨r, 0, none⟩) 1 [.mk 1 0 ⟨#[]⟩ none 0 []]]
theorem leastV_in {w : World} {q r B t u : Nat} {b : Option Addr} (hq : w.heap[q]? = some (.cells (leastCells r b) t (0, 0))) (hr : w.heap[r]? = some (.cells #[.int .i64 1, .int .i64 0, .string ⟨#[]⟩, .slice none 0 0] u (0, 0))) (hB : q < B) (hB2 : r < B) : (leastV q r b).In w B := by
  have i64 : ∀ n : Int, -2147483648 ≤ n → n ≤ 10 → I64 n := fun n h1 h2 => by unfold I64; omega
  refine in_node 2 0 ⟨#[]⟩ [.mk 0 (-2147483648) ⟨#[]⟩ none 0 [], .mk 1 0 ⟨#[]⟩ none 0 [], .mk 2 0 ⟨#[]⟩ b 0 [], .mk 3 0 ⟨#[]⟩ (some ⟨r, 0, none⟩) 1 [.mk 1 0 ⟨#[]⟩ none 0 []]] (i64 2 (by omega) (by omega)) (i64 0 (by omega) (by omega)) (by decide) (by show 4 ≤ maxLen; decide) hB ?_ ⟨in_leaf _ _ _ (i64 _ (by omega) (by omega)) (i64 _ (by omega) (by omega)) (by decide), in_leaf _ _ _ (i64 _ (by omega) (by omega)) (i64 _ (by omega) (by omega)) (by decide), ?_, ?_, trivial⟩
  · intro j x hj
    match j, hj with
    | 0, hj => simp at hj; subst hj; exact ⟨cellOf hq rfl, cellOf hq rfl, cellOf hq rfl, cellOf hq rfl⟩
    | 1, hj => simp at hj; subst hj; exact ⟨cellOf hq rfl, cellOf hq rfl, cellOf hq rfl, cellOf hq rfl⟩
    | 2, hj => simp at hj; subst hj; exact ⟨cellOf hq rfl, cellOf hq rfl, cellOf hq rfl, cellOf hq rfl⟩
    | 3, hj => simp at hj; subst hj; exact ⟨cellOf hq rfl, cellOf hq rfl, cellOf hq rfl, cellOf hq rfl⟩
    | j + 4, hj => simp at hj
  · simp [V.In, V.InL, i64 2 (by omega) (by omega), i64 0 (by omega) (by omega)]
    decide
  · refine in_node 3 0 ⟨#[]⟩ [.mk 1 0 ⟨#[]⟩ none 0 []] (i64 _ (by omega) (by omega)) (i64 _ (by omega) (by omega)) (by decide) (by decide) hB2 ?_ ⟨in_leaf _ _ _ (i64 _ (by omega) (by omega)) (i64 _ (by omega) (by omega)) (by decide), trivial⟩
    intro j x hj
    match j, hj with
    | 0, hj => simp at hj; subst hj; exact ⟨cellOf hr rfl, cellOf hr rfl, cellOf hr rfl, cellOf hr rfl⟩
    | j + 1, hj => simp at hj
theorem leastV_same (q r : Nat) (b : Option Addr) (q' r' : Nat) (b' : Option Addr) : (leastV q r b).same (leastV q' r' b') = true := by simp [V.same, V.sameL]
theorem oneV_same (q q' : Nat) : (oneV q).same (oneV q') = true := by simp [V.same, V.sameL]

end Go.Proofs.YtkfmgafgokpjhaaGreatDoor
