/-
  Contracts of the functions of package value, of its specification and of what the statements of layer 1 share (values and types made of numbers, the chapter's examples), each for every argument: used by the proofs of layer 1's statements.
  Part 6 of 10.
-/
import Derived.Test.YtbiljalhabnhlaaGreatDoorBa05
import Derived.StillTailTactics
import Derived.Test.YtbiljalhabnhlaaGreatDoorBa03
import Derived.Test.YtbiljalhabnhlaaGreatDoorBa01
/-
  THE SPECIFICATION's Valid; that it says what the program's count says.
-/
namespace Go.Proofs.YtbiljalhabnhlaaGreatDoor
open Go.RowKit

theorem fits_len {k n : Int} {s : ByteArray} {m : Nat} (h : fitsB k n s m = true) : m ≤ 8 := by
  unfold fitsB at h
  repeat' split at h
  · simp [wordB] at h; omega
  · simp [textB] at h; omega
  · simp [tupleB] at h; omega
  · simp [taggedB] at h; omega
  · cases h

mutual
theorem V.sh_rank : ∀ (v : V) (d : Nat), v.sh d = true → v.rank ≤ 9 ^ d
  | .mk k n s a cap l, d, h => by
    cases d with
    | zero => simp [V.sh] at h
    | succ d =>
      simp [V.sh] at h
      have h1 := fits_len h.1
      have h2 := V.shL_rank l d h.2
      have h3 : l.length * 9 ^ d ≤ 8 * 9 ^ d := Nat.mul_le_mul_right _ h1
      have h4 : 1 ≤ 9 ^ d := Nat.one_le_pow _ _ (by decide)
      have h5 : 9 ^ (d + 1) = 9 * 9 ^ d := by rw [Nat.pow_succ, Nat.mul_comm]
      simp [V.rank]
      omega
theorem V.shL_rank : ∀ (l : List V) (d : Nat), V.shL l d = true → V.rank.ranks l ≤ l.length * 9 ^ d
  | [], d, _ => by simp [V.rank.ranks]
  | x :: xs, d, h => by
    simp [V.shL] at h
    have h1 := V.sh_rank x d h.1
    have h2 := V.shL_rank xs d h.2
    simp [V.rank.ranks, Nat.add_mul]
    omega
end

mutual
theorem V.wk_sh : ∀ (v : V) (deep c : Nat), 1 ≤ deep → c ≤ 60 → ((v.wk deep c).1 = true ↔ v.sh (7 - deep) = true ∧ c + v.rank ≤ 60) ∧ ((v.wk deep c).1 = true → (v.wk deep c).2 = c + v.rank)
  | .mk k n s a cap l, deep, c, hd, hc => by
    have hrk : (V.mk k n s a cap l).rank = 1 + V.rank.ranks l := rfl
    by_cases h : 60 < c + 1 ∨ 6 < deep ∨ fitsB k n s l.length = false
    · simp only [V.wk, if_pos h]
      refine ⟨⟨(fun h => by cases h), ?_⟩, (fun h => by cases h)⟩
      rintro ⟨h1, h2⟩
      simp only [V.sh] at h1
      split at h1
      · cases h1
      · rcases h with h | h | h
        · omega
        · omega
        · rw [h] at h1; cases h1
    · have ih := V.wkL_sh l (deep + 1) (c + 1) (by omega) (by omega)
      have hf : fitsB k n s l.length = true := by
        cases hf : fitsB k n s l.length with
        | true => rfl
        | false => exact absurd (.inr (.inr hf)) h
      have hsh : (V.mk k n s a cap l).sh (7 - deep) = V.shL l (7 - (deep + 1)) := by
        simp only [V.sh, hf, Bool.true_and]
        rw [if_neg (by omega), show 7 - deep - 1 = 7 - (deep + 1) from by omega]
      simp only [V.wk, if_neg h, hsh, hrk]
      refine ⟨ih.1.trans ⟨fun h => ⟨h.1, by omega⟩, fun h => ⟨h.1, by omega⟩⟩, fun h => by rw [ih.2 h]; omega⟩
theorem V.wkL_sh : ∀ (l : List V) (deep c : Nat), 1 ≤ deep → c ≤ 60 → ((V.wkL l deep c).1 = true ↔ V.shL l (7 - deep) = true ∧ c + V.rank.ranks l ≤ 60) ∧ ((V.wkL l deep c).1 = true → (V.wkL l deep c).2 = c + V.rank.ranks l)
  | [], deep, c, hd, hc => by simp [V.wkL, V.shL, V.rank.ranks]; omega
  | x :: xs, deep, c, hd, hc => by
    have h1 := V.wk_sh x deep c hd hc
    simp only [V.wkL, V.shL, V.rank.ranks, Bool.and_eq_true]
    cases hx : x.wk deep c with
    | mk b c' =>
      rw [hx] at h1
      cases b with
      | true =>
        have hc' : c' = c + x.rank := h1.2 rfl
        have h3 := h1.1.1 rfl
        subst hc'
        have h2 := V.wkL_sh xs deep (c + x.rank) hd h3.2
        refine ⟨h2.1.trans ⟨fun h => ⟨⟨h3.1, h.1⟩, by omega⟩, fun h => ⟨h.1.2, by omega⟩⟩, fun h => by rw [h2.2 h]; omega⟩
      | false =>
        refine ⟨⟨(fun h => by cases h), (fun h => ?_)⟩, (fun h => by cases h)⟩
        exact absurd (h1.1.2 ⟨h.1.1, by omega⟩) (by simp)
end

/-- Valid: what the specification says of a value. -/
def V.valid (v : V) : Bool := v.sh 6 && decide (v.rank ≤ 60)

theorem bad_valid (v : V) : bad v.cnt = if v.valid then 0 else 1 := by
  have h := V.wk_sh v 1 0 (by omega) (by omega)
  have hp := V.rank_pos v
  unfold V.valid V.cnt bad
  cases hw : (v.wk 1 0).1 with
  | true =>
    have h1 := h.1.1 hw
    have h2 := h.2 hw
    have h3 : v.rank ≤ 60 := by omega
    simp [h2, h1.1, h3]
    omega
  | false =>
    have h1 : ¬ (v.sh 6 = true ∧ v.rank ≤ 60) := fun hh => by
      have := h.1.2 ⟨hh.1, by omega⟩
      rw [hw] at this; cases this
    have h2 : (v.sh 6 && decide (v.rank ≤ 60)) = false := by
      cases hv : (v.sh 6 && decide (v.rank ≤ 60)) with
      | false => rfl
      | true => exact absurd (by simpa using hv) h1
    simp [h2]

set_option maxRecDepth 100000 in
set_option maxHeartbeats 4000000 in
theorem valid_ref (k n : Int) (s : ByteArray) (a : Option Addr) (cap : Nat) (l : List V) (w : World) (hin : (V.mk k n s a cap l).In w w.heap.size) :
    Calls Tryz.prog 52 #[.agg #[.int .i64 k, .int .i64 n, .string s, .slice a l.length cap]] w fun e w' => e = .returned (.bool (V.mk k n s a cap l).valid) ∧ Kp w w' := by
  have C := fun (w1 : World) (h : (V.mk k n s a cap l).In w1 w1.heap.size) => shaped_ref _ k n s a cap l 6 w1 (Nat.le_refl _) (by omega) h
  have HIN := Lib.hid hin
  cases hs : (V.mk k n s a cap l).sh 6 with
  | false =>
    have hv : (V.mk k n s a cap l).valid = false := by simp [V.valid, hs]
    rw [hv]
    rw [hs] at C
    have HC := Lib.hid C
    clear C hin hs hv
    go_enter Tryz.func52, Tryz.ntmps52
    go_wp2_with fail
    refine (HC.out _ (HIN.out.keep (by simp) (ka _ _))).mono ?_
    rintro e w1 ⟨rfl, hk⟩
    have HK := Lib.hid (kk (ka _ _) hk)
    clear hk
    go_wp2_with fail
    go_ret
    exact ⟨rfl, HK.out⟩
  | true =>
    have hr := V.sh_rank _ _ hs
    have hv : (V.mk k n s a cap l).valid = decide ((V.mk k n s a cap l).rank ≤ 60) := by simp [V.valid, hs]
    rw [hv]
    rw [hs] at C
    have D := fun (w1 : World) (h : (V.mk k n s a cap l).In w1 w1.heap.size) => count_ref _ k n s a cap l w1 (Nat.le_refl _) (Nat.le_trans hr (by decide)) h
    have HC := Lib.hid C
    have HD := Lib.hid D
    clear C D hin hs hv hr
    generalize (V.mk k n s a cap l).rank = rk at *
    go_enter Tryz.func52, Tryz.ntmps52
    go_wp2_with fail
    refine (HC.out _ (HIN.out.keep (by simp) (ka _ _))).mono ?_
    rintro e w1 ⟨rfl, hk⟩
    obtain ⟨b0, b1, b2, b3, hz⟩ := box4 hk
    have HK := Lib.hid (kk (ka _ _) hk)
    clear hk
    go_wp2_with fail
    refine (HD.out _ (HIN.out.keep HK.out.size HK.out)).mono ?_
    rintro e w2 ⟨rfl, hk2⟩
    have HK2 := Lib.hid (kk HK.out hk2)
    clear hk2
    go_wp2_with fail
    go_ret
    have hdd : decide ((rk : Int) ≤ 60) = decide (rk ≤ 60) := by rw [decide_eq_decide]; omega
    exact ⟨by show Ending.returned (.bool (decide ((rk : Int) ≤ 60))) = _; rw [hdd], HK2.out⟩

end Go.Proofs.YtbiljalhabnhlaaGreatDoor

/-
  THE SPECIFICATION's texts: the order of two texts, byte by byte.
-/
namespace Go.Proofs.YtbiljalhabnhlaaGreatDoor
open Go.RowKit

theorem cb_step (l m : List UInt8) (j : Nat) (h : j < l.length) (h' : j < m.length) :
    Lib.compareBytes (l.drop j) (m.drop j) = if cmpI (l[j].toNat : Int) (m[j].toNat : Int) ≠ 0 then cmpI (l[j].toNat : Int) (m[j].toNat : Int) else Lib.compareBytes (l.drop (j + 1)) (m.drop (j + 1)) := by
  rw [List.drop_eq_getElem_cons h, List.drop_eq_getElem_cons h']
  simp only [Lib.compareBytes, cmpI, UInt8.lt_iff_toNat_lt, Int.ofNat_lt]
  split
  · simp
  · split <;> simp
theorem cb_end (l m : List UInt8) (j : Nat) (h : j ≤ l.length) (h' : j ≤ m.length) (he : j = l.length ∨ j = m.length) : Lib.compareBytes (l.drop j) (m.drop j) = cmpI (l.length : Int) (m.length : Int) := by
  rcases he with rfl | rfl
  · rw [List.drop_length]
    by_cases hlt : l.length < m.length
    · rw [List.drop_eq_getElem_cons hlt]; simp [Lib.compareBytes, cmpI]; omega
    · rw [List.drop_of_length_le (by omega)]; simp [Lib.compareBytes, cmpI]; omega
  · rw [List.drop_length]
    by_cases hlt : m.length < l.length
    · rw [List.drop_eq_getElem_cons hlt]; simp [Lib.compareBytes, cmpI]; omega
    · rw [List.drop_of_length_le (by omega)]; simp [Lib.compareBytes, cmpI]; omega

set_option maxRecDepth 100000 in
set_option maxHeartbeats 4000000 in
theorem texts_ref (a b : ByteArray) (ha : a.size ≤ 9223372036854775807) (_hb : b.size ≤ 9223372036854775807) (w : World) :
    Calls Tryz.prog 106 #[.string a, .string b] w fun e w' => e = .returned (.int .i64 (Lib.compareBytes a.data.toList b.data.toList)) ∧ Kp w w' := by
  go_enter Tryz.func106, Tryz.ntmps106
  go_wp2_with fail
  go_loopw [5] (fun i wr => ∃ j : Nat, j ≤ a.size ∧ j ≤ b.size ∧ i = .int .i64 j ∧ Lib.compareBytes a.data.toList b.data.toList = Lib.compareBytes (a.data.toList.drop j) (b.data.toList.drop j) ∧ Kp w wr) (fun i _ => a.size - (intOf i).toNat)
  case atStart => exact ⟨0, Nat.zero_le _, Nat.zero_le _, rfl, rfl, Below.refl _ _⟩
  case round =>
    obtain ⟨j, hj, hj', rfl, heq, hk⟩ := hrel
    by_cases h1 : j < a.size
    · by_cases h2 : j < b.size
      · have hst := cb_step a.data.toList b.data.toList j (by simpa using h1) (by simpa using h2)
        rw [← heq] at hst
        have hst' : Lib.compareBytes a.data.toList b.data.toList = if cmpI (a[j].toNat : Int) (b[j].toNat : Int) ≠ 0 then cmpI (a[j].toNat : Int) (b[j].toNat : Int) else Lib.compareBytes (a.data.toList.drop (j + 1)) (b.data.toList.drop (j + 1)) := hst
        have hwa : wrap64 ((a[j].toNat : Nat) : Int) = ((a[j].toNat : Nat) : Int) := by have := a[j].toNat_lt; simp [wrap64]; omega
        have hwb : wrap64 ((b[j].toNat : Nat) : Int) = ((b[j].toNat : Nat) : Int) := by have := b[j].toNat_lt; simp [wrap64]; omega
        have HST := Lib.hid hst'
        have HK := Lib.hid hk
        have q0 : (0 : Int) ≤ (j : Int) := by omega
        have q1 : (j : Int) < (a.size : Int) := by omega
        have q2 : (j : Int) < (b.size : Int) := by omega
        clear hst hst' heq hk
        by_cases hn : cmpI (a[j].toNat : Int) (b[j].toNat : Int) = 0
        · have C := numbers_any (a[j].toNat : Int) (b[j].toNat : Int)
          simp only [hn] at C
          have HC := Lib.hid C
          have HN := Lib.hid hn
          clear C hn
          go_wp2_with fail
          go_quiet ((go_at_call 105; first | exact Calls.quiet_of_same (HC.out _) | (rw [hwa, hwb]; exact Calls.quiet_of_same (HC.out _))))
          go_wp2_with fail
          go_roundw
          case rel => exact ⟨j + 1, by omega, by omega, by first | go_num | simp, by rw [HST.out, HN.out]; simp, HK.out.trans ((drew_kp _ _).mono HK.out.size)⟩
          case measure => simp [intOf]; omega
        · have C := numbers_any (a[j].toNat : Int) (b[j].toNat : Int)
          have hst2 : Lib.compareBytes a.data.toList b.data.toList = cmpI (a[j].toNat : Int) (b[j].toNat : Int) := by rw [HST.out, if_pos hn]
          have HS2 := Lib.hid hst2
          have hne : (cmpI (a[j].toNat : Int) (b[j].toNat : Int) == 0) = false := by rw [beq_eq_false_iff_ne]; exact hn
          generalize cmpI (a[j].toNat : Int) (b[j].toNat : Int) = q at C HS2 hne
          have HC := Lib.hid C
          clear C hn hst2
          go_wp2_with fail
          go_quiet ((go_at_call 105; first | exact Calls.quiet_of_same (HC.out _) | (rw [hwa, hwb]; exact Calls.quiet_of_same (HC.out _))))
          go_wp2_with fail
          go_ret
          exact ⟨by rw [HS2.out] <;> rfl, HK.out.trans ((drew_kp _ _).mono HK.out.size)⟩
      · have he := cb_end a.data.toList b.data.toList j (by simpa using hj) (by simpa using hj') (.inr (by simp; omega))
        rw [← heq] at he
        have HE := Lib.hid he
        have HK := Lib.hid hk
        clear he heq hk
        go_wp2_with fail
        refine (numbers_any _ _ _).mono ?_
        rintro e w1 ⟨rfl, rfl⟩
        go_wp2_with fail
        go_ret
        exact ⟨by rw [HE.out] <;> first | rfl | simp, HK.out⟩
    · have he := cb_end a.data.toList b.data.toList j (by simpa using hj) (by simpa using hj') (.inl (by simp; omega))
      rw [← heq] at he
      have HE := Lib.hid he
      have HK := Lib.hid hk
      clear he heq hk
      go_wp2_with fail
      refine (numbers_any _ _ _).mono ?_
      rintro e w1 ⟨rfl, rfl⟩
      go_wp2_with fail
      go_ret
      exact ⟨by rw [HE.out] <;> first | rfl | simp, HK.out⟩

end Go.Proofs.YtbiljalhabnhlaaGreatDoor

/-
  THE SPECIFICATION's Order (written by wip/gen_order.py).
-/
namespace Go.Proofs.YtbiljalhabnhlaaGreatDoor
open Go.RowKit

theorem cmpI_zero {a b : Int} (h : cmpI a b = 0) : a = b := by
  unfold cmpI at h; split at h; · cases h
  · split at h; · cases h
    · omega
theorem cmpI_same (a : Int) : cmpI a a = 0 := by simp [cmpI]
theorem compareBytes_same (l : List UInt8) : Lib.compareBytes l l = 0 := by
  induction l with
  | nil => rfl
  | cons x xs ih => simp [Lib.compareBytes, ih]
theorem ordL_done {l m : List V} {j : Nat} (h : ∀ i x y, i < j → l[i]? = some x → m[i]? = some y → x.ord y = 0) (hj : j ≤ l.length) (hj' : j ≤ m.length) (he : j = l.length ∨ j = m.length) : V.ordL l m = cmpI (l.length : Int) (m.length : Int) := by
  rcases he with rfl | rfl
  · rw [V.ordL_end h hj']; simp [cmpI]; omega
  · by_cases hlt : m.length < l.length
    · rw [V.ordL_over h hlt]; simp [cmpI]; omega
    · have : l.length = m.length := by omega
      rw [V.ordL_end (by rw [this]; exact h) (by omega)]; simp [cmpI]; omega

/-- The four cells of a value in a box. -/
abbrev vcells (k n : Int) (s : ByteArray) (a : Option Addr) (len cap : Nat) : Array Value := #[.int .i64 k, .int .i64 n, .string s, .slice a len cap]

theorem twoBox {w w1 : World} {c d : Array Value} {t u : Nat} (hk : Kp ((w.alloc (.cells c t)).alloc (.cells d u)) w1) :
    w1.heap[w.heap.size]? = some (.cells c t (0, 0)) ∧ w1.heap[w.heap.size + 1]? = some (.cells d u (0, 0)) :=
  ⟨(hk.block _ (by simp; omega)).trans (blockPast (blockHere rfl)), (hk.block _ (by simp)).trans (blockHere (by simp))⟩

set_option maxRecDepth 100000 in
set_option maxHeartbeats 8000000 in
theorem order_2 (n : Int) (s : ByteArray) (a : Option Addr) (cap : Nat) (l : List V) (s' : ByteArray) (a' : Option Addr) (cap' : Nat) (m : List V) (w : World) (hin : (V.mk 2 n s a cap l).In w w.heap.size) (hin' : (V.mk 2 n s' a' cap' m).In w w.heap.size)
    (ih : ∀ (j : Nat) (x y : V), l[j]? = some x → m[j]? = some y → ∀ w1 : World, x.In w1 w1.heap.size → y.In w1 w1.heap.size → Calls Tryz.prog 67 #[.agg #[.int .i64 x.k, .int .i64 x.n, .string x.s, .slice x.a x.l.length x.cap], .agg #[.int .i64 y.k, .int .i64 y.n, .string y.s, .slice y.a y.l.length y.cap]] w1 fun e w' => e = .returned (.int .i64 (x.ord y)) ∧ Kp w1 w') :
    Calls Tryz.prog 67 #[.agg #[.int .i64 2, .int .i64 n, .string s, .slice a l.length cap], .agg #[.int .i64 2, .int .i64 n, .string s', .slice a' m.length cap']] w fun e w' => e = .returned (.int .i64 (V.ordL l m)) ∧ Kp w w' := by
    have hlen := V.lenLe hin
    have hlen' := V.lenLe hin'
    have IH := Lib.hid ih
    have HIN := Lib.hid hin
    have HIN' := Lib.hid hin'
    have hn0 := numbers_any 2 2
    rw [cmpI_same] at hn0
    have HN0 := Lib.hid hn0
    have hn1 := numbers_any n n
    rw [cmpI_same] at hn1
    have HN1 := Lib.hid hn1
    clear ih hin hin' hn0 hn1
    go_enter Tryz.func67, Tryz.ntmps67
    go_wp2_with fail
    refine (HN0.out _).mono ?_
    rintro e w0 ⟨rfl, rfl⟩
    go_wp2_with fail
    go_loopw [7] (fun i wr => ∃ j : Nat, j ≤ l.length ∧ j ≤ m.length ∧ i = .int .i64 j ∧ (∀ i x y, i < j → l[i]? = some x → m[i]? = some y → x.ord y = 0) ∧ Kp ((w.alloc (.cells #[.int .i64 2, .int .i64 n, .string s, .slice a l.length cap] 24)).alloc (.cells #[.int .i64 2, .int .i64 n, .string s', .slice a' m.length cap'] 24)) wr) (fun i _ => l.length - (intOf i).toNat)
    case atStart => exact ⟨0, Nat.zero_le _, Nat.zero_le _, rfl, fun i x y h => by omega, Below.refl _ _⟩
    case round =>
      obtain ⟨j, hj, hj', rfl, heq, hk⟩ := hrel
      obtain ⟨bx, by_⟩ := twoBox hk
      have c3 : wr.cell? ⟨w.heap.size, 3, none⟩ = some (.slice a l.length cap) := cellOf bx rfl
      have d3 : wr.cell? ⟨w.heap.size + 1, 3, none⟩ = some (.slice a' m.length cap') := cellOf by_ rfl
      have hkw := kk (kk (ka _ _) (ka _ _)) hk
      clear bx by_
      by_cases h1 : j < l.length
      · by_cases h2 : j < m.length
        · obtain ⟨x, hx⟩ : ∃ x, l[j]? = some x := ⟨l[j], by simp [h1]⟩
          obtain ⟨y, hy⟩ : ∃ y, m[j]? = some y := ⟨m[j], by simp [h2]⟩
          obtain ⟨p0, off, rfl, hp0, q0, q1, q2, q3, hxin⟩ := V.atPart HIN.out hx
          obtain ⟨p1, off1, rfl, hp1, s0, s1, s2, s3, hyin⟩ := V.atPart HIN'.out hy
          have kd := kk hkw (kpD (w := wr))
          have r0 := kc kd q0
          have r1 := kc kd q1
          have r2 := kc kd q2
          have r3 := kc kd q3
          have t0 := kc kd s0
          have t1 := kc kd s1
          have t2 := kc kd s2
          have t3 := kc kd s3
          have e3 := kc kpD c3
          have f3 := kc kpD d3
          have g0 : (0 : Int) ≤ (j : Int) := by omega
          have g1 : (j : Int) < (l.length : Int) := by omega
          have g2 : (j : Int) < (m.length : Int) := by omega
          have hih := IH.out j x y hx hy wr.drew (hxin.keep kd.size kd) (hyin.keep kd.size kd)
          have hstep : ∀ i x y, i < j + 1 → l[i]? = some x → m[i]? = some y → (x.ord y = 0 ∨ i = j) := fun i x y hi hx hy => by
            rcases Nat.lt_succ_iff_lt_or_eq.1 hi with h | h
            · exact .inl (heq i x y h hx hy)
            · exact .inr h
          have hat : x.ord y ≠ 0 → V.ordL l m = x.ord y := fun h => V.ordL_at heq hx hy h
          have hnext : x.ord y = 0 → ∀ i x y, i < j + 1 → l[i]? = some x → m[i]? = some y → x.ord y = 0 := fun h i x' y' hi hx' hy' => by
            rcases hstep i x' y' hi hx' hy' with h' | h'
            · exact h'
            · subst h'
              rw [hx] at hx'; rw [hy] at hy'
              cases hx'; cases hy'; exact h
          have HK := Lib.hid hk
          generalize x.ord y = q at hih hat hnext
          generalize x.k = xk at *
          generalize x.n = xn at *
          generalize x.s = xs at *
          generalize x.a = xa at *
          generalize x.l.length = xl at *
          generalize x.cap = xc at *
          generalize y.k = yk at *
          generalize y.n = yn at *
          generalize y.s = ys at *
          generalize y.a = ya at *
          generalize y.l.length = yl at *
          generalize y.cap = yc at *
          have HIH := Lib.hid hih
          have HAT := Lib.hid hat
          have HNX := Lib.hid hnext
          clear hih hat hnext hstep hk hkw heq hx hy hxin hyin q0 q1 q2 q3 s0 s1 s2 s3
          by_cases hq : q = 0
          · subst hq
            go_wp2_with fail
            refine wp_region_still_tail 10 (by kernel_rfl) (by kernel_rfl) ?_
            change wpStill _ _ (World.drew wr) (fun a' => wpList _ _ _ _ a' (World.drew wr)) _ _
            have HD := Lib.hid (kpD (w := wr))
            generalize World.drew wr = w2 at *
            simp only [List.take_succ_cons, List.take_zero, List.drop_succ_cons, List.drop_zero]
            repeat still_step
            refine wpStill_nil ?_
            clear r0 r1 r2 r3 t0 t1 t2 t3 e3 f3 kd
            go_wp2_with fail
            refine HIH.out.mono ?_
            rintro e w3 ⟨rfl, hk3⟩
            have HK3 := Lib.hid (HK.out.trans ((kk HD.out hk3).mono HK.out.size))
            clear hk3
            go_wp2_with fail
            go_roundw
            case rel => exact ⟨j + 1, by omega, by omega, by first | go_num | simp, HNX.out trivial, HK3.out⟩
            case measure => simp [intOf]; omega
          · have hqb : (q == 0) = false := by rw [beq_eq_false_iff_ne]; exact hq
            go_wp2_with fail
            refine wp_region_still_tail 10 (by kernel_rfl) (by kernel_rfl) ?_
            change wpStill _ _ (World.drew wr) (fun a' => wpList _ _ _ _ a' (World.drew wr)) _ _
            have HD := Lib.hid (kpD (w := wr))
            generalize World.drew wr = w2 at *
            simp only [List.take_succ_cons, List.take_zero, List.drop_succ_cons, List.drop_zero]
            repeat still_step
            refine wpStill_nil ?_
            clear r0 r1 r2 r3 t0 t1 t2 t3 e3 f3 kd
            go_wp2_with fail
            refine HIH.out.mono ?_
            rintro e w3 ⟨rfl, hk3⟩
            have HK3 := Lib.hid (kk (kk (kk (ka _ _) (ka _ _)) HK.out) (kk HD.out hk3))
            have hl := HAT.out hq
            have HL := Lib.hid hl
            clear hk3 hl
            go_wp2_with fail
            go_ret
            exact ⟨by rw [HL.out] <;> rfl, HK3.out⟩
        · have hl := ordL_done heq hj hj' (.inr (by omega))
          have HL := Lib.hid hl
          have HK := Lib.hid hkw
          clear hl heq hk hkw
          go_wp2_with fail
          refine (numbers_any _ _ _).mono ?_
          rintro e w1 ⟨rfl, rfl⟩
          go_wp2_with fail
          go_ret
          exact ⟨by rw [HL.out] <;> rfl, HK.out⟩
      · have hl := ordL_done heq hj hj' (.inl (by omega))
        have HL := Lib.hid hl
        have HK := Lib.hid hkw
        clear hl heq hk hkw
        go_wp2_with fail
        refine (numbers_any _ _ _).mono ?_
        rintro e w1 ⟨rfl, rfl⟩
        go_wp2_with fail
        go_ret
        exact ⟨by rw [HL.out] <;> rfl, HK.out⟩

set_option maxRecDepth 100000 in
set_option maxHeartbeats 8000000 in
theorem order_3 (n : Int) (s : ByteArray) (a : Option Addr) (cap : Nat) (l : List V) (s' : ByteArray) (a' : Option Addr) (cap' : Nat) (m : List V) (w : World) (hin : (V.mk 3 n s a cap l).In w w.heap.size) (hin' : (V.mk 3 n s' a' cap' m).In w w.heap.size)
    (ih : ∀ (j : Nat) (x y : V), l[j]? = some x → m[j]? = some y → ∀ w1 : World, x.In w1 w1.heap.size → y.In w1 w1.heap.size → Calls Tryz.prog 67 #[.agg #[.int .i64 x.k, .int .i64 x.n, .string x.s, .slice x.a x.l.length x.cap], .agg #[.int .i64 y.k, .int .i64 y.n, .string y.s, .slice y.a y.l.length y.cap]] w1 fun e w' => e = .returned (.int .i64 (x.ord y)) ∧ Kp w1 w') :
    Calls Tryz.prog 67 #[.agg #[.int .i64 3, .int .i64 n, .string s, .slice a l.length cap], .agg #[.int .i64 3, .int .i64 n, .string s', .slice a' m.length cap']] w fun e w' => e = .returned (.int .i64 (V.ordL l m)) ∧ Kp w w' := by
    have hlen := V.lenLe hin
    have hlen' := V.lenLe hin'
    have IH := Lib.hid ih
    have HIN := Lib.hid hin
    have HIN' := Lib.hid hin'
    have hn0 := numbers_any 3 3
    rw [cmpI_same] at hn0
    have HN0 := Lib.hid hn0
    have hn1 := numbers_any n n
    rw [cmpI_same] at hn1
    have HN1 := Lib.hid hn1
    clear ih hin hin' hn0 hn1
    go_enter Tryz.func67, Tryz.ntmps67
    go_wp2_with fail
    refine (HN0.out _).mono ?_
    rintro e w0 ⟨rfl, rfl⟩
    go_wp2_with fail
    refine (HN1.out _).mono ?_
    rintro e w0 ⟨rfl, rfl⟩
    go_wp2_with fail
    go_loopw [7] (fun i wr => ∃ j : Nat, j ≤ l.length ∧ j ≤ m.length ∧ i = .int .i64 j ∧ (∀ i x y, i < j → l[i]? = some x → m[i]? = some y → x.ord y = 0) ∧ Kp ((w.alloc (.cells #[.int .i64 3, .int .i64 n, .string s, .slice a l.length cap] 24)).alloc (.cells #[.int .i64 3, .int .i64 n, .string s', .slice a' m.length cap'] 24)) wr) (fun i _ => l.length - (intOf i).toNat)
    case atStart => exact ⟨0, Nat.zero_le _, Nat.zero_le _, rfl, fun i x y h => by omega, Below.refl _ _⟩
    case round =>
      obtain ⟨j, hj, hj', rfl, heq, hk⟩ := hrel
      obtain ⟨bx, by_⟩ := twoBox hk
      have c3 : wr.cell? ⟨w.heap.size, 3, none⟩ = some (.slice a l.length cap) := cellOf bx rfl
      have d3 : wr.cell? ⟨w.heap.size + 1, 3, none⟩ = some (.slice a' m.length cap') := cellOf by_ rfl
      have hkw := kk (kk (ka _ _) (ka _ _)) hk
      clear bx by_
      by_cases h1 : j < l.length
      · by_cases h2 : j < m.length
        · obtain ⟨x, hx⟩ : ∃ x, l[j]? = some x := ⟨l[j], by simp [h1]⟩
          obtain ⟨y, hy⟩ : ∃ y, m[j]? = some y := ⟨m[j], by simp [h2]⟩
          obtain ⟨p0, off, rfl, hp0, q0, q1, q2, q3, hxin⟩ := V.atPart HIN.out hx
          obtain ⟨p1, off1, rfl, hp1, s0, s1, s2, s3, hyin⟩ := V.atPart HIN'.out hy
          have kd := kk hkw (kpD (w := wr))
          have r0 := kc kd q0
          have r1 := kc kd q1
          have r2 := kc kd q2
          have r3 := kc kd q3
          have t0 := kc kd s0
          have t1 := kc kd s1
          have t2 := kc kd s2
          have t3 := kc kd s3
          have e3 := kc kpD c3
          have f3 := kc kpD d3
          have g0 : (0 : Int) ≤ (j : Int) := by omega
          have g1 : (j : Int) < (l.length : Int) := by omega
          have g2 : (j : Int) < (m.length : Int) := by omega
          have hih := IH.out j x y hx hy wr.drew (hxin.keep kd.size kd) (hyin.keep kd.size kd)
          have hstep : ∀ i x y, i < j + 1 → l[i]? = some x → m[i]? = some y → (x.ord y = 0 ∨ i = j) := fun i x y hi hx hy => by
            rcases Nat.lt_succ_iff_lt_or_eq.1 hi with h | h
            · exact .inl (heq i x y h hx hy)
            · exact .inr h
          have hat : x.ord y ≠ 0 → V.ordL l m = x.ord y := fun h => V.ordL_at heq hx hy h
          have hnext : x.ord y = 0 → ∀ i x y, i < j + 1 → l[i]? = some x → m[i]? = some y → x.ord y = 0 := fun h i x' y' hi hx' hy' => by
            rcases hstep i x' y' hi hx' hy' with h' | h'
            · exact h'
            · subst h'
              rw [hx] at hx'; rw [hy] at hy'
              cases hx'; cases hy'; exact h
          have HK := Lib.hid hk
          generalize x.ord y = q at hih hat hnext
          generalize x.k = xk at *
          generalize x.n = xn at *
          generalize x.s = xs at *
          generalize x.a = xa at *
          generalize x.l.length = xl at *
          generalize x.cap = xc at *
          generalize y.k = yk at *
          generalize y.n = yn at *
          generalize y.s = ys at *
          generalize y.a = ya at *
          generalize y.l.length = yl at *
          generalize y.cap = yc at *
          have HIH := Lib.hid hih
          have HAT := Lib.hid hat
          have HNX := Lib.hid hnext
          clear hih hat hnext hstep hk hkw heq hx hy hxin hyin q0 q1 q2 q3 s0 s1 s2 s3
          by_cases hq : q = 0
          · subst hq
            go_wp2_with fail
            refine wp_region_still_tail 10 (by kernel_rfl) (by kernel_rfl) ?_
            change wpStill _ _ (World.drew wr) (fun a' => wpList _ _ _ _ a' (World.drew wr)) _ _
            have HD := Lib.hid (kpD (w := wr))
            generalize World.drew wr = w2 at *
            simp only [List.take_succ_cons, List.take_zero, List.drop_succ_cons, List.drop_zero]
            repeat still_step
            refine wpStill_nil ?_
            clear r0 r1 r2 r3 t0 t1 t2 t3 e3 f3 kd
            go_wp2_with fail
            refine HIH.out.mono ?_
            rintro e w3 ⟨rfl, hk3⟩
            have HK3 := Lib.hid (HK.out.trans ((kk HD.out hk3).mono HK.out.size))
            clear hk3
            go_wp2_with fail
            go_roundw
            case rel => exact ⟨j + 1, by omega, by omega, by first | go_num | simp, HNX.out trivial, HK3.out⟩
            case measure => simp [intOf]; omega
          · have hqb : (q == 0) = false := by rw [beq_eq_false_iff_ne]; exact hq
            go_wp2_with fail
            refine wp_region_still_tail 10 (by kernel_rfl) (by kernel_rfl) ?_
            change wpStill _ _ (World.drew wr) (fun a' => wpList _ _ _ _ a' (World.drew wr)) _ _
            have HD := Lib.hid (kpD (w := wr))
            generalize World.drew wr = w2 at *
            simp only [List.take_succ_cons, List.take_zero, List.drop_succ_cons, List.drop_zero]
            repeat still_step
            refine wpStill_nil ?_
            clear r0 r1 r2 r3 t0 t1 t2 t3 e3 f3 kd
            go_wp2_with fail
            refine HIH.out.mono ?_
            rintro e w3 ⟨rfl, hk3⟩
            have HK3 := Lib.hid (kk (kk (kk (ka _ _) (ka _ _)) HK.out) (kk HD.out hk3))
            have hl := HAT.out hq
            have HL := Lib.hid hl
            clear hk3 hl
            go_wp2_with fail
            go_ret
            exact ⟨by rw [HL.out] <;> rfl, HK3.out⟩
        · have hl := ordL_done heq hj hj' (.inr (by omega))
          have HL := Lib.hid hl
          have HK := Lib.hid hkw
          clear hl heq hk hkw
          go_wp2_with fail
          refine (numbers_any _ _ _).mono ?_
          rintro e w1 ⟨rfl, rfl⟩
          go_wp2_with fail
          go_ret
          exact ⟨by rw [HL.out] <;> rfl, HK.out⟩
      · have hl := ordL_done heq hj hj' (.inl (by omega))
        have HL := Lib.hid hl
        have HK := Lib.hid hkw
        clear hl heq hk hkw
        go_wp2_with fail
        refine (numbers_any _ _ _).mono ?_
        rintro e w1 ⟨rfl, rfl⟩
        go_wp2_with fail
        go_ret
        exact ⟨by rw [HL.out] <;> rfl, HK.out⟩

end Go.Proofs.YtbiljalhabnhlaaGreatDoor

/-
  THE SPECIFICATION's Order, whole; Compare.
-/
namespace Go.Proofs.YtbiljalhabnhlaaGreatDoor
open Go.RowKit

set_option maxRecDepth 100000 in
set_option maxHeartbeats 4000000 in
theorem order_kinds (k n : Int) (s : ByteArray) (a : Option Addr) (len cap : Nat) (k' n' : Int) (s' : ByteArray) (a' : Option Addr) (len' cap' : Nat) (w : World) (h : cmpI k k' ≠ 0) :
    Calls Tryz.prog 67 #[.agg #[.int .i64 k, .int .i64 n, .string s, .slice a len cap], .agg #[.int .i64 k', .int .i64 n', .string s', .slice a' len' cap']] w fun e w' => e = .returned (.int .i64 (cmpI k k')) ∧ Kp w w' := by
  have C := numbers_any k k'
  have hq : (cmpI k k' == 0) = false := by rw [beq_eq_false_iff_ne]; exact h
  generalize cmpI k k' = q at C hq ⊢
  have HC := Lib.hid C
  clear C h
  go_enter Tryz.func67, Tryz.ntmps67
  go_wp2_with fail
  refine (HC.out _).mono ?_
  rintro e w0 ⟨rfl, rfl⟩
  go_wp2_with fail
  go_ret
  exact ⟨rfl, kk (ka _ _) (ka _ _)⟩

set_option maxRecDepth 100000 in
set_option maxHeartbeats 4000000 in
theorem order_tags (n : Int) (s : ByteArray) (a : Option Addr) (len cap : Nat) (n' : Int) (s' : ByteArray) (a' : Option Addr) (len' cap' : Nat) (w : World) (h : cmpI n n' ≠ 0) :
    Calls Tryz.prog 67 #[.agg #[.int .i64 3, .int .i64 n, .string s, .slice a len cap], .agg #[.int .i64 3, .int .i64 n', .string s', .slice a' len' cap']] w fun e w' => e = .returned (.int .i64 (cmpI n n')) ∧ Kp w w' := by
  have C := numbers_any n n'
  have hn0 := numbers_any 3 3
  rw [cmpI_same] at hn0
  have HN0 := Lib.hid hn0
  have hq : (cmpI n n' == 0) = false := by rw [beq_eq_false_iff_ne]; exact h
  generalize cmpI n n' = q at C hq ⊢
  have HC := Lib.hid C
  clear C h hn0
  go_enter Tryz.func67, Tryz.ntmps67
  go_wp2_with fail
  refine (HN0.out _).mono ?_
  rintro e w0 ⟨rfl, rfl⟩
  go_wp2_with fail
  refine (HC.out _).mono ?_
  rintro e w0 ⟨rfl, rfl⟩
  go_wp2_with fail
  go_ret
  exact ⟨rfl, kk (ka _ _) (ka _ _)⟩

set_option maxRecDepth 100000 in
set_option maxHeartbeats 4000000 in
theorem order_ints (n : Int) (s : ByteArray) (a : Option Addr) (len cap : Nat) (n' : Int) (s' : ByteArray) (a' : Option Addr) (len' cap' : Nat) (w : World) :
    Calls Tryz.prog 67 #[.agg #[.int .i64 0, .int .i64 n, .string s, .slice a len cap], .agg #[.int .i64 0, .int .i64 n', .string s', .slice a' len' cap']] w fun e w' => e = .returned (.int .i64 (cmpI n n')) ∧ Kp w w' := by
  have C := numbers_any n n'
  have hn0 := numbers_any 0 0
  rw [cmpI_same] at hn0
  have HN0 := Lib.hid hn0
  generalize cmpI n n' = q at C ⊢
  have HC := Lib.hid C
  clear C hn0
  go_enter Tryz.func67, Tryz.ntmps67
  go_wp2_with fail
  refine (HN0.out _).mono ?_
  rintro e w0 ⟨rfl, rfl⟩
  go_wp2_with fail
  refine (HC.out _).mono ?_
  rintro e w0 ⟨rfl, rfl⟩
  go_wp2_with fail
  go_ret
  exact ⟨rfl, kk (ka _ _) (ka _ _)⟩

set_option maxRecDepth 100000 in
set_option maxHeartbeats 4000000 in
theorem order_texts (n : Int) (s : ByteArray) (a : Option Addr) (len cap : Nat) (n' : Int) (s' : ByteArray) (a' : Option Addr) (len' cap' : Nat) (w : World) (hs : s.size ≤ 9223372036854775807) (hs' : s'.size ≤ 9223372036854775807) :
    Calls Tryz.prog 67 #[.agg #[.int .i64 1, .int .i64 n, .string s, .slice a len cap], .agg #[.int .i64 1, .int .i64 n', .string s', .slice a' len' cap']] w fun e w' => e = .returned (.int .i64 (Lib.compareBytes s.data.toList s'.data.toList)) ∧ Kp w w' := by
  have C := texts_ref s s' hs hs'
  have hn0 := numbers_any 1 1
  rw [cmpI_same] at hn0
  have HN0 := Lib.hid hn0
  generalize Lib.compareBytes s.data.toList s'.data.toList = q at C ⊢
  have HC := Lib.hid C
  clear C hn0
  go_enter Tryz.func67, Tryz.ntmps67
  go_wp2_with fail
  refine (HN0.out _).mono ?_
  rintro e w0 ⟨rfl, rfl⟩
  go_wp2_with fail
  refine (HC.out _).mono ?_
  rintro e w1 ⟨rfl, hk⟩
  have HK := Lib.hid (kk (kk (ka _ _) (ka _ _)) hk)
  clear hk
  go_wp2_with fail
  go_ret
  exact ⟨rfl, HK.out⟩

theorem shL_at {l : List V} {d j : Nat} {x : V} (h : V.shL l d = true) (hx : l[j]? = some x) : x.sh d = true := by
  induction l generalizing j with
  | nil => simp at hx
  | cons y ys ih =>
    simp only [V.shL, Bool.and_eq_true] at h
    cases j with
    | zero => simp at hx; exact hx ▸ h.1
    | succ j => exact ih h.2 (by simpa using hx)

set_option maxHeartbeats 2000000 in
theorem order_ref : ∀ (N : Nat) (x y : V) (d d' : Nat) (w : World), x.rank ≤ N → x.sh d = true → y.sh d' = true → x.In w w.heap.size → y.In w w.heap.size →
    Calls Tryz.prog 67 #[.agg #[.int .i64 x.k, .int .i64 x.n, .string x.s, .slice x.a x.l.length x.cap], .agg #[.int .i64 y.k, .int .i64 y.n, .string y.s, .slice y.a y.l.length y.cap]] w fun e w' => e = .returned (.int .i64 (x.ord y)) ∧ Kp w w' := by
  intro N
  induction N with
  | zero => intro x y d d' w h; have := x.rank_pos; omega
  | succ N ih =>
    intro x y d d' w hN hx hy hin hin'
    cases x with
    | mk k n s a cap l =>
    cases y with
    | mk k' n' s' a' cap' m =>
    cases d with
    | zero => simp [V.sh] at hx
    | succ d =>
    cases d' with
    | zero => simp [V.sh] at hy
    | succ d' =>
    simp [V.sh] at hx hy
    obtain ⟨hf, hp⟩ := hx
    obtain ⟨hf', hp'⟩ := hy
    have hih : ∀ (j : Nat) (x y : V), l[j]? = some x → m[j]? = some y → ∀ w1 : World, x.In w1 w1.heap.size → y.In w1 w1.heap.size → Calls Tryz.prog 67 #[.agg #[.int .i64 x.k, .int .i64 x.n, .string x.s, .slice x.a x.l.length x.cap], .agg #[.int .i64 y.k, .int .i64 y.n, .string y.s, .slice y.a y.l.length y.cap]] w1 fun e w' => e = .returned (.int .i64 (x.ord y)) ∧ Kp w1 w' := fun j x y hx hy w1 h1 h2 =>
      ih x y d d' w1 (by have := V.rank_part (v := .mk k n s a cap l) (j := j) (x := x) hx; omega) (shL_at hp hx) (shL_at hp' hy) h1 h2
    have hs := V.sizeLe hin
    have hs' := V.sizeLe hin'
    show Calls Tryz.prog 67 #[.agg #[.int .i64 k, .int .i64 n, .string s, .slice a l.length cap], .agg #[.int .i64 k', .int .i64 n', .string s', .slice a' m.length cap']] w _
    by_cases hk : cmpI k k' = 0
    · obtain rfl := cmpI_zero hk
      by_cases h0 : k = 0
      · subst h0
        simp [fitsB, wordB] at hf hf'
        obtain rfl := empty_of s (by simpa using hf.2.2.1)
        obtain rfl := empty_of s' (by simpa using hf'.2.2.1)
        obtain rfl := hf.2.2.2
        obtain rfl := hf'.2.2.2
        have ho : (V.mk 0 n ⟨#[]⟩ a cap []).ord (.mk 0 n' ⟨#[]⟩ a' cap' []) = cmpI n n' := by
          simp only [V.ord, V.ordL, cmpI_same, compareBytes_same, orI]
          split <;> simp_all
        rw [ho]
        exact order_ints n ⟨#[]⟩ a 0 cap n' ⟨#[]⟩ a' 0 cap' w
      by_cases h1 : k = 1
      · subst h1
        simp [fitsB, textB] at hf hf'
        obtain rfl := hf.1
        obtain rfl := hf'.1
        obtain rfl := hf.2.1
        obtain rfl := hf'.2.1
        have ho : (V.mk 1 0 s a cap []).ord (.mk 1 0 s' a' cap' []) = Lib.compareBytes s.data.toList s'.data.toList := by
          simp only [V.ord, V.ordL, cmpI_same, orI]
          split <;> simp_all
        rw [ho]
        exact order_texts 0 s a 0 cap 0 s' a' 0 cap' w hs hs'
      by_cases h2 : k = 2
      · subst h2
        simp [fitsB, tupleB] at hf hf'
        obtain rfl := empty_of s (by simpa using hf.2.1)
        obtain rfl := empty_of s' (by simpa using hf'.2.1)
        obtain rfl := hf.1
        obtain rfl := hf'.1
        have ho : (V.mk 2 0 ⟨#[]⟩ a cap l).ord (.mk 2 0 ⟨#[]⟩ a' cap' m) = V.ordL l m := by
          simp [V.ord, cmpI_same, compareBytes_same, orI]
        rw [ho]
        exact order_2 0 ⟨#[]⟩ a cap l ⟨#[]⟩ a' cap' m w hin hin' hih
      by_cases h3 : k = 3
      · subst h3
        simp [fitsB, taggedB] at hf hf'
        obtain rfl := empty_of s (by simpa using hf.2.2.1)
        obtain rfl := empty_of s' (by simpa using hf'.2.2.1)
        by_cases hn : cmpI n n' = 0
        · obtain rfl := cmpI_zero hn
          have ho : (V.mk 3 n ⟨#[]⟩ a cap l).ord (.mk 3 n ⟨#[]⟩ a' cap' m) = V.ordL l m := by
            simp [V.ord, cmpI_same, compareBytes_same, orI]
          rw [ho]
          exact order_3 n ⟨#[]⟩ a cap l ⟨#[]⟩ a' cap' m w hin hin' hih
        · have ho : (V.mk 3 n ⟨#[]⟩ a cap l).ord (.mk 3 n' ⟨#[]⟩ a' cap' m) = cmpI n n' := by
            simp [V.ord, cmpI_same, orI, hn]
          rw [ho]
          exact order_tags n ⟨#[]⟩ a l.length cap n' ⟨#[]⟩ a' m.length cap' w hn
      · simp [fitsB, h0, h1, h2, h3] at hf
    · have ho : (V.mk k n s a cap l).ord (.mk k' n' s' a' cap' m) = cmpI k k' := by
        simp [V.ord, orI, hk]
      rw [ho]
      exact order_kinds k n s a l.length cap k' n' s' a' m.length cap' w hk

end Go.Proofs.YtbiljalhabnhlaaGreatDoor

/-
  Compare, THE PROGRAM's AND THE SPECIFICATION's: ONE ANSWER.
-/
namespace Go.Proofs.YtbiljalhabnhlaaGreatDoor
open Go.RowKit

/-- What Compare answers. -/
def cmpV (x y : V) : Value := if x.valid && y.valid then .tuple #[.int .i64 (x.ord y), .int .i64 0] else .tuple #[.int .i64 0, .int .i64 1]

theorem cnt_valid (v : V) : v.cnt = 0 ↔ v.valid = false := by
  have h := bad_valid v
  unfold bad at h
  cases hv : v.valid with
  | true => simp [hv] at h; simp; exact h
  | false => simp [hv] at h; simp; exact h

theorem compare_prog (x y : V) (w : World) (hx : x.In w w.heap.size) (hy : y.In w w.heap.size) :
    Calls Tryz.prog 25 #[x.val, y.val] w fun e w' => e = .returned (cmpV x y) ∧ Kp w w' := by
  cases hv : x.valid with
  | false => simpa [cmpV, hv] using compare_first x y w hx ((cnt_valid x).2 hv)
  | true =>
    have hx0 : ¬ x.cnt = 0 := fun h => by rw [(cnt_valid x).1 h] at hv; cases hv
    cases hw : y.valid with
    | false => simpa [cmpV, hv, hw] using compare_second x y w hx hy hx0 ((cnt_valid y).2 hw)
    | true =>
      have hy0 : ¬ y.cnt = 0 := fun h => by rw [(cnt_valid y).1 h] at hw; cases hw
      simpa [cmpV, hv, hw] using compare_both x y w hx hy hx0 hy0

set_option maxHeartbeats 2000000 in
theorem compareR_first (x y : V) (w : World) (hx : x.In w w.heap.size) (h : x.valid = false) :
    Calls Tryz.prog 26 #[x.val, y.val] w fun e w' => e = .returned (.tuple #[.int .i64 0, .int .i64 1]) ∧ Kp w w' := by
  cases x with
  | mk k n s a cap l =>
  cases y with
  | mk k' n' s' a' cap' l' =>
  rw [V.val_mk, V.val_mk]
  have C := fun w1 (h : Kp w w1) => valid_ref k n s a cap l w1 (hx.keep h.size h)
  rw [h] at C
  have CC := Lib.hid C
  clear C h hx
  go_enter Tryz.func26, Tryz.ntmps26
  go_wp2_with fail
  refine (CC.out _ (kk (ka _ _) (ka _ _))).mono ?_
  rintro e w1 ⟨rfl, hk⟩
  have HK := Lib.hid (kk (kk (ka _ _) (ka _ _)) hk)
  clear hk
  go_wp2_with fail
  go_ret2
  exact ⟨rfl, HK.out⟩

set_option maxHeartbeats 2000000 in
theorem compareR_second (x y : V) (w : World) (hx : x.In w w.heap.size) (hy : y.In w w.heap.size) (h : x.valid = true) (h' : y.valid = false) :
    Calls Tryz.prog 26 #[x.val, y.val] w fun e w' => e = .returned (.tuple #[.int .i64 0, .int .i64 1]) ∧ Kp w w' := by
  cases x with
  | mk k n s a cap l =>
  cases y with
  | mk k' n' s' a' cap' l' =>
  rw [V.val_mk, V.val_mk]
  have C := fun w1 (h : Kp w w1) => valid_ref k n s a cap l w1 (hx.keep h.size h)
  rw [h] at C
  have CC := Lib.hid C
  have C' := fun w1 (h : Kp w w1) => valid_ref k' n' s' a' cap' l' w1 (hy.keep h.size h)
  rw [h'] at C'
  have CC' := Lib.hid C'
  clear C C' h h' hx hy
  go_enter Tryz.func26, Tryz.ntmps26
  go_wp2_with fail
  refine (CC.out _ (kk (ka _ _) (ka _ _))).mono ?_
  rintro e w1 ⟨rfl, hk⟩
  obtain ⟨b0, b1, b2, b3, d0, d1, d2, d3, hz⟩ := box44 hk
  have HK := Lib.hid (kk (kk (ka _ _) (ka _ _)) hk)
  clear hk
  go_wp2_with fail
  refine (CC'.out _ HK.out).mono ?_
  rintro e w2 ⟨rfl, hk⟩
  have HK2 := Lib.hid (kk HK.out hk)
  clear hk
  go_wp2_with fail
  go_ret2
  exact ⟨rfl, HK2.out⟩

set_option maxHeartbeats 2000000 in
theorem compareR_both (x y : V) (w : World) (hx : x.In w w.heap.size) (hy : y.In w w.heap.size) (h : x.valid = true) (h' : y.valid = true) :
    Calls Tryz.prog 26 #[x.val, y.val] w fun e w' => e = .returned (.tuple #[.int .i64 (x.ord y), .int .i64 0]) ∧ Kp w w' := by
  have hsx : x.sh 6 = true := by simp [V.valid] at h; exact h.1
  have hsy : y.sh 6 = true := by simp [V.valid] at h'; exact h'.1
  have O := fun w1 (h : Kp w w1) => order_ref x.rank x y 6 6 w1 (Nat.le_refl _) hsx hsy (hx.keep h.size h) (hy.keep h.size h)
  cases x with
  | mk k n s a cap l =>
  cases y with
  | mk k' n' s' a' cap' l' =>
  rw [V.val_mk, V.val_mk]
  dsimp only [V.k, V.n, V.s, V.a, V.l, V.cap] at O
  have C := fun w1 (h : Kp w w1) => valid_ref k n s a cap l w1 (hx.keep h.size h)
  rw [h] at C
  have CC := Lib.hid C
  have C' := fun w1 (h : Kp w w1) => valid_ref k' n' s' a' cap' l' w1 (hy.keep h.size h)
  rw [h'] at C'
  have CC' := Lib.hid C'
  generalize (V.mk k n s a cap l).ord (V.mk k' n' s' a' cap' l') = o at O ⊢
  have OO := Lib.hid O
  clear C C' h h' hx hy O hsx hsy
  go_enter Tryz.func26, Tryz.ntmps26
  go_wp2_with fail
  refine (CC.out _ (kk (ka _ _) (ka _ _))).mono ?_
  rintro e w1 ⟨rfl, hk⟩
  obtain ⟨b0, b1, b2, b3, d0, d1, d2, d3, hz⟩ := box44 hk
  have HK := Lib.hid (kk (kk (ka _ _) (ka _ _)) hk)
  clear hk
  go_wp2_with fail
  refine (CC'.out _ HK.out).mono ?_
  rintro e w2 ⟨rfl, hk⟩
  have HK2 := Lib.hid (kk HK.out hk)
  have e0 := kc hk b0
  have e1 := kc hk b1
  have e2 := kc hk b2
  have e3 := kc hk b3
  have f0 := kc hk d0
  have f1 := kc hk d1
  have f2 := kc hk d2
  have f3 := kc hk d3
  clear hk b0 b1 b2 b3 d0 d1 d2 d3
  go_wp2_with fail
  refine (OO.out _ HK2.out).mono ?_
  rintro e w3 ⟨rfl, hk⟩
  have HK3 := Lib.hid (kk HK2.out hk)
  clear hk
  go_wp2_with fail
  go_ret2
  exact ⟨rfl, HK3.out⟩

theorem compare_spec (x y : V) (w : World) (hx : x.In w w.heap.size) (hy : y.In w w.heap.size) :
    Calls Tryz.prog 26 #[x.val, y.val] w fun e w' => e = .returned (cmpV x y) ∧ Kp w w' := by
  cases hv : x.valid with
  | false => simpa [cmpV, hv] using compareR_first x y w hx hv
  | true =>
    cases hw : y.valid with
    | false => simpa [cmpV, hv, hw] using compareR_second x y w hx hy hv hw
    | true => simpa [cmpV, hv, hw] using compareR_both x y w hx hy hv hw

end Go.Proofs.YtbiljalhabnhlaaGreatDoor

/-
  THE SPECIFICATION's types, typed, ValidType, Type (written by wip/gen_types.py).
-/
namespace Go.Proofs.YtbiljalhabnhlaaGreatDoor
open Go.RowKit

theorem ranksT_take (l : List T) (j : Nat) (x : T) (h : l[j]? = some x) : T.rank.ranks (l.take (j + 1)) = T.rank.ranks (l.take j) + x.rank := by
  induction l generalizing j with
  | nil => simp at h
  | cons y ys ih =>
    cases j with
    | zero => simp at h; subst h; simp [T.rank.ranks]
    | succ j => have := ih j (by simpa using h); simp [T.rank.ranks, this]; omega

theorem ranksT_le : ∀ (m : List T) (i : Nat), T.rank.ranks (m.take i) ≤ T.rank.ranks m := by
  intro m
  induction m with
  | nil => intro i; simp [T.rank.ranks]
  | cons y ys ih => intro i; cases i with
    | zero => simp [T.rank.ranks]
    | succ i => have := ih i; simp [T.rank.ranks]; omega

set_option maxRecDepth 100000 in
set_option maxHeartbeats 4000000 in
theorem types_ref : ∀ (N : Nat) (k : Int) (a : Option Addr) (cap : Nat) (l : List T) (w : World), (T.mk k a cap l).rank ≤ N → N ≤ 1000000000 → (T.mk k a cap l).In w w.heap.size →
    Calls Tryz.prog 97 #[.agg #[.int .i64 k, .slice a l.length cap]] w fun e w' => e = .returned (.int .i64 (T.mk k a cap l).rank) ∧ Kp w w' := by
  intro N
  induction N with
  | zero => intro k a cap l w h; have := T.rank_pos (.mk k a cap l); omega
  | succ N ih =>
    intro k a cap l w hN hM hin
    have hrk : (T.mk k a cap l).rank = 1 + T.rank.ranks l := rfl
    have hlen := T.lenLe hin
    have IH := Lib.hid ih
    have HIN := Lib.hid hin
    clear ih hin
    go_enter Tryz.func97, Tryz.ntmps97
    go_wp2_with fail
    go_loopw [3, 4] (fun c i wr => ∃ j : Nat, j ≤ l.length ∧ i = .int .i64 j ∧ c = .int .i64 ((1 + T.rank.ranks (l.take j) : Nat) : Int) ∧ Kp (w.alloc (.cells #[.int .i64 k, .slice a l.length cap] 27)) wr) (fun _ i _ => l.length - (intOf i).toNat)
    case atStart => exact ⟨0, Nat.zero_le _, rfl, by simp [T.rank.ranks], Below.refl _ _⟩
    case round =>
      obtain ⟨j, hj, rfl, rfl, hk⟩ := hrel
      obtain ⟨b0, b1, hz⟩ := box2 hk
      by_cases hlt : j < l.length
      · obtain ⟨x, hx⟩ : ∃ x, l[j]? = some x := ⟨l[j], by simp [hlt]⟩
        obtain ⟨p0, off, rfl, hp0, q0, q1, hxin⟩ := T.atPart HIN.out hx
        have hkw := kk (ka _ _) hk
        have r0 := kc hkw q0
        have r1 := kc hkw q1
        have hxr := hxin.keep hkw.size hkw
        have hrx := T.rank_part (v := .mk k (some ⟨p0, off, none⟩) cap l) (j := j) (x := x) hx
        have htk := ranksT_take l j x hx
        have hle := ranksT_le l (j + 1)
        cases x with
        | mk k' a' cap' l' =>
        simp only [T.k, T.a, T.l, T.cap] at r0 r1
        have hih := IH.out k' a' cap' l' wr (by omega) (by omega) hxr
        have HIH := Lib.hid hih
        have HK := Lib.hid hk
        generalize (T.mk k' a' cap' l').rank = rx at *
        clear hih hk hxin hxr hx hkw q0 q1
        go_wp2_with fail
        refine HIH.out.mono ?_
        rintro e w2 ⟨rfl, hk2⟩
        have HK2 := Lib.hid (kk HK.out hk2)
        clear hk2
        go_wp2_with fail
        go_roundw
        case rel => exact ⟨j + 1, by omega, by first | go_num | simp, by rw [htk]; congr 1; omega, HK2.out⟩
        case measure => simp [intOf]; omega
      · have hjj : j = l.length := by omega
        subst hjj
        have HK := Lib.hid (kk (ka _ _) hk)
        clear hk
        go_wp2_with fail
        go_ret
        exact ⟨by simp [hrk], HK.out⟩

mutual
/-- typed: so deep at most. -/
def T.sh : T → Nat → Bool
  | .mk k _ _ l, d => if d = 0 then false else fitsT k l.length && T.shL l (d - 1)
def T.shL : List T → Nat → Bool
  | [], _ => true
  | x :: xs, d => x.sh d && T.shL xs d
end

theorem T.shL_snoc (l : List T) (d j : Nat) (x : T) (h : l[j]? = some x) : T.shL (l.take (j + 1)) d = (T.shL (l.take j) d && x.sh d) := by
  induction l generalizing j with
  | nil => simp at h
  | cons y ys ih =>
    cases j with
    | zero => simp at h; subst h; simp [T.shL]
    | succ j => have := ih j (by simpa using h); simp [T.shL, this, Bool.and_assoc]
theorem T.shL_stop (l : List T) (d j : Nat) (h : T.shL (l.take j) d = false) : T.shL l d = false := by
  induction l generalizing j with
  | nil => simp [T.shL] at h
  | cons y ys ih =>
    cases j with
    | zero => simp [T.shL] at h
    | succ j =>
      simp only [List.take_succ_cons, T.shL, Bool.and_eq_false_iff] at h ⊢
      rcases h with h | h
      · exact .inl h
      · exact .inr (ih j h)

set_option maxRecDepth 100000 in
set_option maxHeartbeats 2000000 in
theorem typed_zero (k : Int) (a : Option Addr) (cap len : Nat) (w : World) :
    Calls Tryz.prog 96 #[.agg #[.int .i64 k, .slice a len cap], .int .i64 0] w fun e w' => e = .returned (.bool false) ∧ Kp w w' := by
  go_enter Tryz.func96, Tryz.ntmps96
  go_wp2_with fail
  go_ret
  exact ⟨rfl, ka _ _⟩

set_option maxRecDepth 100000 in
set_option maxHeartbeats 4000000 in
theorem typed_0 (f : Bool) (d : Nat) (hd : d ≤ 100) (a : Option Addr) (cap : Nat) (l : List T) (w : World) (hin : (T.mk 0 a cap l).In w w.heap.size) (h : decide (l.length = 0) = f)
    (ih : ∀ (j : Nat) (x : T), l[j]? = some x → ∀ w1 : World, x.In w1 w1.heap.size → Calls Tryz.prog 96 #[.agg #[.int .i64 x.k, .slice x.a x.l.length x.cap], .int .i64 (d : Int)] w1 fun e w' => e = .returned (.bool (x.sh d)) ∧ Kp w1 w') :
    Calls Tryz.prog 96 #[.agg #[.int .i64 0, .slice a l.length cap], .int .i64 ((d : Int) + 1)] w fun e w' => e = .returned (.bool (f && T.shL l d)) ∧ Kp w w' := by
  have hlen := T.lenLe hin
  have hd0 : ((d : Int) + 1 == 0) = false := by rw [beq_eq_false_iff_ne]; omega
  have IH := Lib.hid ih
  have HIN := Lib.hid hin
  clear ih hin
  have ht : ((l.length : Int) == 0) = f := by rw [← h, Bool.eq_iff_iff]; simp
  clear h
  go_enter Tryz.func96, Tryz.ntmps96
  go_wp2_with fail
  go_loopw [5, 6] (fun b i wr => ∃ j : Nat, j ≤ l.length ∧ i = .int .i64 j ∧ b = .bool (f && T.shL (l.take j) d) ∧ Kp (w.alloc (.cells #[.int .i64 0, .slice a l.length cap] 27)) wr) (fun _ i _ => l.length - (intOf i).toNat)
  case atStart => exact ⟨0, Nat.zero_le _, rfl, by simp [T.shL, *], Below.refl _ _⟩
  case round =>
    obtain ⟨j, hj, rfl, rfl, hk⟩ := hrel
    obtain ⟨b0, b1, hz⟩ := box2 hk
    cases hp : (f && T.shL (l.take j) d) with
    | true =>
      by_cases hlt : j < l.length
      · obtain ⟨x, hx⟩ : ∃ x, l[j]? = some x := ⟨l[j], by simp [hlt]⟩
        obtain ⟨p0, off, rfl, hp0, q0, q1, hxin⟩ := T.atPart HIN.out hx
        have hkw := kk (ka _ _) hk
        have r0 := kc hkw q0
        have r1 := kc hkw q1
        have hih := IH.out j x hx wr (hxin.keep hkw.size hkw)
        have hsn : (f && T.shL (l.take (j + 1)) d) = x.sh d := by rw [T.shL_snoc l d j x hx, ← Bool.and_assoc, hp, Bool.true_and]
        generalize x.sh d = bx at hih hsn
        generalize x.k = xk at *
        generalize x.a = xa at *
        generalize x.l.length = xl at *
        generalize x.cap = xc at *
        have HSN := Lib.hid hsn
        have HIH := Lib.hid hih
        have HK := Lib.hid hk
        clear hih hk hxin hx hkw q0 q1 hsn hp
        go_wp2_with fail
        refine HIH.out.mono ?_
        rintro e w2 ⟨rfl, hk2⟩
        have HK2 := Lib.hid (kk HK.out hk2)
        clear hk2
        go_wp2_with fail
        go_roundw
        case rel => exact ⟨j + 1, by omega, by first | go_num | simp, by rw [HSN.out], HK2.out⟩
        case measure => simp [intOf]; omega
      · have hjj : j = l.length := by omega
        subst hjj
        have hall : (f && T.shL l d) = true := by rw [List.take_of_length_le (Nat.le_refl _)] at hp; exact hp
        have HR := Lib.hid hall
        have HK := Lib.hid (kk (ka _ _) hk)
        clear hk hp hall
        go_wp2_with fail
        go_ret
        exact ⟨by rw [HR.out] <;> rfl, HK.out⟩
    | false =>
      have hr : (f && T.shL l d) = false := by
        rw [Bool.and_eq_false_iff] at hp ⊢
        rcases hp with h | h
        · exact .inl h
        · exact .inr (T.shL_stop l d j h)
      have HR := Lib.hid hr
      have HK := Lib.hid (kk (ka _ _) hk)
      clear hk hp hr
      go_wp2_with fail
      go_ret
      exact ⟨by rw [HR.out] <;> rfl, HK.out⟩

set_option maxRecDepth 100000 in
set_option maxHeartbeats 4000000 in
theorem typed_1 (f : Bool) (d : Nat) (hd : d ≤ 100) (a : Option Addr) (cap : Nat) (l : List T) (w : World) (hin : (T.mk 1 a cap l).In w w.heap.size) (h : decide (l.length = 0) = f)
    (ih : ∀ (j : Nat) (x : T), l[j]? = some x → ∀ w1 : World, x.In w1 w1.heap.size → Calls Tryz.prog 96 #[.agg #[.int .i64 x.k, .slice x.a x.l.length x.cap], .int .i64 (d : Int)] w1 fun e w' => e = .returned (.bool (x.sh d)) ∧ Kp w1 w') :
    Calls Tryz.prog 96 #[.agg #[.int .i64 1, .slice a l.length cap], .int .i64 ((d : Int) + 1)] w fun e w' => e = .returned (.bool (f && T.shL l d)) ∧ Kp w w' := by
  have hlen := T.lenLe hin
  have hd0 : ((d : Int) + 1 == 0) = false := by rw [beq_eq_false_iff_ne]; omega
  have IH := Lib.hid ih
  have HIN := Lib.hid hin
  clear ih hin
  have ht : ((l.length : Int) == 0) = f := by rw [← h, Bool.eq_iff_iff]; simp
  clear h
  go_enter Tryz.func96, Tryz.ntmps96
  go_wp2_with fail
  go_loopw [5, 6] (fun b i wr => ∃ j : Nat, j ≤ l.length ∧ i = .int .i64 j ∧ b = .bool (f && T.shL (l.take j) d) ∧ Kp (w.alloc (.cells #[.int .i64 1, .slice a l.length cap] 27)) wr) (fun _ i _ => l.length - (intOf i).toNat)
  case atStart => exact ⟨0, Nat.zero_le _, rfl, by simp [T.shL, *], Below.refl _ _⟩
  case round =>
    obtain ⟨j, hj, rfl, rfl, hk⟩ := hrel
    obtain ⟨b0, b1, hz⟩ := box2 hk
    cases hp : (f && T.shL (l.take j) d) with
    | true =>
      by_cases hlt : j < l.length
      · obtain ⟨x, hx⟩ : ∃ x, l[j]? = some x := ⟨l[j], by simp [hlt]⟩
        obtain ⟨p0, off, rfl, hp0, q0, q1, hxin⟩ := T.atPart HIN.out hx
        have hkw := kk (ka _ _) hk
        have r0 := kc hkw q0
        have r1 := kc hkw q1
        have hih := IH.out j x hx wr (hxin.keep hkw.size hkw)
        have hsn : (f && T.shL (l.take (j + 1)) d) = x.sh d := by rw [T.shL_snoc l d j x hx, ← Bool.and_assoc, hp, Bool.true_and]
        generalize x.sh d = bx at hih hsn
        generalize x.k = xk at *
        generalize x.a = xa at *
        generalize x.l.length = xl at *
        generalize x.cap = xc at *
        have HSN := Lib.hid hsn
        have HIH := Lib.hid hih
        have HK := Lib.hid hk
        clear hih hk hxin hx hkw q0 q1 hsn hp
        go_wp2_with fail
        refine HIH.out.mono ?_
        rintro e w2 ⟨rfl, hk2⟩
        have HK2 := Lib.hid (kk HK.out hk2)
        clear hk2
        go_wp2_with fail
        go_roundw
        case rel => exact ⟨j + 1, by omega, by first | go_num | simp, by rw [HSN.out], HK2.out⟩
        case measure => simp [intOf]; omega
      · have hjj : j = l.length := by omega
        subst hjj
        have hall : (f && T.shL l d) = true := by rw [List.take_of_length_le (Nat.le_refl _)] at hp; exact hp
        have HR := Lib.hid hall
        have HK := Lib.hid (kk (ka _ _) hk)
        clear hk hp hall
        go_wp2_with fail
        go_ret
        exact ⟨by rw [HR.out] <;> rfl, HK.out⟩
    | false =>
      have hr : (f && T.shL l d) = false := by
        rw [Bool.and_eq_false_iff] at hp ⊢
        rcases hp with h | h
        · exact .inl h
        · exact .inr (T.shL_stop l d j h)
      have HR := Lib.hid hr
      have HK := Lib.hid (kk (ka _ _) hk)
      clear hk hp hr
      go_wp2_with fail
      go_ret
      exact ⟨by rw [HR.out] <;> rfl, HK.out⟩

set_option maxRecDepth 100000 in
set_option maxHeartbeats 4000000 in
theorem typed_2 (f : Bool) (d : Nat) (hd : d ≤ 100) (a : Option Addr) (cap : Nat) (l : List T) (w : World) (hin : (T.mk 2 a cap l).In w w.heap.size) (h : decide (l.length ≤ 8) = f)
    (ih : ∀ (j : Nat) (x : T), l[j]? = some x → ∀ w1 : World, x.In w1 w1.heap.size → Calls Tryz.prog 96 #[.agg #[.int .i64 x.k, .slice x.a x.l.length x.cap], .int .i64 (d : Int)] w1 fun e w' => e = .returned (.bool (x.sh d)) ∧ Kp w1 w') :
    Calls Tryz.prog 96 #[.agg #[.int .i64 2, .slice a l.length cap], .int .i64 ((d : Int) + 1)] w fun e w' => e = .returned (.bool (f && T.shL l d)) ∧ Kp w w' := by
  have hlen := T.lenLe hin
  have hd0 : ((d : Int) + 1 == 0) = false := by rw [beq_eq_false_iff_ne]; omega
  have IH := Lib.hid ih
  have HIN := Lib.hid hin
  clear ih hin
  have ht : decide ((l.length : Int) ≤ 8) = f := by rw [← h, decide_eq_decide]; omega
  clear h
  go_enter Tryz.func96, Tryz.ntmps96
  go_wp2_with fail
  go_loopw [5, 6] (fun b i wr => ∃ j : Nat, j ≤ l.length ∧ i = .int .i64 j ∧ b = .bool (f && T.shL (l.take j) d) ∧ Kp (w.alloc (.cells #[.int .i64 2, .slice a l.length cap] 27)) wr) (fun _ i _ => l.length - (intOf i).toNat)
  case atStart => exact ⟨0, Nat.zero_le _, rfl, by simp [T.shL, *], Below.refl _ _⟩
  case round =>
    obtain ⟨j, hj, rfl, rfl, hk⟩ := hrel
    obtain ⟨b0, b1, hz⟩ := box2 hk
    cases hp : (f && T.shL (l.take j) d) with
    | true =>
      by_cases hlt : j < l.length
      · obtain ⟨x, hx⟩ : ∃ x, l[j]? = some x := ⟨l[j], by simp [hlt]⟩
        obtain ⟨p0, off, rfl, hp0, q0, q1, hxin⟩ := T.atPart HIN.out hx
        have hkw := kk (ka _ _) hk
        have r0 := kc hkw q0
        have r1 := kc hkw q1
        have hih := IH.out j x hx wr (hxin.keep hkw.size hkw)
        have hsn : (f && T.shL (l.take (j + 1)) d) = x.sh d := by rw [T.shL_snoc l d j x hx, ← Bool.and_assoc, hp, Bool.true_and]
        generalize x.sh d = bx at hih hsn
        generalize x.k = xk at *
        generalize x.a = xa at *
        generalize x.l.length = xl at *
        generalize x.cap = xc at *
        have HSN := Lib.hid hsn
        have HIH := Lib.hid hih
        have HK := Lib.hid hk
        clear hih hk hxin hx hkw q0 q1 hsn hp
        go_wp2_with fail
        refine HIH.out.mono ?_
        rintro e w2 ⟨rfl, hk2⟩
        have HK2 := Lib.hid (kk HK.out hk2)
        clear hk2
        go_wp2_with fail
        go_roundw
        case rel => exact ⟨j + 1, by omega, by first | go_num | simp, by rw [HSN.out], HK2.out⟩
        case measure => simp [intOf]; omega
      · have hjj : j = l.length := by omega
        subst hjj
        have hall : (f && T.shL l d) = true := by rw [List.take_of_length_le (Nat.le_refl _)] at hp; exact hp
        have HR := Lib.hid hall
        have HK := Lib.hid (kk (ka _ _) hk)
        clear hk hp hall
        go_wp2_with fail
        go_ret
        exact ⟨by rw [HR.out] <;> rfl, HK.out⟩
    | false =>
      have hr : (f && T.shL l d) = false := by
        rw [Bool.and_eq_false_iff] at hp ⊢
        rcases hp with h | h
        · exact .inl h
        · exact .inr (T.shL_stop l d j h)
      have HR := Lib.hid hr
      have HK := Lib.hid (kk (ka _ _) hk)
      clear hk hp hr
      go_wp2_with fail
      go_ret
      exact ⟨by rw [HR.out] <;> rfl, HK.out⟩

set_option maxRecDepth 100000 in
set_option maxHeartbeats 4000000 in
theorem typed_3 (f : Bool) (d : Nat) (hd : d ≤ 100) (a : Option Addr) (cap : Nat) (l : List T) (w : World) (hin : (T.mk 3 a cap l).In w w.heap.size) (h : decide (0 < l.length ∧ l.length ≤ 8) = f)
    (ih : ∀ (j : Nat) (x : T), l[j]? = some x → ∀ w1 : World, x.In w1 w1.heap.size → Calls Tryz.prog 96 #[.agg #[.int .i64 x.k, .slice x.a x.l.length x.cap], .int .i64 (d : Int)] w1 fun e w' => e = .returned (.bool (x.sh d)) ∧ Kp w1 w') :
    Calls Tryz.prog 96 #[.agg #[.int .i64 3, .slice a l.length cap], .int .i64 ((d : Int) + 1)] w fun e w' => e = .returned (.bool (f && T.shL l d)) ∧ Kp w w' := by
  have hlen := T.lenLe hin
  have hd0 : ((d : Int) + 1 == 0) = false := by rw [beq_eq_false_iff_ne]; omega
  have IH := Lib.hid ih
  have HIN := Lib.hid hin
  clear ih hin
  have L := fun w => lies_any (l.length : Int) 1 8 w
  rw [show (decide ((1 : Int) ≤ l.length) && decide ((l.length : Int) ≤ 8)) = f from by rw [← h, Bool.eq_iff_iff]; simp; omega] at L
  have HL := Lib.hid L
  clear L
  clear h
  go_enter Tryz.func96, Tryz.ntmps96
  go_wp2_with (go_at_call 42; refine (HL.out _).mono ?_; rintro e w1 ⟨rfl, rfl⟩)
  go_loopw [5, 6] (fun b i wr => ∃ j : Nat, j ≤ l.length ∧ i = .int .i64 j ∧ b = .bool (f && T.shL (l.take j) d) ∧ Kp (w.alloc (.cells #[.int .i64 3, .slice a l.length cap] 27)) wr) (fun _ i _ => l.length - (intOf i).toNat)
  case atStart => exact ⟨0, Nat.zero_le _, rfl, by simp [T.shL, *], Below.refl _ _⟩
  case round =>
    obtain ⟨j, hj, rfl, rfl, hk⟩ := hrel
    obtain ⟨b0, b1, hz⟩ := box2 hk
    cases hp : (f && T.shL (l.take j) d) with
    | true =>
      by_cases hlt : j < l.length
      · obtain ⟨x, hx⟩ : ∃ x, l[j]? = some x := ⟨l[j], by simp [hlt]⟩
        obtain ⟨p0, off, rfl, hp0, q0, q1, hxin⟩ := T.atPart HIN.out hx
        have hkw := kk (ka _ _) hk
        have r0 := kc hkw q0
        have r1 := kc hkw q1
        have hih := IH.out j x hx wr (hxin.keep hkw.size hkw)
        have hsn : (f && T.shL (l.take (j + 1)) d) = x.sh d := by rw [T.shL_snoc l d j x hx, ← Bool.and_assoc, hp, Bool.true_and]
        generalize x.sh d = bx at hih hsn
        generalize x.k = xk at *
        generalize x.a = xa at *
        generalize x.l.length = xl at *
        generalize x.cap = xc at *
        have HSN := Lib.hid hsn
        have HIH := Lib.hid hih
        have HK := Lib.hid hk
        clear hih hk hxin hx hkw q0 q1 hsn hp
        go_wp2_with fail
        refine HIH.out.mono ?_
        rintro e w2 ⟨rfl, hk2⟩
        have HK2 := Lib.hid (kk HK.out hk2)
        clear hk2
        go_wp2_with fail
        go_roundw
        case rel => exact ⟨j + 1, by omega, by first | go_num | simp, by rw [HSN.out], HK2.out⟩
        case measure => simp [intOf]; omega
      · have hjj : j = l.length := by omega
        subst hjj
        have hall : (f && T.shL l d) = true := by rw [List.take_of_length_le (Nat.le_refl _)] at hp; exact hp
        have HR := Lib.hid hall
        have HK := Lib.hid (kk (ka _ _) hk)
        clear hk hp hall
        go_wp2_with fail
        go_ret
        exact ⟨by rw [HR.out] <;> rfl, HK.out⟩
    | false =>
      have hr : (f && T.shL l d) = false := by
        rw [Bool.and_eq_false_iff] at hp ⊢
        rcases hp with h | h
        · exact .inl h
        · exact .inr (T.shL_stop l d j h)
      have HR := Lib.hid hr
      have HK := Lib.hid (kk (ka _ _) hk)
      clear hk hp hr
      go_wp2_with fail
      go_ret
      exact ⟨by rw [HR.out] <;> rfl, HK.out⟩

set_option maxRecDepth 100000 in
set_option maxHeartbeats 4000000 in
theorem typed_k (k : Int) (f : Bool) (d : Nat) (hd : d ≤ 100) (a : Option Addr) (cap : Nat) (l : List T) (w : World) (hin : (T.mk k a cap l).In w w.heap.size) (h0 : k ≠ 0) (h1 : k ≠ 1) (h2 : k ≠ 2) (h3 : k ≠ 3) (hf : f = false)
    (ih : ∀ (j : Nat) (x : T), l[j]? = some x → ∀ w1 : World, x.In w1 w1.heap.size → Calls Tryz.prog 96 #[.agg #[.int .i64 x.k, .slice x.a x.l.length x.cap], .int .i64 (d : Int)] w1 fun e w' => e = .returned (.bool (x.sh d)) ∧ Kp w1 w') :
    Calls Tryz.prog 96 #[.agg #[.int .i64 k, .slice a l.length cap], .int .i64 ((d : Int) + 1)] w fun e w' => e = .returned (.bool (f && T.shL l d)) ∧ Kp w w' := by
  have hlen := T.lenLe hin
  have hd0 : ((d : Int) + 1 == 0) = false := by rw [beq_eq_false_iff_ne]; omega
  have IH := Lib.hid ih
  have HIN := Lib.hid hin
  clear ih hin
  have g0 : (k == 0) = false := by rw [beq_eq_false_iff_ne]; exact h0
  have g1 : (k == 1) = false := by rw [beq_eq_false_iff_ne]; exact h1
  have g2 : (k == 2) = false := by rw [beq_eq_false_iff_ne]; exact h2
  have g3 : (k == 3) = false := by rw [beq_eq_false_iff_ne]; exact h3
  subst hf
  clear h0 h1 h2 h3
  go_enter Tryz.func96, Tryz.ntmps96
  go_wp2_with fail
  go_loopw [5, 6] (fun b i wr => ∃ j : Nat, j ≤ l.length ∧ i = .int .i64 j ∧ b = .bool (false && T.shL (l.take j) d) ∧ Kp (w.alloc (.cells #[.int .i64 k, .slice a l.length cap] 27)) wr) (fun _ i _ => l.length - (intOf i).toNat)
  case atStart => exact ⟨0, Nat.zero_le _, rfl, by simp [T.shL, *], Below.refl _ _⟩
  case round =>
    obtain ⟨j, hj, rfl, rfl, hk⟩ := hrel
    obtain ⟨b0, b1, hz⟩ := box2 hk
    cases hp : (false && T.shL (l.take j) d) with
    | true =>
      by_cases hlt : j < l.length
      · obtain ⟨x, hx⟩ : ∃ x, l[j]? = some x := ⟨l[j], by simp [hlt]⟩
        obtain ⟨p0, off, rfl, hp0, q0, q1, hxin⟩ := T.atPart HIN.out hx
        have hkw := kk (ka _ _) hk
        have r0 := kc hkw q0
        have r1 := kc hkw q1
        have hih := IH.out j x hx wr (hxin.keep hkw.size hkw)
        have hsn : (false && T.shL (l.take (j + 1)) d) = x.sh d := by rw [T.shL_snoc l d j x hx, ← Bool.and_assoc, hp, Bool.true_and]
        generalize x.sh d = bx at hih hsn
        generalize x.k = xk at *
        generalize x.a = xa at *
        generalize x.l.length = xl at *
        generalize x.cap = xc at *
        have HSN := Lib.hid hsn
        have HIH := Lib.hid hih
        have HK := Lib.hid hk
        clear hih hk hxin hx hkw q0 q1 hsn hp
        go_wp2_with fail
        refine HIH.out.mono ?_
        rintro e w2 ⟨rfl, hk2⟩
        have HK2 := Lib.hid (kk HK.out hk2)
        clear hk2
        go_wp2_with fail
        go_roundw
        case rel => exact ⟨j + 1, by omega, by first | go_num | simp, by rw [HSN.out], HK2.out⟩
        case measure => simp [intOf]; omega
      · have hjj : j = l.length := by omega
        subst hjj
        have hall : (false && T.shL l d) = true := by rw [List.take_of_length_le (Nat.le_refl _)] at hp; exact hp
        have HR := Lib.hid hall
        have HK := Lib.hid (kk (ka _ _) hk)
        clear hk hp hall
        go_wp2_with fail
        go_ret
        exact ⟨by rw [HR.out] <;> rfl, HK.out⟩
    | false =>
      have hr : (false && T.shL l d) = false := by
        rw [Bool.and_eq_false_iff] at hp ⊢
        rcases hp with h | h
        · exact .inl h
        · exact .inr (T.shL_stop l d j h)
      have HR := Lib.hid hr
      have HK := Lib.hid (kk (ka _ _) hk)
      clear hk hp hr
      go_wp2_with fail
      go_ret
      exact ⟨by rw [HR.out] <;> rfl, HK.out⟩

theorem typed_ref : ∀ (N : Nat) (k : Int) (a : Option Addr) (cap : Nat) (l : List T) (d : Nat) (w : World), (T.mk k a cap l).rank ≤ N → d ≤ 100 → (T.mk k a cap l).In w w.heap.size →
    Calls Tryz.prog 96 #[.agg #[.int .i64 k, .slice a l.length cap], .int .i64 (d : Int)] w fun e w' => e = .returned (.bool ((T.mk k a cap l).sh d)) ∧ Kp w w' := by
  intro N
  induction N with
  | zero => intro k a cap l d w h; have := T.rank_pos (.mk k a cap l); omega
  | succ N ih =>
    intro k a cap l d w hN hd hin
    cases d with
    | zero => exact typed_zero k a cap l.length w
    | succ d =>
      have hih : ∀ (j : Nat) (x : T), l[j]? = some x → ∀ w1 : World, x.In w1 w1.heap.size → Calls Tryz.prog 96 #[.agg #[.int .i64 x.k, .slice x.a x.l.length x.cap], .int .i64 (d : Int)] w1 fun e w' => e = .returned (.bool (x.sh d)) ∧ Kp w1 w' := fun j x hx w1 hw => by
        have hr := T.rank_part (v := .mk k a cap l) (j := j) (x := x) hx
        cases x with
        | mk k' a' cap' l' => exact ih k' a' cap' l' d w1 (by omega) (by omega) hw
      have hsh : (T.mk k a cap l).sh (d + 1) = (fitsT k l.length && T.shL l d) := by simp [T.sh]
      rw [hsh]
      rw [show ((d + 1 : Nat) : Int) = (d : Int) + 1 from by omega]
      by_cases h0 : k = 0
      · subst h0; exact typed_0 _ d (by omega) a cap l w hin (by simp [fitsT]) hih
      by_cases h1 : k = 1
      · subst h1; exact typed_1 _ d (by omega) a cap l w hin (by simp [fitsT]) hih
      by_cases h2 : k = 2
      · subst h2; exact typed_2 _ d (by omega) a cap l w hin (by simp [fitsT]) hih
      by_cases h3 : k = 3
      · subst h3; exact typed_3 _ d (by omega) a cap l w hin (by simp [fitsT]) hih
      · have hf : fitsT k l.length = false := by simp [fitsT, h0, h1, h2, h3]
        have := typed_k k false d (by omega) a cap l w hin h0 h1 h2 h3 rfl hih
        rwa [hf]

theorem fitsT_len {k : Int} {m : Nat} (h : fitsT k m = true) : m ≤ 8 := by
  unfold fitsT at h
  repeat' split at h
  all_goals simp at h
  all_goals omega

mutual
theorem T.sh_rank : ∀ (v : T) (d : Nat), v.sh d = true → v.rank ≤ 9 ^ d
  | .mk k a cap l, d, h => by
    cases d with
    | zero => simp [T.sh] at h
    | succ d =>
      simp [T.sh] at h
      have h1 := fitsT_len h.1
      have h2 := T.shL_rank l d h.2
      have h3 : l.length * 9 ^ d ≤ 8 * 9 ^ d := Nat.mul_le_mul_right _ h1
      have h4 : 1 ≤ 9 ^ d := Nat.one_le_pow _ _ (by decide)
      have h5 : 9 ^ (d + 1) = 9 * 9 ^ d := by rw [Nat.pow_succ, Nat.mul_comm]
      simp [T.rank]
      omega
theorem T.shL_rank : ∀ (l : List T) (d : Nat), T.shL l d = true → T.rank.ranks l ≤ l.length * 9 ^ d
  | [], d, _ => by simp [T.rank.ranks]
  | x :: xs, d, h => by
    simp [T.shL] at h
    have h1 := T.sh_rank x d h.1
    have h2 := T.shL_rank xs d h.2
    simp [T.rank.ranks, Nat.add_mul]
    omega
end

mutual
theorem T.wk_sh : ∀ (v : T) (deep c : Nat), 1 ≤ deep → c ≤ 40 → ((v.wk deep c).1 = true ↔ v.sh (7 - deep) = true ∧ c + v.rank ≤ 40) ∧ ((v.wk deep c).1 = true → (v.wk deep c).2 = c + v.rank)
  | .mk k a cap l, deep, c, hd, hc => by
    have hrk : (T.mk k a cap l).rank = 1 + T.rank.ranks l := rfl
    by_cases h : 40 < c + 1 ∨ 6 < deep ∨ fitsT k l.length = false
    · simp only [T.wk, if_pos h]
      refine ⟨⟨(fun h => by cases h), ?_⟩, (fun h => by cases h)⟩
      rintro ⟨h1, h2⟩
      simp only [T.sh] at h1
      split at h1
      · cases h1
      · rcases h with h | h | h
        · omega
        · omega
        · rw [h] at h1; cases h1
    · have ih := T.wkL_sh l (deep + 1) (c + 1) (by omega) (by omega)
      have hf : fitsT k l.length = true := by
        cases hf : fitsT k l.length with
        | true => rfl
        | false => exact absurd (.inr (.inr hf)) h
      have hsh : (T.mk k a cap l).sh (7 - deep) = T.shL l (7 - (deep + 1)) := by
        simp only [T.sh, hf, Bool.true_and]
        rw [if_neg (by omega), show 7 - deep - 1 = 7 - (deep + 1) from by omega]
      simp only [T.wk, if_neg h, hsh, hrk]
      refine ⟨ih.1.trans ⟨fun h => ⟨h.1, by omega⟩, fun h => ⟨h.1, by omega⟩⟩, fun h => by rw [ih.2 h]; omega⟩
theorem T.wkL_sh : ∀ (l : List T) (deep c : Nat), 1 ≤ deep → c ≤ 40 → ((T.wkL l deep c).1 = true ↔ T.shL l (7 - deep) = true ∧ c + T.rank.ranks l ≤ 40) ∧ ((T.wkL l deep c).1 = true → (T.wkL l deep c).2 = c + T.rank.ranks l)
  | [], deep, c, hd, hc => by simp [T.wkL, T.shL, T.rank.ranks]; omega
  | x :: xs, deep, c, hd, hc => by
    have h1 := T.wk_sh x deep c hd hc
    simp only [T.wkL, T.shL, T.rank.ranks, Bool.and_eq_true]
    cases hx : x.wk deep c with
    | mk b c' =>
      rw [hx] at h1
      cases b with
      | true =>
        have hc' : c' = c + x.rank := h1.2 rfl
        have h3 := h1.1.1 rfl
        subst hc'
        have h2 := T.wkL_sh xs deep (c + x.rank) hd h3.2
        refine ⟨h2.1.trans ⟨fun h => ⟨⟨h3.1, h.1⟩, by omega⟩, fun h => ⟨h.1.2, by omega⟩⟩, fun h => by rw [h2.2 h]; omega⟩
      | false =>
        refine ⟨⟨(fun h => by cases h), (fun h => ?_)⟩, (fun h => by cases h)⟩
        exact absurd (h1.1.2 ⟨h.1.1, by omega⟩) (by simp)
end

/-- ValidType: what the specification says of a type. -/
def T.valid (v : T) : Bool := v.sh 6 && decide (v.rank ≤ 40)

theorem badT_valid (v : T) : bad v.cnt = if v.valid then 0 else 1 := by
  have h := T.wk_sh v 1 0 (by omega) (by omega)
  have hp := T.rank_pos v
  unfold T.valid T.cnt bad
  cases hw : (v.wk 1 0).1 with
  | true =>
    have h1 := h.1.1 hw
    have h2 := h.2 hw
    have h3 : v.rank ≤ 40 := by omega
    simp [h2, h1.1, h3]
    omega
  | false =>
    have h1 : ¬ (v.sh 6 = true ∧ v.rank ≤ 40) := fun hh => by
      have := h.1.2 ⟨hh.1, by omega⟩
      rw [hw] at this; cases this
    have h2 : (v.sh 6 && decide (v.rank ≤ 40)) = false := by
      cases hv : (v.sh 6 && decide (v.rank ≤ 40)) with
      | false => rfl
      | true => exact absurd (by simpa using hv) h1
    simp [h2]

set_option maxRecDepth 100000 in
set_option maxHeartbeats 4000000 in
theorem validT_ref (k : Int) (a : Option Addr) (cap : Nat) (l : List T) (w : World) (hin : (T.mk k a cap l).In w w.heap.size) :
    Calls Tryz.prog 55 #[.agg #[.int .i64 k, .slice a l.length cap]] w fun e w' => e = .returned (.bool (T.mk k a cap l).valid) ∧ Kp w w' := by
  have C := fun (w1 : World) (h : (T.mk k a cap l).In w1 w1.heap.size) => typed_ref _ k a cap l 6 w1 (Nat.le_refl _) (by omega) h
  have HIN := Lib.hid hin
  cases hs : (T.mk k a cap l).sh 6 with
  | false =>
    have hv : (T.mk k a cap l).valid = false := by simp [T.valid, hs]
    rw [hv]
    rw [hs] at C
    have HC := Lib.hid C
    clear C hin hs hv
    go_enter Tryz.func55, Tryz.ntmps55
    go_wp2_with fail
    refine (HC.out _ (HIN.out.keep (by simp) (ka _ _))).mono ?_
    rintro e w1 ⟨rfl, hk⟩
    have HK := Lib.hid (kk (ka _ _) hk)
    clear hk
    go_wp2_with fail
    go_ret
    exact ⟨rfl, HK.out⟩
  | true =>
    have hr := T.sh_rank _ _ hs
    have hv : (T.mk k a cap l).valid = decide ((T.mk k a cap l).rank ≤ 40) := by simp [T.valid, hs]
    rw [hv]
    rw [hs] at C
    have D := fun (w1 : World) (h : (T.mk k a cap l).In w1 w1.heap.size) => types_ref _ k a cap l w1 (Nat.le_refl _) (Nat.le_trans hr (by decide)) h
    have HC := Lib.hid C
    have HD := Lib.hid D
    clear C D hin hs hv hr
    generalize (T.mk k a cap l).rank = rk at *
    go_enter Tryz.func55, Tryz.ntmps55
    go_wp2_with fail
    refine (HC.out _ (HIN.out.keep (by simp) (ka _ _))).mono ?_
    rintro e w1 ⟨rfl, hk⟩
    obtain ⟨b0, b1, hz⟩ := box2 hk
    have HK := Lib.hid (kk (ka _ _) hk)
    clear hk
    go_wp2_with fail
    refine (HD.out _ (HIN.out.keep HK.out.size HK.out)).mono ?_
    rintro e w2 ⟨rfl, hk2⟩
    have HK2 := Lib.hid (kk HK.out hk2)
    clear hk2
    go_wp2_with fail
    go_ret
    have hdd : decide ((rk : Int) ≤ 40) = decide (rk ≤ 40) := by rw [decide_eq_decide]; omega
    exact ⟨by show Ending.returned (.bool (decide ((rk : Int) ≤ 40))) = _; rw [hdd], HK2.out⟩

/-- ErrArg, or OK. -/
def argI (b : Bool) : Int := if b then 0 else 1

set_option maxHeartbeats 1000000 in
theorem typeR (k : Int) (a : Option Addr) (cap : Nat) (l : List T) (w : World) (hin : (T.mk k a cap l).In w w.heap.size) :
    Calls Tryz.prog 18 #[.agg #[.int .i64 k, .slice a l.length cap]] w fun e w' => e = .returned (.int .i64 (argI (T.mk k a cap l).valid)) ∧ Kp w w' := by
  have C := fun (w1 : World) (h : Kp w w1) => validT_ref k a cap l w1 (hin.keep h.size h)
  generalize (T.mk k a cap l).valid = v at C ⊢
  have HC := Lib.hid C
  clear C hin
  cases v
  all_goals
    go_enter Tryz.func18, Tryz.ntmps18
    go_wp2_with fail
    refine (HC.out _ (ka _ _)).mono ?_
    rintro e w1 ⟨rfl, hk⟩
    have HK := Lib.hid (kk (ka _ _) hk)
    clear hk
    go_wp2_with fail
    go_ret
    exact ⟨rfl, HK.out⟩

set_option maxHeartbeats 1000000 in
theorem checkR (k n : Int) (s : ByteArray) (a : Option Addr) (cap : Nat) (l : List V) (w : World) (hin : (V.mk k n s a cap l).In w w.heap.size) :
    Calls Tryz.prog 20 #[.agg #[.int .i64 k, .int .i64 n, .string s, .slice a l.length cap]] w fun e w' => e = .returned (.int .i64 (argI (V.mk k n s a cap l).valid)) ∧ Kp w w' := by
  have C := fun (w1 : World) (h : Kp w w1) => valid_ref k n s a cap l w1 (hin.keep h.size h)
  generalize (V.mk k n s a cap l).valid = v at C ⊢
  have HC := Lib.hid C
  clear C hin
  cases v
  all_goals
    go_enter Tryz.func20, Tryz.ntmps20
    go_wp2_with fail
    refine (HC.out _ (ka _ _)).mono ?_
    rintro e w1 ⟨rfl, hk⟩
    have HK := Lib.hid (kk (ka _ _) hk)
    clear hk
    go_wp2_with fail
    go_ret
    exact ⟨rfl, HK.out⟩

/-- What Size answers: how many values, and the error. -/
def sizeI (v : V) : Int := if v.valid then v.rank else 0

set_option maxHeartbeats 2000000 in
theorem sizeR (k n : Int) (s : ByteArray) (a : Option Addr) (cap : Nat) (l : List V) (w : World) (hin : (V.mk k n s a cap l).In w w.heap.size) :
    Calls Tryz.prog 14 #[.agg #[.int .i64 k, .int .i64 n, .string s, .slice a l.length cap]] w fun e w' => e = .returned (.tuple #[.int .i64 (sizeI (V.mk k n s a cap l)), .int .i64 (argI (V.mk k n s a cap l).valid)]) ∧ Kp w w' := by
  have C := fun (w1 : World) (h : Kp w w1) => valid_ref k n s a cap l w1 (hin.keep h.size h)
  have D := fun (w1 : World) (h : Kp w w1) => fun hv : (V.mk k n s a cap l).valid = true => count_ref _ k n s a cap l w1 (Nat.le_refl _) (by simp [V.valid] at hv; omega) (hin.keep h.size h)
  unfold sizeI
  generalize (V.mk k n s a cap l).valid = v at C D ⊢
  cases v with
  | false =>
    have HC := Lib.hid C
    clear C D hin
    go_enter Tryz.func14, Tryz.ntmps14
    go_wp2_with fail
    refine (HC.out _ (ka _ _)).mono ?_
    rintro e w1 ⟨rfl, hk⟩
    have HK := Lib.hid (kk (ka _ _) hk)
    clear hk
    go_wp2_with fail
    go_ret2
    exact ⟨rfl, HK.out⟩
  | true =>
    have D2 := fun (w1 : World) (h : Kp w w1) => D w1 h rfl
    generalize (V.mk k n s a cap l).rank = rk at D2 ⊢
    have HC := Lib.hid C
    have HD := Lib.hid D2
    clear C D D2 hin
    go_enter Tryz.func14, Tryz.ntmps14
    go_wp2_with fail
    refine (HC.out _ (ka _ _)).mono ?_
    rintro e w1 ⟨rfl, hk⟩
    obtain ⟨b0, b1, b2, b3, hz⟩ := box4 hk
    have HK := Lib.hid (kk (ka _ _) hk)
    clear hk
    go_wp2_with fail
    refine (HD.out _ HK.out).mono ?_
    rintro e w2 ⟨rfl, hk2⟩
    have HK2 := Lib.hid (kk HK.out hk2)
    clear hk2
    go_wp2_with fail
    go_ret2
    exact ⟨rfl, HK2.out⟩

theorem cnt_size (v : V) : (v.cnt : Int) = sizeI v := by
  have h := V.wk_sh v 1 0 (by omega) (by omega)
  unfold sizeI V.valid V.cnt
  cases hw : (v.wk 1 0).1 with
  | true =>
    have h1 := h.1.1 hw
    have h2 := h.2 hw
    have h3 : v.rank ≤ 60 := by omega
    simp [h2, h1.1, h3]
  | false =>
    have h1 : ¬ (v.sh 6 = true ∧ v.rank ≤ 60) := fun hh => by
      have := h.1.2 ⟨hh.1, by omega⟩
      rw [hw] at this; cases this
    have h2 : (v.sh 6 && decide (v.rank ≤ 60)) = false := by
      cases hv : (v.sh 6 && decide (v.rank ≤ 60)) with
      | false => rfl
      | true => exact absurd (by simpa using hv) h1
    simp [h2]
theorem bad_arg (v : V) : bad v.cnt = argI v.valid := by rw [bad_valid]; rfl
theorem badT_arg (v : T) : bad v.cnt = argI v.valid := by rw [badT_valid]; rfl

end Go.Proofs.YtbiljalhabnhlaaGreatDoor
