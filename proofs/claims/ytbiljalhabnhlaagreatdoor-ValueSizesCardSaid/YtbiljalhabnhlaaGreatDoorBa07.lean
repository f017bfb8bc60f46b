/-
  Contracts of the functions of package value, of its specification and of what the statements of layer 1 share (values and types made of numbers, the chapter's examples), each for every argument: used by the proofs of layer 1's statements.
  Part 7 of 10.
-/
import Derived.Test.YtbiljalhabnhlaaGreatDoorBa06
import Derived.Test.YtbiljalhabnhlaaGreatDoorBa05
import Derived.StillTailTactics
import Derived.BigQuiet
import Derived.Deep.QuietTactic
import Derived.Deep.RegionHeld3
import Derived.Test.YtbiljalhabnhlaaGreatDoorBa03
/-
  THE SPECIFICATION's fits, Is.
-/
namespace Go.Proofs.YtbiljalhabnhlaaGreatDoor
open Go.RowKit

theorem kpDN {w : World} {n : Nat} : Kp w (w.drewN n) := ⟨rfl, rfl, rfl, Nat.le_refl _, fun _ _ => rfl⟩

/-- A value and a type in their boxes, behind a draw. -/
theorem boxesVT (w : World) (c0 c1 c2 c3 d0 d1 : Value) (t u : Nat) :
    (World.drew ((w.alloc (.cells #[c0, c1, c2, c3] t)).alloc (.cells #[d0, d1] u))).cell? ⟨w.heap.size, 0, none⟩ = some c0 ∧
    (World.drew ((w.alloc (.cells #[c0, c1, c2, c3] t)).alloc (.cells #[d0, d1] u))).cell? ⟨w.heap.size, 1, none⟩ = some c1 ∧
    (World.drew ((w.alloc (.cells #[c0, c1, c2, c3] t)).alloc (.cells #[d0, d1] u))).cell? ⟨w.heap.size, 2, none⟩ = some c2 ∧
    (World.drew ((w.alloc (.cells #[c0, c1, c2, c3] t)).alloc (.cells #[d0, d1] u))).cell? ⟨w.heap.size, 3, none⟩ = some c3 ∧
    (World.drew ((w.alloc (.cells #[c0, c1, c2, c3] t)).alloc (.cells #[d0, d1] u))).cell? ⟨w.heap.size + 1, 0, none⟩ = some d0 ∧
    (World.drew ((w.alloc (.cells #[c0, c1, c2, c3] t)).alloc (.cells #[d0, d1] u))).cell? ⟨w.heap.size + 1, 1, none⟩ = some d1 ∧
    Kp w (World.drew ((w.alloc (.cells #[c0, c1, c2, c3] t)).alloc (.cells #[d0, d1] u))) := by
  have hk : Kp ((w.alloc (.cells #[c0, c1, c2, c3] t)).alloc (.cells #[d0, d1] u)) (World.drew ((w.alloc (.cells #[c0, c1, c2, c3] t)).alloc (.cells #[d0, d1] u))) := kpD
  obtain ⟨h0, h1⟩ := twoBox hk
  exact ⟨cellOf h0 rfl, cellOf h0 rfl, cellOf h0 rfl, cellOf h0 rfl, cellOf h1 rfl, cellOf h1 rfl, kk (kk (ka _ _) (ka _ _)) hk⟩

theorem twoBoxVT {w w1 : World} {c0 c1 c2 c3 d0 d1 : Value} {t u : Nat} (hk : Kp ((w.alloc (.cells #[c0, c1, c2, c3] t)).alloc (.cells #[d0, d1] u)) w1) :
    w1.cell? ⟨w.heap.size, 0, none⟩ = some c0 ∧ w1.cell? ⟨w.heap.size, 1, none⟩ = some c1 ∧ w1.cell? ⟨w.heap.size, 2, none⟩ = some c2 ∧ w1.cell? ⟨w.heap.size, 3, none⟩ = some c3 ∧ w1.cell? ⟨w.heap.size + 1, 0, none⟩ = some d0 ∧ w1.cell? ⟨w.heap.size + 1, 1, none⟩ = some d1 := by
  obtain ⟨h0, h1⟩ := twoBox hk
  exact ⟨cellOf h0 rfl, cellOf h0 rfl, cellOf h0 rfl, cellOf h0 rfl, cellOf h1 rfl, cellOf h1 rfl⟩

set_option maxRecDepth 100000 in
set_option maxHeartbeats 8000000 in
theorem fits_sum_k (k n : Int) (s : ByteArray) (a : Option Addr) (len cap : Nat) (ta : Option Addr) (tlen tcap : Nat) (w : World) (h : k ≠ 3) :
    Calls Tryz.prog 62 #[.agg #[.int .i64 k, .int .i64 n, .string s, .slice a len cap], .agg #[.int .i64 3, .slice ta tlen tcap]] w fun e w' => e = .returned (.bool false) ∧ Kp w w' := by
  have g : (k == 3) = false := by rw [beq_eq_false_iff_ne]; exact h
  clear h
  go_enter Tryz.func62, Tryz.ntmps62
  go_wp2_with fail
  go_quiet (fail)
  go_wp2_with fail
  go_ret
  exact ⟨rfl, kk (kk (ka _ _) (ka _ _)) kpDN⟩

set_option maxRecDepth 100000 in
set_option maxHeartbeats 8000000 in
theorem fits_sum_n (n : Int) (s : ByteArray) (a : Option Addr) (len cap : Nat) (ta : Option Addr) (tlen tcap : Nat) (w : World) (h : (tlen : Int) ≤ n) :
    Calls Tryz.prog 62 #[.agg #[.int .i64 3, .int .i64 n, .string s, .slice a len cap], .agg #[.int .i64 3, .slice ta tlen tcap]] w fun e w' => e = .returned (.bool false) ∧ Kp w w' := by
  have g : decide (n < (tlen : Int)) = false := by simp; omega
  clear h
  go_enter Tryz.func62, Tryz.ntmps62
  go_wp2_with fail
  go_quiet (fail)
  go_wp2_with fail
  go_ret
  exact ⟨rfl, kk (kk (ka _ _) (ka _ _)) kpDN⟩

set_option maxRecDepth 100000 in
set_option maxHeartbeats 8000000 in
theorem fits_sum_y (n : Nat) (s : ByteArray) (a : Option Addr) (cap : Nat) (x : V) (ta : Option Addr) (tcap : Nat) (tl : List T) (u : T) (w : World) (hn : n < tl.length) (hu : tl[n]? = some u)
    (hin : (V.mk 3 n s a cap [x]).In w w.heap.size) (hin' : (T.mk 3 ta tcap tl).In w w.heap.size)
    (ih : ∀ w1 : World, x.In w1 w1.heap.size → u.In w1 w1.heap.size → Calls Tryz.prog 62 #[.agg #[.int .i64 x.k, .int .i64 x.n, .string x.s, .slice x.a x.l.length x.cap], .agg #[.int .i64 u.k, .slice u.a u.l.length u.cap]] w1 fun e w' => e = .returned (.bool (x.is u)) ∧ Kp w1 w') :
    Calls Tryz.prog 62 #[.agg #[.int .i64 3, .int .i64 (n : Int), .string s, .slice a 1 cap], .agg #[.int .i64 3, .slice ta tl.length tcap]] w fun e w' => e = .returned (.bool (x.is u)) ∧ Kp w w' := by
  have hlen := T.lenLe hin'
  have g : decide ((n : Int) < (tl.length : Int)) = true := by simp; omega
  have g0 : (0 : Int) ≤ (n : Int) := by omega
  have g1 : (n : Int) < (tl.length : Int) := by omega
  obtain ⟨p0, off, rfl, hp0, q0, q1, q2, q3, hxin⟩ := V.atPart hin (j := 0) (x := x) rfl
  obtain ⟨p1, off1, rfl, hp1, s0, s1, huin⟩ := T.atPart hin' hu
  simp only [Nat.zero_mul, Nat.add_zero] at q0 q1 q2 q3
  generalize x.is u = bx at ih ⊢
  have IH := Lib.hid ih
  clear ih
  go_enter Tryz.func62, Tryz.ntmps62
  go_wp2_with fail
  obtain ⟨c0, c1, c2, c3, d0, d1⟩ := twoBoxVT (w := w) (w1 := (w.alloc (.cells #[.int .i64 3, .int .i64 (n : Int), .string s, .slice (some ⟨p0, off, none⟩) 1 cap] 24)).alloc (.cells #[.int .i64 3, .slice (some ⟨p1, off1, none⟩) tl.length tcap] 27)) (Below.refl _ _)
  have hk : Kp w ((w.alloc (.cells #[.int .i64 3, .int .i64 (n : Int), .string s, .slice (some ⟨p0, off, none⟩) 1 cap] 24)).alloc (.cells #[.int .i64 3, .slice (some ⟨p1, off1, none⟩) tl.length tcap] 27)) := kk (ka _ _) (ka _ _)
  generalize (w.alloc (.cells #[.int .i64 3, .int .i64 (n : Int), .string s, .slice (some ⟨p0, off, none⟩) 1 cap] 24)).alloc (.cells #[.int .i64 3, .slice (some ⟨p1, off1, none⟩) tl.length tcap] 27) = W at *
  have r0 := kc hk q0
  have r1 := kc hk q1
  have r2 := kc hk q2
  have r3 := kc hk q3
  have t0 := kc hk s0
  have t1 := kc hk s1
  have hih := fun (w1 : World) (h : Kp W w1) => IH.out w1 (hxin.keep (kk hk h).size (kk hk h)) (huin.keep (kk hk h).size (kk hk h))
  have HK := Lib.hid hk
  generalize x.k = xk at *
  generalize x.n = xn at *
  generalize x.s = xs at *
  generalize x.a = xa at *
  generalize x.l.length = xl at *
  generalize x.cap = xc at *
  generalize u.k = yk at *
  generalize u.a = ya at *
  generalize u.l.length = yl at *
  generalize u.cap = yc at *
  have HIH := Lib.hid hih
  clear hk hih hin hin' hxin huin hu q0 q1 q2 q3 s0 s1 hp0 hp1 IH c2 d0
  go_region_held3 (fun w' => w'.cell? ⟨w.heap.size, 0, none⟩ = some (.int .i64 3) ∧ w'.cell? ⟨w.heap.size, 1, none⟩ = some (.int .i64 (n : Int)) ∧ w'.cell? ⟨w.heap.size, 3, none⟩ = some (.slice (some ⟨p0, off, none⟩) 1 cap) ∧ w'.cell? ⟨w.heap.size + 1, 1, none⟩ = some (.slice (some ⟨p1, off1, none⟩) tl.length tcap) ∧
      w'.cell? ⟨p0, off, none⟩ = some (.int .i64 xk) ∧ w'.cell? ⟨p0, off + 1, none⟩ = some (.int .i64 xn) ∧ w'.cell? ⟨p0, off + 2, none⟩ = some (.string xs) ∧ w'.cell? ⟨p0, off + 3, none⟩ = some (.slice xa xl xc) ∧ w'.cell? ⟨p1, off1 + n * 2, none⟩ = some (.int .i64 yk) ∧ w'.cell? ⟨p1, off1 + n * 2 + 1, none⟩ = some (.slice ya yl yc))
    (first | go_keep | (go_split_ands; refine ⟨?_, ?_, ?_, ?_, ?_, ?_, ?_, ?_, ?_, ?_⟩ <;> exact kc hk3 (by assumption)))
    (first | (go_at_call 62; refine (HIH.out _ kpD).mono ?_; rintro e w3 ⟨rfl, hk3⟩))
  go_wp2_with fail
  go_ret
  exact ⟨by simp, kk HK.out (kk kpD (by assumption))⟩

set_option maxRecDepth 100000 in
set_option maxHeartbeats 4000000 in
theorem fits_leaf (k n : Int) (s : ByteArray) (a : Option Addr) (len cap : Nat) (tk : Int) (ta : Option Addr) (tlen tcap : Nat) (w : World) (h : tk = 0 ∨ tk = 1) :
    Calls Tryz.prog 62 #[.agg #[.int .i64 k, .int .i64 n, .string s, .slice a len cap], .agg #[.int .i64 tk, .slice ta tlen tcap]] w fun e w' => e = .returned (.bool (decide (k = tk))) ∧ Kp w w' := by
  by_cases hk : k = tk
  · subst hk
    rcases h with rfl | rfl
    all_goals
      go_enter Tryz.func62, Tryz.ntmps62
      go_wp2_with fail
      go_ret
      exact ⟨rfl, kk (ka _ _) (ka _ _)⟩
  · have hd : decide (k = tk) = false := by simpa using hk
    rw [hd]
    rcases h with rfl | rfl
    · have g : (k == 0) = false := by rw [beq_eq_false_iff_ne]; exact hk
      clear hk hd
      go_enter Tryz.func62, Tryz.ntmps62
      go_wp2_with fail
      go_ret
      exact ⟨rfl, kk (ka _ _) (ka _ _)⟩
    · have g : (k == 1) = false := by rw [beq_eq_false_iff_ne]; exact hk
      clear hk hd
      go_enter Tryz.func62, Tryz.ntmps62
      go_wp2_with fail
      go_ret
      exact ⟨rfl, kk (ka _ _) (ka _ _)⟩

/-- What is known of a tuple of which j parts have been looked at. -/
def IsUpto (n : Int) (t : T) (l : List V) (j : Nat) (c : Bool) : Prop := if c then V.isL 2 n t (l.drop j) j = V.isL 2 n t l 0 else V.isL 2 n t l 0 = false

theorem IsUpto.step {n : Int} {t : T} {l : List V} {j : Nat} {x : V} {u : T} (h : IsUpto n t l j true) (hx : l[j]? = some x) (hu : t.l[j]? = some u) : IsUpto n t l (j + 1) (x.is u) := by
  have hlt := (List.getElem?_eq_some_iff.1 hx).1
  have hd : l.drop j = x :: l.drop (j + 1) := by
    rw [List.drop_eq_getElem_cons hlt]
    congr 1
    exact (List.getElem?_eq_some_iff.1 hx).2
  have h1 : V.isL 2 n t (l.drop j) j = V.isL 2 n t l 0 := by simpa [IsUpto] using h
  rw [hd] at h1
  simp [V.isL, hu] at h1
  unfold IsUpto
  cases hb : x.is u with
  | true => rw [hb] at h1; simpa using h1
  | false => rw [hb] at h1; simpa using h1.symm
theorem IsUpto.done {n : Int} {t : T} {l : List V} {j : Nat} (h : IsUpto n t l j true) (hj : j = l.length) : V.isL 2 n t l 0 = true := by
  have h1 : V.isL 2 n t (l.drop j) j = V.isL 2 n t l 0 := by simpa [IsUpto] using h
  rw [← h1, hj, List.drop_of_length_le (Nat.le_refl _)]; simp [V.isL]
theorem IsUpto.no {n : Int} {t : T} {l : List V} {j : Nat} (h : IsUpto n t l j false) : V.isL 2 n t l 0 = false := by simpa [IsUpto] using h

set_option maxRecDepth 100000 in
set_option maxHeartbeats 4000000 in
theorem fits_tuple_no (k n : Int) (s : ByteArray) (a : Option Addr) (len cap : Nat) (ta : Option Addr) (tlen tcap : Nat) (w : World) (h : k ≠ 2 ∨ (k = 2 ∧ len ≠ tlen)) :
    Calls Tryz.prog 62 #[.agg #[.int .i64 k, .int .i64 n, .string s, .slice a len cap], .agg #[.int .i64 2, .slice ta tlen tcap]] w fun e w' => e = .returned (.bool false) ∧ Kp w w' := by
  rcases h with h | ⟨rfl, h⟩
  · have g : (k == 2) = false := by rw [beq_eq_false_iff_ne]; exact h
    clear h
    go_enter Tryz.func62, Tryz.ntmps62
    go_wp2_with fail
    refine wp_loop_rounds (0 + 1) ?_
    rw [rounds_succ]
    go_wp2_with fail
    go_ret
    exact ⟨rfl, kk (ka _ _) (ka _ _)⟩
  · have g : ((len : Int) == (tlen : Int)) = false := by rw [beq_eq_false_iff_ne]; omega
    clear h
    go_enter Tryz.func62, Tryz.ntmps62
    go_wp2_with fail
    refine wp_loop_rounds (0 + 1) ?_
    rw [rounds_succ]
    go_wp2_with fail
    go_ret
    exact ⟨rfl, kk (ka _ _) (ka _ _)⟩

set_option maxRecDepth 100000 in
set_option maxHeartbeats 8000000 in
theorem fits_tuple (n : Int) (s : ByteArray) (a : Option Addr) (cap : Nat) (l : List V) (ta : Option Addr) (tcap : Nat) (tl : List T) (w : World) (he : l.length = tl.length)
    (hin : (V.mk 2 n s a cap l).In w w.heap.size) (hin' : (T.mk 2 ta tcap tl).In w w.heap.size)
    (ih : ∀ (j : Nat) (x : V) (u : T), l[j]? = some x → tl[j]? = some u → ∀ w1 : World, x.In w1 w1.heap.size → u.In w1 w1.heap.size → Calls Tryz.prog 62 #[.agg #[.int .i64 x.k, .int .i64 x.n, .string x.s, .slice x.a x.l.length x.cap], .agg #[.int .i64 u.k, .slice u.a u.l.length u.cap]] w1 fun e w' => e = .returned (.bool (x.is u)) ∧ Kp w1 w') :
    Calls Tryz.prog 62 #[.agg #[.int .i64 2, .int .i64 n, .string s, .slice a l.length cap], .agg #[.int .i64 2, .slice ta tl.length tcap]] w fun e w' => e = .returned (.bool (V.isL 2 n (.mk 2 ta tcap tl) l 0)) ∧ Kp w w' := by
  have hlen := V.lenLe hin
  have hlen' := T.lenLe hin'
  have g : ((l.length : Int) == (tl.length : Int)) = true := by rw [beq_iff_eq]; omega
  have IH := Lib.hid ih
  have HIN := Lib.hid hin
  have HIN' := Lib.hid hin'
  have HE := Lib.hid he
  clear ih hin hin' he
  go_enter Tryz.func62, Tryz.ntmps62
  go_wp2_with fail
  clear g
  go_loopw [5, 6] (fun b i wr => ∃ (j : Nat) (c : Bool), j ≤ l.length ∧ i = .int .i64 j ∧ b = .bool c ∧ IsUpto n (.mk 2 ta tcap tl) l j c ∧ Kp ((w.alloc (.cells #[.int .i64 2, .int .i64 n, .string s, .slice a l.length cap] 24)).alloc (.cells #[.int .i64 2, .slice ta tl.length tcap] 27)) wr) (fun _ i _ => l.length - (intOf i).toNat)
  case atStart => exact ⟨0, true, Nat.zero_le _, rfl, rfl, by simp [IsUpto], Below.refl _ _⟩
  case round =>
    obtain ⟨j, c, hj, rfl, rfl, hu, hk⟩ := hrel
    obtain ⟨bx, by_⟩ := twoBox hk
    have c3 : wr.cell? ⟨w.heap.size, 3, none⟩ = some (.slice a l.length cap) := cellOf bx rfl
    have d1 : wr.cell? ⟨w.heap.size + 1, 1, none⟩ = some (.slice ta tl.length tcap) := cellOf by_ rfl
    have hkw := kk (kk (ka _ _) (ka _ _)) hk
    clear bx by_
    cases c with
    | true =>
      by_cases h1 : j < l.length
      · have h2 : j < tl.length := by have := HE.out; omega
        obtain ⟨x, hx⟩ : ∃ x, l[j]? = some x := ⟨l[j], by simp [h1]⟩
        obtain ⟨y, hy⟩ : ∃ y, tl[j]? = some y := ⟨tl[j], by simp [h2]⟩
        obtain ⟨p0, off, rfl, hp0, q0, q1, q2, q3, hxin⟩ := V.atPart HIN.out hx
        obtain ⟨p1, off1, rfl, hp1, s0, s1, hyin⟩ := T.atPart HIN'.out hy
        have kd := kk hkw (kpD (w := wr))
        have r0 := kc kd q0
        have r1 := kc kd q1
        have r2 := kc kd q2
        have r3 := kc kd q3
        have t0 := kc kd s0
        have t1 := kc kd s1
        have e3 := kc kpD c3
        have f1 := kc kpD d1
        have g0 : (0 : Int) ≤ (j : Int) := by omega
        have g1 : (j : Int) < (l.length : Int) := by omega
        have g2 : (j : Int) < (tl.length : Int) := by omega
        have hih := IH.out j x y hx hy wr.drew (hxin.keep kd.size kd) (hyin.keep kd.size kd)
        have HST := Lib.hid (hu.step hx hy)
        have HK := Lib.hid hk
        generalize x.is y = q at hih HST
        generalize x.k = xk at *
        generalize x.n = xn at *
        generalize x.s = xs at *
        generalize x.a = xa at *
        generalize x.l.length = xl at *
        generalize x.cap = xc at *
        generalize y.k = yk at *
        generalize y.a = ya at *
        generalize y.l.length = yl at *
        generalize y.cap = yc at *
        have HIH := Lib.hid hih
        clear hih hk hkw hu hx hy hxin hyin q0 q1 q2 q3 s0 s1
        go_wp2_with fail
        refine wp_region_still_tail 10 (by kernel_rfl) (by kernel_rfl) ?_
        change wpStill _ _ (World.drew wr) (fun a' => wpList _ _ _ _ a' (World.drew wr)) _ _
        have HD := Lib.hid (kpD (w := wr))
        generalize World.drew wr = w2 at *
        simp only [List.take_succ_cons, List.take_zero, List.drop_succ_cons, List.drop_zero]
        repeat still_step
        refine wpStill_nil ?_
        clear r0 r1 r2 r3 t0 t1 e3 f1 kd
        go_wp2_with fail
        refine HIH.out.mono ?_
        rintro e w3 ⟨rfl, hk3⟩
        have HK3 := Lib.hid (HK.out.trans ((kk HD.out hk3).mono HK.out.size))
        clear hk3
        go_wp2_with fail
        go_roundw
        case rel => exact ⟨j + 1, q, by omega, by first | go_num | simp, rfl, HST.out, HK3.out⟩
        case measure => simp [intOf]; omega
      · have hjj : j = l.length := by omega
        have HR := Lib.hid (hu.done hjj)
        subst hjj
        have HK := Lib.hid hkw
        clear hk hkw hu
        go_wp2_with fail
        go_ret
        exact ⟨by rw [HR.out] <;> rfl, HK.out⟩
    | false =>
      have HR := Lib.hid hu.no
      have HK := Lib.hid hkw
      clear hk hkw hu
      go_wp2_with fail
      go_ret
      exact ⟨by rw [HR.out] <;> rfl, HK.out⟩

theorem shLT_at {l : List T} {d j : Nat} {x : T} (h : T.shL l d = true) (hx : l[j]? = some x) : x.sh d = true := by
  induction l generalizing j with
  | nil => simp at hx
  | cons y ys ih =>
    simp only [T.shL, Bool.and_eq_true] at h
    cases j with
    | zero => simp at hx; exact hx ▸ h.1
    | succ j => exact ih h.2 (by simpa using hx)

theorem isL_nil (k n : Int) (t : T) (i : Nat) : V.isL k n t [] i = true := by simp [V.isL]

set_option maxHeartbeats 2000000 in
theorem fits_ref : ∀ (N : Nat) (x : V) (t : T) (d d' : Nat) (w : World), x.rank ≤ N → x.sh d = true → t.sh d' = true → x.In w w.heap.size → t.In w w.heap.size →
    Calls Tryz.prog 62 #[.agg #[.int .i64 x.k, .int .i64 x.n, .string x.s, .slice x.a x.l.length x.cap], .agg #[.int .i64 t.k, .slice t.a t.l.length t.cap]] w fun e w' => e = .returned (.bool (x.is t)) ∧ Kp w w' := by
  intro N
  induction N with
  | zero => intro x t d d' w h; have := x.rank_pos; omega
  | succ N ih =>
    intro x t d d' w hN hx ht hin hin'
    cases x with
    | mk k n s a cap l =>
    cases t with
    | mk tk ta tcap tl =>
    cases d with
    | zero => simp [V.sh] at hx
    | succ d =>
    cases d' with
    | zero => simp [T.sh] at ht
    | succ d' =>
    simp [V.sh] at hx
    simp [T.sh] at ht
    obtain ⟨hf, hp⟩ := hx
    obtain ⟨hf', hp'⟩ := ht
    have hlen := V.lenLe hin
    have hlen' := T.lenLe hin'
    have hgood := fits_good hf
    show Calls Tryz.prog 62 #[.agg #[.int .i64 k, .int .i64 n, .string s, .slice a l.length cap], .agg #[.int .i64 tk, .slice ta tl.length tcap]] w _
    have his : (V.mk k n s a cap l).is (.mk tk ta tcap tl) = (okB k n l.length tk tl.length && V.isL k n (.mk tk ta tcap tl) l 0) := by simp [V.is, T.k, T.l]
    rw [his]
    by_cases h3 : tk = 3
    · subst h3
      by_cases hk : k = 3
      · subst hk
        have hn0 := hgood.1 rfl
        obtain ⟨m, rfl⟩ := Int.eq_ofNat_of_zero_le hn0
        by_cases hm : m < tl.length
        · have hl1 : l.length = 1 := by simp [fitsB, taggedB] at hf; omega
          obtain ⟨x, rfl⟩ : ∃ x, l = [x] := by
            match l, hl1 with
            | [x], _ => exact ⟨x, rfl⟩
          obtain ⟨u, hu⟩ : ∃ u, tl[m]? = some u := ⟨tl[m], by simp [hm]⟩
          have hval : (okB 3 (m : Int) 1 3 tl.length && V.isL 3 (m : Int) (.mk 3 ta tcap tl) [x] 0) = x.is u := by
            simp [okB, kindI, V.isL, T.l, hu]
            omega
          rw [show ([x] : List V).length = 1 from rfl, hval]
          exact fits_sum_y m s a cap x ta tcap tl u w hm hu hin hin' (fun w1 h1 h2 => ih x u d d' w1 (by have := V.rank_part (v := .mk 3 m s a cap [x]) (j := 0) (x := x) rfl; omega) (shL_at hp (j := 0) rfl) (shLT_at hp' hu) h1 h2)
        · have hval : okB 3 (m : Int) l.length 3 tl.length = false := by simp [okB]; omega
          rw [hval, Bool.false_and]
          exact fits_sum_n m s a l.length cap ta tl.length tcap w (by omega)
      · have hval : okB k n l.length 3 tl.length = false := by simp [okB, kindI, hk]
        rw [hval, Bool.false_and]
        exact fits_sum_k k n s a l.length cap ta tl.length tcap w hk
    by_cases h2 : tk = 2
    · subst h2
      by_cases hk : k = 2
      · subst hk
        by_cases he : l.length = tl.length
        · have hval : okB 2 n l.length 2 tl.length = true := by simp [okB, kindI, he]
          rw [hval, Bool.true_and]
          exact fits_tuple n s a cap l ta tcap tl w he hin hin' (fun j x u hx hu w1 h1 h2 => ih x u d d' w1 (by have := V.rank_part (v := .mk 2 n s a cap l) (j := j) (x := x) hx; omega) (shL_at hp hx) (shLT_at hp' hu) h1 h2)
        · have hval : okB 2 n l.length 2 tl.length = false := by simp [okB, kindI, he]
          rw [hval, Bool.false_and]
          exact fits_tuple_no 2 n s a l.length cap ta tl.length tcap w (.inr ⟨rfl, he⟩)
      · have hval : okB k n l.length 2 tl.length = false := by simp [okB, kindI, hk]
        rw [hval, Bool.false_and]
        exact fits_tuple_no k n s a l.length cap ta tl.length tcap w (.inl hk)
    have h01 : tk = 0 ∨ tk = 1 := by
      simp [fitsT, h2, h3] at hf'
      exact hf'.1
    have hkk : kindI tk = tk := by rcases h01 with rfl | rfl <;> rfl
    have hval : (okB k n l.length tk tl.length && V.isL k n (.mk tk ta tcap tl) l 0) = decide (k = tk) := by
      by_cases hk : k = tk
      · have hl : l = [] := hgood.2 (by omega) (by omega)
        subst hl
        simp [okB, hkk, hk, isL_nil]
        omega
      · simp [okB, hkk, hk]
    rw [hval]
    exact fits_leaf k n s a l.length cap tk ta tl.length tcap w h01

set_option maxRecDepth 100000 in
set_option maxHeartbeats 4000000 in
theorem isR_no (k n : Int) (s : ByteArray) (a : Option Addr) (cap : Nat) (l : List V) (tk : Int) (ta : Option Addr) (tcap : Nat) (tl : List T) (w : World) (hin : (V.mk k n s a cap l).In w w.heap.size) (h : (V.mk k n s a cap l).valid = false) :
    Calls Tryz.prog 22 #[.agg #[.int .i64 k, .int .i64 n, .string s, .slice a l.length cap], .agg #[.int .i64 tk, .slice ta tl.length tcap]] w fun e w' => e = .returned (.bool false) ∧ Kp w w' := by
  have C := fun (w1 : World) (h : Kp w w1) => valid_ref k n s a cap l w1 (hin.keep h.size h)
  rw [h] at C
  have HC := Lib.hid C
  clear C hin h
  go_enter Tryz.func22, Tryz.ntmps22
  go_wp2_with fail
  refine (HC.out _ (kk (ka _ _) (ka _ _))).mono ?_
  rintro e w1 ⟨rfl, hk⟩
  have HK := Lib.hid (kk (kk (ka _ _) (ka _ _)) hk)
  clear hk
  go_wp2_with fail
  go_ret
  exact ⟨rfl, HK.out⟩

set_option maxRecDepth 100000 in
set_option maxHeartbeats 4000000 in
theorem isR_type (k n : Int) (s : ByteArray) (a : Option Addr) (cap : Nat) (l : List V) (tk : Int) (ta : Option Addr) (tcap : Nat) (tl : List T) (w : World) (hin : (V.mk k n s a cap l).In w w.heap.size) (hin' : (T.mk tk ta tcap tl).In w w.heap.size)
    (h : (V.mk k n s a cap l).valid = true) (h' : (T.mk tk ta tcap tl).valid = false) :
    Calls Tryz.prog 22 #[.agg #[.int .i64 k, .int .i64 n, .string s, .slice a l.length cap], .agg #[.int .i64 tk, .slice ta tl.length tcap]] w fun e w' => e = .returned (.bool false) ∧ Kp w w' := by
  have C := fun (w1 : World) (h : Kp w w1) => valid_ref k n s a cap l w1 (hin.keep h.size h)
  rw [h] at C
  have HC := Lib.hid C
  have C' := fun (w1 : World) (h : Kp w w1) => validT_ref tk ta tcap tl w1 (hin'.keep h.size h)
  rw [h'] at C'
  have HC' := Lib.hid C'
  clear C C' hin hin' h h'
  go_enter Tryz.func22, Tryz.ntmps22
  go_wp2_with fail
  refine (HC.out _ (kk (ka _ _) (ka _ _))).mono ?_
  rintro e w1 ⟨rfl, hk⟩
  obtain ⟨c0, c1, c2, c3, d0, d1⟩ := twoBoxVT hk
  have HK := Lib.hid (kk (kk (ka _ _) (ka _ _)) hk)
  clear hk
  go_wp2_with fail
  refine (HC'.out _ HK.out).mono ?_
  rintro e w2 ⟨rfl, hk⟩
  have HK2 := Lib.hid (kk HK.out hk)
  clear hk
  go_wp2_with fail
  go_ret
  exact ⟨rfl, HK2.out⟩

set_option maxRecDepth 100000 in
set_option maxHeartbeats 4000000 in
theorem isR_yes (k n : Int) (s : ByteArray) (a : Option Addr) (cap : Nat) (l : List V) (tk : Int) (ta : Option Addr) (tcap : Nat) (tl : List T) (w : World) (hin : (V.mk k n s a cap l).In w w.heap.size) (hin' : (T.mk tk ta tcap tl).In w w.heap.size)
    (h : (V.mk k n s a cap l).valid = true) (h' : (T.mk tk ta tcap tl).valid = true) :
    Calls Tryz.prog 22 #[.agg #[.int .i64 k, .int .i64 n, .string s, .slice a l.length cap], .agg #[.int .i64 tk, .slice ta tl.length tcap]] w fun e w' => e = .returned (.bool ((V.mk k n s a cap l).is (.mk tk ta tcap tl))) ∧ Kp w w' := by
  have hsx : (V.mk k n s a cap l).sh 6 = true := by simp [V.valid] at h; exact h.1
  have hst : (T.mk tk ta tcap tl).sh 6 = true := by simp [T.valid] at h'; exact h'.1
  have O := fun (w1 : World) (h : Kp w w1) => fits_ref _ (V.mk k n s a cap l) (T.mk tk ta tcap tl) 6 6 w1 (Nat.le_refl _) hsx hst (hin.keep h.size h) (hin'.keep h.size h)
  dsimp only [V.k, V.n, V.s, V.a, V.l, V.cap, T.k, T.a, T.l, T.cap] at O
  have C := fun (w1 : World) (h : Kp w w1) => valid_ref k n s a cap l w1 (hin.keep h.size h)
  rw [h] at C
  have HC := Lib.hid C
  have C' := fun (w1 : World) (h : Kp w w1) => validT_ref tk ta tcap tl w1 (hin'.keep h.size h)
  rw [h'] at C'
  have HC' := Lib.hid C'
  generalize (V.mk k n s a cap l).is (T.mk tk ta tcap tl) = o at O ⊢
  have HO := Lib.hid O
  clear C C' O hin hin' h h' hsx hst
  go_enter Tryz.func22, Tryz.ntmps22
  go_wp2_with fail
  refine (HC.out _ (kk (ka _ _) (ka _ _))).mono ?_
  rintro e w1 ⟨rfl, hk⟩
  obtain ⟨c0, c1, c2, c3, d0, d1⟩ := twoBoxVT hk
  have HK := Lib.hid (kk (kk (ka _ _) (ka _ _)) hk)
  clear hk
  go_wp2_with fail
  refine (HC'.out _ HK.out).mono ?_
  rintro e w2 ⟨rfl, hk⟩
  have HK2 := Lib.hid (kk HK.out hk)
  have e0 := kc hk c0
  have e1 := kc hk c1
  have e2 := kc hk c2
  have e3 := kc hk c3
  have f0 := kc hk d0
  have f1 := kc hk d1
  clear hk c0 c1 c2 c3 d0 d1
  go_wp2_with fail
  refine (HO.out _ HK2.out).mono ?_
  rintro e w3 ⟨rfl, hk⟩
  have HK3 := Lib.hid (kk HK2.out hk)
  clear hk
  go_wp2_with fail
  go_ret
  exact ⟨rfl, HK3.out⟩

/-- What Is answers. -/
def isV (x : V) (t : T) : Bool := x.valid && (t.valid && x.is t)

theorem isR (k n : Int) (s : ByteArray) (a : Option Addr) (cap : Nat) (l : List V) (tk : Int) (ta : Option Addr) (tcap : Nat) (tl : List T) (w : World) (hin : (V.mk k n s a cap l).In w w.heap.size) (hin' : (T.mk tk ta tcap tl).In w w.heap.size) :
    Calls Tryz.prog 22 #[.agg #[.int .i64 k, .int .i64 n, .string s, .slice a l.length cap], .agg #[.int .i64 tk, .slice ta tl.length tcap]] w fun e w' => e = .returned (.bool (isV (V.mk k n s a cap l) (.mk tk ta tcap tl))) ∧ Kp w w' := by
  cases hv : (V.mk k n s a cap l).valid with
  | false => simpa [isV, hv] using isR_no k n s a cap l tk ta tcap tl w hin hv
  | true =>
    cases ht : (T.mk tk ta tcap tl).valid with
    | false => simpa [isV, hv, ht] using isR_type k n s a cap l tk ta tcap tl w hin hin' hv ht
    | true => simpa [isV, hv, ht] using isR_yes k n s a cap l tk ta tcap tl w hin hin' hv ht

theorem isVal_isV (x : V) (t : T) : isVal x t = isV x t := by
  unfold isVal isV
  rw [bad_valid, badT_valid]
  cases x.valid <;> cases t.valid <;> simp

end Go.Proofs.YtbiljalhabnhlaaGreatDoor

/-
  Is, THE PROGRAM's, AT ANY VALUE AND TYPE.
-/
namespace Go.Proofs.YtbiljalhabnhlaaGreatDoor
open Go.RowKit

set_option maxRecDepth 100000 in
set_option maxHeartbeats 4000000 in
theorem isP_no (k n : Int) (s : ByteArray) (a : Option Addr) (cap : Nat) (ls : List V) (tk : Int) (ta : Option Addr) (tcap : Nat) (tl : List T) (w : World)
    (hv : (V.mk k n s a cap ls).In w w.heap.size) (h : (V.mk k n s a cap ls).valid = false) :
    Calls Tryz.prog 21 #[.agg #[.int .i64 k, .int .i64 n, .string s, .slice a ls.length cap], .agg #[.int .i64 tk, .slice ta tl.length tcap]] w fun e w' =>
      e = .returned (.bool false) ∧ Kp w w' := by
  have C := fun (w1 : World) (h : Kp w w1) => checkV k n s a cap ls w1 (hv.keep h.size h)
  rw [bad_arg, h] at C
  have HC := Lib.hid C
  clear C hv h
  refine (callsIn_wide (n := 0)).1 ?_
  refine callsIn_of_wp_marks Tryz.func21 rfl trivial ?_ rfl
  simp only [Tryz.ntmps21, List.size_toArray, List.length_cons, List.length_nil, Nat.reduceAdd, Nat.reduceSub, Array.replicate_succ, Array.replicate_zero, List.push_toArray, List.append_toArray, List.nil_append, List.cons_append]
  refine wpIn_wide.2 ?_
  go_wp2_with fail
  go_step3
  go_wp2_with fail
  refine (HC.out _ (kk (ka _ _) (ka _ _))).mono ?_
  rintro e w1 ⟨rfl, hk1⟩
  have HK1 := Lib.hid (kk (kk (ka _ _) (ka _ _)) hk1)
  clear hk1
  go_wp2_with fail
  rw [Exit.noGoto_ret]
  exact ⟨_, results_tmp rfl _ _ _, rfl, HK1.out⟩

set_option maxRecDepth 100000 in
set_option maxHeartbeats 4000000 in
theorem isP_type (k n : Int) (s : ByteArray) (a : Option Addr) (cap : Nat) (ls : List V) (tk : Int) (ta : Option Addr) (tcap : Nat) (tl : List T) (w : World)
    (hv : (V.mk k n s a cap ls).In w w.heap.size) (ht : (T.mk tk ta tcap tl).In w w.heap.size) (h : (V.mk k n s a cap ls).valid = true) (h' : (T.mk tk ta tcap tl).valid = false) :
    Calls Tryz.prog 21 #[.agg #[.int .i64 k, .int .i64 n, .string s, .slice a ls.length cap], .agg #[.int .i64 tk, .slice ta tl.length tcap]] w fun e w' =>
      e = .returned (.bool false) ∧ Kp w w' := by
  have C := fun (w1 : World) (h : Kp w w1) => checkV k n s a cap ls w1 (hv.keep h.size h)
  have D := fun (w1 : World) (h : Kp w w1) => typeV tk ta tcap tl w1 (ht.keep h.size h)
  rw [bad_arg, h] at C
  rw [badT_arg, h'] at D
  have HC := Lib.hid C
  have HD := Lib.hid D
  clear C D hv ht h h'
  refine (callsIn_wide (n := 0)).1 ?_
  refine callsIn_of_wp_marks Tryz.func21 rfl trivial ?_ rfl
  simp only [Tryz.ntmps21, List.size_toArray, List.length_cons, List.length_nil, Nat.reduceAdd, Nat.reduceSub, Array.replicate_succ, Array.replicate_zero, List.push_toArray, List.append_toArray, List.nil_append, List.cons_append]
  refine wpIn_wide.2 ?_
  go_wp2_with fail
  go_step3
  go_wp2_with fail
  refine (HC.out _ (kk (ka _ _) (ka _ _))).mono ?_
  rintro e w1 ⟨rfl, hk1⟩
  obtain ⟨b0, b1, b2, b3, d0, d1⟩ := twoBoxVT hk1
  have HK1 := Lib.hid (kk (kk (ka _ _) (ka _ _)) hk1)
  clear hk1
  go_wp2_with fail
  refine (HD.out _ HK1.out).mono ?_
  rintro e w2 ⟨rfl, hk2⟩
  have HK2 := Lib.hid (kk HK1.out hk2)
  clear hk2
  go_wp2_with fail
  rw [Exit.noGoto_ret]
  exact ⟨_, results_tmp rfl _ _ _, rfl, HK2.out⟩

theorem isP (k n : Int) (s : ByteArray) (a : Option Addr) (cap : Nat) (l : List V) (tk : Int) (ta : Option Addr) (tcap : Nat) (tl : List T) (w : World) (hin : (V.mk k n s a cap l).In w w.heap.size) (hin' : (T.mk tk ta tcap tl).In w w.heap.size) :
    Calls Tryz.prog 21 #[.agg #[.int .i64 k, .int .i64 n, .string s, .slice a l.length cap], .agg #[.int .i64 tk, .slice ta tl.length tcap]] w fun e w' => e = .returned (.bool (isV (V.mk k n s a cap l) (.mk tk ta tcap tl))) ∧ Kp w w' := by
  cases hv : (V.mk k n s a cap l).valid with
  | false => simpa [isV, hv] using isP_no k n s a cap l tk ta tcap tl w hin hv
  | true =>
    cases ht : (T.mk tk ta tcap tl).valid with
    | false => simpa [isV, hv, ht] using isP_type k n s a cap l tk ta tcap tl w hin hin' hv ht
    | true => simpa [isV, hv, ht] using is_valid k n s a cap l tk ta tcap tl w hin hin' (by rw [bad_valid, hv]; rfl) (by rw [badT_valid, ht]; rfl)

end Go.Proofs.YtbiljalhabnhlaaGreatDoor

/-
  THE VALUES THAT THE STATEMENTS MAKE: Int, Text, Tuple, Tag; sample, kind.
-/
namespace Go.Proofs.YtbiljalhabnhlaaGreatDoor
open Go.RowKit

set_option maxHeartbeats 400000 in
theorem int_any (n : Int) (w : World) : Calls Tryz.prog 46 #[.int .i64 n] w fun e w' => e = .returned (.agg #[.int .i64 0, .int .i64 n, .string ⟨#[]⟩, .slice none 0 0]) ∧ Kp w w' := by
  go_enter Tryz.func46, Tryz.ntmps46
  go_wp2_with fail
  exact bodyPost_ret (v := .agg #[.int .i64 0, .int .i64 n, .string ⟨#[]⟩, .slice none 0 0]) (by simp [results, Tryz.results46, go_sem]) rfl ⟨rfl, ka _ _⟩

set_option maxHeartbeats 400000 in
theorem text_any (s : ByteArray) (w : World) : Calls Tryz.prog 47 #[.string s] w fun e w' => e = .returned (.agg #[.int .i64 1, .int .i64 0, .string s, .slice none 0 0]) ∧ Kp w w' := by
  go_enter Tryz.func47, Tryz.ntmps47
  go_wp2_with fail
  exact bodyPost_ret (v := .agg #[.int .i64 1, .int .i64 0, .string s, .slice none 0 0]) (by simp [results, Tryz.results47, go_sem]) rfl ⟨rfl, ka _ _⟩

set_option maxHeartbeats 400000 in
theorem tuple_any (a : Option Addr) (l c : Nat) (w : World) : Calls Tryz.prog 41 #[.slice a l c] w fun e w' => e = .returned (.agg #[.int .i64 2, .int .i64 0, .string ⟨#[]⟩, .slice a l c]) ∧ Kp w w' := by
  go_enter Tryz.func41, Tryz.ntmps41
  go_wp2_with fail
  exact bodyPost_ret (v := .agg #[.int .i64 2, .int .i64 0, .string ⟨#[]⟩, .slice a l c]) (by simp [results, Tryz.results41, go_sem]) rfl ⟨rfl, ka _ _⟩

set_option maxRecDepth 100000 in
set_option maxHeartbeats 1000000 in
theorem tag_any (i k n : Int) (s : ByteArray) (a : Option Addr) (l c : Nat) (w : World) : Calls Tryz.prog 44 #[.int .i64 i, .agg #[.int .i64 k, .int .i64 n, .string s, .slice a l c]] w fun e w' =>
    ∃ q, e = .returned (.agg #[.int .i64 3, .int .i64 i, .string ⟨#[]⟩, .slice (some ⟨q, 0, none⟩) 1 1]) ∧ w'.heap[q]? = some (.cells #[.int .i64 k, .int .i64 n, .string s, .slice a l c] 24 (0, 0)) ∧ w.heap.size ≤ q ∧ Kp w w' := by
  go_enter Tryz.func44, Tryz.ntmps44
  go_wp2_with fail
  exact bodyPost_ret (v := .agg #[.int .i64 3, .int .i64 i, .string ⟨#[]⟩, .slice (some ⟨w.heap.size + 1 + 1, 0, none⟩) 1 1]) (by simp [results, Tryz.results44, go_sem]) rfl
    ⟨_, rfl, blockHere (by simp), by omega, kk (kk (ka _ _) (ka _ _)) (ka _ _)⟩

/-- The sample's parts, and the tag's. -/
abbrev sampleTag : Array Value := #[.int .i64 0, .int .i64 0, .string ⟨#[]⟩, .slice none 0 0]
abbrev sampleCells (r : Nat) : Array Value := #[.int .i64 0, .int .i64 (-3), .string ⟨#[]⟩, .slice none 0 0, .int .i64 1, .int .i64 0, .string ⟨#[97, 34, 98]⟩, .slice none 0 0, .int .i64 2, .int .i64 0, .string ⟨#[]⟩, .slice none 0 0, .int .i64 3, .int .i64 2, .string ⟨#[]⟩, .slice (some ⟨r, 0, none⟩) 1 1]

set_option maxRecDepth 100000 in
set_option maxHeartbeats 2000000 in
theorem sample_any (w : World) : Calls Tryz.prog 64 #[] w fun e w' =>
    ∃ q r, e = .returned (.agg #[.int .i64 2, .int .i64 0, .string ⟨#[]⟩, .slice (some ⟨q, 0, none⟩) 4 4]) ∧ w'.heap[q]? = some (.cells (sampleCells r) 24 (0, 0)) ∧ w'.heap[r]? = some (.cells sampleTag 24 (0, 0)) ∧ w.heap.size ≤ q ∧ w.heap.size ≤ r ∧ Kp w w' := by
  go_enter Tryz.func64, Tryz.ntmps64
  go_wp2_with fail
  refine (int_any _ _).mono ?_
  rintro e w1 ⟨rfl, hk1⟩
  have HK1 := Lib.hid hk1
  clear hk1
  go_wp2_with fail
  refine (text_any _ _).mono ?_
  rintro e w2 ⟨rfl, hk2⟩
  have HK2 := Lib.hid (kk HK1.out hk2)
  clear hk2
  go_wp2_with fail
  refine (tuple_any _ _ _ _).mono ?_
  rintro e w3 ⟨rfl, hk3⟩
  have HK3 := Lib.hid (kk HK2.out hk3)
  clear hk3
  go_wp2_with fail
  refine (int_any _ _).mono ?_
  rintro e w4 ⟨rfl, hk4⟩
  have HK4 := Lib.hid (kk HK3.out hk4)
  clear hk4
  go_wp2_with fail
  refine (tag_any _ _ _ _ _ _ _ _).mono ?_
  rintro e w5 ⟨r, rfl, hr, hrz, hk5⟩
  have HK5 := Lib.hid (kk HK4.out hk5)
  have hz4 := HK4.out.size
  simp at hz4
  have HR := Lib.hid hr
  clear hk5 hr
  go_wp2_with fail
  have hq : (w5.alloc (.cells (sampleCells r) 24)).heap[w5.heap.size]? = some (.cells (sampleCells r) 24 (0, 0)) := blockHere rfl
  have hk6 := kk HK5.out (ka w5 (.cells (sampleCells r) 24))
  have hr6 := ((ka w5 (.cells (sampleCells r) 24)).block _ (lt_of_block HR.out)).trans HR.out
  have HQ := Lib.hid hq
  have HK6 := Lib.hid hk6
  have HR6 := Lib.hid hr6
  clear hq hk6 hr6
  refine (tuple_any _ _ _ _).mono ?_
  rintro e w7 ⟨rfl, hk7⟩
  have hb := boxK (kk HK6.out hk7)
  obtain ⟨c0, c1, c2, c3, f0, f1, f2, f3⟩ := cell4 hb
  have HB := Lib.hid hb
  have HK7 := Lib.hid (kk (ka _ _) (kk HK6.out hk7))
  have HQ7 := Lib.hid ((hk7.block _ (lt_of_block HQ.out)).trans HQ.out)
  have HR7 := Lib.hid ((hk7.block _ (lt_of_block HR6.out)).trans HR6.out)
  have hz5 := HK5.out.size
  simp at hz5
  clear hb hk7
  go_wp2_with fail
  obtain ⟨d0, d1, d2, d3, -⟩ := cell4 (put4_block (v0 := .int .i64 2) (v1 := .int .i64 0) (v2 := .string ⟨#[]⟩) (v3 := .slice (some ⟨w5.heap.size, 0, none⟩) 4 4) HB.out)
  refine bodyPost_ret (v := .agg #[.int .i64 2, .int .i64 0, .string ⟨#[]⟩, .slice (some ⟨w5.heap.size, 0, none⟩) 4 4]) (by simp [results, Tryz.results64, go_sem, d0, d1, d2, d3]) rfl
    ⟨_, r, rfl, (put4_other (by omega)).trans HQ7.out, (put4_other (by omega)).trans HR7.out, by omega, by omega, put4_kp HK7.out (Nat.le_refl _)⟩

set_option maxRecDepth 100000 in
set_option maxHeartbeats 2000000 in
theorem kind_any (w : World) : Calls Tryz.prog 65 #[] w fun e w' =>
    ∃ g h, e = .returned (.agg #[.int .i64 2, .slice (some ⟨g, 0, none⟩) 4 4]) ∧ w'.heap[g]? = some (.cells (kindCells h) 27 (0, 0)) ∧ w'.heap[h]? = some (.cells sumCells 27 (0, 0)) ∧ w.heap.size ≤ g ∧ w.heap.size ≤ h ∧ Kp w w' := by
  go_enter Tryz.func65, Tryz.ntmps65
  go_wp2_with fail
  exact bodyPost_ret (v := .agg #[.int .i64 2, .slice (some ⟨w.heap.size + 1 + 1 + 1 + 1 + 1, 0, none⟩) 4 4]) (by simp [results, Tryz.results65, go_sem]) rfl
    ⟨_, w.heap.size + 1 + 1 + 1, rfl, blockHere (by simp), blockPast (blockPast (blockHere (by simp))), by omega, by omega, kk (kk (kk (kk (kk (ka _ _) (ka _ _)) (ka _ _)) (ka _ _)) (ka _ _)) (ka _ _)⟩

end Go.Proofs.YtbiljalhabnhlaaGreatDoor

/-
  THE WALKS OF THE TEXT OF A TYPE.
-/
namespace Go.Proofs.YtbiljalhabnhlaaGreatDoor
open Go.RowKit

/-- The texts of a list, with others between. -/
def joinT (f : T → List UInt8) (sep : List UInt8) : List T → List UInt8
  | [] => []
  | [x] => f x
  | x :: y :: ys => f x ++ sep ++ joinT f sep (y :: ys)

theorem joinT_snoc (f : T → List UInt8) (sep : List UInt8) : ∀ (l : List T) (x : T), joinT f sep (l ++ [x]) = if l = [] then f x else joinT f sep l ++ sep ++ f x
  | [], x => by simp [joinT]
  | [y], x => by simp [joinT]
  | y :: z :: zs, x => by
    have ih := joinT_snoc f sep (z :: zs) x
    simp only [List.cons_append, joinT] at ih ⊢
    simp at ih ⊢
    rw [ih]
theorem joinT_pre (f : T → List UInt8) (sep : List UInt8) : ∀ (a b : List T), ∃ r, joinT f sep (a ++ b) = joinT f sep a ++ r
  | [], b => ⟨_, rfl⟩
  | [x], [] => ⟨[], by simp [joinT]⟩
  | [x], y :: ys => ⟨sep ++ joinT f sep (y :: ys), by simp [joinT]⟩
  | x :: y :: ys, b => by
    obtain ⟨r, hr⟩ := joinT_pre f sep (y :: ys) b
    refine ⟨r, ?_⟩
    simp only [List.cons_append, joinT] at hr ⊢
    rw [hr]; simp
theorem joinT_len (f : T → List UInt8) (sep : List UInt8) (l : List T) (j : Nat) : (joinT f sep (l.take j)).length ≤ (joinT f sep l).length := by
  obtain ⟨r, hr⟩ := joinT_pre f sep (l.take j) (l.drop j)
  rw [List.take_append_drop] at hr
  rw [hr]; simp

set_option maxHeartbeats 2000000 in
theorem listTextT (f : T → List UInt8) (w : World) (S b0 off : Nat) (a : Option Addr) (cap : Nat) (l : List T) (xs : List UInt8) (op bt en : ByteArray) (ha : l ≠ [] → a = some ⟨b0, off, none⟩) (hl : l.length ≤ 9223372036854775807) (hs : Sink w S xs)
    (H : ∀ (j : Nat) (x : T), l[j]? = some x → ∀ (w1 : World) (xs1 : List UInt8), Sk S w w1 → Sink w1 S xs1 → xs1.length + (f x).length ≤ 1000000000000 →
      Calls Tryz.prog 70 #[.pointer (some ⟨b0, off + j * 2, none⟩), takeF S] w1 fun e w' => e = .returned (.tuple #[]) ∧ Sink w' S (xs1 ++ f x) ∧ Sk S w1 w')
    (hx : xs.length + op.size + (joinT f bt.data.toList l).length + en.size ≤ 1000000000000) :
    Calls Tryz.prog 111 #[takeF S, .string op, .string bt, .string en, .slice a l.length cap, .func (.func 70) #[] #[]] w fun e w' =>
      e = .returned (.tuple #[]) ∧ Sink w' S (xs ++ op.data.toList ++ joinT f bt.data.toList l ++ en.data.toList) ∧ Sk S w w' := by
  have HS := Lib.hid hs
  have HH := Lib.hid H
  have HX := Lib.hid hx
  have HA := Lib.hid ha
  have zop : op.data.toList.length = op.size := by simp
  have ZOP := Lib.hid zop
  have zbt : bt.data.toList.length = bt.size := by simp
  have ZBT := Lib.hid zbt
  clear hs H hx ha zop zbt
  go_enter Tryz.func111, Tryz.ntmps111
  go_wp2_with fail
  refine (puts_any w S xs op HS.out (by have := HX.out; omega)).mono ?_
  rintro e w1 ⟨rfl, hs1, hk1⟩
  have HS1 := Lib.hid hs1
  have HK1 := Lib.hid hk1
  clear hs1 hk1
  go_wp2_with fail
  go_loopw [18] (fun i wr => ∃ j : Nat, j ≤ l.length ∧ i = .int .i64 j ∧ Sink wr S (xs ++ op.data.toList ++ joinT f bt.data.toList (l.take j)) ∧ Sk S w wr) (fun i _ => l.length - (intOf i).toNat)
  case atStart => exact ⟨0, Nat.zero_le _, rfl, by simpa [joinT] using HS1.out, HK1.out⟩
  case round =>
    obtain ⟨j, hj, rfl, hsk, hk⟩ := hrel
    have HSK := Lib.hid hsk
    have HK := Lib.hid hk
    clear hsk hk
    by_cases hlt : j < l.length
    · obtain ⟨x, hxj⟩ : ∃ x, l[j]? = some x := ⟨l[j], by simp [hlt]⟩
      have HXJ := Lib.hid hxj
      obtain rfl := HA.out (by rintro rfl; simp at hlt)
      have hb := joinT_len f bt.data.toList l (j + 1)
      have hts := take_snocT hxj
      have hjn := joinT_snoc f bt.data.toList (l.take j) x
      rw [← hts] at hjn
      have HB := Lib.hid hb
      have HJ := Lib.hid hjn
      clear hxj hb hts hjn
      by_cases h0 : j = 0
      · subst h0
        have hj1 : joinT f bt.data.toList (l.take (0 + 1)) = f x := by rw [HJ.out]; simp
        have HJ1 := Lib.hid hj1
        clear hj1
        go_wp2_with fail
        refine (HH.out 0 x HXJ.out _ _ HK.out HSK.out (by have := HX.out; have := HB.out; rw [HJ1.out] at this; simp [joinT]; have := ZOP.out; simp at this; omega)).mono ?_
        rintro e w2 ⟨rfl, hs2, hk2⟩
        have HS2 := Lib.hid hs2
        have HK2 := Lib.hid (HK.out.trans hk2)
        clear hs2 hk2
        go_wp2_with fail
        go_roundw
        case rel => exact ⟨1, by omega, by go_num, by have := HS2.out; rw [HJ1.out]; simpa [joinT] using this, HK2.out⟩
        case measure => simp [intOf]; omega
      · have hne : ¬ l.take j = [] := by
          intro h; have := congrArg List.length h; simp at this; rcases this with h | h; omega; subst h; simp at hlt
        have hj1 : joinT f bt.data.toList (l.take (j + 1)) = joinT f bt.data.toList (l.take j) ++ bt.data.toList ++ f x := by rw [HJ.out, if_neg hne]
        have HJ1 := Lib.hid hj1
        have hlen : (xs ++ op.data.toList ++ joinT f bt.data.toList (l.take j)).length + bt.size + (f x).length ≤ 1000000000000 := by
          have h1 := HX.out; have h2 := HB.out; rw [hj1] at h2; have h3 := ZOP.out; have h4 := ZBT.out
          simp only [List.length_append] at h2 ⊢; omega
        have HLEN := Lib.hid hlen
        have hpos : (0 : Int) < (j : Int) := by omega
        clear hj1 hne hlen
        generalize joinT f bt.data.toList (l.take j) = J at *
        go_wp2_with fail
        refine (puts_any _ S _ bt HSK.out (by have := HLEN.out; omega)).mono ?_
        rintro e w2 ⟨rfl, hs2, hk2⟩
        have HS2 := Lib.hid hs2
        have HK2 := Lib.hid (HK.out.trans hk2)
        clear hs2 hk2
        go_wp2_with fail
        refine (HH.out j x HXJ.out _ _ HK2.out HS2.out (by have := HLEN.out; have := ZBT.out; simp only [List.length_append] at *; omega)).mono ?_
        rintro e w3 ⟨rfl, hs3, hk3⟩
        have HS3 := Lib.hid hs3
        have HK3 := Lib.hid (HK2.out.trans hk3)
        clear hs3 hk3
        go_wp2_with fail
        go_roundw
        case rel => exact ⟨j + 1, by omega, by go_num, by have := HS3.out; rw [HJ1.out]; simpa using this, HK3.out⟩
        case measure => simp [intOf]; omega
    · have hjl : j = l.length := by omega
      subst hjl
      rw [List.take_length] at HSK
      generalize hJ : joinT f bt.data.toList l = J at *
      go_wp2_with fail
      refine (puts_any _ S _ en HSK.out (by have := HX.out; have := ZOP.out; simp only [List.length_append] at *; omega)).mono ?_
      rintro e w2 ⟨rfl, hs2, hk2⟩
      have HS2 := Lib.hid hs2
      have HK2 := Lib.hid (HK.out.trans hk2)
      clear hs2 hk2
      go_wp2_with fail
      go_end0
      exact ⟨rfl, by subst hJ; exact HS2.out, HK2.out⟩


mutual
/-- The text of a type. -/
def T.txt : T → List UInt8
  | .mk k _ _ l => if k = 0 then [105, 110, 116] else if k = 1 then [116, 101, 120, 116] else if k = 2 then 40 :: T.txtL [44, 32] l ++ [41] else if k = 3 then 91 :: T.txtL [32, 43, 32] l ++ [93] else []
def T.txtL : List UInt8 → List T → List UInt8
  | _, [] => []
  | sep, x :: xs => match xs with
    | [] => x.txt
    | y :: ys => x.txt ++ sep ++ T.txtL sep (y :: ys)
end
theorem T.txtL_join (sep : List UInt8) : ∀ (l : List T), T.txtL sep l = joinT T.txt sep l
  | [] => by simp [T.txtL, joinT]
  | [x] => by simp [T.txtL, joinT]
  | x :: y :: ys => by
    have := T.txtL_join sep (y :: ys)
    simp only [joinT]
    rw [← this]
    conv => lhs; unfold T.txtL

/-- A type's two cells lie at an address. -/
structure PtrAtT (w : World) (b off : Nat) (k : Int) (sl : Value) : Prop where
  c0 : w.cell? ⟨b, off, none⟩ = some (.int .i64 k)
  c1 : w.cell? ⟨b, off + 1, none⟩ = some sl
theorem PtrAtT.keep {w w' : World} {b off B : Nat} {k : Int} {sl : Value} (h : PtrAtT w b off k sl) (hb : b < B) (hk : Below B w w') : PtrAtT w' b off k sl :=
  ⟨(hk.cell (p := ⟨b, _, none⟩) hb).trans h.c0, (hk.cell (p := ⟨b, _, none⟩) hb).trans h.c1⟩

theorem T.ptrPart {w : World} {B : Nat} {k : Int} {a : Option Addr} {cap : Nat} {l : List T} (hin : (T.mk k a cap l).In w B) (hl : l ≠ []) :
    ∃ b0 off, a = some ⟨b0, off, none⟩ ∧ b0 < B ∧ ∀ (j : Nat) (x : T), l[j]? = some x → PtrAtT w b0 (off + j * 2) x.k (.slice x.a x.l.length x.cap) ∧ x.In w B := by
  rw [T.In_def] at hin
  obtain ⟨_, _, _, hat, hparts⟩ := hin
  simp only [T.l, T.a] at hat hparts
  rcases hat with h | ⟨b0, off, h, hb0, hat⟩
  · exact absurd h hl
  · exact ⟨b0, off, h, hb0, fun j x hx => ⟨⟨(hat j x hx).1, (hat j x hx).2⟩, T.InL_iff.1 hparts j x hx⟩⟩

set_option maxHeartbeats 1000000 in
theorem writeType_int (w : World) (S b off : Nat) (xs : List UInt8) (sl : Value) (hs : Sink w S xs) (hp : PtrAtT w b off 0 sl) (hx : xs.length + 3 ≤ 1000000000000) :
    Calls Tryz.prog 70 #[.pointer (some ⟨b, off, none⟩), takeF S] w fun e w' => e = .returned (.tuple #[]) ∧ Sink w' S (xs ++ [105, 110, 116]) ∧ Sk S w w' := by
  have h0 := hp.c0
  have CC := Lib.hid (puts_any w S xs ⟨#[105, 110, 116]⟩ hs (by simp [ByteArray.size]; omega))
  clear hs hp hx
  go_enter Tryz.func70, Tryz.ntmps70
  go_wp2_with fail
  refine CC.out.mono ?_
  rintro e w2 ⟨rfl, hs2, hk2⟩
  have HK2 := Lib.hid hk2
  have HS2 := Lib.hid hs2
  clear hs2 hk2
  go_wp2_with fail
  go_end0
  exact ⟨rfl, HS2.out, HK2.out⟩

set_option maxHeartbeats 1000000 in
theorem writeType_text (w : World) (S b off : Nat) (xs : List UInt8) (sl : Value) (hs : Sink w S xs) (hp : PtrAtT w b off 1 sl) (hx : xs.length + 4 ≤ 1000000000000) :
    Calls Tryz.prog 70 #[.pointer (some ⟨b, off, none⟩), takeF S] w fun e w' => e = .returned (.tuple #[]) ∧ Sink w' S (xs ++ [116, 101, 120, 116]) ∧ Sk S w w' := by
  have h0 := hp.c0
  have CC := Lib.hid (puts_any w S xs ⟨#[116, 101, 120, 116]⟩ hs (by simp [ByteArray.size]; omega))
  clear hs hp hx
  go_enter Tryz.func70, Tryz.ntmps70
  go_wp2_with fail
  refine CC.out.mono ?_
  rintro e w2 ⟨rfl, hs2, hk2⟩
  have HK2 := Lib.hid hk2
  have HS2 := Lib.hid hs2
  clear hs2 hk2
  go_wp2_with fail
  go_end0
  exact ⟨rfl, HS2.out, HK2.out⟩

set_option maxHeartbeats 1000000 in
theorem writeType_tuple (w : World) (S b off : Nat) (xs E : List UInt8) (a : Option Addr) (len cap : Nat) (hp : PtrAtT w b off 2 (.slice a len cap))
    (C : Calls Tryz.prog 111 #[takeF S, .string ⟨#[40]⟩, .string ⟨#[44, 32]⟩, .string ⟨#[41]⟩, .slice a len cap, .func (.func 70) #[] #[]] w fun e w' => e = .returned (.tuple #[]) ∧ Sink w' S (xs ++ E) ∧ Sk S w w') :
    Calls Tryz.prog 70 #[.pointer (some ⟨b, off, none⟩), takeF S] w fun e w' => e = .returned (.tuple #[]) ∧ Sink w' S (xs ++ E) ∧ Sk S w w' := by
  have h0 := hp.c0
  have h1 := hp.c1
  have CC := Lib.hid C
  clear C hp
  go_enter Tryz.func70, Tryz.ntmps70
  go_wp2_with fail
  refine CC.out.mono ?_
  rintro e w2 ⟨rfl, hs2, hk2⟩
  have HK2 := Lib.hid hk2
  have HS2 := Lib.hid hs2
  clear hs2 hk2
  go_wp2_with fail
  go_end0
  exact ⟨rfl, HS2.out, HK2.out⟩

set_option maxHeartbeats 1000000 in
theorem writeType_sum (w : World) (S b off : Nat) (xs E : List UInt8) (a : Option Addr) (len cap : Nat) (hp : PtrAtT w b off 3 (.slice a len cap))
    (C : Calls Tryz.prog 111 #[takeF S, .string ⟨#[91]⟩, .string ⟨#[32, 43, 32]⟩, .string ⟨#[93]⟩, .slice a len cap, .func (.func 70) #[] #[]] w fun e w' => e = .returned (.tuple #[]) ∧ Sink w' S (xs ++ E) ∧ Sk S w w') :
    Calls Tryz.prog 70 #[.pointer (some ⟨b, off, none⟩), takeF S] w fun e w' => e = .returned (.tuple #[]) ∧ Sink w' S (xs ++ E) ∧ Sk S w w' := by
  have h0 := hp.c0
  have h1 := hp.c1
  have CC := Lib.hid C
  clear C hp
  go_enter Tryz.func70, Tryz.ntmps70
  go_wp2_with fail
  refine CC.out.mono ?_
  rintro e w2 ⟨rfl, hs2, hk2⟩
  have HK2 := Lib.hid hk2
  have HS2 := Lib.hid hs2
  clear hs2 hk2
  go_wp2_with fail
  go_end0
  exact ⟨rfl, HS2.out, HK2.out⟩

set_option maxHeartbeats 1000000 in
theorem writeType_none (w : World) (S b off : Nat) (xs : List UInt8) (k : Int) (sl : Value) (hs : Sink w S xs) (hp : PtrAtT w b off k sl) (h : ¬ k = 0 ∧ ¬ k = 1 ∧ ¬ k = 2 ∧ ¬ k = 3) :
    Calls Tryz.prog 70 #[.pointer (some ⟨b, off, none⟩), takeF S] w fun e w' => e = .returned (.tuple #[]) ∧ Sink w' S (xs ++ []) ∧ Sk S w w' := by
  have h0 := hp.c0
  have HS := Lib.hid hs
  have g0 : (k == 0) = false := by simpa using h.1
  have g1 : (k == 1) = false := by simpa using h.2.1
  have g2 : (k == 2) = false := by simpa using h.2.2.1
  have g3 : (k == 3) = false := by simpa using h.2.2.2
  clear hs hp h
  go_enter Tryz.func70, Tryz.ntmps70
  go_wp2_with fail
  go_end0
  exact ⟨rfl, by simpa using HS.out, Sk.refl _ _⟩

theorem textT : ∀ (N : Nat) (v : T) (w : World) (S b off : Nat) (xs : List UInt8), v.rank ≤ N → v.In w S → PtrAtT w b off v.k (.slice v.a v.l.length v.cap) → b < S → Sink w S xs → xs.length + v.txt.length ≤ 1000000000000 →
    Calls Tryz.prog 70 #[.pointer (some ⟨b, off, none⟩), takeF S] w fun e w' => e = .returned (.tuple #[]) ∧ Sink w' S (xs ++ v.txt) ∧ Sk S w w' := by
  intro N
  induction N with
  | zero => intro v w S b off xs h; have := v.rank_pos; omega
  | succ N ih =>
    intro v w S b off xs hN hin hp hb hs hx
    cases v with
    | mk k a cap l =>
    simp only [T.k, T.a, T.l, T.cap] at hp
    have hll := T.lenLe hin
    have part : ∀ (b0 off0 : Nat), (∀ (j : Nat) (x : T), l[j]? = some x → PtrAtT w b0 (off0 + j * 2) x.k (.slice x.a x.l.length x.cap) ∧ x.In w S) → b0 < S →
        ∀ (j : Nat) (x : T), l[j]? = some x → ∀ (w1 : World) (xs1 : List UInt8), Sk S w w1 → Sink w1 S xs1 → xs1.length + x.txt.length ≤ 1000000000000 →
          Calls Tryz.prog 70 #[.pointer (some ⟨b0, off0 + j * 2, none⟩), takeF S] w1 fun e w' => e = .returned (.tuple #[]) ∧ Sink w' S (xs1 ++ x.txt) ∧ Sk S w1 w' := by
      intro b0 off0 hpt hb0 j x hj w1 xs1 hk1 hs1 hx1
      have hrk := T.rank_part (v := .mk k a cap l) (j := j) (x := x) hj
      have hbl := hk1.below hs
      exact ih x w1 S b0 (off0 + j * 2) xs1 (by omega) ((hpt j x hj).2.keep (Nat.le_refl _) hbl) ((hpt j x hj).1.keep hb0 hbl) hb0 hs1 hx1
    by_cases h0 : k = 0
    · subst h0
      have e : (T.mk 0 a cap l).txt = [105, 110, 116] := by simp [T.txt]
      rw [e] at hx ⊢
      exact writeType_int w S b off xs _ hs hp (by simpa using hx)
    by_cases h1 : k = 1
    · subst h1
      have e : (T.mk 1 a cap l).txt = [116, 101, 120, 116] := by simp [T.txt]
      rw [e] at hx ⊢
      exact writeType_text w S b off xs _ hs hp (by simpa using hx)
    by_cases h2 : k = 2
    · subst h2
      have e : (T.mk 2 a cap l).txt = 40 :: joinT T.txt [44, 32] l ++ [41] := by simp [T.txt, T.txtL_join]
      rw [e] at hx ⊢
      refine writeType_tuple w S b off xs _ a l.length cap hp ?_
      by_cases hl : l = []
      · simpa using listTextT T.txt w S 0 0 a cap l xs ⟨#[40]⟩ ⟨#[44, 32]⟩ ⟨#[41]⟩ (fun h => absurd hl h) hll hs (fun j x hj => by subst hl; simp at hj) (by simp at hx; simp [ByteArray.size]; omega)
      · obtain ⟨b0, off0, ha, hb0, hpt⟩ := T.ptrPart hin hl
        simpa using listTextT T.txt w S b0 off0 a cap l xs ⟨#[40]⟩ ⟨#[44, 32]⟩ ⟨#[41]⟩ (fun _ => ha) hll hs (part b0 off0 hpt hb0) (by simp at hx; simp [ByteArray.size]; omega)
    by_cases h3 : k = 3
    · subst h3
      have e : (T.mk 3 a cap l).txt = 91 :: joinT T.txt [32, 43, 32] l ++ [93] := by simp [T.txt, T.txtL_join]
      rw [e] at hx ⊢
      refine writeType_sum w S b off xs _ a l.length cap hp ?_
      by_cases hl : l = []
      · simpa using listTextT T.txt w S 0 0 a cap l xs ⟨#[91]⟩ ⟨#[32, 43, 32]⟩ ⟨#[93]⟩ (fun h => absurd hl h) hll hs (fun j x hj => by subst hl; simp at hj) (by simp at hx; simp [ByteArray.size]; omega)
      · obtain ⟨b0, off0, ha, hb0, hpt⟩ := T.ptrPart hin hl
        simpa using listTextT T.txt w S b0 off0 a cap l xs ⟨#[91]⟩ ⟨#[32, 43, 32]⟩ ⟨#[93]⟩ (fun _ => ha) hll hs (part b0 off0 hpt hb0) (by simp at hx; simp [ByteArray.size]; omega)
    have e : (T.mk k a cap l).txt = [] := by simp [T.txt, h0, h1, h2, h3]
    rw [e]
    exact writeType_none w S b off xs k _ hs hp ⟨h0, h1, h2, h3⟩

set_option maxHeartbeats 1000000 in
theorem typeText (k : Int) (a : Option Addr) (cap : Nat) (l : List T) (w : World) (hin : (T.mk k a cap l).In w w.heap.size) (hc : ¬ (T.mk k a cap l).cnt = 0) (hne : (T.mk k a cap l).txt ≠ [])
    (hx : (T.mk k a cap l).txt.length ≤ 1000000000000) :
    Calls Tryz.prog 29 #[.agg #[.int .i64 k, .slice a l.length cap]] w fun e w' =>
      e = .returned (.tuple #[.string ⟨(T.mk k a cap l).txt.toArray⟩, .int .i64 0]) ∧ Kp w w' := by
  have C := fun w1 (h : Kp w w1) => typeV k a cap l w1 (hin.keep h.size h)
  rw [bad1 hc] at C
  have CC := Lib.hid C
  have D : ∀ (w1 : World) (S b : Nat), Kp w w1 → w.heap.size ≤ S → PtrAtT w1 b 0 k (.slice a l.length cap) → b < S → Sink w1 S [] →
      Calls Tryz.prog 70 #[.pointer (some ⟨b, 0, none⟩), takeF S] w1 fun e w' => e = .returned (.tuple #[]) ∧ Sink w' S (T.mk k a cap l).txt ∧ Sk S w1 w' := by
    intro w1 S b hk hS hp hb hs
    simpa using textT _ (.mk k a cap l) w1 S b 0 [] (Nat.le_refl _) (hin.keep hS hk) hp hb hs (by simpa using hx)
  have DD := Lib.hid D
  have HNE := Lib.hid hne
  generalize (T.mk k a cap l).txt = E at *
  clear C D hin hc hx hne
  go_enter Tryz.func29, Tryz.ntmps29
  go_wp2_with fail
  refine (CC.out _ (ka _ _)).mono ?_
  rintro e w1 ⟨rfl, hk⟩
  obtain ⟨b0, b1, hz⟩ := box2 hk
  have HK := Lib.hid (kk (ka _ _) hk)
  have HP := Lib.hid (⟨b0, b1⟩ : PtrAtT w1 w.heap.size 0 k (.slice a l.length cap))
  clear hk b0 b1
  go_wp2_with fail
  refine (DD.out _ w1.heap.size w.heap.size (kk HK.out (ka _ _)) (by omega) (HP.out.keep hz (ka _ _)) hz ⟨.slice none 0 0, blockHere rfl, World.ownsRow_nil _ _ _ _⟩).mono ?_
  rintro e w3 ⟨rfl, hs3, hk3⟩
  obtain ⟨g, cap3, hc3, hcv⟩ := hs3.out HNE.out
  have HK3 := Lib.hid (HK.out.trans ((Below.alloc (Below.refl _ _) (by omega) _).trans ((hk3.below (S := w1.heap.size) (xs := []) ⟨.slice none 0 0, blockHere rfl, World.ownsRow_nil _ _ _ _⟩).mono (by omega))))
  clear hs3 hk3
  go_wp2_with fail
  go_ret2
  exact ⟨rfl, HK3.out⟩

end Go.Proofs.YtbiljalhabnhlaaGreatDoor

/-
  THE WALKS OF SameValue AND SameValues, by recursion.
-/
namespace Go.Proofs.YtbiljalhabnhlaaGreatDoor
open Go.RowKit

mutual
/-- Are two values the same? -/
def V.same : V → V → Bool
  | .mk k n s _ _ l, .mk k' n' s' _ _ l' => decide (k = k') && (decide (n = n') && (decide (s.toList = s'.toList) && V.sameL l l'))
def V.sameL : List V → List V → Bool
  | [], [] => true
  | x :: xs, y :: ys => x.same y && V.sameL xs ys
  | _, _ => false
end

theorem V.sameL_len : ∀ {l m : List V}, V.sameL l m = true → l.length = m.length
  | [], [], _ => rfl
  | x :: xs, y :: ys, h => by simp [V.sameL] at h; simp [V.sameL_len h.2]
  | [], _ :: _, h => by simp [V.sameL] at h
  | _ :: _, [], h => by simp [V.sameL] at h

/-- Two lists are the same up to a place. -/
def SameUpto (l m : List V) (j : Nat) : Prop := ∀ i x y, i < j → l[i]? = some x → m[i]? = some y → x.same y = true
theorem SameUpto.succ {l m : List V} {j : Nat} {x y : V} (h : SameUpto l m j) (hx : l[j]? = some x) (hy : m[j]? = some y) (h0 : x.same y = true) : SameUpto l m (j + 1) := by
  intro i a b hi ha hb
  rcases Nat.lt_succ_iff_lt_or_eq.1 hi with h1 | rfl
  · exact h i a b h1 ha hb
  · rw [hx] at ha; rw [hy] at hb; cases ha; cases hb; exact h0
theorem SameUpto.all : ∀ {l m : List V}, l.length = m.length → SameUpto l m l.length → V.sameL l m = true
  | [], [], _, _ => rfl
  | x :: xs, y :: ys, hl, h => by
    simp only [V.sameL, h 0 x y (by simp) (by simp) (by simp), Bool.true_and]
    exact SameUpto.all (by simpa using hl) fun i a b hi ha hb => h (i + 1) a b (by simpa using hi) (by simpa using ha) (by simpa using hb)
  | [], _ :: _, hl, _ => by simp at hl
  | _ :: _, [], hl, _ => by simp at hl
theorem V.sameL_not : ∀ {l m : List V} {j : Nat} {x y : V}, l[j]? = some x → m[j]? = some y → x.same y = false → V.sameL l m = false
  | [], _, _, _, _, h, _, _ => by simp at h
  | _, [], _, _, _, _, h, _ => by simp at h
  | x :: xs, y :: ys, 0, a, b, h, h', h0 => by simp at h h'; subst h; subst h'; simp [V.sameL, h0]
  | x :: xs, y :: ys, j + 1, a, b, h, h', h0 => by
    simp only [V.sameL]
    rw [V.sameL_not (l := xs) (m := ys) (j := j) (by simpa using h) (by simpa using h') h0]; simp

set_option maxRecDepth 100000 in
set_option maxHeartbeats 4000000 in
theorem samesV (N : Nat) (ih : ∀ (x y : V) (w : World), x.rank ≤ N → x.In w w.heap.size → y.In w w.heap.size → Calls Tryz.prog 23 #[x.val, y.val] w fun e w' => e = .returned (.bool (x.same y)) ∧ Kp w w')
    (k n : Int) (s : ByteArray) (a : Option Addr) (cap : Nat) (l : List V) (k' n' : Int) (s' : ByteArray) (a' : Option Addr) (cap' : Nat) (m : List V) (w : World) (hr : (V.mk k n s a cap l).rank ≤ N + 1)
    (hin : (V.mk k n s a cap l).In w w.heap.size) (hin' : (V.mk k' n' s' a' cap' m).In w w.heap.size) :
    Calls Tryz.prog 63 #[.slice a l.length cap, .slice a' m.length cap'] w fun e w' => e = .returned (.bool (V.sameL l m)) ∧ Kp w w' := by
  have hl := V.lenLe hin
  have hm := V.lenLe hin'
  have IH := Lib.hid ih
  have HIN := Lib.hid hin
  have HIN' := Lib.hid hin'
  have HR := Lib.hid hr
  clear ih hin hin' hr
  by_cases hlen : l.length = m.length
  · have g1 : (((l.length : Nat) : Int) != ((m.length : Nat) : Int)) = false := by simp [hlen]
    have HLEN := Lib.hid hlen
    clear hlen
    go_enter Tryz.func63, Tryz.ntmps63
    go_wp2_with fail
    go_loopw [5] (fun i wr => ∃ j : Nat, j ≤ l.length ∧ i = .int .i64 j ∧ SameUpto l m j ∧ Kp w wr) (fun i _ => l.length - (intOf i).toNat)
    case atStart => exact ⟨0, Nat.zero_le _, rfl, fun i _ _ h => absurd h (by omega), Below.refl _ _⟩
    case round =>
      obtain ⟨j, hj, rfl, heq, hk⟩ := hrel
      by_cases hlt : j < l.length
      · obtain ⟨x, hx⟩ : ∃ x, l[j]? = some x := ⟨l[j], by simp [hlt]⟩
        have hlt' : j < m.length := by rw [← HLEN.out]; exact hlt
        obtain ⟨y, hy⟩ : ∃ y, m[j]? = some y := ⟨m[j], by simp [hlt']⟩
        obtain ⟨b0, off, rfl, hb0, q0, q1, q2, q3, hxin⟩ := V.atPart HIN.out hx
        have r0 := kc hk q0
        have r1 := kc hk q1
        have r2 := kc hk q2
        have r3 := kc hk q3
        have HX := Lib.hid hx
        have HXI := Lib.hid hxin
        clear q0 q1 q2 q3 hx hxin
        obtain ⟨b1, off', rfl, hb1, q0, q1, q2, q3, hyin⟩ := V.atPart HIN'.out hy
        have t0 := kc hk q0
        have t1 := kc hk q1
        have t2 := kc hk q2
        have t3 := kc hk q3
        have HY := Lib.hid hy
        have HYI := Lib.hid hyin
        have HK := Lib.hid hk
        have hz := hk.size
        have C := fun w1 (h : Kp w w1) => IH.out x y w1 (by have := V.rank_part (v := .mk k n s (some ⟨b0, off, none⟩) cap l) HX.out; have := HR.out; omega) (HXI.out.keep h.size h) (HYI.out.keep h.size h)
        generalize hc : x.same y = c at C
        have CC := Lib.hid C
        have HC := Lib.hid hc
        clear q0 q1 q2 q3 hy hyin hk C hc
        have gi0 : (0 : Int) ≤ (j : Int) := by omega
        have gi1 : (j : Int) < (l.length : Int) := by omega
        have gi2 : (j : Int) < (m.length : Int) := by omega
        go_wp2_with fail
        go_region_held3 (fun w' => w'.cell? ⟨b0, off + j * 4, none⟩ = some (.int .i64 x.k) ∧ w'.cell? ⟨b0, off + j * 4 + 1, none⟩ = some (.int .i64 x.n) ∧ w'.cell? ⟨b0, off + j * 4 + 2, none⟩ = some (.string x.s) ∧ w'.cell? ⟨b0, off + j * 4 + 3, none⟩ = some (.slice x.a x.l.length x.cap) ∧
          w'.cell? ⟨b1, off' + j * 4, none⟩ = some (.int .i64 y.k) ∧ w'.cell? ⟨b1, off' + j * 4 + 1, none⟩ = some (.int .i64 y.n) ∧ w'.cell? ⟨b1, off' + j * 4 + 2, none⟩ = some (.string y.s) ∧ w'.cell? ⟨b1, off' + j * 4 + 3, none⟩ = some (.slice y.a y.l.length y.cap) ∧ Kp wr w')
          (first
            | (refine ⟨?_, ?_, ?_, ?_, ?_, ?_, ?_, ?_, ?_⟩ <;> first | exact (Below.refl _ _).drew | (go_keep; done))
            | (go_split_ands; exact ⟨‹_›, ‹_›, ‹_›, ‹_›, ‹_›, ‹_›, ‹_›, ‹_›, ‹_›⟩)
            | (go_split_ands; exact ⟨kc hk1 ‹_›, kc hk1 ‹_›, kc hk1 ‹_›, kc hk1 ‹_›, kc hk1 ‹_›, kc hk1 ‹_›, kc hk1 ‹_›, kc hk1 ‹_›, kk ‹_› hk1⟩))
          (first
            | (go_split_ands; go_at_call 23; refine (CC.out _ (kk HK.out ‹_›)).mono ?_; rintro e w1 ⟨rfl, hk1⟩))
        go_split_ands
        have HK1 := Lib.hid (kk HK.out ‹Kp wr _›)
        cases c
        · have hr : V.sameL l m = false := V.sameL_not HX.out HY.out HC.out
          have HRR := Lib.hid hr
          clear hr
          go_wp2_with fail
          go_ret
          exact ⟨by rw [HRR.out] <;> rfl, HK1.out⟩
        · go_wp2_with fail
          go_roundw
          case rel => exact ⟨j + 1, by omega, by go_num, heq.succ HX.out HY.out HC.out, HK1.out⟩
          case measure => simp [intOf]; omega
      · have hjl : j = l.length := by omega
        subst hjl
        have hr : V.sameL l m = true := SameUpto.all HLEN.out heq
        have HRR := Lib.hid hr
        have HK := Lib.hid hk
        clear hr hk
        go_wp2_with fail
        go_ret
        exact ⟨by rw [HRR.out] <;> rfl, HK.out⟩
  · have hr : V.sameL l m = false := by
      cases h : V.sameL l m with
      | false => rfl
      | true => exact absurd (V.sameL_len h) hlen
    have HRR := Lib.hid hr
    have g1 : (((l.length : Nat) : Int) != ((m.length : Nat) : Int)) = true := by simp; omega
    clear hr hlen
    go_enter Tryz.func63, Tryz.ntmps63
    go_wp2_with fail
    go_ret
    exact ⟨by rw [HRR.out] <;> rfl, Below.refl _ _⟩

set_option maxHeartbeats 2000000 in
theorem sameV : ∀ (N : Nat) (x y : V) (w : World), x.rank ≤ N → x.In w w.heap.size → y.In w w.heap.size →
    Calls Tryz.prog 23 #[x.val, y.val] w fun e w' => e = .returned (.bool (x.same y)) ∧ Kp w w' := by
  intro N
  induction N with
  | zero => intro x y w h; have := x.rank_pos; omega
  | succ N ih =>
    intro x y w hN hx hy
    cases x with
    | mk k n s a cap l =>
    cases y with
    | mk k' n' s' a' cap' l' =>
    rw [V.val_mk, V.val_mk]
    have C := fun w1 (h : Kp w w1) => samesV N ih k n s a cap l k' n' s' a' cap' l' w1 hN (hx.keep h.size h) (hy.keep h.size h)
    have hr : (V.mk k n s a cap l).same (V.mk k' n' s' a' cap' l') = (decide (k = k') && (decide (n = n') && (decide (s.toList = s'.toList) && V.sameL l l'))) := by simp only [V.same]
    rw [hr]
    generalize V.sameL l l' = q at C ⊢
    have CC := Lib.hid C
    clear C ih hx hy hN hr
    by_cases h1 : k = k'
    · by_cases h2 : n = n'
      · by_cases h3 : s.toList = s'.toList
        · have hr : (decide (k = k') && (decide (n = n') && (decide (s.toList = s'.toList) && q))) = q := by simp [h1, h2, h3]
          rw [hr]
          subst h1; subst h2
          have g3 : (s.toList == s'.toList) = true := by simpa using h3
          clear hr h3
          go_enter Tryz.func23, Tryz.ntmps23
          go_wp2_with fail
          refine (CC.out _ (kk (ka _ _) (ka _ _))).mono ?_
          rintro e w1 ⟨rfl, hk⟩
          have HK := Lib.hid (kk (kk (ka _ _) (ka _ _)) hk)
          clear hk
          go_wp2_with fail
          go_ret
          exact ⟨rfl, HK.out⟩
        · have hr : (decide (k = k') && (decide (n = n') && (decide (s.toList = s'.toList) && q))) = false := by simp [h3]
          rw [hr]
          subst h1; subst h2
          have g3 : (s.toList == s'.toList) = false := by simpa using h3
          clear hr CC h3
          go_enter Tryz.func23, Tryz.ntmps23
          go_wp2_with fail
          go_ret
          exact ⟨rfl, kk (ka _ _) (ka _ _)⟩
      · have hr : (decide (k = k') && (decide (n = n') && (decide (s.toList = s'.toList) && q))) = false := by simp [h2]
        rw [hr]
        subst h1
        have g2 : (n == n') = false := by simpa using h2
        clear hr CC h2
        go_enter Tryz.func23, Tryz.ntmps23
        go_wp2_with fail
        go_ret
        exact ⟨rfl, kk (ka _ _) (ka _ _)⟩
    · have hr : (decide (k = k') && (decide (n = n') && (decide (s.toList = s'.toList) && q))) = false := by simp [h1]
      rw [hr]
      have g1 : (k == k') = false := by simpa using h1
      clear hr CC h1
      go_enter Tryz.func23, Tryz.ntmps23
      go_wp2_with fail
      go_ret
      exact ⟨rfl, kk (ka _ _) (ka _ _)⟩

end Go.Proofs.YtbiljalhabnhlaaGreatDoor

/-
  THE CALLS OF THE CHAPTER's EXAMPLES, each with its answer written out.
-/
namespace Go.Proofs.YtbiljalhabnhlaaGreatDoor
open Go.RowKit

abbrev sampleV (q r : Nat) : V := .mk 2 0 ⟨#[]⟩ (some ⟨q, 0, none⟩) 4 [.mk 0 (-3) ⟨#[]⟩ none 0 [], .mk 1 0 ⟨#[97, 34, 98]⟩ none 0 [], .mk 2 0 ⟨#[]⟩ none 0 [], .mk 3 2 ⟨#[]⟩ (some ⟨r, 0, none⟩) 1 [.mk 0 0 ⟨#[]⟩ none 0 []]]

theorem sampleV_in {w : World} {q r B t u : Nat} (hq : w.heap[q]? = some (.cells (sampleCells r) t (0, 0))) (hr : w.heap[r]? = some (.cells sampleTag u (0, 0))) (hB : q < B) (hB2 : r < B) : (sampleV q r).In w B := by
  have i64 : ∀ n : Int, -10 ≤ n → n ≤ 10 → I64 n := fun n h1 h2 => by unfold I64; omega
  refine in_node 2 0 ⟨#[]⟩ [.mk 0 (-3) ⟨#[]⟩ none 0 [], .mk 1 0 ⟨#[97, 34, 98]⟩ none 0 [], .mk 2 0 ⟨#[]⟩ none 0 [], .mk 3 2 ⟨#[]⟩ (some ⟨r, 0, none⟩) 1 [.mk 0 0 ⟨#[]⟩ none 0 []]] (i64 2 (by omega) (by omega)) (i64 0 (by omega) (by omega)) (by decide) (by show 4 ≤ maxLen; decide) hB ?_ ⟨in_leaf _ _ _ (i64 _ (by omega) (by omega)) (i64 _ (by omega) (by omega)) (by decide), in_leaf _ _ _ (i64 _ (by omega) (by omega)) (i64 _ (by omega) (by omega)) (by decide), in_leaf _ _ _ (i64 _ (by omega) (by omega)) (i64 _ (by omega) (by omega)) (by decide), ?_, trivial⟩
  · intro j x hj
    match j, hj with
    | 0, hj => simp at hj; subst hj; exact ⟨cellOf hq rfl, cellOf hq rfl, cellOf hq rfl, cellOf hq rfl⟩
    | 1, hj => simp at hj; subst hj; exact ⟨cellOf hq rfl, cellOf hq rfl, cellOf hq rfl, cellOf hq rfl⟩
    | 2, hj => simp at hj; subst hj; exact ⟨cellOf hq rfl, cellOf hq rfl, cellOf hq rfl, cellOf hq rfl⟩
    | 3, hj => simp at hj; subst hj; exact ⟨cellOf hq rfl, cellOf hq rfl, cellOf hq rfl, cellOf hq rfl⟩
    | j + 4, hj => simp at hj
  · refine in_node 3 2 ⟨#[]⟩ [.mk 0 0 ⟨#[]⟩ none 0 []] (i64 _ (by omega) (by omega)) (i64 _ (by omega) (by omega)) (by decide) (by decide) hB2 ?_ ⟨in_leaf _ _ _ (i64 _ (by omega) (by omega)) (i64 _ (by omega) (by omega)) (by decide), trivial⟩
    intro j x hj
    match j, hj with
    | 0, hj => simp at hj; subst hj; exact ⟨cellOf hr rfl, cellOf hr rfl, cellOf hr rfl, cellOf hr rfl⟩
    | j + 1, hj => simp at hj

theorem sampleV_cnt (q r : Nat) : (sampleV q r).cnt = 6 := by
  have h3 : (⟨#[97, 34, 98]⟩ : ByteArray).size = 3 := rfl
  simp [V.cnt, V.wk, V.wkL, fitsB, wordB, textB, tupleB, taggedB, charsB, byteB, h3]
theorem sampleV_ok (q r : Nat) : (sampleV q r).ok := by simp [V.ok, V.okL, I64]
theorem sampleV_txt (q r : Nat) : (sampleV q r).txt = [40, 45, 51, 44, 32, 34, 97, 92, 34, 98, 34, 44, 32, 40, 41, 44, 32, 35, 50, 32, 48, 41] := by
  have i1 : Lib.itoa (-3) = [45, 51] := by kernel_rfl
  have i2 : Lib.itoa 2 = [50] := by kernel_rfl
  have i3 : Lib.itoa 0 = [48] := by kernel_rfl
  simp [V.txt, V.txtL, V.txtH, esc, escB, i1, i2, i3]
theorem sampleV_is (q r g h : Nat) : (sampleV q r).is (kindT g h) = true := by
  simp [V.is, V.isL, okB, kindI, T.k, T.l]
theorem sampleV_isnt (q r : Nat) : (sampleV q r).is (.mk 0 none 0 []) = false := by
  simp [V.is, okB, kindI, T.k, T.l]
theorem kindT_txt (g h : Nat) : (kindT g h).txt = [40, 105, 110, 116, 44, 32, 116, 101, 120, 116, 44, 32, 40, 41, 44, 32, 91, 116, 101, 120, 116, 32, 43, 32, 40, 41, 32, 43, 32, 105, 110, 116, 93, 41] := by
  simp [T.txt, T.txtL]

end Go.Proofs.YtbiljalhabnhlaaGreatDoor

/-
  THE CALLS OF THE CHAPTER's EXAMPLES: their contracts, closed.
-/
namespace Go.Proofs.YtbiljalhabnhlaaGreatDoor
open Go.RowKit

/-- The sample lies in blocks q and r. -/
def Smp (w : World) (q r : Nat) : Prop := w.heap[q]? = some (.cells (sampleCells r) 24 (0, 0)) ∧ w.heap[r]? = some (.cells sampleTag 24 (0, 0))
theorem Smp.kp {w w' : World} {q r : Nat} (h : Smp w q r) (k : Kp w w') : Smp w' q r := ⟨(k.block _ (lt_of_block h.1)).trans h.1, (k.block _ (lt_of_block h.2)).trans h.2⟩
theorem Smp.in_ {w : World} {q r : Nat} (h : Smp w q r) : (sampleV q r).In w w.heap.size := sampleV_in h.1 h.2 (lt_of_block h.1) (lt_of_block h.2)
/-- The type of the sample lies in blocks g and h. -/
def Knd (w : World) (g h : Nat) : Prop := w.heap[g]? = some (.cells (kindCells h) 27 (0, 0)) ∧ w.heap[h]? = some (.cells sumCells 27 (0, 0))
theorem Knd.kp {w w' : World} {g h : Nat} (i : Knd w g h) (k : Kp w w') : Knd w' g h := ⟨(k.block _ (lt_of_block i.1)).trans i.1, (k.block _ (lt_of_block i.2)).trans i.2⟩
theorem Knd.in_ {w : World} {g h : Nat} (i : Knd w g h) : (kindT g h).In w w.heap.size := kindT_in i.1 i.2 (lt_of_block i.1) (lt_of_block i.2)

abbrev smpVal (q : Nat) : Value := .agg #[.int .i64 2, .int .i64 0, .string ⟨#[]⟩, .slice (some ⟨q, 0, none⟩) 4 4]
abbrev kndVal (g : Nat) : Value := .agg #[.int .i64 2, .slice (some ⟨g, 0, none⟩) 4 4]

theorem ex_sample (w : World) : Calls Tryz.prog 64 #[] w fun e w' => ∃ q r, e = .returned (smpVal q) ∧ Smp w' q r ∧ Kp w w' :=
  (sample_any w).mono fun _ _ ⟨q, r, he, h1, h2, _, _, hk⟩ => ⟨q, r, he, ⟨h1, h2⟩, hk⟩
theorem ex_kind (w : World) : Calls Tryz.prog 65 #[] w fun e w' => ∃ g h, e = .returned (kndVal g) ∧ Knd w' g h ∧ Kp w w' :=
  (kind_any w).mono fun _ _ ⟨q, r, he, h1, h2, _, _, hk⟩ => ⟨q, r, he, ⟨h1, h2⟩, hk⟩

theorem ex_text (w : World) (q r : Nat) (h : Smp w q r) (ht : Tb w w.heap.size) : Calls Tryz.prog 27 #[smpVal q] w fun e w' => e = .returned (.tuple #[.string ⟨#[40, 45, 51, 44, 32, 34, 97, 92, 34, 98, 34, 44, 32, 40, 41, 44, 32, 35, 50, 32, 48, 41]⟩, .int .i64 0]) ∧ Kp w w' := by
  have := text_tuple 0 ⟨#[]⟩ (some ⟨q, 0, none⟩) 4 _ w h.in_ (by rw [sampleV_cnt]; decide) (sampleV_ok q r) ht (by rw [sampleV_txt]; decide)
  rw [sampleV_txt] at this
  exact this
theorem ex_typeText (w : World) (g h : Nat) (i : Knd w g h) : Calls Tryz.prog 29 #[kndVal g] w fun e w' => e = .returned (.tuple #[.string ⟨#[40, 105, 110, 116, 44, 32, 116, 101, 120, 116, 44, 32, 40, 41, 44, 32, 91, 116, 101, 120, 116, 32, 43, 32, 40, 41, 32, 43, 32, 105, 110, 116, 93, 41]⟩, .int .i64 0]) ∧ Kp w w' := by
  have hc : ¬ (kindT g h).cnt = 0 := fun hh => by have := kindT_cnt g h; rw [bad0 hh] at this; cases this
  have := typeText 2 (some ⟨g, 0, none⟩) 4 _ w i.in_ hc (by rw [kindT_txt]; simp) (by rw [kindT_txt]; decide)
  rw [kindT_txt] at this
  exact this
theorem ex_size (w : World) (q r : Nat) (h : Smp w q r) : Calls Tryz.prog 13 #[smpVal q] w fun e w' => e = .returned (.tuple #[.int .i64 6, .int .i64 0]) ∧ Kp w w' := by
  have := sizeV 2 0 ⟨#[]⟩ (some ⟨q, 0, none⟩) 4 _ w h.in_
  rw [sampleV_cnt] at this
  exact this
theorem leafV_in (w : World) (B : Nat) (k n : Int) (s : ByteArray) (hk : I64 k) (hn : I64 n) (hs : s.size ≤ maxLen) : (V.mk k n s none 0 []).In w B := in_leaf k n s hk hn hs
theorem ex_ints (w : World) : Calls Tryz.prog 25 #[.agg #[.int .i64 0, .int .i64 2, .string ⟨#[]⟩, .slice none 0 0], .agg #[.int .i64 0, .int .i64 10, .string ⟨#[]⟩, .slice none 0 0]] w fun e w' => e = .returned (.tuple #[.int .i64 (-1), .int .i64 0]) ∧ Kp w w' := by
  have := compare_prog (.mk 0 2 ⟨#[]⟩ none 0 []) (.mk 0 10 ⟨#[]⟩ none 0 []) w (in_leaf _ _ _ (by unfold I64; omega) (by unfold I64; omega) (by decide)) (in_leaf _ _ _ (by unfold I64; omega) (by unfold I64; omega) (by decide))
  have hv : cmpV (.mk 0 2 ⟨#[]⟩ none 0 []) (.mk 0 10 ⟨#[]⟩ none 0 []) = .tuple #[.int .i64 (-1), .int .i64 0] := by
    simp [cmpV, V.valid, V.sh, V.shL, V.rank, V.rank.ranks, fitsB, wordB, V.ord, cmpI, orI]
  rw [hv] at this
  exact this
theorem ex_texts (w : World) : Calls Tryz.prog 25 #[.agg #[.int .i64 1, .int .i64 0, .string ⟨#[98]⟩, .slice none 0 0], .agg #[.int .i64 1, .int .i64 0, .string ⟨#[97, 97]⟩, .slice none 0 0]] w fun e w' => e = .returned (.tuple #[.int .i64 1, .int .i64 0]) ∧ Kp w w' := by
  have := compare_prog (.mk 1 0 ⟨#[98]⟩ none 0 []) (.mk 1 0 ⟨#[97, 97]⟩ none 0 []) w (in_leaf _ _ _ (by unfold I64; omega) (by unfold I64; omega) (by decide)) (in_leaf _ _ _ (by unfold I64; omega) (by unfold I64; omega) (by decide))
  have h1 : (⟨#[98]⟩ : ByteArray).size = 1 := rfl
  have h2 : (⟨#[97, 97]⟩ : ByteArray).size = 2 := rfl
  have hv : cmpV (.mk 1 0 ⟨#[98]⟩ none 0 []) (.mk 1 0 ⟨#[97, 97]⟩ none 0 []) = .tuple #[.int .i64 1, .int .i64 0] := by
    simp [cmpV, V.valid, V.sh, V.shL, V.rank, V.rank.ranks, fitsB, textB, charsB, byteB, V.ord, cmpI, orI, Lib.compareBytes, h1, h2]
  rw [hv] at this
  exact this
theorem ex_is (w : World) (q r g h : Nat) (i : Smp w q r) (j : Knd w g h) : Calls Tryz.prog 21 #[smpVal q, kndVal g] w fun e w' => e = .returned (.bool true) ∧ Kp w w' := by
  have := is_valid 2 0 ⟨#[]⟩ (some ⟨q, 0, none⟩) 4 _ 2 (some ⟨g, 0, none⟩) 4 _ w i.in_ j.in_ (by rw [sampleV_cnt]; rfl) (kindT_cnt g h)
  rw [sampleV_is] at this
  exact this
theorem ex_isnt (w : World) (q r : Nat) (i : Smp w q r) : Calls Tryz.prog 21 #[smpVal q, .agg #[.int .i64 0, .slice none 0 0]] w fun e w' => e = .returned (.bool false) ∧ Kp w w' := by
  have := is_valid 2 0 ⟨#[]⟩ (some ⟨q, 0, none⟩) 4 _ 0 none 0 [] w i.in_ (inT_leaf 0 (by unfold I64; omega)) (by rw [sampleV_cnt]; rfl) (by simp [bad, T.cnt, T.wk, T.wkL, fitsT])
  rw [sampleV_isnt] at this
  exact this
theorem ex_type (w : World) : Calls Tryz.prog 17 #[.agg #[.int .i64 3, .slice none 0 0]] w fun e w' => e = .returned (.int .i64 1) ∧ Kp w w' := by
  have := typeV 3 none 0 [] w (inT_leaf 3 (by unfold I64; omega))
  have hb : bad (T.mk 3 none 0 []).cnt = 1 := by simp [bad, T.cnt, T.wk, fitsT]
  rw [hb] at this
  exact this

/-- A tuple of one text. -/
abbrev keyV (q : Nat) : V := .mk 2 0 ⟨#[]⟩ (some ⟨q, 0, none⟩) 1 [.mk 1 0 ⟨#[97]⟩ none 0 []]
theorem keyV_in {w : World} {q B t : Nat} (h : w.heap[q]? = some (.cells #[.int .i64 1, .int .i64 0, .string ⟨#[97]⟩, .slice none 0 0] t (0, 0))) (hB : q < B) : (keyV q).In w B := by
  refine in_node 2 0 ⟨#[]⟩ [.mk 1 0 ⟨#[97]⟩ none 0 []] (by unfold I64; omega) (by unfold I64; omega) (by decide) (by decide) hB ?_ ⟨in_leaf _ _ _ (by unfold I64; omega) (by unfold I64; omega) (by decide), trivial⟩
  intro j x hj
  match j, hj with
  | 0, hj => simp at hj; subst hj; exact ⟨cellOf h rfl, cellOf h rfl, cellOf h rfl, cellOf h rfl⟩
  | j + 1, hj => simp at hj
theorem ex_key (w : World) (q : Nat) (h : w.heap[q]? = some (.cells #[.int .i64 1, .int .i64 0, .string ⟨#[97]⟩, .slice none 0 0] 24 (0, 0))) (ht : Tb w w.heap.size) :
    Calls Tryz.prog 36 #[.agg #[.int .i64 2, .int .i64 0, .string ⟨#[]⟩, .slice (some ⟨q, 0, none⟩) 1 1]] w fun e w' => e = .returned (.tuple #[.string ⟨#[3, 2, 97, 0, 0]⟩, .int .i64 0]) ∧ Kp w w' := by
  have h3 : (⟨#[97]⟩ : ByteArray).size = 1 := rfl
  have hc : (keyV q).cnt = 2 := by simp [V.cnt, V.wk, V.wkL, fitsB, textB, tupleB, charsB, byteB, h3]
  have := key_tuple 0 ⟨#[]⟩ (some ⟨q, 0, none⟩) 1 [.mk 1 0 ⟨#[97]⟩ none 0 []] w (keyV_in h (lt_of_block h)) (by rw [hc]; decide) (fun j x hj => by
    match j, hj with
    | 0, hj => simp at hj; subst hj; rfl
    | j + 1, hj => simp at hj) ht (by decide)
  exact this

/-- What Least makes, and what it is held against. -/
abbrev leastV (q r : Nat) (b : Option Addr) : V := .mk 2 0 ⟨#[]⟩ (some ⟨q, 0, none⟩) 4 [.mk 0 (-2147483648) ⟨#[]⟩ none 0 [], .mk 1 0 ⟨#[]⟩ none 0 [], .mk 2 0 ⟨#[]⟩ b 0 [], .mk 3 0 ⟨#[]⟩ (some ⟨r, 0, none⟩) 1 [.mk 1 0 ⟨#[]⟩ none 0 []]]
theorem leastV_in {w : World} {q r B t u : Nat} {b : Option Addr} (hq : w.heap[q]? = some (.cells (leastCells r b) t (0, 0))) (hr : w.heap[r]? = some (.cells #[.int .i64 1, .int .i64 0, .string ⟨#[]⟩, .slice none 0 0] u (0, 0))) (hB : q < B) (hB2 : r < B) : (leastV q r b).In w B := by
  have i64 : ∀ n : Int, -2147483648 ≤ n → n ≤ 10 → I64 n := fun n h1 h2 => by unfold I64; omega
  refine in_node 2 0 ⟨#[]⟩ [.mk 0 (-2147483648) ⟨#[]⟩ none 0 [], .mk 1 0 ⟨#[]⟩ none 0 [], .mk 2 0 ⟨#[]⟩ b 0 [], .mk 3 0 ⟨#[]⟩ (some ⟨r, 0, none⟩) 1 [.mk 1 0 ⟨#[]⟩ none 0 []]] (i64 2 (by omega) (by omega)) (i64 0 (by omega) (by omega)) (by decide) (by show 4 ≤ maxLen; decide) hB ?_ ⟨in_leaf _ _ _ (i64 _ (by omega) (by omega)) (i64 _ (by omega) (by omega)) (by decide), in_leaf _ _ _ (i64 _ (by omega) (by omega)) (i64 _ (by omega) (by omega)) (by decide), ?_, ?_, trivial⟩
  · intro j x hj
    match j, hj with
    | 0, hj => simp at hj; subst hj; exact ⟨cellOf hq rfl, cellOf hq rfl, cellOf hq rfl, cellOf hq rfl⟩
    | 1, hj => simp at hj; subst hj; exact ⟨cellOf hq rfl, cellOf hq rfl, cellOf hq rfl, cellOf hq rfl⟩
    | 2, hj => simp at hj; subst hj; exact ⟨cellOf hq rfl, cellOf hq rfl, cellOf hq rfl, cellOf hq rfl⟩
    | 3, hj => simp at hj; subst hj; exact ⟨cellOf hq rfl, cellOf hq rfl, cellOf hq rfl, cellOf hq rfl⟩
    | j + 4, hj => simp at hj
  · simp [V.In, V.InL, i64 2 (by omega) (by omega), i64 0 (by omega) (by omega)]
    decide
  · refine in_node 3 0 ⟨#[]⟩ [.mk 1 0 ⟨#[]⟩ none 0 []] (i64 _ (by omega) (by omega)) (i64 _ (by omega) (by omega)) (by decide) (by decide) hB2 ?_ ⟨in_leaf _ _ _ (i64 _ (by omega) (by omega)) (i64 _ (by omega) (by omega)) (by decide), trivial⟩
    intro j x hj
    match j, hj with
    | 0, hj => simp at hj; subst hj; exact ⟨cellOf hr rfl, cellOf hr rfl, cellOf hr rfl, cellOf hr rfl⟩
    | j + 1, hj => simp at hj
theorem leastV_same (q r : Nat) (b : Option Addr) (q' r' : Nat) (b' : Option Addr) : (leastV q r b).same (leastV q' r' b') = true := by simp [V.same, V.sameL]
theorem oneV_same (q q' : Nat) : (oneV q).same (oneV q') = true := by simp [V.same, V.sameL]

end Go.Proofs.YtbiljalhabnhlaaGreatDoor

/-
  valued: the chapter's examples (written by wip/gen_valued.py).
-/
namespace Go.Proofs.YtbiljalhabnhlaaGreatDoor
open Go.RowKit

theorem keepB {w w' : World} {b : Nat} {o : Obj} (k : Kp w w') (h : w.heap[b]? = some o) : w'.heap[b]? = some o := (k.block _ (lt_of_block' h)).trans h
theorem ex_same (w : World) (q r : Nat) (b : Option Addr) (q' r' : Nat) (b' : Option Addr) (hq : w.heap[q]? = some (.cells (leastCells r b) 24 (0, 0))) (hr : w.heap[r]? = some (.cells #[.int .i64 1, .int .i64 0, .string ⟨#[]⟩, .slice none 0 0] 24 (0, 0)))
    (hq' : w.heap[q']? = some (.cells (leastCells r' b') 24 (0, 0))) (hr' : w.heap[r']? = some (.cells #[.int .i64 1, .int .i64 0, .string ⟨#[]⟩, .slice none 0 0] 24 (0, 0))) :
    Calls Tryz.prog 23 #[.agg #[.int .i64 2, .int .i64 0, .string ⟨#[]⟩, .slice (some ⟨q, 0, none⟩) 4 4], .agg #[.int .i64 2, .int .i64 0, .string ⟨#[]⟩, .slice (some ⟨q', 0, none⟩) 4 4]] w fun e w' => e = .returned (.bool true) ∧ Kp w w' := by
  have := sameV _ (leastV q r b) (leastV q' r' b') w (Nat.le_refl _) (leastV_in hq hr (lt_of_block hq) (lt_of_block hr)) (leastV_in hq' hr' (lt_of_block hq') (lt_of_block hr'))
  rw [leastV_same] at this
  exact this
theorem ex_sameOne (w : World) (q q' : Nat) (hq : w.heap[q]? = some (.cells one4 24 (0, 0))) (hq' : w.heap[q']? = some (.cells one4 24 (0, 0))) :
    Calls Tryz.prog 23 #[.agg #[.int .i64 2, .int .i64 0, .string ⟨#[]⟩, .slice (some ⟨q, 0, none⟩) 1 1], .agg #[.int .i64 2, .int .i64 0, .string ⟨#[]⟩, .slice (some ⟨q', 0, none⟩) 1 1]] w fun e w' => e = .returned (.bool true) ∧ Kp w w' := by
  have := sameV _ (oneV q) (oneV q') w (Nat.le_refl _) (oneV_in hq (lt_of_block hq)) (oneV_in hq' (lt_of_block hq'))
  rw [oneV_same] at this
  exact this

set_option maxRecDepth 100000 in
set_option maxHeartbeats 8000000 in
theorem valued_any (w : World) (ht : Tb w w.heap.size) : Calls Tryz.prog 24 #[] w fun e w' => e = .returned (.bool true) ∧ Kp w w' := by
  have HT := Lib.hid ht
  clear ht
  go_enter Tryz.func24, Tryz.ntmps24
  go_wp2_with fail
  refine (ex_sample _).mono ?_
  rintro e w1 ⟨q1, r1, rfl, hs, hk⟩
  have HK1 := Lib.hid (kk (Below.refl _ w) hk)
  have S1 := Lib.hid hs
  clear hs
  clear hk
  go_wp2_with fail
  refine (ex_text _ _ _ S1.out (HT.out.keep (HK1.out) (HK1.out).size)).mono ?_
  rintro e w2 ⟨rfl, hk⟩
  have HK2 := Lib.hid (kk (HK1.out) hk)
  clear hk
  go_wp2_with fail
  refine (ex_kind _).mono ?_
  rintro e w3 ⟨g3, h3, rfl, hs, hk⟩
  have HK3 := Lib.hid (kk (HK2.out) hk)
  have D3 := Lib.hid hs
  clear hs
  clear hk
  go_wp2_with fail
  refine (ex_typeText _ _ _ D3.out).mono ?_
  rintro e w4 ⟨rfl, hk⟩
  have HK4 := Lib.hid (kk (HK3.out) hk)
  clear hk
  go_wp2_with fail
  refine (ex_sample _).mono ?_
  rintro e w5 ⟨q5, r5, rfl, hs, hk⟩
  have HK5 := Lib.hid (kk (HK4.out) hk)
  have S5 := Lib.hid hs
  clear hs
  clear hk
  go_wp2_with fail
  refine (ex_size _ _ _ S5.out).mono ?_
  rintro e w6 ⟨rfl, hk⟩
  have HK6 := Lib.hid (kk (HK5.out) hk)
  clear hk
  go_wp2_with fail
  refine (int_any _ _).mono ?_
  rintro e w7 ⟨rfl, hk⟩
  have HK7 := Lib.hid (kk (HK6.out) hk)
  clear hk
  go_wp2_with fail
  refine (int_any _ _).mono ?_
  rintro e w8 ⟨rfl, hk⟩
  have HK8 := Lib.hid (kk (HK7.out) hk)
  clear hk
  go_wp2_with fail
  refine (ex_ints _).mono ?_
  rintro e w9 ⟨rfl, hk⟩
  have HK9 := Lib.hid (kk (HK8.out) hk)
  clear hk
  go_wp2_with fail
  refine (text_any _ _).mono ?_
  rintro e w10 ⟨rfl, hk⟩
  have HK10 := Lib.hid (kk (HK9.out) hk)
  clear hk
  go_wp2_with fail
  refine (text_any _ _).mono ?_
  rintro e w11 ⟨rfl, hk⟩
  have HK11 := Lib.hid (kk (HK10.out) hk)
  clear hk
  go_wp2_with fail
  refine (ex_texts _).mono ?_
  rintro e w12 ⟨rfl, hk⟩
  have HK12 := Lib.hid (kk (HK11.out) hk)
  clear hk
  go_wp2_with fail
  refine (ex_kind _).mono ?_
  rintro e w13 ⟨g13, h13, rfl, hs, hk⟩
  have HK13 := Lib.hid (kk (HK12.out) hk)
  have D13 := Lib.hid hs
  clear hs
  clear hk
  go_wp2_with fail
  refine (least_top _ g13 h13 _ _ D13.out.1 D13.out.2).mono ?_
  rintro e w14 ⟨ql, rl, bl, rfl, hq, hr, hqz, hrz, hk⟩
  have HK14 := Lib.hid (kk (HK13.out) hk)
  have QL := Lib.hid hq
  have RL := Lib.hid hr
  clear hq hr hqz hrz
  clear hk
  go_wp2_with fail
  have lb : (w14.alloc (.cells #[.int .i64 2, .int .i64 0, .string ⟨#[]⟩, .slice (some ⟨ql, 0, none⟩) 4 4] 24)).heap[w14.heap.size]? = some (.cells #[.int .i64 2, .int .i64 0, .string ⟨#[]⟩, .slice (some ⟨ql, 0, none⟩) 4 4] 24 (0, 0)) := blockHere rfl
  have LB14 := Lib.hid lb
  clear lb
  refine (text_any _ _).mono ?_
  rintro e w15 ⟨rfl, hk⟩
  have HK15 := Lib.hid (kk (kk (HK14.out) (ka _ (.cells #[.int .i64 2, .int .i64 0, .string ⟨#[]⟩, .slice (some ⟨ql, 0, none⟩) 4 4] 24))) hk)
  have LB := Lib.hid ((hk.block _ (lt_of_block LB14.out)).trans LB14.out)
  have HJ15 := Lib.hid hk
  clear hk
  go_wp2_with fail
  have kb : (w15.alloc (.cells #[.int .i64 1, .int .i64 0, .string ⟨#[97]⟩, .slice none 0 0] 24)).heap[w15.heap.size]? = some (.cells #[.int .i64 1, .int .i64 0, .string ⟨#[97]⟩, .slice none 0 0] 24 (0, 0)) := blockHere rfl
  have KB15 := Lib.hid kb
  clear kb
  refine (tuple_any _ _ _ _).mono ?_
  rintro e w16 ⟨rfl, hk⟩
  have HK16 := Lib.hid (kk (kk (HK15.out) (ka _ (.cells #[.int .i64 1, .int .i64 0, .string ⟨#[97]⟩, .slice none 0 0] 24))) hk)
  have KB := Lib.hid ((hk.block _ (lt_of_block KB15.out)).trans KB15.out)
  have HJ16 := Lib.hid hk
  clear hk
  go_wp2_with fail
  refine (ex_key _ _ KB.out (HT.out.keep (HK16.out) (HK16.out).size)).mono ?_
  rintro e w17 ⟨rfl, hk⟩
  have HK17 := Lib.hid (kk (HK16.out) hk)
  have HJ17 := Lib.hid hk
  clear hk
  go_wp2_with fail
  refine (ofKey_three _).mono ?_
  rintro e w18 ⟨rfl, hk⟩
  have HK18 := Lib.hid (kk (HK17.out) hk)
  have HJ18 := Lib.hid hk
  clear hk
  go_wp2_with fail
  refine (parse_one _ (HT.out.keep (kk (HK18.out) (ka _ (.cells zero4 24))) (kk (HK18.out) (ka _ (.cells zero4 24))).size)).mono ?_
  rintro e w19 ⟨qp, rfl, hq, hqz, hk⟩
  have HK19 := Lib.hid (kk (kk (HK18.out) (ka _ (.cells zero4 24))) hk)
  have QP := Lib.hid hq
  clear hq hqz
  have HJ19 := Lib.hid hk
  clear hk
  go_wp2_with fail
  have pb : (w19.alloc (.cells #[.int .i64 2, .int .i64 0, .string ⟨#[]⟩, .slice (some ⟨qp, 0, none⟩) 1 1] 24)).heap[w19.heap.size]? = some (.cells #[.int .i64 2, .int .i64 0, .string ⟨#[]⟩, .slice (some ⟨qp, 0, none⟩) 1 1] 24 (0, 0)) := blockHere rfl
  have PB19 := Lib.hid pb
  clear pb
  refine (parse_bad _ (HT.out.keep (kk (HK19.out) (ka _ (.cells #[.int .i64 2, .int .i64 0, .string ⟨#[]⟩, .slice (some ⟨qp, 0, none⟩) 1 1] 24))) (kk (HK19.out) (ka _ (.cells #[.int .i64 2, .int .i64 0, .string ⟨#[]⟩, .slice (some ⟨qp, 0, none⟩) 1 1] 24))).size)).mono ?_
  rintro e w20 ⟨rfl, hk⟩
  have HK20 := Lib.hid (kk (kk (HK19.out) (ka _ (.cells #[.int .i64 2, .int .i64 0, .string ⟨#[]⟩, .slice (some ⟨qp, 0, none⟩) 1 1] 24))) hk)
  have PB := Lib.hid ((hk.block _ (lt_of_block PB19.out)).trans PB19.out)
  have HJ20 := Lib.hid hk
  clear hk
  go_wp2_with fail
  have hkr : Kp w20 (w20.alloc (.cells zero4 24)) := ka _ _
  have k15 := kk (kk (ka w14 (.cells #[.int .i64 2, .int .i64 0, .string ⟨#[]⟩, .slice (some ⟨ql, 0, none⟩) 4 4] 24)) HJ15.out) (kk (kk (ka w15 (.cells #[.int .i64 1, .int .i64 0, .string ⟨#[97]⟩, .slice none 0 0] 24)) HJ16.out) (kk HJ17.out (kk HJ18.out (kk (kk (ka w18 (.cells zero4 24)) HJ19.out) (kk (kk (ka w19 (.cells #[.int .i64 2, .int .i64 0, .string ⟨#[]⟩, .slice (some ⟨qp, 0, none⟩) 1 1] 24)) HJ20.out) hkr)))))
  have k19 := kk (kk (ka w19 (.cells #[.int .i64 2, .int .i64 0, .string ⟨#[]⟩, .slice (some ⟨qp, 0, none⟩) 1 1] 24)) HJ20.out) hkr
  have hQ := keepB k15 QL.out
  have hR := keepB k15 RL.out
  have hqp := keepB k19 QP.out
  have hL := keepB (kk (kk (kk (ka w15 (.cells #[.int .i64 1, .int .i64 0, .string ⟨#[97]⟩, .slice none 0 0] 24)) HJ16.out) (kk HJ17.out (kk HJ18.out (kk (kk (ka w18 (.cells zero4 24)) HJ19.out) (kk (ka w19 (.cells #[.int .i64 2, .int .i64 0, .string ⟨#[]⟩, .slice (some ⟨qp, 0, none⟩) 1 1] 24)) HJ20.out))))) hkr) LB.out
  have hPb := keepB hkr PB.out
  have hkW := kk HK20.out hkr
  have HKW := Lib.hid hkW
  clear hkW
  generalize hW : w20.alloc (.cells zero4 24) = W at hkr hQ hR hqp hL hPb HKW ⊢
  have hl0 : W.cell? ⟨w14.heap.size, 0, none⟩ = some (.int .i64 2) := cellOf hL rfl
  have hl1 : W.cell? ⟨w14.heap.size, 1, none⟩ = some (.int .i64 0) := cellOf hL rfl
  have hl2 : W.cell? ⟨w14.heap.size, 2, none⟩ = some (.string ⟨#[]⟩) := cellOf hL rfl
  have hl3 : W.cell? ⟨w14.heap.size, 3, none⟩ = some (.slice (some ⟨ql, 0, none⟩) 4 4) := cellOf hL rfl
  have hp0 : W.cell? ⟨w19.heap.size, 0, none⟩ = some (.int .i64 2) := cellOf hPb rfl
  have hp1 : W.cell? ⟨w19.heap.size, 1, none⟩ = some (.int .i64 0) := cellOf hPb rfl
  have hp2 : W.cell? ⟨w19.heap.size, 2, none⟩ = some (.string ⟨#[]⟩) := cellOf hPb rfl
  have hp3 : W.cell? ⟨w19.heap.size, 3, none⟩ = some (.slice (some ⟨qp, 0, none⟩) 1 1) := cellOf hPb rfl
  clear hkr hW k15 k19 hL hPb HJ15 HJ16 HJ17 HJ18 HJ19 HJ20 QL RL QP HT HK1 HK2 HK3 HK4 HK5 HK6 HK7 HK8 HK9 HK10 HK11 HK12 HK13 HK14 HK15 HK16 HK17 HK18 HK19 HK20 S1 D3 S5 D13 LB14 LB KB15 KB PB19 PB
  go_region_held3 (fun w' => w'.cell? ⟨w14.heap.size, 0, none⟩ = some (.int .i64 2) ∧ w'.cell? ⟨w14.heap.size, 1, none⟩ = some (.int .i64 0) ∧ w'.cell? ⟨w14.heap.size, 2, none⟩ = some (.string ⟨#[]⟩) ∧ w'.cell? ⟨w14.heap.size, 3, none⟩ = some (.slice (some ⟨ql, 0, none⟩) 4 4) ∧ w'.cell? ⟨w19.heap.size, 0, none⟩ = some (.int .i64 2) ∧ w'.cell? ⟨w19.heap.size, 1, none⟩ = some (.int .i64 0) ∧ w'.cell? ⟨w19.heap.size, 2, none⟩ = some (.string ⟨#[]⟩) ∧ w'.cell? ⟨w19.heap.size, 3, none⟩ = some (.slice (some ⟨qp, 0, none⟩) 1 1) ∧ Kp W w')
    (first
      | exact ⟨hl0, hl1, hl2, hl3, hp0, hp1, hp2, hp3, kpD⟩
      | (go_split_ands; exact ⟨kc hk ‹_›, kc hk ‹_›, kc hk ‹_›, kc hk ‹_›, kc hk ‹_›, kc hk ‹_›, kc hk ‹_›, kc hk ‹_›, kk ‹_› hk⟩)
      | (go_split_ands; exact ⟨kc (ka _ _) ‹_›, kc (ka _ _) ‹_›, kc (ka _ _) ‹_›, kc (ka _ _) ‹_›, kc (ka _ _) ‹_›, kc (ka _ _) ‹_›, kc (ka _ _) ‹_›, kc (ka _ _) ‹_›, kk ‹_› (ka _ _)⟩))
    (first
    | (go_at_call 64; refine (ex_sample _).mono ?_; rintro e wa ⟨qa, ra, rfl, hs, hk⟩)
    | (go_at_call 65; refine (ex_kind _).mono ?_; rintro e wb ⟨ga, ha, rfl, hd, hk⟩; replace hs := hs.kp hk)
    | (go_at_call 21; refine (ex_is _ _ _ _ _ hs hd).mono ?_; rintro e wc ⟨rfl, hk⟩; clear hs hd)
    | (go_at_call 21; refine (ex_isnt _ _ _ hs).mono ?_; rintro e wd ⟨rfl, hk⟩; clear hs)
    | (go_at_call 46; refine (int_any _ _).mono ?_; rintro e wf ⟨rfl, hk⟩)
    | (go_at_call 47; refine (text_any _ _).mono ?_; rintro e wg ⟨rfl, hk⟩)
    | (go_at_call 44; refine (tag_any _ _ _ _ _ _ _ _).mono ?_; rintro e wh ⟨rt, rfl, hrt, _, hk⟩)
    | (go_at_call 41; refine (tuple_any _ _ _ _).mono ?_; rintro e wi ⟨rfl, hk⟩; first | (have hqt := keepB hk (blockHere (o := .cells (leastCells rt none) 24 (0, 0)) rfl); replace hrt := keepB (kk (ka _ _) hk) hrt) | (have hqo := keepB hk (blockHere (o := .cells one4 24 (0, 0)) rfl)) | skip)
    | (go_at_call 23; refine (ex_same _ ql rl bl _ rt none (keepB (by assumption) hQ) (keepB (by assumption) hR) hqt hrt).mono ?_; rintro e wj ⟨rfl, hk⟩; clear hqt hrt)
    | (go_at_call 23; go_split_ands; refine (ex_same _ ql rl bl _ rt none (keepB (by assumption) hQ) (keepB (by assumption) hR) hqt hrt).mono ?_; rintro e wj ⟨rfl, hk⟩; clear hqt hrt)
    | (go_at_call 23; refine (ex_sameOne _ qp _ (keepB (by assumption) hqp) hqo).mono ?_; rintro e wj ⟨rfl, hk⟩; clear hqo)
    | (go_at_call 23; go_split_ands; refine (ex_sameOne _ qp _ (keepB (by assumption) hqp) hqo).mono ?_; rintro e wj ⟨rfl, hk⟩; clear hqo)
    | (go_at_call 17; refine (ex_type _).mono ?_; rintro e wk ⟨rfl, hk⟩))
  go_split_ands
  go_wp2_with fail
  go_ret
  exact ⟨rfl, kk HKW.out (by assumption)⟩

end Go.Proofs.YtbiljalhabnhlaaGreatDoor

/-
  ValueOrders: the statement's function, at any two values that lie in memory.
-/
namespace Go.Proofs.YtbiljalhabnhlaaGreatDoor
open Go.RowKit

theorem cmpV_two (x y : V) : ∃ a b : Int, cmpV x y = .tuple #[.int .i64 a, .int .i64 b] := by
  unfold cmpV; split <;> exact ⟨_, _, rfl⟩

set_option maxRecDepth 100000 in
set_option maxHeartbeats 4000000 in
theorem orders_any (x y : V) (w : World) (hx : x.In w w.heap.size) (hy : y.In w w.heap.size) (ht : Tb w w.heap.size) :
    Calls Tryz.prog 4 #[x.val, y.val] w fun e w' => e = .returned (.bool true) ∧ Kp w w' := by
  have C := fun w1 (h : Kp w w1) => compare_prog x y w1 (hx.keep h.size h) (hy.keep h.size h)
  have D := fun w1 (h : Kp w w1) => compare_spec x y w1 (hx.keep h.size h) (hy.keep h.size h)
  have E := fun w1 (h : Kp w w1) => valued_any w1 (ht.keep h h.size)
  obtain ⟨ca, cb, hc⟩ := cmpV_two x y
  rw [hc] at C D
  cases x with
  | mk k n s a cap l =>
  cases y with
  | mk k' n' s' a' cap' l' =>
  rw [V.val_mk, V.val_mk] at *
  have HC := Lib.hid C
  have HD := Lib.hid D
  have HE := Lib.hid E
  clear C D E hc hx hy ht
  go_enter Tryz.func4, Tryz.ntmps4
  go_wp2_with fail
  refine (HC.out _ (kk (ka _ _) (ka _ _))).mono ?_
  rintro e w1 ⟨rfl, hk⟩
  obtain ⟨b0, b1, b2, b3, d0, d1, d2, d3, hz⟩ := box44 hk
  have HK := Lib.hid (kk (kk (ka _ _) (ka _ _)) hk)
  clear hk
  go_wp2_with fail
  refine (HD.out _ HK.out).mono ?_
  rintro e w2 ⟨rfl, hk⟩
  have HK2 := Lib.hid (kk HK.out hk)
  clear hk b0 b1 b2 b3 d0 d1 d2 d3
  go_wp2_with fail
  refine (HE.out _ HK2.out).mono ?_
  rintro e w3 ⟨rfl, hk⟩
  have HK3 := Lib.hid (kk HK2.out hk)
  clear hk
  go_wp2_with fail
  go_ret
  exact ⟨rfl, HK3.out⟩

end Go.Proofs.YtbiljalhabnhlaaGreatDoor
