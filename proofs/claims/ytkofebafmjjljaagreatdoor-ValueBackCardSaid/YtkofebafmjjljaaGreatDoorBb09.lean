/-
  Contracts of the functions of package value, of its specification and of what the statements of layer 1 share (values and types made of numbers, the chapter's examples), each for every argument: used by the proofs of layer 1's statements.
  Part 9 of 14.
-/
import Derived.Test.YtkofebafmjjljaaGreatDoorBb08
import Derived.Test.YtkofebafmjjljaaGreatDoorBb05
import Derived.StillTailTactics
import Derived.BigQuiet
import Derived.Deep.QuietTactic
import Derived.Deep.RegionHeld3
import Derived.Test.YtkofebafmjjljaaGreatDoorBb07
import Derived.Test.YtkofebafmjjljaaGreatDoorBb04
import Derived.OwnWalk
import Derived.Lib.EndianBits
/-
  THE SPECIFICATION's fits, Is.
-/
namespace Go.Proofs.YtkofebafmjjljaaGreatDoor
open Go.RowKit

theorem kpDN {w : World} {n : Nat} : Kp w (w.drewN n) := ⟨rfl, rfl, rfl, Nat.le_refl _, fun _ _ => rfl⟩

/-- A value and a type in their boxes, behind a draw. -/
theorem boxesVT (w : World) (c0 c1 c2 c3 d0 d1 : Value) (t u : Nat) :
    (World.drew ((w.alloc (.cells #[c0, c1, c2, c3] t)).alloc (.cells #[d0, d1] u))).cell? ⟨w.heap.size, 0, none⟩ = some c0 ∧
    (World.drew ((w.alloc (.cells #[c0, c1, c2, c3] t)).alloc (.cells #[d0, d1] u))).cell? ⟨w.heap.size, 1, none⟩ = some c1 ∧
    (World.drew ((w.alloc (.cells #[c0, c1, c2, c3] t)).alloc (.cells #[d0, d1] u))).cell? ⟨w.heap.size, 2, none⟩ = some c2 ∧
    (World.drew ((w.alloc (.cells #[c0, c1, c2, c3] t)).alloc (.cells #[d0, d1] u))).cell? ⟨w.heap.size, 3, none⟩ = some c3 ∧
    (World.drew ((w.alloc (.cells #[c0, c1, c2, c3] t)).alloc (.cells #[d0, d1] u))).cell? ⟨w.heap.size + 1, 0, none⟩ = some d0 ∧
    (World.drew ((w.alloc (.cells #[c0, c1, c2, c3] t)).alloc (.cells #[d0, d1] u))).cell? ⟨w.heap.size + 1, 1, none⟩ = some d1 ∧
    Kp w (World.drew ((w.alloc (.cells #[c0, c1, c2, c3] t)).alloc (.cells #[d0, d1] u))) := by
  have hk : Kp ((w.alloc (.cells #[c0, c1, c2, c3] t)).alloc (.cells #[d0, d1] u)) (World.drew ((w.alloc (.cells #[c0, c1, c2, c3] t)).alloc (.cells #[d0, d1] u))) := kpD
  obtain ⟨h0, h1⟩ := twoBox hk
  exact ⟨cellOf h0 rfl, cellOf h0 rfl, cellOf h0 rfl, cellOf h0 rfl, cellOf h1 rfl, cellOf h1 rfl, kk (kk (ka _ _) (ka _ _)) hk⟩

theorem twoBoxVT {w w1 : World} {c0 c1 c2 c3 d0 d1 : Value} {t u : Nat} (hk : Kp ((w.alloc (.cells #[c0, c1, c2, c3] t)).alloc (.cells #[d0, d1] u)) w1) :
    w1.cell? ⟨w.heap.size, 0, none⟩ = some c0 ∧ w1.cell? ⟨w.heap.size, 1, none⟩ = some c1 ∧ w1.cell? ⟨w.heap.size, 2, none⟩ = some c2 ∧ w1.cell? ⟨w.heap.size, 3, none⟩ = some c3 ∧ w1.cell? ⟨w.heap.size + 1, 0, none⟩ = some d0 ∧ w1.cell? ⟨w.heap.size + 1, 1, none⟩ = some d1 := by
  obtain ⟨h0, h1⟩ := twoBox hk
  exact ⟨cellOf h0 rfl, cellOf h0 rfl, cellOf h0 rfl, cellOf h0 rfl, cellOf h1 rfl, cellOf h1 rfl⟩

set_option maxRecDepth 100000 in
set_option maxHeartbeats 8000000 in
theorem fits_sum_k (k n : Int) (s : ByteArray) (a : Option Addr) (len cap : Nat) (ta : Option Addr) (tlen tcap : Nat) (w : World) (h : k ≠ 3) :
    Calls Tryz.prog 62 #[.agg #[.int .i64 k, .int .i64 n, .string s, .slice a len cap], .agg #[.int .i64 3, .slice ta tlen tcap]] w fun e w' => e = .returned (.bool false) ∧ Kp w w' := by
  have g : (k == 3) = false := by rw [beq_eq_false_iff_ne]; exact h
  clear h
  go_enter Tryz.func62, Tryz.ntmps62
  go_wp2_with fail
  go_quiet (fail)
  go_wp2_with fail
  go_ret
  exact ⟨rfl, kk (kk (ka _ _) (ka _ _)) kpDN⟩

set_option maxRecDepth 100000 in
set_option maxHeartbeats 8000000 in
theorem fits_sum_n (n : Int) (s : ByteArray) (a : Option Addr) (len cap : Nat) (ta : Option Addr) (tlen tcap : Nat) (w : World) (h : (tlen : Int) ≤ n) :
    Calls Tryz.prog 62 #[.agg #[.int .i64 3, .int .i64 n, .string s, .slice a len cap], .agg #[.int .i64 3, .slice ta tlen tcap]] w fun e w' => e = .returned (.bool false) ∧ Kp w w' := by
  have g : decide (n < (tlen : Int)) = false := by simp; omega
  clear h
  go_enter Tryz.func62, Tryz.ntmps62
  go_wp2_with fail
  go_quiet (fail)
  go_wp2_with fail
  go_ret
  exact ⟨rfl, kk (kk (ka _ _) (ka _ _)) kpDN⟩

set_option maxRecDepth 100000 in
set_option maxHeartbeats 8000000 in
theorem fits_sum_y (n : Nat) (s : ByteArray) (a : Option Addr) (cap : Nat) (x : V) (ta : Option Addr) (tcap : Nat) (tl : List T) (u : T) (w : World) (hn : n < tl.length) (hu : tl[n]? = some u)
    (hin : (V.mk 3 n s a cap [x]).In w w.heap.size) (hin' : (T.mk 3 ta tcap tl).In w w.heap.size)
    (ih : ∀ w1 : World, x.In w1 w1.heap.size → u.In w1 w1.heap.size → Calls Tryz.prog 62 #[.agg #[.int .i64 x.k, .int .i64 x.n, .string x.s, .slice x.a x.l.length x.cap], .agg #[.int .i64 u.k, .slice u.a u.l.length u.cap]] w1 fun e w' => e = .returned (.bool (x.is u)) ∧ Kp w1 w') :
    Calls Tryz.prog 62 #[.agg #[.int .i64 3, .int .i64 (n : Int), .string s, .slice a 1 cap], .agg #[.int .i64 3, .slice ta tl.length tcap]] w fun e w' => e = .returned (.bool (x.is u)) ∧ Kp w w' := by
  have hlen := T.lenLe hin'
  have g : decide ((n : Int) < (tl.length : Int)) = true := by simp; omega
  have g0 : (0 : Int) ≤ (n : Int) := by omega
  have g1 : (n : Int) < (tl.length : Int) := by omega
  obtain ⟨p0, off, rfl, hp0, q0, q1, q2, q3, hxin⟩ := V.atPart hin (j := 0) (x := x) rfl
  obtain ⟨p1, off1, rfl, hp1, s0, s1, huin⟩ := T.atPart hin' hu
  simp only [Nat.zero_mul, Nat.add_zero] at q0 q1 q2 q3
  generalize x.is u = bx at ih ⊢
  have IH := Lib.hid ih
  clear ih
  go_enter Tryz.func62, Tryz.ntmps62
  go_wp2_with fail
  obtain ⟨c0, c1, c2, c3, d0, d1⟩ := twoBoxVT (w := w) (w1 := (w.alloc (.cells #[.int .i64 3, .int .i64 (n : Int), .string s, .slice (some ⟨p0, off, none⟩) 1 cap] 24)).alloc (.cells #[.int .i64 3, .slice (some ⟨p1, off1, none⟩) tl.length tcap] 27)) (Below.refl _ _)
  have hk : Kp w ((w.alloc (.cells #[.int .i64 3, .int .i64 (n : Int), .string s, .slice (some ⟨p0, off, none⟩) 1 cap] 24)).alloc (.cells #[.int .i64 3, .slice (some ⟨p1, off1, none⟩) tl.length tcap] 27)) := kk (ka _ _) (ka _ _)
  generalize (w.alloc (.cells #[.int .i64 3, .int .i64 (n : Int), .string s, .slice (some ⟨p0, off, none⟩) 1 cap] 24)).alloc (.cells #[.int .i64 3, .slice (some ⟨p1, off1, none⟩) tl.length tcap] 27) = W at *
  have r0 := kc hk q0
  have r1 := kc hk q1
  have r2 := kc hk q2
  have r3 := kc hk q3
  have t0 := kc hk s0
  have t1 := kc hk s1
  have hih := fun (w1 : World) (h : Kp W w1) => IH.out w1 (hxin.keep (kk hk h).size (kk hk h)) (huin.keep (kk hk h).size (kk hk h))
  have HK := Lib.hid hk
  generalize x.k = xk at *
  generalize x.n = xn at *
  generalize x.s = xs at *
  generalize x.a = xa at *
  generalize x.l.length = xl at *
  generalize x.cap = xc at *
  generalize u.k = yk at *
  generalize u.a = ya at *
  generalize u.l.length = yl at *
  generalize u.cap = yc at *
  have HIH := Lib.hid hih
  clear hk hih hin hin' hxin huin hu q0 q1 q2 q3 s0 s1 hp0 hp1 IH c2 d0
  go_region_held3 (fun w' => w'.cell? ⟨w.heap.size, 0, none⟩ = some (.int .i64 3) ∧ w'.cell? ⟨w.heap.size, 1, none⟩ = some (.int .i64 (n : Int)) ∧ w'.cell? ⟨w.heap.size, 3, none⟩ = some (.slice (some ⟨p0, off, none⟩) 1 cap) ∧ w'.cell? ⟨w.heap.size + 1, 1, none⟩ = some (.slice (some ⟨p1, off1, none⟩) tl.length tcap) ∧
      w'.cell? ⟨p0, off, none⟩ = some (.int .i64 xk) ∧ w'.cell? ⟨p0, off + 1, none⟩ = some (.int .i64 xn) ∧ w'.cell? ⟨p0, off + 2, none⟩ = some (.string xs) ∧ w'.cell? ⟨p0, off + 3, none⟩ = some (.slice xa xl xc) ∧ w'.cell? ⟨p1, off1 + n * 2, none⟩ = some (.int .i64 yk) ∧ w'.cell? ⟨p1, off1 + n * 2 + 1, none⟩ = some (.slice ya yl yc))
    (first | go_keep | (go_split_ands; refine ⟨?_, ?_, ?_, ?_, ?_, ?_, ?_, ?_, ?_, ?_⟩ <;> exact kc hk3 (by assumption)))
    (first | (go_at_call 62; refine (HIH.out _ kpD).mono ?_; rintro e w3 ⟨rfl, hk3⟩))
  go_wp2_with fail
  go_ret
  exact ⟨by simp, kk HK.out (kk kpD (by assumption))⟩

set_option maxRecDepth 100000 in
set_option maxHeartbeats 4000000 in
theorem fits_leaf (k n : Int) (s : ByteArray) (a : Option Addr) (len cap : Nat) (tk : Int) (ta : Option Addr) (tlen tcap : Nat) (w : World) (h : tk = 0 ∨ tk = 1) :
    Calls Tryz.prog 62 #[.agg #[.int .i64 k, .int .i64 n, .string s, .slice a len cap], .agg #[.int .i64 tk, .slice ta tlen tcap]] w fun e w' => e = .returned (.bool (decide (k = tk))) ∧ Kp w w' := by
  by_cases hk : k = tk
  · subst hk
    rcases h with rfl | rfl
    all_goals
      go_enter Tryz.func62, Tryz.ntmps62
      go_wp2_with fail
      go_ret
      exact ⟨rfl, kk (ka _ _) (ka _ _)⟩
  · have hd : decide (k = tk) = false := by simpa using hk
    rw [hd]
    rcases h with rfl | rfl
    · have g : (k == 0) = false := by rw [beq_eq_false_iff_ne]; exact hk
      clear hk hd
      go_enter Tryz.func62, Tryz.ntmps62
      go_wp2_with fail
      go_ret
      exact ⟨rfl, kk (ka _ _) (ka _ _)⟩
    · have g : (k == 1) = false := by rw [beq_eq_false_iff_ne]; exact hk
      clear hk hd
      go_enter Tryz.func62, Tryz.ntmps62
      go_wp2_with fail
      go_ret
      exact ⟨rfl, kk (ka _ _) (ka _ _)⟩

/-- What is known of a tuple of which j parts have been looked at. -/
def IsUpto (n : Int) (t : T) (l : List V) (j : Nat) (c : Bool) : Prop := if c then V.isL 2 n t (l.drop j) j = V.isL 2 n t l 0 else V.isL 2 n t l 0 = false

theorem IsUpto.step {n : Int} {t : T} {l : List V} {j : Nat} {x : V} {u : T} (h : IsUpto n t l j true) (hx : l[j]? = some x) (hu : t.l[j]? = some u) : IsUpto n t l (j + 1) (x.is u) := by
  have hlt := (List.getElem?_eq_some_iff.1 hx).1
  have hd : l.drop j = x :: l.drop (j + 1) := by
    rw [List.drop_eq_getElem_cons hlt]
    congr 1
    exact (List.getElem?_eq_some_iff.1 hx).2
  have h1 : V.isL 2 n t (l.drop j) j = V.isL 2 n t l 0 := by simpa [IsUpto] using h
  rw [hd] at h1
  simp [V.isL, hu] at h1
  unfold IsUpto
  cases hb : x.is u with
  | true => rw [hb] at h1; simpa using h1
  | false => rw [hb] at h1; simpa using h1.symm
theorem IsUpto.done {n : Int} {t : T} {l : List V} {j : Nat} (h : IsUpto n t l j true) (hj : j = l.length) : V.isL 2 n t l 0 = true := by
  have h1 : V.isL 2 n t (l.drop j) j = V.isL 2 n t l 0 := by simpa [IsUpto] using h
  rw [← h1, hj, List.drop_of_length_le (Nat.le_refl _)]; simp [V.isL]
theorem IsUpto.no {n : Int} {t : T} {l : List V} {j : Nat} (h : IsUpto n t l j false) : V.isL 2 n t l 0 = false := by simpa [IsUpto] using h

set_option maxRecDepth 100000 in
set_option maxHeartbeats 4000000 in
theorem fits_tuple_no (k n : Int) (s : ByteArray) (a : Option Addr) (len cap : Nat) (ta : Option Addr) (tlen tcap : Nat) (w : World) (h : k ≠ 2 ∨ (k = 2 ∧ len ≠ tlen)) :
    Calls Tryz.prog 62 #[.agg #[.int .i64 k, .int .i64 n, .string s, .slice a len cap], .agg #[.int .i64 2, .slice ta tlen tcap]] w fun e w' => e = .returned (.bool false) ∧ Kp w w' := by
  rcases h with h | ⟨rfl, h⟩
  · have g : (k == 2) = false := by rw [beq_eq_false_iff_ne]; exact h
    clear h
    go_enter Tryz.func62, Tryz.ntmps62
    go_wp2_with fail
    refine wp_loop_rounds (0 + 1) ?_
    rw [rounds_succ]
    go_wp2_with fail
    go_ret
    exact ⟨rfl, kk (ka _ _) (ka _ _)⟩
  · have g : ((len : Int) == (tlen : Int)) = false := by rw [beq_eq_false_iff_ne]; omega
    clear h
    go_enter Tryz.func62, Tryz.ntmps62
    go_wp2_with fail
    refine wp_loop_rounds (0 + 1) ?_
    rw [rounds_succ]
    go_wp2_with fail
    go_ret
    exact ⟨rfl, kk (ka _ _) (ka _ _)⟩

set_option maxRecDepth 100000 in
set_option maxHeartbeats 8000000 in
theorem fits_tuple (n : Int) (s : ByteArray) (a : Option Addr) (cap : Nat) (l : List V) (ta : Option Addr) (tcap : Nat) (tl : List T) (w : World) (he : l.length = tl.length)
    (hin : (V.mk 2 n s a cap l).In w w.heap.size) (hin' : (T.mk 2 ta tcap tl).In w w.heap.size)
    (ih : ∀ (j : Nat) (x : V) (u : T), l[j]? = some x → tl[j]? = some u → ∀ w1 : World, x.In w1 w1.heap.size → u.In w1 w1.heap.size → Calls Tryz.prog 62 #[.agg #[.int .i64 x.k, .int .i64 x.n, .string x.s, .slice x.a x.l.length x.cap], .agg #[.int .i64 u.k, .slice u.a u.l.length u.cap]] w1 fun e w' => e = .returned (.bool (x.is u)) ∧ Kp w1 w') :
    Calls Tryz.prog 62 #[.agg #[.int .i64 2, .int .i64 n, .string s, .slice a l.length cap], .agg #[.int .i64 2, .slice ta tl.length tcap]] w fun e w' => e = .returned (.bool (V.isL 2 n (.mk 2 ta tcap tl) l 0)) ∧ Kp w w' := by
  have hlen := V.lenLe hin
  have hlen' := T.lenLe hin'
  have g : ((l.length : Int) == (tl.length : Int)) = true := by rw [beq_iff_eq]; omega
  have IH := Lib.hid ih
  have HIN := Lib.hid hin
  have HIN' := Lib.hid hin'
  have HE := Lib.hid he
  clear ih hin hin' he
  go_enter Tryz.func62, Tryz.ntmps62
  go_wp2_with fail
  clear g
  go_loopw [5, 6] (fun b i wr => ∃ (j : Nat) (c : Bool), j ≤ l.length ∧ i = .int .i64 j ∧ b = .bool c ∧ IsUpto n (.mk 2 ta tcap tl) l j c ∧ Kp ((w.alloc (.cells #[.int .i64 2, .int .i64 n, .string s, .slice a l.length cap] 24)).alloc (.cells #[.int .i64 2, .slice ta tl.length tcap] 27)) wr) (fun _ i _ => l.length - (intOf i).toNat)
  case atStart => exact ⟨0, true, Nat.zero_le _, rfl, rfl, by simp [IsUpto], Below.refl _ _⟩
  case round =>
    obtain ⟨j, c, hj, rfl, rfl, hu, hk⟩ := hrel
    obtain ⟨bx, by_⟩ := twoBox hk
    have c3 : wr.cell? ⟨w.heap.size, 3, none⟩ = some (.slice a l.length cap) := cellOf bx rfl
    have d1 : wr.cell? ⟨w.heap.size + 1, 1, none⟩ = some (.slice ta tl.length tcap) := cellOf by_ rfl
    have hkw := kk (kk (ka _ _) (ka _ _)) hk
    clear bx by_
    cases c with
    | true =>
      by_cases h1 : j < l.length
      · have h2 : j < tl.length := by have := HE.out; omega
        obtain ⟨x, hx⟩ : ∃ x, l[j]? = some x := ⟨l[j], by simp [h1]⟩
        obtain ⟨y, hy⟩ : ∃ y, tl[j]? = some y := ⟨tl[j], by simp [h2]⟩
        obtain ⟨p0, off, rfl, hp0, q0, q1, q2, q3, hxin⟩ := V.atPart HIN.out hx
        obtain ⟨p1, off1, rfl, hp1, s0, s1, hyin⟩ := T.atPart HIN'.out hy
        have kd := kk hkw (kpD (w := wr))
        have r0 := kc kd q0
        have r1 := kc kd q1
        have r2 := kc kd q2
        have r3 := kc kd q3
        have t0 := kc kd s0
        have t1 := kc kd s1
        have e3 := kc kpD c3
        have f1 := kc kpD d1
        have g0 : (0 : Int) ≤ (j : Int) := by omega
        have g1 : (j : Int) < (l.length : Int) := by omega
        have g2 : (j : Int) < (tl.length : Int) := by omega
        have hih := IH.out j x y hx hy wr.drew (hxin.keep kd.size kd) (hyin.keep kd.size kd)
        have HST := Lib.hid (hu.step hx hy)
        have HK := Lib.hid hk
        generalize x.is y = q at hih HST
        generalize x.k = xk at *
        generalize x.n = xn at *
        generalize x.s = xs at *
        generalize x.a = xa at *
        generalize x.l.length = xl at *
        generalize x.cap = xc at *
        generalize y.k = yk at *
        generalize y.a = ya at *
        generalize y.l.length = yl at *
        generalize y.cap = yc at *
        have HIH := Lib.hid hih
        clear hih hk hkw hu hx hy hxin hyin q0 q1 q2 q3 s0 s1
        go_wp2_with fail
        refine wp_region_still_tail 10 (by kernel_rfl) (by kernel_rfl) ?_
        change wpStill _ _ (World.drew wr) (fun a' => wpList _ _ _ _ a' (World.drew wr)) _ _
        have HD := Lib.hid (kpD (w := wr))
        generalize World.drew wr = w2 at *
        simp only [List.take_succ_cons, List.take_zero, List.drop_succ_cons, List.drop_zero]
        repeat still_step
        refine wpStill_nil ?_
        clear r0 r1 r2 r3 t0 t1 e3 f1 kd
        go_wp2_with fail
        refine HIH.out.mono ?_
        rintro e w3 ⟨rfl, hk3⟩
        have HK3 := Lib.hid (HK.out.trans ((kk HD.out hk3).mono HK.out.size))
        clear hk3
        go_wp2_with fail
        go_roundw
        case rel => exact ⟨j + 1, q, by omega, by first | go_num | simp, rfl, HST.out, HK3.out⟩
        case measure => simp [intOf]; omega
      · have hjj : j = l.length := by omega
        have HR := Lib.hid (hu.done hjj)
        subst hjj
        have HK := Lib.hid hkw
        clear hk hkw hu
        go_wp2_with fail
        go_ret
        exact ⟨by rw [HR.out] <;> rfl, HK.out⟩
    | false =>
      have HR := Lib.hid hu.no
      have HK := Lib.hid hkw
      clear hk hkw hu
      go_wp2_with fail
      go_ret
      exact ⟨by rw [HR.out] <;> rfl, HK.out⟩

theorem shLT_at {l : List T} {d j : Nat} {x : T} (h : T.shL l d = true) (hx : l[j]? = some x) : x.sh d = true := by
  induction l generalizing j with
  | nil => simp at hx
  | cons y ys ih =>
    simp only [T.shL, Bool.and_eq_true] at h
    cases j with
    | zero => simp at hx; exact hx ▸ h.1
    | succ j => exact ih h.2 (by simpa using hx)

theorem isL_nil (k n : Int) (t : T) (i : Nat) : V.isL k n t [] i = true := by simp [V.isL]

set_option maxHeartbeats 2000000 in
theorem fits_ref : ∀ (N : Nat) (x : V) (t : T) (d d' : Nat) (w : World), x.rank ≤ N → x.sh d = true → t.sh d' = true → x.In w w.heap.size → t.In w w.heap.size →
    Calls Tryz.prog 62 #[.agg #[.int .i64 x.k, .int .i64 x.n, .string x.s, .slice x.a x.l.length x.cap], .agg #[.int .i64 t.k, .slice t.a t.l.length t.cap]] w fun e w' => e = .returned (.bool (x.is t)) ∧ Kp w w' := by
  intro N
  induction N with
  | zero => intro x t d d' w h; have := x.rank_pos; omega
  | succ N ih =>
    intro x t d d' w hN hx ht hin hin'
    cases x with
    | mk k n s a cap l =>
    cases t with
    | mk tk ta tcap tl =>
    cases d with
    | zero => simp [V.sh] at hx
    | succ d =>
    cases d' with
    | zero => simp [T.sh] at ht
    | succ d' =>
    simp [V.sh] at hx
    simp [T.sh] at ht
    obtain ⟨hf, hp⟩ := hx
    obtain ⟨hf', hp'⟩ := ht
    have hlen := V.lenLe hin
    have hlen' := T.lenLe hin'
    have hgood := fits_good hf
    show Calls Tryz.prog 62 #[.agg #[.int .i64 k, .int .i64 n, .string s, .slice a l.length cap], .agg #[.int .i64 tk, .slice ta tl.length tcap]] w _
    have his : (V.mk k n s a cap l).is (.mk tk ta tcap tl) = (okB k n l.length tk tl.length && V.isL k n (.mk tk ta tcap tl) l 0) := by simp [V.is, T.k, T.l]
    rw [his]
    by_cases h3 : tk = 3
    · subst h3
      by_cases hk : k = 3
      · subst hk
        have hn0 := hgood.1 rfl
        obtain ⟨m, rfl⟩ := Int.eq_ofNat_of_zero_le hn0
        by_cases hm : m < tl.length
        · have hl1 : l.length = 1 := by simp [fitsB, taggedB] at hf; omega
          obtain ⟨x, rfl⟩ : ∃ x, l = [x] := by
            match l, hl1 with
            | [x], _ => exact ⟨x, rfl⟩
          obtain ⟨u, hu⟩ : ∃ u, tl[m]? = some u := ⟨tl[m], by simp [hm]⟩
          have hval : (okB 3 (m : Int) 1 3 tl.length && V.isL 3 (m : Int) (.mk 3 ta tcap tl) [x] 0) = x.is u := by
            simp [okB, kindI, V.isL, T.l, hu]
            omega
          rw [show ([x] : List V).length = 1 from rfl, hval]
          exact fits_sum_y m s a cap x ta tcap tl u w hm hu hin hin' (fun w1 h1 h2 => ih x u d d' w1 (by have := V.rank_part (v := .mk 3 m s a cap [x]) (j := 0) (x := x) rfl; omega) (shL_at hp (j := 0) rfl) (shLT_at hp' hu) h1 h2)
        · have hval : okB 3 (m : Int) l.length 3 tl.length = false := by simp [okB]; omega
          rw [hval, Bool.false_and]
          exact fits_sum_n m s a l.length cap ta tl.length tcap w (by omega)
      · have hval : okB k n l.length 3 tl.length = false := by simp [okB, kindI, hk]
        rw [hval, Bool.false_and]
        exact fits_sum_k k n s a l.length cap ta tl.length tcap w hk
    by_cases h2 : tk = 2
    · subst h2
      by_cases hk : k = 2
      · subst hk
        by_cases he : l.length = tl.length
        · have hval : okB 2 n l.length 2 tl.length = true := by simp [okB, kindI, he]
          rw [hval, Bool.true_and]
          exact fits_tuple n s a cap l ta tcap tl w he hin hin' (fun j x u hx hu w1 h1 h2 => ih x u d d' w1 (by have := V.rank_part (v := .mk 2 n s a cap l) (j := j) (x := x) hx; omega) (shL_at hp hx) (shLT_at hp' hu) h1 h2)
        · have hval : okB 2 n l.length 2 tl.length = false := by simp [okB, kindI, he]
          rw [hval, Bool.false_and]
          exact fits_tuple_no 2 n s a l.length cap ta tl.length tcap w (.inr ⟨rfl, he⟩)
      · have hval : okB k n l.length 2 tl.length = false := by simp [okB, kindI, hk]
        rw [hval, Bool.false_and]
        exact fits_tuple_no k n s a l.length cap ta tl.length tcap w (.inl hk)
    have h01 : tk = 0 ∨ tk = 1 := by
      simp [fitsT, h2, h3] at hf'
      exact hf'.1
    have hkk : kindI tk = tk := by rcases h01 with rfl | rfl <;> rfl
    have hval : (okB k n l.length tk tl.length && V.isL k n (.mk tk ta tcap tl) l 0) = decide (k = tk) := by
      by_cases hk : k = tk
      · have hl : l = [] := hgood.2 (by omega) (by omega)
        subst hl
        simp [okB, hkk, hk, isL_nil]
        omega
      · simp [okB, hkk, hk]
    rw [hval]
    exact fits_leaf k n s a l.length cap tk ta tl.length tcap w h01

set_option maxRecDepth 100000 in
set_option maxHeartbeats 4000000 in
theorem isR_no (k n : Int) (s : ByteArray) (a : Option Addr) (cap : Nat) (l : List V) (tk : Int) (ta : Option Addr) (tcap : Nat) (tl : List T) (w : World) (hin : (V.mk k n s a cap l).In w w.heap.size) (h : (V.mk k n s a cap l).valid = false) :
    Calls Tryz.prog 22 #[.agg #[.int .i64 k, .int .i64 n, .string s, .slice a l.length cap], .agg #[.int .i64 tk, .slice ta tl.length tcap]] w fun e w' => e = .returned (.bool false) ∧ Kp w w' := by
  have C := fun (w1 : World) (h : Kp w w1) => valid_ref k n s a cap l w1 (hin.keep h.size h)
  rw [h] at C
  have HC := Lib.hid C
  clear C hin h
  go_enter Tryz.func22, Tryz.ntmps22
  go_wp2_with fail
  refine (HC.out _ (kk (ka _ _) (ka _ _))).mono ?_
  rintro e w1 ⟨rfl, hk⟩
  have HK := Lib.hid (kk (kk (ka _ _) (ka _ _)) hk)
  clear hk
  go_wp2_with fail
  go_ret
  exact ⟨rfl, HK.out⟩

set_option maxRecDepth 100000 in
set_option maxHeartbeats 4000000 in
theorem isR_type (k n : Int) (s : ByteArray) (a : Option Addr) (cap : Nat) (l : List V) (tk : Int) (ta : Option Addr) (tcap : Nat) (tl : List T) (w : World) (hin : (V.mk k n s a cap l).In w w.heap.size) (hin' : (T.mk tk ta tcap tl).In w w.heap.size)
    (h : (V.mk k n s a cap l).valid = true) (h' : (T.mk tk ta tcap tl).valid = false) :
    Calls Tryz.prog 22 #[.agg #[.int .i64 k, .int .i64 n, .string s, .slice a l.length cap], .agg #[.int .i64 tk, .slice ta tl.length tcap]] w fun e w' => e = .returned (.bool false) ∧ Kp w w' := by
  have C := fun (w1 : World) (h : Kp w w1) => valid_ref k n s a cap l w1 (hin.keep h.size h)
  rw [h] at C
  have HC := Lib.hid C
  have C' := fun (w1 : World) (h : Kp w w1) => validT_ref tk ta tcap tl w1 (hin'.keep h.size h)
  rw [h'] at C'
  have HC' := Lib.hid C'
  clear C C' hin hin' h h'
  go_enter Tryz.func22, Tryz.ntmps22
  go_wp2_with fail
  refine (HC.out _ (kk (ka _ _) (ka _ _))).mono ?_
  rintro e w1 ⟨rfl, hk⟩
  obtain ⟨c0, c1, c2, c3, d0, d1⟩ := twoBoxVT hk
  have HK := Lib.hid (kk (kk (ka _ _) (ka _ _)) hk)
  clear hk
  go_wp2_with fail
  refine (HC'.out _ HK.out).mono ?_
  rintro e w2 ⟨rfl, hk⟩
  have HK2 := Lib.hid (kk HK.out hk)
  clear hk
  go_wp2_with fail
  go_ret
  exact ⟨rfl, HK2.out⟩

set_option maxRecDepth 100000 in
set_option maxHeartbeats 4000000 in
theorem isR_yes (k n : Int) (s : ByteArray) (a : Option Addr) (cap : Nat) (l : List V) (tk : Int) (ta : Option Addr) (tcap : Nat) (tl : List T) (w : World) (hin : (V.mk k n s a cap l).In w w.heap.size) (hin' : (T.mk tk ta tcap tl).In w w.heap.size)
    (h : (V.mk k n s a cap l).valid = true) (h' : (T.mk tk ta tcap tl).valid = true) :
    Calls Tryz.prog 22 #[.agg #[.int .i64 k, .int .i64 n, .string s, .slice a l.length cap], .agg #[.int .i64 tk, .slice ta tl.length tcap]] w fun e w' => e = .returned (.bool ((V.mk k n s a cap l).is (.mk tk ta tcap tl))) ∧ Kp w w' := by
  have hsx : (V.mk k n s a cap l).sh 6 = true := by simp [V.valid] at h; exact h.1
  have hst : (T.mk tk ta tcap tl).sh 6 = true := by simp [T.valid] at h'; exact h'.1
  have O := fun (w1 : World) (h : Kp w w1) => fits_ref _ (V.mk k n s a cap l) (T.mk tk ta tcap tl) 6 6 w1 (Nat.le_refl _) hsx hst (hin.keep h.size h) (hin'.keep h.size h)
  dsimp only [V.k, V.n, V.s, V.a, V.l, V.cap, T.k, T.a, T.l, T.cap] at O
  have C := fun (w1 : World) (h : Kp w w1) => valid_ref k n s a cap l w1 (hin.keep h.size h)
  rw [h] at C
  have HC := Lib.hid C
  have C' := fun (w1 : World) (h : Kp w w1) => validT_ref tk ta tcap tl w1 (hin'.keep h.size h)
  rw [h'] at C'
  have HC' := Lib.hid C'
  generalize (V.mk k n s a cap l).is (T.mk tk ta tcap tl) = o at O ⊢
  have HO := Lib.hid O
  clear C C' O hin hin' h h' hsx hst
  go_enter Tryz.func22, Tryz.ntmps22
  go_wp2_with fail
  refine (HC.out _ (kk (ka _ _) (ka _ _))).mono ?_
  rintro e w1 ⟨rfl, hk⟩
  obtain ⟨c0, c1, c2, c3, d0, d1⟩ := twoBoxVT hk
  have HK := Lib.hid (kk (kk (ka _ _) (ka _ _)) hk)
  clear hk
  go_wp2_with fail
  refine (HC'.out _ HK.out).mono ?_
  rintro e w2 ⟨rfl, hk⟩
  have HK2 := Lib.hid (kk HK.out hk)
  have e0 := kc hk c0
  have e1 := kc hk c1
  have e2 := kc hk c2
  have e3 := kc hk c3
  have f0 := kc hk d0
  have f1 := kc hk d1
  clear hk c0 c1 c2 c3 d0 d1
  go_wp2_with fail
  refine (HO.out _ HK2.out).mono ?_
  rintro e w3 ⟨rfl, hk⟩
  have HK3 := Lib.hid (kk HK2.out hk)
  clear hk
  go_wp2_with fail
  go_ret
  exact ⟨rfl, HK3.out⟩

/-- What Is answers. -/
def isV (x : V) (t : T) : Bool := x.valid && (t.valid && x.is t)

theorem isR (k n : Int) (s : ByteArray) (a : Option Addr) (cap : Nat) (l : List V) (tk : Int) (ta : Option Addr) (tcap : Nat) (tl : List T) (w : World) (hin : (V.mk k n s a cap l).In w w.heap.size) (hin' : (T.mk tk ta tcap tl).In w w.heap.size) :
    Calls Tryz.prog 22 #[.agg #[.int .i64 k, .int .i64 n, .string s, .slice a l.length cap], .agg #[.int .i64 tk, .slice ta tl.length tcap]] w fun e w' => e = .returned (.bool (isV (V.mk k n s a cap l) (.mk tk ta tcap tl))) ∧ Kp w w' := by
  cases hv : (V.mk k n s a cap l).valid with
  | false => simpa [isV, hv] using isR_no k n s a cap l tk ta tcap tl w hin hv
  | true =>
    cases ht : (T.mk tk ta tcap tl).valid with
    | false => simpa [isV, hv, ht] using isR_type k n s a cap l tk ta tcap tl w hin hin' hv ht
    | true => simpa [isV, hv, ht] using isR_yes k n s a cap l tk ta tcap tl w hin hin' hv ht

theorem isVal_isV (x : V) (t : T) : isVal x t = isV x t := by
  unfold isVal isV
  rw [bad_valid, badT_valid]
  cases x.valid <;> cases t.valid <;> simp

end Go.Proofs.YtkofebafmjjljaaGreatDoor

/-
  THE PROGRAM's least, AT ANY VALID TYPE.
-/
namespace Go.Proofs.YtkofebafmjjljaaGreatDoor
open Go.RowKit

theorem infoV : (Tryz.prog.info? 24).map (fun i => (i.zero, i.size, i.bytes)) = some (some (.agg #[.int .i64 0, .int .i64 0, .string ⟨#[]⟩, .slice none 0 0]), 4, 56) := by kernel_rfl

theorem grown_kp {w w' : World} (h : w.grownBy w' none) : Kp w w' := by
  obtain ⟨h1, h2, h3, h4, h5⟩ := h
  exact ⟨h1, h2, h3, h4, fun k hk => h5 k hk (by simp)⟩

theorem inLeaf {w : World} {B : Nat} (k n : Int) (s : ByteArray) (hk : I64 k) (hn : I64 n) (hs : s.size ≤ maxLen) : (V.mk k n s none 0 []).In w B := by
  simp [V.In, V.InL, hk, hn, hs]

theorem leastP_int (w : World) (a : Option Addr) (l c : Nat) :
    Calls Tryz.prog 54 #[.agg #[.int .i64 0, .slice a l c]] w (Makes w (.mk 0 (-2147483648) ⟨#[]⟩ none 0 [])) :=
  (least_int w a l c).mono fun _ _ ⟨he, hk⟩ => ⟨.mk 0 (-2147483648) ⟨#[]⟩ none 0 [], he, inLeaf _ _ _ (by unfold I64; omega) (by unfold I64; omega) (by decide), V.foot_leaf _ _ _ _ _, V.same_refl _, hk⟩

theorem leastP_text (w : World) (a : Option Addr) (l c : Nat) :
    Calls Tryz.prog 54 #[.agg #[.int .i64 1, .slice a l c]] w (Makes w (.mk 1 0 ⟨#[]⟩ none 0 [])) :=
  (least_text w a l c).mono fun _ _ ⟨he, hk⟩ => ⟨.mk 1 0 ⟨#[]⟩ none 0 [], he, inLeaf _ _ _ (by unfold I64; omega) (by unfold I64; omega) (by decide), V.foot_leaf _ _ _ _ _, V.same_refl _, hk⟩

set_option maxRecDepth 100000 in
set_option maxHeartbeats 4000000 in
theorem leastP_sum (g off l c : Nat) (x : T) (w : World) (x1 : w.cell? ⟨g, off, none⟩ = some (.int .i64 x.k)) (x2 : w.cell? ⟨g, off + 1, none⟩ = some (.slice x.a x.l.length x.cap)) (hx : x.In w w.heap.size)
    (ih : ∀ w1 : World, x.In w1 w1.heap.size → Calls Tryz.prog 54 #[.agg #[.int .i64 x.k, .slice x.a x.l.length x.cap]] w1 (Makes w1 x.lst)) :
    Calls Tryz.prog 54 #[.agg #[.int .i64 3, .slice (some ⟨g, off, none⟩) (l + 1) c]] w (Makes w (.mk 3 0 ⟨#[]⟩ none 0 [x.lst])) := by
  have hg := World.block_lt_of_cell? w _ x1
  have C := fun w1 (h : Kp w w1) => ih w1 (hx.keep h.size h)
  generalize x.lst = y at C ⊢
  generalize x.k = xk at *
  generalize x.a = xa at *
  generalize x.l.length = xl at *
  generalize x.cap = xc at *
  have HC := Lib.hid C
  clear C ih hx
  go_enter Tryz.func54, Tryz.ntmps54
  go_wp2_with fail
  refine (HC.out _ (kk (ka _ _) (ka _ _))).mono ?_
  rintro e w1 ⟨z, rfl, hzi, hzf, hzs, hk1⟩
  have hz1 := hk1.size
  simp at hz1
  have hblk : w1.heap[w.heap.size + 1]? = some (.cells zero4 24 (0, 0)) := (hk1.block _ (by simp)).trans (blockHere (by simp))
  obtain ⟨c0, c1, c2, c3, f0, f1, f2, f3⟩ := cell4 hblk
  have HB := Lib.hid hblk
  have HK1 := Lib.hid (kk (kk (ka _ _) (ka _ _)) hk1)
  have hzf2 : z.foot (fun b => w.heap.size + 2 ≤ b) := V.foot.mono (fun b hb => by simp at hb; omega) z hzf
  have HZI := Lib.hid hzi
  have HZF := Lib.hid hzf2
  have HZS := Lib.hid hzs
  clear hk1 hblk hzi hzf hzf2 hzs
  cases z with
  | mk k n s a cap zl =>
  simp only [V.val_mk]
  go_wp2_with fail
  refine (together_one _ w1.heap.size 0 1 (.int .i64 k) (.int .i64 n) (.string s) (.slice a zl.length cap) (here rfl rfl) (here rfl rfl) (here rfl rfl) (here rfl rfl) (by simp [Value.oneCell'])).mono ?_
  rintro e w2 ⟨q, rfl, hq, hqb, hk2⟩
  simp at hq
  have hblk := ((kk (ka _ _) hk2).block _ (lt_of_block HB.out)).trans HB.out
  obtain ⟨d0, d1, d2, d3, g0, g1, g2, g3⟩ := cell4 hblk
  have HB2 := Lib.hid hblk
  have hk12 := kk (ka _ _) hk2
  have HK2 := Lib.hid (kk HK1.out hk12)
  have HQ := Lib.hid hqb
  have HZ2 := Lib.hid (HZI.out.keep hk12.size hk12)
  clear hk2 hk12 hblk hqb c0 c1 c2 c3 f0 f1 f2 f3
  go_wp2_with fail
  obtain ⟨e0, e1, e2, e3, -⟩ := cell4 (put4_block (v0 := .int .i64 3) (v1 := .int .i64 0) (v2 := .string ⟨#[]⟩) (v3 := .slice (some ⟨q, 0, none⟩) 1 1) HB2.out)
  refine bodyPost_ret (v := .agg #[.int .i64 3, .int .i64 0, .string ⟨#[]⟩, .slice (some ⟨q, 0, none⟩) 1 1]) (by simp [results, Tryz.results54, go_sem, e0, e1, e2, e3]) rfl ?_
  have hqs := lt_of_block HQ.out
  have hmv : ∀ b, b < w2.heap.size → w.heap.size + 2 ≤ b → (put4 w2 (w.heap.size + 1) (.int .i64 3) (.int .i64 0) (.string ⟨#[]⟩) (.slice (some ⟨q, 0, none⟩) 1 1)).heap[b]? = w2.heap[b]? := fun b _ hb => put4_other (by omega)
  have hS : (put4 w2 (w.heap.size + 1) (.int .i64 3) (.int .i64 0) (.string ⟨#[]⟩) (.slice (some ⟨q, 0, none⟩) 1 1)).heap.size = w2.heap.size := by simp [World.setCell]
  refine ⟨.mk 3 0 ⟨#[]⟩ (some ⟨q, 0, none⟩) 1 [.mk k n s a cap zl], rfl, ?_, ?_, ?_, put4_kp HK2.out (by omega)⟩
  · rw [hS]
    simp only [V.In, V.InL]
    refine ⟨by unfold I64; omega, by unfold I64; omega, by decide, Nat.le_refl _, by decide, .inr ⟨q, 0, rfl, hqs, ?_⟩, ?_, trivial⟩
    · exact At.of_block ((hmv q hqs (by omega)).trans HQ.out) rfl
    · exact V.In.move (Nat.le_refl _) hmv _ HZ2.out HZF.out
  · simp only [V.foot, V.footL]
    exact ⟨.inr ⟨q, 0, rfl, by omega⟩, V.foot.mono (fun b hb => by omega) _ HZF.out, trivial⟩
  · exact V.same_node (V.sameL_one HZS.out)

/-- A row of l.length values in block g, of which the first j have been stored: vs, the least values of l's first j types. -/
structure RowAt (w : World) (g : Nat) (l : List T) (j : Nat) (cs : Array Value) (vs : List V) : Prop where
  blk : w.heap[g]? = some (.cells cs 24 (0, 0))
  size : cs.size = l.length * 4
  take : cs.toList.take (j * 4) = cellsL vs
  same : V.sameL vs (T.lstL (l.take j)) = true
  hin : V.InL w w.heap.size vs
  foot : V.footL (fun b => g < b) vs

/-- Four cells of a row turned. -/
theorem take_put4 {cs : Array Value} {j n : Nat} {v0 v1 v2 v3 : Value} (hs : cs.size = n * 4) (hj : j < n) :
    ((((cs.setIfInBounds (j * 4) v0).setIfInBounds (j * 4 + 1) v1).setIfInBounds (j * 4 + 2) v2).setIfInBounds (j * 4 + 3) v3).toList.take ((j + 1) * 4) = cs.toList.take (j * 4) ++ [v0, v1, v2, v3] := by
  apply List.ext_getElem?
  intro i
  simp only [Array.toList_setIfInBounds, List.getElem?_take, List.getElem?_set, List.getElem?_append, List.length_take, Array.length_toList, List.length_set]
  have hmin : min (j * 4) cs.size = j * 4 := by omega
  rw [hmin]
  by_cases h0 : i < j * 4
  · have h1 : i < (j + 1) * 4 := by omega
    simp [h0, h1, show ¬ j * 4 + 3 = i from by omega, show ¬ j * 4 + 2 = i from by omega, show ¬ j * 4 + 1 = i from by omega, show ¬ j * 4 = i from by omega]
  · by_cases h1 : i < (j + 1) * 4
    · obtain ⟨r, hr, hr4⟩ : ∃ r, i = j * 4 + r ∧ r < 4 := ⟨i - j * 4, by omega, by omega⟩
      subst hr
      have : r = 0 ∨ r = 1 ∨ r = 2 ∨ r = 3 := by omega
      rcases this with rfl | rfl | rfl | rfl
      · simp [show (0 : Nat) < 4 from by omega, show j * 4 < (j + 1) * 4 from by omega, show j * 4 < cs.size from by omega]
      · simp [h1, show j * 4 + 1 < cs.size from by omega]
        intro h; omega
      · simp [h1, show j * 4 + 2 < cs.size from by omega]
        intro h; omega
      · simp [h1, show j * 4 + 3 < cs.size from by omega]
        intro h; omega
    · simp [h0, h1]
      omega

theorem RowAt.step {w w2 : World} {g j : Nat} {l : List T} {cs : Array Value} {vs : List V} {z y : V} (h : RowAt w g l j cs vs) (hj : j < l.length) (hg : g < w.heap.size) (hk : Kp w w2) (hz : z.In w2 w2.heap.size)
    (hf : z.foot (fun b => w.heap.size ≤ b)) (hs : z.same y = true) (htk : T.lstL (l.take (j + 1)) = T.lstL (l.take j) ++ [y]) :
    RowAt (putAt w2 g (j * 4) (.int .i64 z.k) (.int .i64 z.n) (.string z.s) (.slice z.a z.l.length z.cap)) g l (j + 1)
      ((((cs.setIfInBounds (j * 4) (.int .i64 z.k)).setIfInBounds (j * 4 + 1) (.int .i64 z.n)).setIfInBounds (j * 4 + 2) (.string z.s)).setIfInBounds (j * 4 + 3) (.slice z.a z.l.length z.cap)) (vs ++ [z]) := by
  have hS : (putAt w2 g (j * 4) (.int .i64 z.k) (.int .i64 z.n) (.string z.s) (.slice z.a z.l.length z.cap)).heap.size = w2.heap.size := by simp [World.setCell]
  have hmv : ∀ b, b < w2.heap.size → g < b → (putAt w2 g (j * 4) (.int .i64 z.k) (.int .i64 z.n) (.string z.s) (.slice z.a z.l.length z.cap)).heap[b]? = w2.heap[b]? := fun b _ hb => putAt_other (by omega)
  refine ⟨putAt_block ((hk.block _ hg).trans h.blk), by simp [h.size], ?_, ?_, ?_, ?_⟩
  · rw [take_put4 h.size hj, h.take, cellsL_snoc]; rfl
  · rw [htk]; exact V.sameL_snoc h.same hs
  · rw [hS]
    exact V.InL_snoc (V.InL.move (Nat.le_refl _) hmv _ (h.hin.keep hk.size hk) h.foot) (V.In.move (Nat.le_refl _) hmv _ hz (V.foot.mono (fun b hb => by omega) _ hf))
  · exact V.footL_snoc h.foot (V.foot.mono (fun b hb => by omega) _ hf)

set_option maxRecDepth 100000 in
set_option maxHeartbeats 8000000 in
theorem leastP_tuple (a : Option Addr) (cap : Nat) (l : List T) (w : World) (hin : (T.mk 2 a cap l).In w w.heap.size) (hl8 : l.length ≤ 8)
    (ih : ∀ (j : Nat) (x : T), l[j]? = some x → ∀ w1 : World, x.In w1 w1.heap.size → Calls Tryz.prog 54 #[.agg #[.int .i64 x.k, .slice x.a x.l.length x.cap]] w1 (Makes w1 x.lst)) :
    Calls Tryz.prog 54 #[.agg #[.int .i64 2, .slice a l.length cap]] w (Makes w (.mk 2 0 ⟨#[]⟩ none 0 (T.lstL l))) := by
  obtain ⟨i0, hi, hz0, hz1, hz2⟩ := info_parts infoV
  have HIN := Lib.hid hin
  have IH := Lib.hid ih
  clear hin ih
  go_enter Tryz.func54, Tryz.ntmps54
  go_wp2_with (refine wpList_make_full _ rfl _ _ 22 rfl 0 24 i0 _ 4 Tryz.underlying22 hi hz0 hz1 .i64 .i64 _ _ l.length rfl rfl rfl rfl ?c1 ?c2 ?c3 ?_)
  case c1 => rw [hz2]; omega
  case c2 => unfold maxLen; omega
  case c3 => omega
  intro w1 hown hgrow
  obtain ⟨cs, hblk, hcs⟩ : ∃ cs : Array Value, w1.heap[w.heap.size + 1 + 1]? = some (.cells cs 24 (0, 0)) ∧ cs.size = l.length * 4 := by
    rcases hown.2 with ⟨h, -⟩ | ⟨g, cap', cur, hv, -, hg, -, -, hsz, -⟩
    · cases h
    · cases hv; exact ⟨cur, hg, hsz⟩
  have hk1 : Kp w w1 := kk (kk (ka _ _) (ka _ _)) (grown_kp hgrow)
  have hbox : w1.heap[w.heap.size]? = some (.cells #[.int .i64 2, .slice a l.length cap] 27 (0, 0)) := ((grown_kp hgrow).block _ (by simp; omega)).trans (blockPast (blockHere rfl))
  have hres : w1.heap[w.heap.size + 1]? = some (.cells zero4 24 (0, 0)) := ((grown_kp hgrow).block _ (by simp)).trans (blockHere (by simp))
  have hzw := lt_of_block hblk
  have b0 := cellOf (i := 0) hbox rfl
  have b1 := cellOf (i := 1) hbox rfl
  have HB := Lib.hid hblk
  have HBX := Lib.hid hbox
  have HRS := Lib.hid hres
  have HK1 := Lib.hid hk1
  have HCS := Lib.hid hcs
  clear hblk hbox hres hk1 hcs hown hgrow hz0 hz1 hz2 hi
  generalize hg : w.heap.size + 1 + 1 = g at *
  go_wp2_with fail
  go_loopw [20] (fun i wr => ∃ (j : Nat) (cs : Array Value) (vs : List V), j ≤ l.length ∧ i = .int .i64 j ∧ RowAt wr g l j cs vs ∧ Kp w wr ∧ wr.heap[w.heap.size]? = some (.cells #[.int .i64 2, .slice a l.length cap] 27 (0, 0)) ∧ wr.heap[w.heap.size + 1]? = some (.cells zero4 24 (0, 0))) (fun i _ => l.length - (intOf i).toNat)
  case atStart => exact ⟨0, cs, [], Nat.zero_le _, rfl, ⟨HB.out, HCS.out, by simp [cellsL], by simp [T.lstL, V.sameL], trivial, trivial⟩, HK1.out, HBX.out, HRS.out⟩
  case round =>
    obtain ⟨j, cs, vs, hj, rfl, hrow, hk, hbox, hres⟩ := hrel
    by_cases hlt : j < l.length
    · obtain ⟨x, hx⟩ : ∃ x, l[j]? = some x := ⟨l[j], by simp [hlt]⟩
      obtain ⟨p0, off, rfl, hp0, q0, q1, hxin⟩ := T.atPart HIN.out hx
      have r0 := kc hk q0
      have r1 := kc hk q1
      have g0 : (0 : Int) ≤ (j : Int) := by omega
      have g1 : (j : Int) < (l.length : Int) := by omega
      have hih := fun (w1 : World) (h : Kp wr w1) => IH.out j x hx w1 (hxin.keep (kk hk h).size (kk hk h))
      have htk := lstL_take l j x hx
      generalize x.lst = y at *
      generalize x.k = xk at *
      generalize x.a = xa at *
      generalize x.l.length = xl at *
      generalize x.cap = xc at *
      have HIH := Lib.hid hih
      have HTK := Lib.hid htk
      have HROW := Lib.hid hrow
      have HK := Lib.hid hk
      have HBX2 := Lib.hid hbox
      have HRS2 := Lib.hid hres
      clear hih htk hrow hk hbox hres hx hxin q0 q1
      go_wp2_with fail
      have hgl := lt_of_block HROW.out.blk
      have hsz := HROW.out.size
      refine (HIH.out _ (ka _ _)).mono ?_
      rintro e w2 ⟨z, rfl, hzi, hzf, hzs, hk2⟩
      have hk2' := kk (ka _ _) hk2
      have hst := HROW.out.step hlt hgl hk2' hzi (V.foot.mono (fun b hb => by simp at hb; omega) z hzf) hzs HTK.out
      have hb2 := (hk2'.block _ hgl).trans HROW.out.blk
      obtain ⟨u0, hu0⟩ : ∃ u, cs[j * 4]? = some u := ⟨cs[j * 4]'(by omega), by simp⟩
      obtain ⟨u1, hu1⟩ : ∃ u, cs[j * 4 + 1]? = some u := ⟨cs[j * 4 + 1]'(by omega), by simp⟩
      obtain ⟨u2, hu2⟩ : ∃ u, cs[j * 4 + 2]? = some u := ⟨cs[j * 4 + 2]'(by omega), by simp⟩
      obtain ⟨u3, hu3⟩ : ∃ u, cs[j * 4 + 3]? = some u := ⟨cs[j * 4 + 3]'(by omega), by simp⟩
      have m0 := cellOf hb2 hu0
      have m1 := cellOf hb2 hu1
      have m2 := cellOf hb2 hu2
      have m3 := cellOf hb2 hu3
      have n0 := freeOf (i := j * 4) hb2
      have n1 := freeOf (i := j * 4 + 1) hb2
      have n2 := freeOf (i := j * 4 + 2) hb2
      have n3 := freeOf (i := j * 4 + 3) hb2
      have HST := Lib.hid hst
      have HK2 := Lib.hid (kk HK.out hk2')
      have HBX3 := Lib.hid ((hk2'.block _ (lt_of_block HBX2.out)).trans HBX2.out)
      have HRS3 := Lib.hid ((hk2'.block _ (lt_of_block HRS2.out)).trans HRS2.out)
      clear hst hk2 hk2' hzi hzf hzs hb2 hu0 hu1 hu2 hu3 r0 r1
      cases z with
      | mk k n s za zc zl =>
      simp only [V.val_mk]
      go_wp2_with fail
      go_roundw
      case rel => exact ⟨j + 1, _, _, by omega, by first | go_num | simp, HST.out, putAt_kp HK2.out (by omega), (putAt_other (by omega)).trans HBX3.out, (putAt_other (by omega)).trans HRS3.out⟩
      case measure => simp [intOf]; omega
    · have hjj : j = l.length := by omega
      subst hjj
      obtain ⟨d0, d1, d2, d3, f0, f1, f2, f3⟩ := cell4 hres
      have HROW := Lib.hid hrow
      have HK := Lib.hid hk
      have HRS2 := Lib.hid hres
      clear hrow hk hbox hres
      go_wp2_with fail
      obtain ⟨e0, e1, e2, e3, -⟩ := cell4 (put4_block (v0 := .int .i64 2) (v1 := .int .i64 0) (v2 := .string ⟨#[]⟩) (v3 := .slice (some ⟨g, 0, none⟩) l.length l.length) HRS2.out)
      refine bodyPost_ret (v := .agg #[.int .i64 2, .int .i64 0, .string ⟨#[]⟩, .slice (some ⟨g, 0, none⟩) l.length l.length]) (by simp [results, Tryz.results54, go_sem, e0, e1, e2, e3]) rfl ?_
      obtain ⟨hb, hsz, htk, hsm, hvi, hvf⟩ := HROW.out
      rw [List.take_of_length_le (Nat.le_refl _)] at hsm
      have hcl : cs.toList.length = l.length * 4 := (Array.length_toList (xs := cs)).trans hsz
      have hlen : vs.length = l.length := by
        have := congrArg List.length htk
        rw [cellsL_length, List.length_take, hcl, Nat.min_self] at this
        omega
      rw [← hlen]
      have hmv : ∀ b, b < wr.heap.size → g ≤ b → (put4 wr (w.heap.size + 1) (.int .i64 2) (.int .i64 0) (.string ⟨#[]⟩) (.slice (some ⟨g, 0, none⟩) vs.length vs.length)).heap[b]? = wr.heap[b]? := fun b _ hb => put4_other (by omega)
      have hS : (put4 wr (w.heap.size + 1) (.int .i64 2) (.int .i64 0) (.string ⟨#[]⟩) (.slice (some ⟨g, 0, none⟩) vs.length vs.length)).heap.size = wr.heap.size := by simp [World.setCell]
      refine ⟨.mk 2 0 ⟨#[]⟩ (some ⟨g, 0, none⟩) vs.length vs, rfl, ?_, ?_, V.same_node hsm, put4_kp HK.out (by omega)⟩
      · rw [hS]
        simp only [V.In]
        refine ⟨by unfold I64; omega, by unfold I64; omega, by decide, Nat.le_refl _, by unfold maxLen; omega, .inr ⟨g, 0, rfl, lt_of_block hb, ?_⟩, V.InL.move (Nat.le_refl _) (fun b h1 h2 => hmv b h1 (Nat.le_of_lt h2)) _ hvi hvf⟩
        refine At.of_block ((hmv g (lt_of_block hb) (Nat.le_refl _)).trans hb) ?_
        rw [← htk]
        exact (List.take_of_length_le (l := cs.toList) (i := l.length * 4) (Nat.le_of_eq hcl)).symm
      · simp only [V.foot]
        exact ⟨.inr ⟨g, 0, rfl, by omega⟩, V.footL.mono (fun b hb => by omega) _ hvf⟩

set_option maxHeartbeats 1000000 in
theorem leastP : ∀ (N : Nat) (t : T) (d : Nat) (w : World), t.rank ≤ N → t.sh d = true → t.In w w.heap.size →
    Calls Tryz.prog 54 #[.agg #[.int .i64 t.k, .slice t.a t.l.length t.cap]] w (Makes w t.lst) := by
  intro N
  induction N with
  | zero => intro t d w h; have := t.rank_pos; omega
  | succ N ih =>
    intro t d w hN ht hin
    cases t with
    | mk k a cap l =>
    cases d with
    | zero => simp [T.sh] at ht
    | succ d =>
    simp [T.sh] at ht
    obtain ⟨hf, hp⟩ := ht
    have hih : ∀ (j : Nat) (x : T), l[j]? = some x → ∀ w1 : World, x.In w1 w1.heap.size → Calls Tryz.prog 54 #[.agg #[.int .i64 x.k, .slice x.a x.l.length x.cap]] w1 (Makes w1 x.lst) := fun j x hx w1 h1 =>
      ih x d w1 (by have := T.rank_part (v := .mk k a cap l) (j := j) (x := x) hx; omega) (shLT_at hp hx) h1
    show Calls Tryz.prog 54 #[.agg #[.int .i64 k, .slice a l.length cap]] w _
    by_cases h0 : k = 0
    · subst h0; simp [T.lst]; exact leastP_int w a l.length cap
    by_cases h1 : k = 1
    · subst h1; simp [T.lst]; exact leastP_text w a l.length cap
    by_cases h2 : k = 2
    · subst h2; simp [T.lst]
      exact leastP_tuple a cap l w hin (by simp [fitsT] at hf; exact hf) hih
    by_cases h3 : k = 3
    · subst h3
      have hl : 0 < l.length := by simp [fitsT] at hf; exact hf.1
      cases l with
      | nil => simp at hl
      | cons x xs =>
        simp [T.lst, T.lstH]
        obtain ⟨p0, off, rfl, hp0, q0, q1, hxin⟩ := T.atPart hin (j := 0) (x := x) rfl
        exact leastP_sum p0 off xs.length cap x w (by simpa using q0) (by simpa using q1) hxin (fun w1 h1 => hih 0 x rfl w1 h1)
    · simp [fitsT, h0, h1, h2, h3] at hf

end Go.Proofs.YtkofebafmjjljaaGreatDoor

/-
  THE READER AT A KEY: what is read positively.
-/
namespace Go.Proofs.YtkofebafmjjljaaGreatDoor
open Go.RowKit

/-- A reading has come to place q and made a value that is the same as y; of what lay there only the reader has changed. -/
def ReadsV (w : World) (R : Nat) (s : ByteArray) (q : Nat) (y : V) (e : Ending) (w' : World) : Prop :=
  ∃ x : V, e = .returned x.val ∧ x.In w' w'.heap.size ∧ x.foot (fun b => w.heap.size ≤ b) ∧ x.same y = true ∧ Reader w' R s q ∧ Bt R w w'

/-- From place p on a text has these bytes. -/
def HasAt (s : ByteArray) (p : Nat) (l : List UInt8) : Prop := ∃ r, s.data.toList.drop p = l ++ r

theorem HasAt.cons {s : ByteArray} {p : Nat} {b : UInt8} {l : List UInt8} (h : HasAt s p (b :: l)) : ∃ hp : p < s.size, s[p] = b ∧ HasAt s (p + 1) l := by
  obtain ⟨r, hr⟩ := h
  have hp : p < s.size := by
    rcases Nat.lt_or_ge p s.size with h | h
    · exact h
    · rw [List.drop_of_length_le (by simpa using h)] at hr; simp at hr
  have hd : s.data.toList.drop p = s[p] :: s.data.toList.drop (p + 1) := by
    rw [List.drop_eq_getElem_cons (by simpa using hp)]; rfl
  rw [hd] at hr
  simp only [List.cons_append, List.cons.injEq] at hr
  exact ⟨hp, hr.1, r, hr.2⟩

theorem or_low (x y : Int) (hx0 : 0 ≤ x) (hx : x % 256 = 0) (hx1 : x < 4611686018427387904) (hy : 0 ≤ y ∧ y < 256) : bits .or .i64 x y = x + y :=
  bits_join .i64 62 (by decide) (fun n h h' => IntWalk.i64_in n (by omega)) 8 x y hx0 hx (by omega) hy.1 hy.2 (by omega)
theorem or_byte (x : Int) (b : UInt8) (hx0 : 0 ≤ x) (hx : x % 256 = 0) (hx1 : x < 4611686018427387904) : bits .or .i64 x (wrap64 (b.toNat : Int)) = x + b.toNat := by
  have hb := b.toNat_lt
  rw [IntWalk.wrap64_in _ (by omega)]
  exact or_low x _ hx0 hx hx1 ⟨by omega, by omega⟩

set_option maxRecDepth 100000 in
set_option maxHeartbeats 4000000 in
theorem keyWord_read (w : World) (R : Nat) (s : ByteArray) (p : Nat) (n : Int) (hr : Reader w R s p) (hs : s.size ≤ 1000000) (hn : -2147483648 ≤ n ∧ n ≤ 2147483647) (h : HasAt s p (wordBytes n)) :
    Calls Tryz.prog 86 #[.pointer (some ⟨R, 0, none⟩)] w (ReadsV w R s (p + 4) (.mk 0 n ⟨#[]⟩ none 0 [])) := by
  obtain ⟨p0, e0, h1⟩ := h.cons
  obtain ⟨p1, e1, h2⟩ := h1.cons
  obtain ⟨p2, e2, h3⟩ := h2.cons
  obtain ⟨p3, e3, -⟩ := h3.cons
  have hRl := lt_of_block hr
  have HR := Lib.hid hr
  have HE0 := Lib.hid e0
  have HE1 := Lib.hid e1
  have HE2 := Lib.hid e2
  have HE3 := Lib.hid e3
  clear hr e0 e1 e2 e3 h h1 h2 h3
  go_enter Tryz.func86, Tryz.ntmps86
  go_wp2_with fail
  refine wp_loop_rounds (0 + 1 + 1 + 1 + 1 + 1) ?_
  rw [rounds_succ]
  go_wp2_with fail
  refine (next_yes _ R s p (HR.out.kp (ka _ _)) p0 hs).mono ?_
  rintro e w1 ⟨rfl, hr1, hb1⟩
  rw [HE0.out]
  have HR1 := Lib.hid hr1
  have HB1 := Lib.hid hb1
  have hb0 := (byteAt (n + 2147483648) 0).toNat_lt
  have v0 := byteAt_val (n + 2147483648) 0
  have v1 := byteAt_val (n + 2147483648) 1
  have v2 := byteAt_val (n + 2147483648) 2
  have v3 := byteAt_val (n + 2147483648) 3
  have hb1' := (byteAt (n + 2147483648) 1).toNat_lt
  have hb2' := (byteAt (n + 2147483648) 2).toNat_lt
  have hb3' := (byteAt (n + 2147483648) 3).toNat_lt
  have e1 := HE1.out
  have e2 := HE2.out
  have e3 := HE3.out
  generalize byteAt (n + 2147483648) 0 = c0 at *
  generalize byteAt (n + 2147483648) 1 = c1 at *
  generalize byteAt (n + 2147483648) 2 = c2 at *
  generalize byteAt (n + 2147483648) 3 = c3 at *
  have hfin : ((((c0.toNat : Int) * 256 + c1.toNat) * 256 + c2.toNat) * 256 + c3.toNat) + -2147483648 = n := by
    rw [← v0, ← v1, ← v2, ← v3]
    simp only [Nat.mul_zero, Nat.sub_zero, Nat.mul_one, show 24 - 8 = 16 from rfl, show 24 - 8 * 2 = 8 from rfl, show 24 - 8 * 3 = 0 from rfl, Int.pow_zero, Int.ediv_one, show (2 : Int) ^ 24 = 16777216 from rfl, show (2 : Int) ^ 16 = 65536 from rfl, show (2 : Int) ^ 8 = 256 from rfl]
    omega
  have E1 := Lib.hid e1
  have E2 := Lib.hid e2
  have E3 := Lib.hid e3
  have HF := Lib.hid hfin
  clear hr1 hb1 v0 v1 v2 v3 e1 e2 e3 hfin HE0 HE1 HE2 HE3
  go_wp2_with fail
  rw [or_low 0 _ (by omega) (by omega) (by omega) ⟨by omega, by omega⟩, Int.zero_add]
  rw [rounds_succ]
  go_wp2_with fail
  refine (next_yes _ R s (p + 1) HR1.out p1 hs).mono ?_
  rintro e w2 ⟨rfl, hr2, hb2⟩
  rw [E1.out]
  have HR2 := Lib.hid hr2
  have HB2 := Lib.hid (HB1.out.trans hb2)
  clear hr2 hb2
  go_wp2_with fail
  rw [or_low _ _ (by omega) (by omega) (by omega) ⟨by omega, by omega⟩]
  rw [rounds_succ]
  go_wp2_with fail
  refine (next_yes _ R s (p + 1 + 1) HR2.out p2 hs).mono ?_
  rintro e w3 ⟨rfl, hr3, hb3⟩
  rw [E2.out]
  have HR3 := Lib.hid hr3
  have HB3 := Lib.hid (HB2.out.trans hb3)
  clear hr3 hb3
  go_wp2_with fail
  rw [or_low _ _ (by omega) (by omega) (by omega) ⟨by omega, by omega⟩]
  rw [rounds_succ]
  go_wp2_with fail
  refine (next_yes _ R s (p + 1 + 1 + 1) HR3.out p3 hs).mono ?_
  rintro e w4 ⟨rfl, hr4, hb4⟩
  rw [E3.out]
  have HR4 := Lib.hid hr4
  have hB4 := HB3.out.trans hb4
  have hres := (hB4.block w.heap.size (by simp) (by omega)).trans (blockHere (w := w) (o := .cells zero4 24 (0, 0)) rfl)
  obtain ⟨d0, d1, d2, d3, f0, f1, f2, f3⟩ := cell4 hres
  have HRS := Lib.hid hres
  have HB4 := Lib.hid ((Bt.kp (c := R) (ka w (.cells zero4 24))).trans hB4)
  clear hr4 hb4 hB4 hres
  go_wp2_with fail
  rw [or_low _ _ (by omega) (by omega) (by omega) ⟨by omega, by omega⟩]
  rw [rounds_succ]
  go_wp2_with fail
  rw [HF.out]
  obtain ⟨g0, g1, g2, g3, -⟩ := cell4 (put4_block (v0 := .int .i64 0) (v1 := .int .i64 n) (v2 := .string ⟨#[]⟩) (v3 := .slice none 0 0) HRS.out)
  refine bodyPost_ret (v := .agg #[.int .i64 0, .int .i64 n, .string ⟨#[]⟩, .slice none 0 0]) (by simp [results, Tryz.results86, go_sem, g0, g1, g2, g3]) rfl ?_
  exact ⟨.mk 0 n ⟨#[]⟩ none 0 [], rfl, inLeaf _ _ _ (by unfold I64; omega) (by unfold I64; omega) (by decide), V.foot_leaf _ _ _ _ _, V.same_refl _, (put4_other (by omega)).trans HR4.out, put4_bt HB4.out (Nat.le_refl _)⟩

theorem HasAt.get {s : ByteArray} {b : UInt8} : ∀ {l : List UInt8} {p i : Nat}, HasAt s p l → l[i]? = some b → ∃ h : p + i < s.size, s[p + i] = b
  | [], _, _, _, h => by simp at h
  | c :: l, p, 0, h, hi => by
    obtain ⟨hp, e, -⟩ := h.cons
    simp at hi
    exact ⟨hp, by rw [← hi]; exact e⟩
  | c :: l, p, i + 1, h, hi => by
    obtain ⟨-, -, h'⟩ := h.cons
    obtain ⟨hp, e⟩ := HasAt.get (p := p + 1) (i := i) h' (by simpa using hi)
    exact ⟨by omega, by simpa [Nat.add_assoc, Nat.add_comm 1 i] using e⟩

theorem bt_below {w w1 w2 : World} {R S : Nat} (h : Bt R w w1) (k : Below S w1 w2) (hS : w.heap.size ≤ S) : Bt R w w2 :=
  ⟨k.os.trans h.os, k.tape.trans h.tape, k.output.trans h.output, Nat.le_trans h.size k.size, fun i hi hc => (k.block i (by omega)).trans (h.block i hi hc)⟩
theorem Sink.bt {w w1 : World} {R S : Nat} {xs : List UInt8} (h : Sink w S xs) (k : Bt R w w1) (hR : R < S) : Sink w1 S xs := by
  obtain ⟨v, h1, h2⟩ := h
  refine ⟨v, (k.block S (lt_of_block h1) (by omega)).trans h1, h2.1, ?_⟩
  rcases h2.2 with hn | ⟨g, cap, cur, rfl, hb, hg, rest⟩
  · exact .inl hn
  · exact .inr ⟨g, cap, cur, rfl, hb, (k.block g (lt_of_block hg) (by omega)).trans hg, rest⟩

/-- Where the reader at R stands. -/
def posOf (w : World) (R : Nat) : Nat := match w.cell? ⟨R, 1, none⟩ with | some v => (intOf v).toNat | none => 0
theorem posOf_reader {w : World} {R : Nat} {s : ByteArray} {n : Nat} (h : Reader w R s n) : posOf w R = n := by
  unfold posOf
  rw [h.c1]
  simp [intOf]

set_option maxRecDepth 100000 in
set_option maxHeartbeats 4000000 in
theorem keyText_read (w : World) (R : Nat) (s : ByteArray) (p : Nat) (l : List UInt8) (hr : Reader w R s p) (hs : s.size ≤ 1000000) (hl : l.length ≤ 100) (hpos : ∀ c ∈ l, 0 < c.toNat) (h : HasAt s p (l ++ [0])) :
    Calls Tryz.prog 88 #[.pointer (some ⟨R, 0, none⟩)] w (ReadsV w R s (p + l.length + 1) (.mk 1 0 ⟨l.toArray⟩ none 0 [])) := by
  have hRl := lt_of_block hr
  have hget : ∀ i b, (l ++ [0])[i]? = some b → ∃ h : p + i < s.size, s[p + i] = b := fun i b hi => h.get hi
  have hc0 : ∃ c, (l ++ [0])[0]? = some c := by cases l <;> exact ⟨_, rfl⟩
  obtain ⟨c0, hc0⟩ := hc0
  obtain ⟨p0, e0⟩ := hget 0 c0 hc0
  simp only [Nat.add_zero] at p0 e0
  have HR := Lib.hid hr
  have HG := Lib.hid hget
  have HP := Lib.hid hpos
  have HC0 := Lib.hid hc0
  have E0 := Lib.hid e0
  clear hr h hget hpos hc0 e0
  go_enter Tryz.func88, Tryz.ntmps88
  go_wp2_with fail
  refine (next_yes _ R s p (HR.out.kp (kk (ka _ _) (ka _ _))) p0 hs).mono ?_
  rintro e w1 ⟨rfl, hr1, hb1⟩
  rw [E0.out]
  have hS0 : w1.heap[w.heap.size + 1]? = some (.cells #[.slice none 0 0] 97 (0, 0)) := (hb1.block _ (by simp) (by omega)).trans (blockHere (by simp))
  have hres := (hb1.block w.heap.size (by simp; omega) (by omega)).trans (blockPast (blockHere (w := w) (o := .cells zero4 24 (0, 0)) rfl))
  have HR1 := Lib.hid hr1
  have HS1 := Lib.hid (⟨.slice none 0 0, hS0, World.ownsRow_nil _ _ _ _⟩ : Sink w1 (w.heap.size + 1) [])
  have HC1 := Lib.hid (cell_of_one hS0)
  have HRS := Lib.hid hres
  have HB1 := Lib.hid ((Bt.kp (c := R) (kk (ka w (.cells zero4 24)) (ka _ (.cells #[.slice none 0 0] 97)))).trans hb1)
  clear hr1 hb1 hS0 hres
  go_wp2_with fail
  go_loopw [4] (fun bb wr => ∃ (j : Nat) (c : UInt8), j ≤ l.length ∧ bb = .int .u8 (c.toNat : Int) ∧ (l ++ [0])[j]? = some c ∧ Sink wr (w.heap.size + 1) (l.take j) ∧ Reader wr R s (p + j + 1) ∧ Bt R w wr ∧ (j = 0 → wr.cell? ⟨w.heap.size + 1, 0, none⟩ = some (.slice none 0 0)) ∧ wr.heap[w.heap.size]? = some (.cells zero4 24 (0, 0))) (fun _ wr => s.size + 1 - posOf wr R)
  case atStart => exact ⟨0, c0, by omega, rfl, HC0.out, (by rw [List.take_zero]; exact HS1.out), HR1.out, HB1.out, fun _ => HC1.out, HRS.out⟩
  case round =>
    obtain ⟨j, c, hj, rfl, hc, hsk, hrd, hbt, hz, hres⟩ := hrel
    by_cases hlt : j < l.length
    · rw [List.getElem?_append_left hlt] at hc
      have hcp := HP.out c (List.mem_of_getElem? hc)
      have hcne : ((c.toNat : Int) != 0) = true := by simp; omega
      obtain ⟨c2, hc2⟩ : ∃ c2, (l ++ [0])[j + 1]? = some c2 := ⟨(l ++ [0])[j + 1]'(by simp; omega), by simp⟩
      obtain ⟨p2, e2⟩ := HG.out (j + 1) c2 hc2
      have htk : l.take (j + 1) = l.take j ++ [c] := by rw [List.take_add_one, hc]; rfl
      have hlen : (l.take j).length ≤ 100 := by simp; omega
      have hps := posOf_reader hrd
      have HSK := Lib.hid hsk
      have HRD := Lib.hid hrd
      have HBT := Lib.hid hbt
      have HRS2 := Lib.hid hres
      have HC2 := Lib.hid hc2
      have E2 := Lib.hid e2
      have HTK := Lib.hid htk
      have HPS := Lib.hid hps
      clear hsk hrd hbt hz hres hc hc2 e2 htk hps
      go_wp2_with fail
      refine (take_any _ (w.heap.size + 1) (l.take j) _ c rfl HSK.out (by omega)).mono ?_
      rintro e w2 ⟨rfl, hs2, hk2⟩
      have hbl := hk2.below HSK.out
      have HS2 := Lib.hid hs2
      have hrd2 : Reader w2 R s (p + j + 1) := (hbl.block R (by omega)).trans HRD.out
      have HBT2 := Lib.hid (bt_below HBT.out hbl (by omega))
      have HRS3 := Lib.hid ((hbl.block w.heap.size (by omega)).trans HRS2.out)
      have HRD2 := Lib.hid hrd2
      clear hs2 hk2 hbl hrd2
      go_wp2_with fail
      refine (next_yes _ R s (p + j + 1) HRD2.out (by omega) hs).mono ?_
      rintro e w3 ⟨rfl, hr3, hb3⟩
      have hps3 := posOf_reader hr3
      have e2' : s[p + j + 1] = c2 := E2.out
      rw [e2']
      have HR3 := Lib.hid hr3
      have HS3 := Lib.hid (HS2.out.bt hb3 (by omega))
      have HRS4 := Lib.hid ((hb3.block w.heap.size (lt_of_block HRS3.out) (by omega)).trans HRS3.out)
      have HBT3 := Lib.hid (HBT2.out.trans hb3)
      have HP3 := Lib.hid hps3
      clear hr3 hb3 hps3 e2'
      go_wp2_with fail
      go_roundw
      case rel => exact ⟨j + 1, c2, by omega, rfl, HC2.out, by rw [HTK.out]; exact HS3.out, HR3.out, HBT3.out, (fun h => by omega), HRS4.out⟩
      case measure => rw [HPS.out, HP3.out]; omega
    · have hjl : j = l.length := by omega
      subst hjl
      rw [List.getElem?_append_right (by omega)] at hc
      simp at hc
      subst hc
      rw [List.take_of_length_le (Nat.le_refl _)] at hsk
      obtain ⟨d0, d1, d2, d3, f0, f1, f2, f3⟩ := cell4 hres
      have HRD := Lib.hid hrd
      have HBT := Lib.hid hbt
      have HRS2 := Lib.hid hres
      by_cases hl0 : l = []
      · subst hl0
        have hz := hz rfl
        clear hsk hrd hbt hres
        go_wp2_with fail
        rw [run_convert_bytes_nil wr 57 5 Tryz.underlying57 Tryz.underlying5 0 0 9 Tryz.underlying9]
        go_wp2_with fail
        obtain ⟨g0, g1, g2, g3, -⟩ := cell4 (put4_block (v0 := .int .i64 1) (v1 := .int .i64 0) (v2 := .string ByteArray.empty) (v3 := .slice none 0 0) HRS2.out)
        refine bodyPost_ret (v := .agg #[.int .i64 1, .int .i64 0, .string ByteArray.empty, .slice none 0 0]) (by simp [results, Tryz.results88, go_sem, g0, g1, g2, g3]) rfl ?_
        exact ⟨.mk 1 0 ⟨#[]⟩ none 0 [], rfl, inLeaf _ _ _ (by unfold I64; omega) (by unfold I64; omega) (by decide), V.foot_leaf _ _ _ _ _, V.same_refl _, (put4_other (by omega)).trans HRD.out, put4_bt HBT.out (Nat.le_refl _)⟩
      · obtain ⟨g, cap3, hc3, hcv⟩ := hsk.out hl0
        clear hsk hrd hbt hres hz
        go_wp2_with fail
        obtain ⟨g0, g1, g2, g3, -⟩ := cell4 (put4_block (v0 := .int .i64 1) (v1 := .int .i64 0) (v2 := .string ⟨l.toArray⟩) (v3 := .slice none 0 0) HRS2.out)
        refine bodyPost_ret (v := .agg #[.int .i64 1, .int .i64 0, .string ⟨l.toArray⟩, .slice none 0 0]) (by simp [results, Tryz.results88, go_sem, g0, g1, g2, g3]) rfl ?_
        exact ⟨.mk 1 0 ⟨l.toArray⟩ none 0 [], rfl, inLeaf _ _ _ (by unfold I64; omega) (by unfold I64; omega) (show l.length ≤ maxLen from Nat.le_trans hl (by decide)), V.foot_leaf _ _ _ _ _, V.same_refl _, (put4_other (by omega)).trans HRD.out, put4_bt HBT.out (Nat.le_refl _)⟩

set_option maxRecDepth 100000 in
set_option maxHeartbeats 4000000 in
theorem keyTagged_read (w : World) (R : Nat) (s : ByteArray) (p : Nat) (tag : Int) (y : V) (hr : Reader w R s p) (hs : s.size ≤ 1000000) (ht : 0 ≤ tag ∧ tag ≤ 200) (h : HasAt s p (UInt8.ofNat (tag + 1).toNat :: y.keyB))
    (ih : ∀ w1 : World, Reader w1 R s (p + 1) → Calls Tryz.prog 81 #[.pointer (some ⟨R, 0, none⟩)] w1 (ReadsV w1 R s (p + 1 + y.keyB.length) y)) :
    Calls Tryz.prog 92 #[.pointer (some ⟨R, 0, none⟩)] w (ReadsV w R s (p + 1 + y.keyB.length) (.mk 3 tag ⟨#[]⟩ none 0 [y])) := by
  have hRl := lt_of_block hr
  obtain ⟨p0, e0, -⟩ := h.cons
  have hb : ((UInt8.ofNat (tag + 1).toNat).toNat : Int) = tag + 1 := by
    simp
    omega
  have HR := Lib.hid hr
  have E0 := Lib.hid e0
  have HB := Lib.hid hb
  have HC := Lib.hid ih
  clear hr e0 hb h ih
  generalize UInt8.ofNat (tag + 1).toNat = c0 at *
  generalize hq : p + 1 + y.keyB.length = q at *
  clear hq
  go_enter Tryz.func92, Tryz.ntmps92
  go_wp2_with fail
  refine (next_yes _ R s p (HR.out.kp (ka _ _)) p0 hs).mono ?_
  rintro e w1 ⟨rfl, hr1, hb1⟩
  rw [E0.out]
  have hres := (hb1.block w.heap.size (by simp) (by omega)).trans (blockHere (w := w) (o := .cells zero4 24 (0, 0)) rfl)
  have hs1 := hb1.size
  simp at hs1
  have HR1 := Lib.hid hr1
  have HRS := Lib.hid hres
  have HB1 := Lib.hid ((Bt.kp (c := R) (ka w (.cells zero4 24))).trans hb1)
  clear hr1 hb1 hres
  go_wp2_with fail
  have hw : wrap64 (wrap64 (c0.toNat : Int) - 1) = tag := by
    have := HB.out
    rw [IntWalk.wrap64_in (c0.toNat : Int) (by omega), IntWalk.wrap64_in _ (by omega)]
    omega
  rw [hw]
  clear hw
  refine (HC.out w1 HR1.out).mono ?_
  rintro e w2 ⟨z, rfl, hzi, hzf, hzs, hr2, hb2⟩
  have hres := (hb2.block w.heap.size (by omega) (by omega)).trans HRS.out
  have hs2 := hb2.size
  have hzf2 : z.foot (fun b => w.heap.size + 1 ≤ b) := V.foot.mono (fun b hb => by omega) z hzf
  have HR2 := Lib.hid hr2
  have HRS2 := Lib.hid hres
  have HB2 := Lib.hid (HB1.out.trans hb2)
  have HZI := Lib.hid hzi
  have HZF := Lib.hid hzf2
  have HZS := Lib.hid hzs
  clear hr2 hb2 hres hzi hzf hzf2 hzs
  cases z with
  | mk k n t a cap zl =>
  simp only [V.val_mk]
  go_wp2_with fail
  refine (together_one _ w2.heap.size 0 1 (.int .i64 k) (.int .i64 n) (.string t) (.slice a zl.length cap) (here rfl rfl) (here rfl rfl) (here rfl rfl) (here rfl rfl) (by simp [Value.oneCell'])).mono ?_
  rintro e w3 ⟨g, rfl, hg, hgb, hk3⟩
  simp at hg
  have hk23 := kk (ka _ _) hk3
  have hblk := (hk23.block _ (lt_of_block HRS2.out)).trans HRS2.out
  obtain ⟨d0, d1, d2, d3, g0, g1, g2, g3⟩ := cell4 hblk
  have HBL := Lib.hid hblk
  have HR3 := Lib.hid (HR2.out.kp hk23)
  have HB3 := Lib.hid (HB2.out.trans (Bt.kp hk23))
  have HQ := Lib.hid hgb
  have HZ2 := Lib.hid (HZI.out.keep hk23.size hk23)
  clear hk3 hk23 hblk hgb
  go_wp2_with fail
  obtain ⟨e0, e1, e2, e3, -⟩ := cell4 (put4_block (v0 := .int .i64 3) (v1 := .int .i64 tag) (v2 := .string ⟨#[]⟩) (v3 := .slice (some ⟨g, 0, none⟩) 1 1) HBL.out)
  refine bodyPost_ret (v := .agg #[.int .i64 3, .int .i64 tag, .string ⟨#[]⟩, .slice (some ⟨g, 0, none⟩) 1 1]) (by simp [results, Tryz.results92, go_sem, e0, e1, e2, e3]) rfl ?_
  have hgs := lt_of_block HQ.out
  have hmv : ∀ b, b < w3.heap.size → w.heap.size + 1 ≤ b → (put4 w3 w.heap.size (.int .i64 3) (.int .i64 tag) (.string ⟨#[]⟩) (.slice (some ⟨g, 0, none⟩) 1 1)).heap[b]? = w3.heap[b]? := fun b _ hb => put4_other (by omega)
  have hS : (put4 w3 w.heap.size (.int .i64 3) (.int .i64 tag) (.string ⟨#[]⟩) (.slice (some ⟨g, 0, none⟩) 1 1)).heap.size = w3.heap.size := by simp [World.setCell]
  refine ⟨.mk 3 tag ⟨#[]⟩ (some ⟨g, 0, none⟩) 1 [.mk k n t a cap zl], rfl, ?_, ?_, ?_, (put4_other (by omega)).trans HR3.out, put4_bt HB3.out (Nat.le_refl _)⟩
  · rw [hS]
    simp only [V.In, V.InL]
    refine ⟨by unfold I64; omega, by unfold I64; omega, by decide, Nat.le_refl _, by decide, .inr ⟨g, 0, rfl, hgs, ?_⟩, ?_, trivial⟩
    · exact At.of_block ((hmv g hgs (by omega)).trans HQ.out) rfl
    · exact V.In.move (Nat.le_refl _) hmv _ HZ2.out HZF.out
  · simp only [V.foot, V.footL]
    exact ⟨.inr ⟨g, 0, rfl, by omega⟩, V.foot.mono (fun b hb => by omega) _ HZF.out, trivial⟩
  · exact V.same_node (V.sameL_one HZS.out)

end Go.Proofs.YtkofebafmjjljaaGreatDoor

/-
  THE WALK OF together AT A LIST OF ANY LENGTH.
-/
namespace Go.Proofs.YtkofebafmjjljaaGreatDoor
open Go.RowKit

set_option maxRecDepth 100000 in
set_option maxHeartbeats 4000000 in
theorem together_rows (w : World) (g cap n : Nat) (cs : List Value) (hcs : cs.length = n * 4) (hsrc : ∀ j v, cs[j]? = some v → w.cell? ⟨g, j, none⟩ = some v) (h1 : ∀ v ∈ cs, v.oneCell' = true) (hn : n ≤ 8) :
    Calls Tryz.prog 95 #[.slice (some ⟨g, 0, none⟩) n cap] w fun e w' => ∃ q, e = .returned (.slice (some ⟨q, 0, none⟩) n n) ∧ w.heap.size ≤ q ∧ w'.heap[q]? = some (.cells cs.toArray 24 (0, 0)) ∧ Kp w w' := by
  obtain ⟨i0, hi, hz0, hz1, hz2⟩ := info_parts infoV
  have HS := Lib.hid hsrc
  have H1 := Lib.hid h1
  have HC := Lib.hid hcs
  clear hsrc h1 hcs
  go_enter Tryz.func95, Tryz.ntmps95
  go_wp2_with (refine wpList_make_full _ rfl _ _ 22 rfl 0 24 i0 _ 4 Tryz.underlying22 hi hz0 hz1 .i64 .i64 _ _ n rfl rfl rfl rfl ?c1 ?c2 ?c3 ?_)
  case c1 => rw [hz2]; omega
  case c2 => unfold maxLen; omega
  case c3 => omega
  intro w1 hown hgrow
  obtain ⟨cur, hblk, hsz⟩ : ∃ cs : Array Value, w1.heap[w.heap.size]? = some (.cells cs 24 (0, 0)) ∧ cs.size = n * 4 := by
    rcases hown.2 with ⟨h, -⟩ | ⟨g, cap', cur, hv, -, hg, -, -, hsz, -⟩
    · cases h
    · cases hv; exact ⟨cur, hg, hsz⟩
  have hk1 : Kp w w1 := grown_kp hgrow
  have hcp : ∀ ty, (Builtin.copy_ #[22, 22] ty #[.slice (some ⟨w.heap.size, 0, none⟩) n n, .slice (some ⟨g, 0, none⟩) n cap]).run Tryz.prog w1 = .ok (.int .i64 n) (w1.setRow w.heap.size cs.toArray) := by
    intro ty
    have := run_copy_rows (P := Tryz.prog) w1 22 22 ty 24 4 w.heap.size 0 n n ⟨g, 0, none⟩ n cap cur 24 cs Tryz.underlying22 sizeV4 hblk (by rw [HC.out, show n.min n = n from Nat.min_self n]) (fun j v hj => by
      have := kc hk1 (HS.out j v hj)
      rw [show (⟨g, 0, none⟩ : Addr).add j = ⟨g, j, none⟩ by unfold Addr.add; split <;> simp_all]
      exact this) (by rw [HC.out, hsz]; omega) H1.out
    rw [show n.min n = n from Nat.min_self n] at this
    rw [this, List.drop_of_length_le (by rw [Array.length_toList, hsz, HC.out]; omega)]
    simp [goInt]
  have HW := Lib.hid (setRow_heap _ w.heap.size _ cs.toArray _ _ hblk)
  have HK := Lib.hid (below_setRow hk1 (Nat.le_refl _) cs.toArray)
  clear hblk hsz hk1 hown hgrow hi hz0 hz1 hz2
  go_wp2_with fail
  go_ret
  exact ⟨w.heap.size, rfl, Nat.le_refl _, HW.out, HK.out⟩

end Go.Proofs.YtkofebafmjjljaaGreatDoor

/-
  THE READER AT THE KEY OF A TUPLE.
-/
namespace Go.Proofs.YtkofebafmjjljaaGreatDoor
open Go.RowKit

theorem HasAt.app {s : ByteArray} : ∀ {a b : List UInt8} {p : Nat}, HasAt s p (a ++ b) → HasAt s p a ∧ HasAt s (p + a.length) b := by
  intro a b p h
  obtain ⟨r, hr⟩ := h
  refine ⟨⟨b ++ r, by rw [hr, List.append_assoc]⟩, r, ?_⟩
  have := congrArg (List.drop a.length) hr
  rw [List.drop_drop] at this
  rw [this, List.append_assoc, List.drop_left]

theorem HasAt.pre {s : ByteArray} {p : Nat} {b : UInt8} {l : List UInt8} (h : HasAt s p (b :: l)) : ∃ r, (s.extract p s.size).data.toList = b :: r := by
  obtain ⟨r, hr⟩ := h
  have e : (s.extract p s.size).data.toList = s.data.toList.drop p := by
    simp
    exact List.take_of_length_le (by simp)
  exact ⟨l ++ r, by rw [e, hr]; rfl⟩
theorem HasAt.ends {s : ByteArray} {p : Nat} {l : List UInt8} (h : HasAt s p (0 :: l)) : Lib.hasPrefix (s.extract p s.size).data.toList (⟨#[0]⟩ : ByteArray).data.toList = true := by
  obtain ⟨r, hr⟩ := h.pre
  rw [hr]; simp [Lib.hasPrefix]
theorem HasAt.goes {s : ByteArray} {p : Nat} {b : UInt8} {l : List UInt8} (h : HasAt s p (b :: l)) (hb : b ≠ 0) : Lib.hasPrefix (s.extract p s.size).data.toList (⟨#[0]⟩ : ByteArray).data.toList = false := by
  obtain ⟨r, hr⟩ := h.pre
  rw [hr]
  show List.isPrefixOf [0] (b :: r) = false
  simp [List.isPrefixOf, Ne.symm hb]

theorem putAt_bt {R b i : Nat} {w w' : World} {v0 v1 v2 v3 : Value} (h : Bt R w w') (hb : w.heap.size ≤ b) : Bt R w (putAt w' b i v0 v1 v2 v3) :=
  ⟨h.os, h.tape, h.output, by have := h.size; simp [World.setCell]; omega, fun k hk hc => (putAt_other (by omega)).trans (h.block k hk hc)⟩

theorem cellsL_one : ∀ (l : List V), ∀ v ∈ cellsL l, v.oneCell' = true := by
  intro l
  induction l with
  | nil => intro v h; simp [cellsL] at h
  | cons x xs ih =>
    intro v h
    have e : cellsL (x :: xs) = x.cells4 ++ cellsL xs := by simp [cellsL]
    rw [e, List.mem_append] at h
    rcases h with h | h
    · simp [V.cells4] at h
      rcases h with rfl | rfl | rfl | rfl <;> simp [Value.oneCell']
    · exact ih v h

theorem slice_arr (w : World) (g n : Nat) (hn : n ≤ 8) :
    (Instr.sliceAt 150 (.pointer (some ⟨g, 0, none⟩)) none (some (.int .i64 n)) none).run Tryz.prog w = .ok (.slice (some ⟨g, 0, none⟩) n 8) w := by
  have ha : Tryz.prog.arrayLen 150 = 8 := by kernel_rfl
  have hu : Tryz.prog.underlying 150 = some (.array (Tryz.prog.arrayLen 150) (Tryz.prog.elem 150)) := by kernel_rfl
  have hs : (sizeOf (Tryz.prog.elem 150)).run Tryz.prog w = .ok 4 w := by kernel_rfl
  rw [run_sliceAt_array_h w 150 _ hu .i64 n (by omega) (by rw [ha]; omega), hs, ha]
  simp [slicedAt, Addr.add, Result.andThen]

/-- A row of eight values in block g, of which the first j have been read: vs. -/
structure RowV (w : World) (g : Nat) (ys : List V) (j : Nat) (cs : Array Value) (vs : List V) : Prop where
  blk : w.heap[g]? = some (.cells cs 150 (0, 0))
  size : cs.size = 8 * 4
  take : cs.toList.take (j * 4) = cellsL vs
  same : V.sameL vs (ys.take j) = true
  hin : V.InL w w.heap.size vs
  foot : V.footL (fun b => g < b) vs

theorem RowV.bt {w w2 : World} {R g j : Nat} {ys : List V} {cs : Array Value} {vs : List V} (h : RowV w g ys j cs vs) (hk : Bt R w w2) (hR : R < g) : RowV w2 g ys j cs vs :=
  ⟨(hk.block _ (lt_of_block h.blk) (by omega)).trans h.blk, h.size, h.take, h.same, V.InL.move hk.size (fun b h1 h2 => hk.block b h1 (by omega)) _ h.hin h.foot, h.foot⟩

theorem RowV.step {w w2 : World} {R g j : Nat} {ys : List V} {cs : Array Value} {vs : List V} {z y : V} (h : RowV w g ys j cs vs) (hj : j < 8) (hR : R < g) (hg : g < w.heap.size) (hk : Bt R w w2) (hz : z.In w2 w2.heap.size)
    (hf : z.foot (fun b => w.heap.size ≤ b)) (hs : z.same y = true) (hy : ys[j]? = some y) :
    RowV (putAt w2 g (j * 4) (.int .i64 z.k) (.int .i64 z.n) (.string z.s) (.slice z.a z.l.length z.cap)) g ys (j + 1)
      ((((cs.setIfInBounds (j * 4) (.int .i64 z.k)).setIfInBounds (j * 4 + 1) (.int .i64 z.n)).setIfInBounds (j * 4 + 2) (.string z.s)).setIfInBounds (j * 4 + 3) (.slice z.a z.l.length z.cap)) (vs ++ [z]) := by
  have h := h.bt hk hR
  have hS : (putAt w2 g (j * 4) (.int .i64 z.k) (.int .i64 z.n) (.string z.s) (.slice z.a z.l.length z.cap)).heap.size = w2.heap.size := by simp [World.setCell]
  have hmv : ∀ b, b < w2.heap.size → g < b → (putAt w2 g (j * 4) (.int .i64 z.k) (.int .i64 z.n) (.string z.s) (.slice z.a z.l.length z.cap)).heap[b]? = w2.heap[b]? := fun b _ hb => putAt_other (by omega)
  refine ⟨putAt_block h.blk, by simp [h.size], ?_, ?_, ?_, ?_⟩
  · rw [take_put4 h.size hj, h.take, cellsL_snoc]; rfl
  · rw [List.take_add_one, hy]; exact V.sameL_snoc h.same hs
  · rw [hS]
    exact V.InL_snoc (V.InL.move (Nat.le_refl _) hmv _ h.hin h.foot) (V.In.move (Nat.le_refl _) hmv _ hz (V.foot.mono (fun b hb => by omega) _ hf))
  · exact V.footL_snoc h.foot (V.foot.mono (fun b hb => by omega) _ hf)

set_option maxRecDepth 100000 in
set_option maxHeartbeats 4000000 in
theorem keyList_read (w : World) (R : Nat) (s : ByteArray) (p : Nat) (ys : List V) (hr : Reader w R s p) (hs : s.size ≤ 1000000) (hl : ys.length ≤ 8) (h : HasAt s p (V.keyBL ys ++ [0]))
    (hne : ∀ (j : Nat) (y : V), ys[j]? = some y → ∃ b t, y.keyB = b :: t ∧ b ≠ 0)
    (ih : ∀ (j : Nat) (y : V), ys[j]? = some y → ∀ (w1 : World) (q : Nat), Reader w1 R s q → HasAt s q y.keyB → Calls Tryz.prog 81 #[.pointer (some ⟨R, 0, none⟩)] w1 (ReadsV w1 R s (q + y.keyB.length) y)) :
    Calls Tryz.prog 116 #[.pointer (some ⟨R, 0, none⟩), .string ⟨#[]⟩, .string ⟨#[0]⟩, .func (.func 81) #[] #[]] w fun e w' =>
      ∃ (q : Nat) (vs : List V), e = .returned (.slice (some ⟨q, 0, none⟩) ys.length ys.length) ∧ w.heap.size ≤ q ∧ w'.heap[q]? = some (.cells (cellsL vs).toArray 24 (0, 0)) ∧
        V.sameL vs ys = true ∧ V.InL w' w'.heap.size vs ∧ V.footL (fun b => w.heap.size ≤ b) vs ∧ Reader w' R s (p + (V.keyBL ys).length + 1) ∧ Bt R w w' := by
  have hRl := lt_of_block hr
  have HR := Lib.hid hr
  have HI := Lib.hid ih
  have HN := Lib.hid hne
  have HH := Lib.hid h
  clear hr ih h hne
  go_enter Tryz.func116, Tryz.ntmps116
  go_wp2_with fail
  go_loopw [10] (fun i wr => ∃ (j q : Nat) (cs : Array Value) (vs : List V), j ≤ ys.length ∧ i = .int .i64 j ∧ RowV wr w.heap.size ys j cs vs ∧ Bt R w wr ∧ Reader wr R s q ∧ HasAt s q (V.keyBL (ys.drop j) ++ [0]) ∧ q + (V.keyBL (ys.drop j)).length = p + (V.keyBL ys).length) (fun i _ => ys.length - (intOf i).toNat)
  case atStart => exact ⟨0, p, _, [], Nat.zero_le _, rfl, ⟨blockHere rfl, rfl, by simp [cellsL], by simp [V.sameL], trivial, trivial⟩, Bt.kp (ka _ _), HR.out.kp (ka _ _), HH.out, rfl⟩
  case round =>
    obtain ⟨j, q, cs, vs, hj, rfl, hrow, hbt, hrd, hat, hlen⟩ := hrel
    have hgl := lt_of_block hrow.blk
    by_cases hlt : j < ys.length
    · obtain ⟨y, hy⟩ : ∃ y, ys[j]? = some y := ⟨ys[j], by simp [hlt]⟩
      have hdr : ys.drop j = y :: ys.drop (j + 1) := by
        rw [List.drop_eq_getElem_cons hlt]
        congr 1
        rw [List.getElem?_eq_getElem hlt] at hy
        exact Option.some.inj hy
      rw [hdr, V.keyBL, List.append_assoc] at hat
      rw [hdr, V.keyBL, List.length_append] at hlen
      obtain ⟨hat1, hat2⟩ := hat.app
      obtain ⟨b0, t0, hk0, hb0⟩ := HN.out j y hy
      have hgo := (hk0 ▸ hat1).goes hb0
      have hq := (hk0 ▸ hat1).cons.1
      have hsk := fun (w1 : World) (h : Reader w1 R s q) => skip_no w1 R s ⟨#[0]⟩ q h (by omega) hgo
      have hex := fun (w1 : World) (h : Reader w1 R s q) => expect_yes w1 R s ⟨#[]⟩ q h (by omega) hs (by decide) (by simp [Lib.hasPrefix])
      have hof := fun (w1 : World) (h : Reader w1 R s q) => HI.out j y hy w1 q h hat1
      have HSK := Lib.hid hsk
      have HEX := Lib.hid hex
      have HOF := Lib.hid hof
      have HROW := Lib.hid hrow
      have HBT := Lib.hid hbt
      have HRD := Lib.hid hrd
      have HAT := Lib.hid hat2
      have HY := Lib.hid hy
      have HLEN := Lib.hid hlen
      have g8 : ((j : Int) == 8) = false := by simp; omega
      clear hsk hex hof hrow hbt hrd hat hat1 hat2 hy hlen hk0 hgo hdr
      go_wp2_with fail
      refine (HSK.out _ HRD.out).mono ?_
      rintro e w1 ⟨rfl, hk1⟩
      have HB1 := Lib.hid (HBT.out.trans (Bt.kp hk1))
      have HR1 := Lib.hid (HRD.out.kp hk1)
      have HRW1 := Lib.hid (HROW.out.bt (Bt.kp (c := R) hk1) (by omega))
      clear hk1
      go_wp2_with fail
      all_goals try
        refine (HEX.out _ HR1.out).mono ?_
        rintro e w2 ⟨rfl, hr2, hb2⟩
        replace HB1 := Lib.hid (HB1.out.trans hb2)
        replace HRW1 := Lib.hid (HRW1.out.bt hb2 (by omega))
        replace HR1 : Hid (Reader w2 R s q) := Lib.hid hr2
        clear hr2 hb2
        go_wp2_with fail
      all_goals
        refine (HOF.out _ HR1.out).mono ?_
        rintro e w3 ⟨z, rfl, hzi, hzf, hzs, hr3, hb3⟩
        have hgl1 := lt_of_block HRW1.out.blk
        have hst := HRW1.out.step (by omega) (by omega) hgl1 hb3 hzi (V.foot.mono (fun b hb => by omega) z hzf) hzs HY.out
        have hb2 := (HRW1.out.bt hb3 (by omega)).blk
        have hsz := HRW1.out.size
        obtain ⟨u0, hu0⟩ : ∃ u, cs[j * 4]? = some u := ⟨cs[j * 4]'(by omega), by simp⟩
        obtain ⟨u1, hu1⟩ : ∃ u, cs[j * 4 + 1]? = some u := ⟨cs[j * 4 + 1]'(by omega), by simp⟩
        obtain ⟨u2, hu2⟩ : ∃ u, cs[j * 4 + 2]? = some u := ⟨cs[j * 4 + 2]'(by omega), by simp⟩
        obtain ⟨u3, hu3⟩ : ∃ u, cs[j * 4 + 3]? = some u := ⟨cs[j * 4 + 3]'(by omega), by simp⟩
        have m0 := cellOf hb2 hu0
        have m1 := cellOf hb2 hu1
        have m2 := cellOf hb2 hu2
        have m3 := cellOf hb2 hu3
        have n0 := freeOf (i := j * 4) hb2
        have n1 := freeOf (i := j * 4 + 1) hb2
        have n2 := freeOf (i := j * 4 + 2) hb2
        have n3 := freeOf (i := j * 4 + 3) hb2
        have HST := Lib.hid hst
        have HB3 := Lib.hid (HB1.out.trans hb3)
        have HR3 := Lib.hid hr3
        clear hst hzi hzf hzs hb2 hu0 hu1 hu2 hu3 hr3 hb3
        cases z with
        | mk k n t za zc zl =>
        simp only [V.val_mk]
        go_wp2_with fail
        go_roundw
        case rel => exact ⟨j + 1, _, _, _, by omega, by first | go_num | simp, HST.out, putAt_bt HB3.out (Nat.le_refl _), (putAt_other (by omega)).trans HR3.out, HAT.out, by have := HLEN.out; omega⟩
        case measure => simp [intOf]; omega
    · have hjl : j = ys.length := by omega
      subst hjl
      rw [List.drop_length] at hat hlen
      have hes := hat.ends
      have hq := hat.cons.1
      simp [V.keyBL] at hlen
      subst hlen
      have hlv : vs.length = ys.length := by
        have := congrArg List.length hrow.take
        have hcl : cs.toList.length = 8 * 4 := Array.length_toList.trans hrow.size
        rw [cellsL_length, List.length_take, hcl] at this
        omega
      have htg := fun (w1 : World) (h : Bt R wr w1) => together_rows w1 w.heap.size 8 ys.length (cellsL vs) (by rw [cellsL_length, hlv]) (fun i v hv => by
        have h1 : cs[i]? = some v := by
          rw [← hrow.take] at hv
          rw [← Array.getElem?_toList]
          rw [List.getElem?_take] at hv
          split at hv
          · exact hv
          · cases hv
        exact cellOf ((hrow.bt h (by omega)).blk) h1) (cellsL_one vs) hl
      have HS := Lib.hid (fun (w1 : World) (h : Reader w1 R s _) => skip_yes w1 R s ⟨#[0]⟩ _ h (by omega) hs (by decide) hes)
      have HTG := Lib.hid htg
      have HROW := Lib.hid hrow
      have HBT := Lib.hid hbt
      have HRD := Lib.hid hrd
      clear hes htg hrow hbt hrd hat
      go_wp2_with fail
      refine (HS.out _ HRD.out).mono ?_
      rintro e w1 ⟨rfl, hr1, hb1⟩
      have HR1 := Lib.hid hr1
      have HB1 := Lib.hid hb1
      clear hr1 hb1
      go_wp2_with fail
      rw [slice_arr w1 w.heap.size ys.length hl]
      go_wp2_with fail
      refine (HTG.out _ HB1.out).mono ?_
      rintro e w2 ⟨g, rfl, hg, hgb, hk2⟩
      have HG := Lib.hid hgb
      have HK := Lib.hid hk2
      clear hgb hk2
      go_wp2_with fail
      go_ret
      have hh := HROW.out.bt HB1.out (by omega)
      have hz := HBT.out.size
      have hz1 := HB1.out.size
      have hsm := hh.same
      rw [List.take_of_length_le (Nat.le_refl _)] at hsm
      exact ⟨g, vs, rfl, by omega, HG.out, hsm, hh.hin.keep HK.out.size HK.out, V.footL.mono (fun b hb => by omega) _ hh.foot, HR1.out.kp HK.out, (HBT.out.trans HB1.out).trans (.kp HK.out)⟩

set_option maxRecDepth 100000 in
set_option maxHeartbeats 4000000 in
theorem keyTuple_read (w : World) (R : Nat) (s : ByteArray) (p : Nat) (ys : List V) (hr : Reader w R s p) (hs : s.size ≤ 1000000) (hl : ys.length ≤ 8) (h : HasAt s p (V.keyBL ys ++ [0]))
    (hne : ∀ (j : Nat) (y : V), ys[j]? = some y → ∃ b t, y.keyB = b :: t ∧ b ≠ 0)
    (ih : ∀ (j : Nat) (y : V), ys[j]? = some y → ∀ (w1 : World) (q : Nat), Reader w1 R s q → HasAt s q y.keyB → Calls Tryz.prog 81 #[.pointer (some ⟨R, 0, none⟩)] w1 (ReadsV w1 R s (q + y.keyB.length) y)) :
    Calls Tryz.prog 90 #[.pointer (some ⟨R, 0, none⟩)] w (ReadsV w R s (p + (V.keyBL ys).length + 1) (.mk 2 0 ⟨#[]⟩ none 0 ys)) := by
  have hRl := lt_of_block hr
  have HR := Lib.hid hr
  have HC := Lib.hid (fun (w1 : World) (hr : Reader w1 R s p) => keyList_read w1 R s p ys hr hs hl h hne ih)
  clear hr h hne ih
  generalize p + (V.keyBL ys).length + 1 = e at *
  go_enter Tryz.func90, Tryz.ntmps90
  go_wp2_with fail
  refine (HC.out _ (HR.out.kp (ka _ _))).mono ?_
  rintro e w1 ⟨g, vs, rfl, hg, hgb, hsm, hvi, hvf, hr1, hb1⟩
  simp at hg
  have hblk := (hb1.block w.heap.size (by simp) (by omega)).trans (blockHere (w := w) (o := .cells zero4 24 (0, 0)) rfl)
  obtain ⟨d0, d1, d2, d3, g0, g1, g2, g3⟩ := cell4 hblk
  have hvf2 : V.footL (fun b => w.heap.size + 1 ≤ b) vs := V.footL.mono (fun b hb => by simp at hb; omega) _ hvf
  have HBL := Lib.hid hblk
  have HR1 := Lib.hid hr1
  have HB1 := Lib.hid ((Bt.kp (c := R) (ka w (.cells zero4 24))).trans hb1)
  have HG := Lib.hid hgb
  have HSM := Lib.hid hsm
  have HVI := Lib.hid hvi
  have HVF := Lib.hid hvf2
  clear hblk hr1 hb1 hgb hsm hvi hvf hvf2
  go_wp2_with fail
  obtain ⟨e0, e1, e2, e3, -⟩ := cell4 (put4_block (v0 := .int .i64 2) (v1 := .int .i64 0) (v2 := .string ⟨#[]⟩) (v3 := .slice (some ⟨g, 0, none⟩) ys.length ys.length) HBL.out)
  refine bodyPost_ret (v := .agg #[.int .i64 2, .int .i64 0, .string ⟨#[]⟩, .slice (some ⟨g, 0, none⟩) ys.length ys.length]) (by simp [results, Tryz.results90, go_sem, e0, e1, e2, e3]) rfl ?_
  have hgs := lt_of_block HG.out
  have hlen : vs.length = ys.length := V.sameL_length _ _ HSM.out
  rw [← hlen]
  have hmv : ∀ b, b < w1.heap.size → w.heap.size + 1 ≤ b → (put4 w1 w.heap.size (.int .i64 2) (.int .i64 0) (.string ⟨#[]⟩) (.slice (some ⟨g, 0, none⟩) vs.length vs.length)).heap[b]? = w1.heap[b]? := fun b _ hb => put4_other (by omega)
  have hS : (put4 w1 w.heap.size (.int .i64 2) (.int .i64 0) (.string ⟨#[]⟩) (.slice (some ⟨g, 0, none⟩) vs.length vs.length)).heap.size = w1.heap.size := by simp [World.setCell]
  refine ⟨.mk 2 0 ⟨#[]⟩ (some ⟨g, 0, none⟩) vs.length vs, rfl, ?_, ?_, V.same_node HSM.out, (put4_other (by omega)).trans HR1.out, put4_bt HB1.out (Nat.le_refl _)⟩
  · rw [hS]
    simp only [V.In]
    refine ⟨by unfold I64; omega, by unfold I64; omega, by decide, Nat.le_refl _, by unfold maxLen; omega, .inr ⟨g, 0, rfl, hgs, ?_⟩, V.InL.move (Nat.le_refl _) (fun b h1 h2 => hmv b h1 h2) _ HVI.out HVF.out⟩
    exact At.of_block ((hmv g hgs (by omega)).trans HG.out) rfl
  · simp only [V.foot]
    exact ⟨.inr ⟨g, 0, rfl, by omega⟩, V.footL.mono (fun b hb => by omega) _ HVF.out⟩

end Go.Proofs.YtkofebafmjjljaaGreatDoor

/-
  THE READER AT THE KEY OF ANY VALUE.
-/
namespace Go.Proofs.YtkofebafmjjljaaGreatDoor
open Go.RowKit

set_option maxRecDepth 100000 in
set_option maxHeartbeats 4000000 in
theorem ofKey_keyWord (w : World) (R : Nat) (s : ByteArray) (p q : Nat) (y : V) (hr : Reader w R s p) (hs : s.size ≤ 1000000) (hp : p < s.size) (hb : s[p] = 1)
    (ih : ∀ w1 : World, Reader w1 R s (p + 1) → Calls Tryz.prog 86 #[.pointer (some ⟨R, 0, none⟩)] w1 (ReadsV w1 R s q y)) :
    Calls Tryz.prog 81 #[.pointer (some ⟨R, 0, none⟩)] w (ReadsV w R s q y) := by
  have HR := Lib.hid hr
  have hRl := lt_of_block hr
  have N : ∀ w1 : World, Reader w1 R s p → Calls Tryz.prog 125 #[.pointer (some ⟨R, 0, none⟩)] w1 fun e w' => e = .returned (.int .u8 1) ∧ Reader w' R s (p + 1) ∧ Bt R w1 w' := fun w1 hq => by
    have := next_yes w1 R s p hq hp hs
    rw [hb] at this
    exact this
  have HN := Lib.hid N
  have HC := Lib.hid ih
  clear hr N ih hb
  go_enter Tryz.func81, Tryz.ntmps81
  go_wp2_with fail
  refine (kinds_any _).mono ?_
  rintro e w1 ⟨rfl, hk⟩
  have HK := Lib.hid (kk (ka _ _) hk)
  have HRS0 := Lib.hid ((hk.block w.heap.size (by simp)).trans (blockHere (w := w) (o := .cells zero4 24 (0, 0)) rfl))
  have hz1 := lt_of_block HRS0.out
  clear hk
  go_wp2_with fail
  have hk2 : Kp w (w1.alloc (.cells kindsA 71)) := kk HK.out (ka _ _)
  refine (HN.out _ (HR.out.kp hk2)).mono ?_
  rintro e w3 ⟨rfl, hr3, hb3⟩
  have hblk := boxAny (R := R) (by omega) hb3
  have c5 := cellOf (i := 1) hblk rfl
  have hres := (hb3.block w.heap.size (by simp; omega) (by omega)).trans ((ka w1 (.cells kindsA 71)).block w.heap.size (by omega) |>.trans HRS0.out)
  have HR3 := Lib.hid hr3
  have HRS := Lib.hid hres
  have HB3 := Lib.hid ((Bt.kp (c := R) hk2).trans hb3)
  clear hr3 hb3 hblk hk2 hres
  go_wp2_with fail
  refine (HC.out _ HR3.out).mono ?_
  rintro e w4 ⟨x, rfl, hxi, hxf, hxs, hr4, hb4⟩
  have hz3 := lt_of_block HRS.out
  have hxf2 : x.foot (fun b => w.heap.size + 1 ≤ b) := V.foot.mono (fun b hb => by omega) _ hxf
  have hblk := (hb4.block w.heap.size (by omega) (by omega)).trans HRS.out
  obtain ⟨d0, d1, d2, d3, g0, g1, g2, g3⟩ := cell4 hblk
  have HBL := Lib.hid hblk
  have HXI := Lib.hid hxi
  have HXF := Lib.hid hxf2
  have HXS := Lib.hid hxs
  have HR4 := Lib.hid hr4
  have HB4 := Lib.hid (HB3.out.trans hb4)
  clear hxi hxf hxf2 hxs hr4 hb4 hblk
  cases x with
  | mk k n t a cap l =>
  simp only [V.val_mk]
  go_wp2_with fail
  obtain ⟨e0, e1, e2, e3, -⟩ := cell4 (put4_block (v0 := .int .i64 k) (v1 := .int .i64 n) (v2 := .string t) (v3 := .slice a l.length cap) HBL.out)
  refine bodyPost_ret (v := .agg #[.int .i64 k, .int .i64 n, .string t, .slice a l.length cap]) (by simp [results, Tryz.results81, go_sem, e0, e1, e2, e3]) rfl ?_
  have hS : (put4 w4 w.heap.size (.int .i64 k) (.int .i64 n) (.string t) (.slice a l.length cap)).heap.size = w4.heap.size := by simp [World.setCell]
  exact ⟨.mk k n t a cap l, rfl, by rw [hS]; exact V.In.move (Nat.le_refl _) (fun b _ hb => put4_other (by omega)) _ HXI.out HXF.out, V.foot.mono (fun b hb => by omega) _ HXF.out, HXS.out, (put4_other (by omega)).trans HR4.out, put4_bt HB4.out (Nat.le_refl _)⟩

set_option maxRecDepth 100000 in
set_option maxHeartbeats 4000000 in
theorem ofKey_keyText (w : World) (R : Nat) (s : ByteArray) (p q : Nat) (y : V) (hr : Reader w R s p) (hs : s.size ≤ 1000000) (hp : p < s.size) (hb : s[p] = 2)
    (ih : ∀ w1 : World, Reader w1 R s (p + 1) → Calls Tryz.prog 88 #[.pointer (some ⟨R, 0, none⟩)] w1 (ReadsV w1 R s q y)) :
    Calls Tryz.prog 81 #[.pointer (some ⟨R, 0, none⟩)] w (ReadsV w R s q y) := by
  have HR := Lib.hid hr
  have hRl := lt_of_block hr
  have N : ∀ w1 : World, Reader w1 R s p → Calls Tryz.prog 125 #[.pointer (some ⟨R, 0, none⟩)] w1 fun e w' => e = .returned (.int .u8 2) ∧ Reader w' R s (p + 1) ∧ Bt R w1 w' := fun w1 hq => by
    have := next_yes w1 R s p hq hp hs
    rw [hb] at this
    exact this
  have HN := Lib.hid N
  have HC := Lib.hid ih
  clear hr N ih hb
  go_enter Tryz.func81, Tryz.ntmps81
  go_wp2_with fail
  refine (kinds_any _).mono ?_
  rintro e w1 ⟨rfl, hk⟩
  have HK := Lib.hid (kk (ka _ _) hk)
  have HRS0 := Lib.hid ((hk.block w.heap.size (by simp)).trans (blockHere (w := w) (o := .cells zero4 24 (0, 0)) rfl))
  have hz1 := lt_of_block HRS0.out
  clear hk
  go_wp2_with fail
  have hk2 : Kp w (w1.alloc (.cells kindsA 71)) := kk HK.out (ka _ _)
  refine (HN.out _ (HR.out.kp hk2)).mono ?_
  rintro e w3 ⟨rfl, hr3, hb3⟩
  have hblk := boxAny (R := R) (by omega) hb3
  have c5 := cellOf (i := 3) hblk rfl
  have hres := (hb3.block w.heap.size (by simp; omega) (by omega)).trans ((ka w1 (.cells kindsA 71)).block w.heap.size (by omega) |>.trans HRS0.out)
  have HR3 := Lib.hid hr3
  have HRS := Lib.hid hres
  have HB3 := Lib.hid ((Bt.kp (c := R) hk2).trans hb3)
  clear hr3 hb3 hblk hk2 hres
  go_wp2_with fail
  refine (HC.out _ HR3.out).mono ?_
  rintro e w4 ⟨x, rfl, hxi, hxf, hxs, hr4, hb4⟩
  have hz3 := lt_of_block HRS.out
  have hxf2 : x.foot (fun b => w.heap.size + 1 ≤ b) := V.foot.mono (fun b hb => by omega) _ hxf
  have hblk := (hb4.block w.heap.size (by omega) (by omega)).trans HRS.out
  obtain ⟨d0, d1, d2, d3, g0, g1, g2, g3⟩ := cell4 hblk
  have HBL := Lib.hid hblk
  have HXI := Lib.hid hxi
  have HXF := Lib.hid hxf2
  have HXS := Lib.hid hxs
  have HR4 := Lib.hid hr4
  have HB4 := Lib.hid (HB3.out.trans hb4)
  clear hxi hxf hxf2 hxs hr4 hb4 hblk
  cases x with
  | mk k n t a cap l =>
  simp only [V.val_mk]
  go_wp2_with fail
  obtain ⟨e0, e1, e2, e3, -⟩ := cell4 (put4_block (v0 := .int .i64 k) (v1 := .int .i64 n) (v2 := .string t) (v3 := .slice a l.length cap) HBL.out)
  refine bodyPost_ret (v := .agg #[.int .i64 k, .int .i64 n, .string t, .slice a l.length cap]) (by simp [results, Tryz.results81, go_sem, e0, e1, e2, e3]) rfl ?_
  have hS : (put4 w4 w.heap.size (.int .i64 k) (.int .i64 n) (.string t) (.slice a l.length cap)).heap.size = w4.heap.size := by simp [World.setCell]
  exact ⟨.mk k n t a cap l, rfl, by rw [hS]; exact V.In.move (Nat.le_refl _) (fun b _ hb => put4_other (by omega)) _ HXI.out HXF.out, V.foot.mono (fun b hb => by omega) _ HXF.out, HXS.out, (put4_other (by omega)).trans HR4.out, put4_bt HB4.out (Nat.le_refl _)⟩

set_option maxRecDepth 100000 in
set_option maxHeartbeats 4000000 in
theorem ofKey_keyTuple (w : World) (R : Nat) (s : ByteArray) (p q : Nat) (y : V) (hr : Reader w R s p) (hs : s.size ≤ 1000000) (hp : p < s.size) (hb : s[p] = 3)
    (ih : ∀ w1 : World, Reader w1 R s (p + 1) → Calls Tryz.prog 90 #[.pointer (some ⟨R, 0, none⟩)] w1 (ReadsV w1 R s q y)) :
    Calls Tryz.prog 81 #[.pointer (some ⟨R, 0, none⟩)] w (ReadsV w R s q y) := by
  have HR := Lib.hid hr
  have hRl := lt_of_block hr
  have N : ∀ w1 : World, Reader w1 R s p → Calls Tryz.prog 125 #[.pointer (some ⟨R, 0, none⟩)] w1 fun e w' => e = .returned (.int .u8 3) ∧ Reader w' R s (p + 1) ∧ Bt R w1 w' := fun w1 hq => by
    have := next_yes w1 R s p hq hp hs
    rw [hb] at this
    exact this
  have HN := Lib.hid N
  have HC := Lib.hid ih
  clear hr N ih hb
  go_enter Tryz.func81, Tryz.ntmps81
  go_wp2_with fail
  refine (kinds_any _).mono ?_
  rintro e w1 ⟨rfl, hk⟩
  have HK := Lib.hid (kk (ka _ _) hk)
  have HRS0 := Lib.hid ((hk.block w.heap.size (by simp)).trans (blockHere (w := w) (o := .cells zero4 24 (0, 0)) rfl))
  have hz1 := lt_of_block HRS0.out
  clear hk
  go_wp2_with fail
  have hk2 : Kp w (w1.alloc (.cells kindsA 71)) := kk HK.out (ka _ _)
  refine (HN.out _ (HR.out.kp hk2)).mono ?_
  rintro e w3 ⟨rfl, hr3, hb3⟩
  have hblk := boxAny (R := R) (by omega) hb3
  have c5 := cellOf (i := 5) hblk rfl
  have hres := (hb3.block w.heap.size (by simp; omega) (by omega)).trans ((ka w1 (.cells kindsA 71)).block w.heap.size (by omega) |>.trans HRS0.out)
  have HR3 := Lib.hid hr3
  have HRS := Lib.hid hres
  have HB3 := Lib.hid ((Bt.kp (c := R) hk2).trans hb3)
  clear hr3 hb3 hblk hk2 hres
  go_wp2_with fail
  refine (HC.out _ HR3.out).mono ?_
  rintro e w4 ⟨x, rfl, hxi, hxf, hxs, hr4, hb4⟩
  have hz3 := lt_of_block HRS.out
  have hxf2 : x.foot (fun b => w.heap.size + 1 ≤ b) := V.foot.mono (fun b hb => by omega) _ hxf
  have hblk := (hb4.block w.heap.size (by omega) (by omega)).trans HRS.out
  obtain ⟨d0, d1, d2, d3, g0, g1, g2, g3⟩ := cell4 hblk
  have HBL := Lib.hid hblk
  have HXI := Lib.hid hxi
  have HXF := Lib.hid hxf2
  have HXS := Lib.hid hxs
  have HR4 := Lib.hid hr4
  have HB4 := Lib.hid (HB3.out.trans hb4)
  clear hxi hxf hxf2 hxs hr4 hb4 hblk
  cases x with
  | mk k n t a cap l =>
  simp only [V.val_mk]
  go_wp2_with fail
  obtain ⟨e0, e1, e2, e3, -⟩ := cell4 (put4_block (v0 := .int .i64 k) (v1 := .int .i64 n) (v2 := .string t) (v3 := .slice a l.length cap) HBL.out)
  refine bodyPost_ret (v := .agg #[.int .i64 k, .int .i64 n, .string t, .slice a l.length cap]) (by simp [results, Tryz.results81, go_sem, e0, e1, e2, e3]) rfl ?_
  have hS : (put4 w4 w.heap.size (.int .i64 k) (.int .i64 n) (.string t) (.slice a l.length cap)).heap.size = w4.heap.size := by simp [World.setCell]
  exact ⟨.mk k n t a cap l, rfl, by rw [hS]; exact V.In.move (Nat.le_refl _) (fun b _ hb => put4_other (by omega)) _ HXI.out HXF.out, V.foot.mono (fun b hb => by omega) _ HXF.out, HXS.out, (put4_other (by omega)).trans HR4.out, put4_bt HB4.out (Nat.le_refl _)⟩

set_option maxRecDepth 100000 in
set_option maxHeartbeats 4000000 in
theorem ofKey_keyTagged (w : World) (R : Nat) (s : ByteArray) (p q : Nat) (y : V) (hr : Reader w R s p) (hs : s.size ≤ 1000000) (hp : p < s.size) (hb : s[p] = 4)
    (ih : ∀ w1 : World, Reader w1 R s (p + 1) → Calls Tryz.prog 92 #[.pointer (some ⟨R, 0, none⟩)] w1 (ReadsV w1 R s q y)) :
    Calls Tryz.prog 81 #[.pointer (some ⟨R, 0, none⟩)] w (ReadsV w R s q y) := by
  have HR := Lib.hid hr
  have hRl := lt_of_block hr
  have N : ∀ w1 : World, Reader w1 R s p → Calls Tryz.prog 125 #[.pointer (some ⟨R, 0, none⟩)] w1 fun e w' => e = .returned (.int .u8 4) ∧ Reader w' R s (p + 1) ∧ Bt R w1 w' := fun w1 hq => by
    have := next_yes w1 R s p hq hp hs
    rw [hb] at this
    exact this
  have HN := Lib.hid N
  have HC := Lib.hid ih
  clear hr N ih hb
  go_enter Tryz.func81, Tryz.ntmps81
  go_wp2_with fail
  refine (kinds_any _).mono ?_
  rintro e w1 ⟨rfl, hk⟩
  have HK := Lib.hid (kk (ka _ _) hk)
  have HRS0 := Lib.hid ((hk.block w.heap.size (by simp)).trans (blockHere (w := w) (o := .cells zero4 24 (0, 0)) rfl))
  have hz1 := lt_of_block HRS0.out
  clear hk
  go_wp2_with fail
  have hk2 : Kp w (w1.alloc (.cells kindsA 71)) := kk HK.out (ka _ _)
  refine (HN.out _ (HR.out.kp hk2)).mono ?_
  rintro e w3 ⟨rfl, hr3, hb3⟩
  have hblk := boxAny (R := R) (by omega) hb3
  have c5 := cellOf (i := 7) hblk rfl
  have hres := (hb3.block w.heap.size (by simp; omega) (by omega)).trans ((ka w1 (.cells kindsA 71)).block w.heap.size (by omega) |>.trans HRS0.out)
  have HR3 := Lib.hid hr3
  have HRS := Lib.hid hres
  have HB3 := Lib.hid ((Bt.kp (c := R) hk2).trans hb3)
  clear hr3 hb3 hblk hk2 hres
  go_wp2_with fail
  refine (HC.out _ HR3.out).mono ?_
  rintro e w4 ⟨x, rfl, hxi, hxf, hxs, hr4, hb4⟩
  have hz3 := lt_of_block HRS.out
  have hxf2 : x.foot (fun b => w.heap.size + 1 ≤ b) := V.foot.mono (fun b hb => by omega) _ hxf
  have hblk := (hb4.block w.heap.size (by omega) (by omega)).trans HRS.out
  obtain ⟨d0, d1, d2, d3, g0, g1, g2, g3⟩ := cell4 hblk
  have HBL := Lib.hid hblk
  have HXI := Lib.hid hxi
  have HXF := Lib.hid hxf2
  have HXS := Lib.hid hxs
  have HR4 := Lib.hid hr4
  have HB4 := Lib.hid (HB3.out.trans hb4)
  clear hxi hxf hxf2 hxs hr4 hb4 hblk
  cases x with
  | mk k n t a cap l =>
  simp only [V.val_mk]
  go_wp2_with fail
  obtain ⟨e0, e1, e2, e3, -⟩ := cell4 (put4_block (v0 := .int .i64 k) (v1 := .int .i64 n) (v2 := .string t) (v3 := .slice a l.length cap) HBL.out)
  refine bodyPost_ret (v := .agg #[.int .i64 k, .int .i64 n, .string t, .slice a l.length cap]) (by simp [results, Tryz.results81, go_sem, e0, e1, e2, e3]) rfl ?_
  have hS : (put4 w4 w.heap.size (.int .i64 k) (.int .i64 n) (.string t) (.slice a l.length cap)).heap.size = w4.heap.size := by simp [World.setCell]
  exact ⟨.mk k n t a cap l, rfl, by rw [hS]; exact V.In.move (Nat.le_refl _) (fun b _ hb => put4_other (by omega)) _ HXI.out HXF.out, V.foot.mono (fun b hb => by omega) _ HXF.out, HXS.out, (put4_other (by omega)).trans HR4.out, put4_bt HB4.out (Nat.le_refl _)⟩

end Go.Proofs.YtkofebafmjjljaaGreatDoor
