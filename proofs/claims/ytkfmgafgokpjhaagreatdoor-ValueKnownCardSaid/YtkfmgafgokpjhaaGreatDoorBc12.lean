/-
  Contracts of the functions of package value, of its specification and of what the statements of layer 1 share (values and types made of numbers, the chapter's examples), each for every argument: used by the proofs of layer 1's statements.
  Part 12 of 12.
-/
import Derived.Test.YtkfmgafgokpjhaaGreatDoorBc11
import Derived.Test.YtkfmgafgokpjhaaGreatDoorBc09
import Derived.Test.YtkfmgafgokpjhaaGreatDoorBc10
import Derived.Test.YtkfmgafgokpjhaaGreatDoorBc06
import Derived.Test.YtkfmgafgokpjhaaGreatDoorBc03
/-
  OfKey AT THE KEY OF A VALUE.
-/
namespace Go.Proofs.YtkfmgafgokpjhaaGreatDoor
open Go.RowKit

/-- What is returned: a value in new memory that is the same as y, and OK. -/
def Gets (w : World) (y : V) (e : Ending) (w' : World) : Prop :=
  ∃ x : V, e = .returned (.tuple #[x.val, .int .i64 0]) ∧ x.In w' w'.heap.size ∧ x.foot (fun b => w.heap.size ≤ b) ∧ x.same y = true ∧ Kp w w'

set_option maxRecDepth 100000 in
set_option maxHeartbeats 4000000 in
theorem readKey_ok (w : World) (s : ByteArray) (y : V) (hm : (s.size : Int) ≤ 6500)
    (hF : Calls Tryz.prog 81 #[.pointer (some ⟨w.heap.size + 2, 0, none⟩)] (readW w s) (ReadsV (readW w s) (w.heap.size + 2) s s.size y))
    (hC : ∀ (x : V) (w1 : World), x.In w1 w1.heap.size → x.same y = true → Calls Tryz.prog 19 #[x.val] w1 fun e w' => e = .returned (.int .i64 0) ∧ Kp w1 w') :
    Calls Tryz.prog 73 #[.string s, .int .i64 6500, .func (.func 81) #[] #[], .func (.func 19) #[] #[]] w (Gets w y) := by
  have HC := Lib.hid hC
  have HF := Lib.hid hF
  clear hC hF
  have hmf : ∀ (fn : Fn) (first cap : Array Value) (w : World), (Instr.makeFunc fn first cap).run Tryz.prog w = .ok (.func fn first cap) w := fun _ _ _ _ => rfl
  go_enter_defers Tryz.func73, Tryz.ntmps73
  go_wp2_with fail
  refine HF.out.mono ?_
  rintro e w1 ⟨x, rfl, hxi, hxf, hxs, hr1, hb1⟩
  have x0 : w1.heap[w.heap.size]? = some (.cells zero4 24 (0, 0)) := (hb1.block _ (by simp; omega) (by omega)).trans ((Below.heap_alloc _ _ _ (by simp; omega)).trans ((Below.heap_alloc _ _ _ (by simp)).trans (blockHere rfl)))
  have x1 : w1.heap[w.heap.size + 1]? = some (.cells #[.int .i64 0] 28 (0, 0)) := (hb1.block _ (by simp) (by omega)).trans ((Below.heap_alloc _ _ _ (by simp)).trans (blockHere (by simp)))
  have hxf2 : x.foot (fun b => w.heap.size + 2 ≤ b) := V.foot.mono (fun b hb => by simp at hb; omega) _ hxf
  obtain ⟨c0, c1, c2, c3, f0, f1, f2, f3⟩ := cell4 x0
  have K1 : Kp w w1 := ⟨hb1.os, hb1.tape, hb1.output, by have := hb1.size; simp at this; omega, fun k hk => (hb1.block k (by simp; omega) (by omega)).trans ((readW_kp w s).block k hk)⟩
  have HK1 := Lib.hid K1
  have HX := Lib.hid hxi
  have HXF := Lib.hid hxf2
  have HXS := Lib.hid hxs
  have HR := Lib.hid hr1
  have X0 := Lib.hid x0
  have X1 := Lib.hid x1
  have r0 := hr1.c0
  have r1 := hr1.c1
  clear K1 hxi hxf hxf2 hxs hr1 x0 x1 hb1
  cases x with
  | mk k n t a cap l =>
  have C := fun (w1 : World) hin => HC.out (.mk k n t a cap l) w1 hin HXS.out
  simp only [V.val_mk] at C ⊢
  have HC2 := Lib.hid C
  clear C
  go_wp2_with fail
  have hS : (put4 w1 w.heap.size (.int .i64 k) (.int .i64 n) (.string t) (.slice a l.length cap)).heap.size = w1.heap.size := by simp [World.setCell]
  have hin2 : (V.mk k n t a cap l).In (put4 w1 w.heap.size (.int .i64 k) (.int .i64 n) (.string t) (.slice a l.length cap)) w1.heap.size := V.In.move (Nat.le_refl _) (fun b _ hb => put4_other (by omega)) _ HX.out HXF.out
  have hin3 : (V.mk k n t a cap l).In (put4 w1 w.heap.size (.int .i64 k) (.int .i64 n) (.string t) (.slice a l.length cap)) (put4 w1 w.heap.size (.int .i64 k) (.int .i64 n) (.string t) (.slice a l.length cap)).heap.size := by rw [hS]; exact hin2
  refine (HC2.out _ hin3).mono ?_
  rintro e w2 ⟨rfl, hk2⟩
  have y0 : w2.heap[w.heap.size]? = some (.cells #[.int .i64 k, .int .i64 n, .string t, .slice a l.length cap] 24 (0, 0)) := (hk2.block _ (by have := lt_of_block X0.out; simpa [World.setCell] using this)).trans (put4_block X0.out)
  have y1 : w2.heap[w.heap.size + 1]? = some (.cells #[.int .i64 0] 28 (0, 0)) := (hk2.block _ (by have := lt_of_block X1.out; simpa [World.setCell] using this)).trans ((put4_other (by omega)).trans X1.out)
  have K2 := kk (put4_kp (b := w.heap.size) (v0 := .int .i64 k) (v1 := .int .i64 n) (v2 := .string t) (v3 := .slice a l.length cap) HK1.out (Nat.le_refl _)) hk2
  have q2 : (V.mk k n t a cap l).In w2 w2.heap.size := hin3.keep hk2.size hk2
  obtain ⟨e0, e1, e2, e3, g0, g1, g2, g3⟩ := cell4 y0
  have z0 := cellOf (i := 0) y1 rfl
  have z1 := freeOf (i := 0) y1
  have HY0 := Lib.hid y0
  have HY1 := Lib.hid y1
  have HK2 := Lib.hid K2
  have HQ2 := Lib.hid q2
  clear K2 q2 y0 y1 hk2 hin2 hin3
  go_wp2_with fail
  refine leaves_cons (f := 112) (args := #[.pointer (some ⟨w.heap.size, 0, none⟩), .pointer (some ⟨w.heap.size + 1, 0, none⟩)]) (by simp) (by simp [go_sem]) ?_
  refine (catch_idle w.heap.size (w.heap.size + 1) _).mono ?_
  rintro e u' w'' ⟨rfl, rfl, rfl⟩
  have m0 := (Below.heap_setCell _ ⟨w.heap.size + 1, 0, none⟩ (Value.int .i64 0) w.heap.size (by simp)).trans (put4_block (v0 := .int .i64 k) (v1 := .int .i64 n) (v2 := .string t) (v3 := .slice a l.length cap) HY0.out)
  have m1 := heap_set (i := 0) (u := Value.int .i64 0) ((put4_other (v0 := .int .i64 k) (v1 := .int .i64 n) (v2 := .string t) (v3 := .slice a l.length cap) (by omega : w.heap.size + 1 ≠ w.heap.size)).trans HY1.out)
  obtain ⟨a0, a1, a2, a3, -⟩ := cell4 m0
  have b0 := cellOf (i := 0) m1 rfl
  have kz : Kp w ((put4 w2 w.heap.size (.int .i64 k) (.int .i64 n) (.string t) (.slice a l.length cap)).setCell ⟨w.heap.size + 1, 0, none⟩ (.int .i64 0)) := put1_kp (put4_kp HK2.out (Nat.le_refl _)) (by simp)
  refine ⟨.tuple #[.agg #[.int .i64 k, .int .i64 n, .string t, .slice a l.length cap], .int .i64 0], by simp [results, Tryz.results73, go_sem, a0, a1, a2, a3, b0], .mk k n t a cap l, rfl, ?_, V.foot.mono (fun b hb => by omega) _ HXF.out, HXS.out, kz⟩
  have hZ : ((put4 w2 w.heap.size (.int .i64 k) (.int .i64 n) (.string t) (.slice a l.length cap)).setCell ⟨w.heap.size + 1, 0, none⟩ (.int .i64 0)).heap.size = w2.heap.size := by simp [World.setCell]
  rw [hZ]
  exact V.In.move (Nat.le_refl _) (fun b _ hb => (Below.heap_setCell _ _ _ _ (by simp; omega)).trans (put4_other (by omega))) _ HQ2.out HXF.out

set_option maxRecDepth 100000 in
set_option maxHeartbeats 4000000 in
theorem readKey_more (w : World) (s : ByteArray) (q : Nat) (y : V) (hq : q < s.size) (hm : (s.size : Int) ≤ 6500)
    (hF : Calls Tryz.prog 81 #[.pointer (some ⟨w.heap.size + 2, 0, none⟩)] (readW w s) (ReadsV (readW w s) (w.heap.size + 2) s q y)) :
    Calls Tryz.prog 73 #[.string s, .int .i64 6500, .func (.func 81) #[] #[], .func (.func 19) #[] #[]] w fun e w' => e = .returned (.tuple #[.agg zero4, .int .i64 8]) ∧ Kp w w' := by
  have HF := Lib.hid hF
  clear hF
  have hmf : ∀ (fn : Fn) (first cap : Array Value) (w : World), (Instr.makeFunc fn first cap).run Tryz.prog w = .ok (.func fn first cap) w := fun _ _ _ _ => rfl
  go_enter_defers Tryz.func73, Tryz.ntmps73
  go_wp2_with fail
  refine HF.out.mono ?_
  rintro e w1 ⟨x, rfl, hxi, hxf, hxs, hr1, hb1⟩
  have x0 : w1.heap[w.heap.size]? = some (.cells zero4 24 (0, 0)) := (hb1.block _ (by simp; omega) (by omega)).trans ((Below.heap_alloc _ _ _ (by simp; omega)).trans ((Below.heap_alloc _ _ _ (by simp)).trans (blockHere rfl)))
  have x1 : w1.heap[w.heap.size + 1]? = some (.cells #[.int .i64 0] 28 (0, 0)) := (hb1.block _ (by simp) (by omega)).trans ((Below.heap_alloc _ _ _ (by simp)).trans (blockHere (by simp)))
  have hxf2 : x.foot (fun b => w.heap.size + 2 ≤ b) := V.foot.mono (fun b hb => by simp at hb; omega) _ hxf
  obtain ⟨c0, c1, c2, c3, f0, f1, f2, f3⟩ := cell4 x0
  have K1 : Kp w w1 := ⟨hb1.os, hb1.tape, hb1.output, by have := hb1.size; simp at this; omega, fun k hk => (hb1.block k (by simp; omega) (by omega)).trans ((readW_kp w s).block k hk)⟩
  have HK1 := Lib.hid K1
  have HX := Lib.hid hxi
  have HXF := Lib.hid hxf2
  have HXS := Lib.hid hxs
  have HR := Lib.hid hr1
  have X0 := Lib.hid x0
  have X1 := Lib.hid x1
  have r0 := hr1.c0
  have r1 := hr1.c1
  clear K1 hxi hxf hxf2 hxs hr1 x0 x1 hb1
  cases x with
  | mk k n t a cap l =>
  simp only [V.val_mk]
  go_wp2_with fail
  refine (refuse_any _).mono ?_
  rintro e w2 ⟨rfl, rfl⟩
  have x0 := put4_block (v0 := .int .i64 k) (v1 := .int .i64 n) (v2 := .string t) (v3 := .slice a l.length cap) X0.out
  have x1 := (put4_other (w := w1) (b := w.heap.size) (v0 := .int .i64 k) (v1 := .int .i64 n) (v2 := .string t) (v3 := .slice a l.length cap) (by omega : w.heap.size + 1 ≠ w.heap.size)).trans X1.out
  have K1 := put4_kp (b := w.heap.size) (v0 := .int .i64 k) (v1 := .int .i64 n) (v2 := .string t) (v3 := .slice a l.length cap) HK1.out (Nat.le_refl _)
  refine leaves_cons (f := 112) (args := #[.pointer (some ⟨w.heap.size, 0, none⟩), .pointer (some ⟨w.heap.size + 1, 0, none⟩)]) (by simp) (by simp [go_sem]) ?_
  refine (catch_panicking w.heap.size (w.heap.size + 1) 28 (.int .i64 8) [] _ _ _ _ _ _ x0 x1 (by omega)).mono ?_
  rintro e u' w'' ⟨rfl, rfl, m0, m1, ho, h1, h2, h3, h4⟩
  obtain ⟨a0, a1, a2, a3, -⟩ := cell4 m0
  have b0 := cellOf (i := 0) m1 rfl
  exact ⟨.tuple #[.agg zero4, .int .i64 8], by simp [results, Tryz.results73, go_sem, a0, a1, a2, a3, b0], rfl, h1.trans K1.os, h2.trans K1.tape, h3.trans K1.output, Nat.le_trans K1.size h4, fun k hk => (ho k (Nat.lt_of_lt_of_le hk K1.size) (by omega) (by omega)).trans (K1.block k hk)⟩

set_option maxRecDepth 100000 in
set_option maxHeartbeats 4000000 in
theorem ofKey_gets (w : World) (s : ByteArray) (y : V) (hR : ∀ w1 : World, Calls Tryz.prog 73 #[.string s, .int .i64 6500, .func (.func 81) #[] #[], .func (.func 19) #[] #[]] w1 (Gets w1 y)) :
    Calls Tryz.prog 38 #[.string s] w (Gets w y) := by
  have HC := Lib.hid hR
  clear hR
  go_enter Tryz.func38, Tryz.ntmps38
  go_wp2_with fail
  refine (HC.out _).mono ?_
  rintro e w1 ⟨x, rfl, hxi, hxf, hxs, hk⟩
  have hblk := boxK hk
  have hxf2 : x.foot (fun b => w.heap.size + 1 ≤ b) := V.foot.mono (fun b hb => by simp at hb; omega) _ hxf
  have HK := Lib.hid (kk (ka _ _) hk)
  obtain ⟨c0, c1, c2, c3, f0, f1, f2, f3⟩ := cell4 hblk
  have HBL := Lib.hid hblk
  have HX := Lib.hid hxi
  have HXF := Lib.hid hxf2
  have HXS := Lib.hid hxs
  clear hk hblk hxi hxf hxf2 hxs
  cases x with
  | mk k n t a cap l =>
  simp only [V.val_mk]
  go_wp2_with fail
  obtain ⟨d0, d1, d2, d3, -⟩ := cell4 (put4_block (v0 := .int .i64 k) (v1 := .int .i64 n) (v2 := .string t) (v3 := .slice a l.length cap) HBL.out)
  have hS : (put4 w1 w.heap.size (.int .i64 k) (.int .i64 n) (.string t) (.slice a l.length cap)).heap.size = w1.heap.size := by simp [World.setCell]
  refine bodyPost_ret (v := .tuple #[.agg #[.int .i64 k, .int .i64 n, .string t, .slice a l.length cap], .int .i64 0]) (by simp [results, Tryz.results38, go_sem, d0, d1, d2, d3]) rfl ?_
  exact ⟨.mk k n t a cap l, rfl, by rw [hS]; exact V.In.move (Nat.le_refl _) (fun b _ hb => put4_other (by omega)) _ HX.out HXF.out, V.foot.mono (fun b hb => by omega) _ HXF.out, HXS.out, put4_kp HK.out (Nat.le_refl _)⟩

/-- OfKey at a value's own key. -/
theorem ofKeyP (w : World) (y : V) (d : Nat) (hy : y.sh d = true) (hm : y.keyB.length ≤ 6500)
    (hC : ∀ (x : V) (w1 : World), x.In w1 w1.heap.size → x.same y = true → Calls Tryz.prog 19 #[x.val] w1 fun e w' => e = .returned (.int .i64 0) ∧ Kp w1 w') :
    Calls Tryz.prog 38 #[.string ⟨y.keyB.toArray⟩] w (Gets w y) := by
  refine ofKey_gets w _ y fun w1 => ?_
  have hsz : (⟨y.keyB.toArray⟩ : ByteArray).size = y.keyB.length := by simp [ByteArray.size]
  have := readK y.rank y d (readW w1 ⟨y.keyB.toArray⟩) (w1.heap.size + 2) ⟨y.keyB.toArray⟩ 0 (Nat.le_refl _) hy (readW_reader w1 _) (by omega) ⟨[], by simp⟩
  exact readKey_ok w1 _ y (by omega) (by rw [hsz]; simpa using this) hC

end Go.Proofs.YtkfmgafgokpjhaaGreatDoor

/-
  Least, THE PROGRAM's AND THE SPECIFICATION's, AT ANY TYPE.
-/
namespace Go.Proofs.YtkfmgafgokpjhaaGreatDoor
open Go.RowKit

/-- What Least makes: the least value, or none. -/
def lstV (t : T) : V := if t.valid then t.lst else .mk 0 0 ⟨#[]⟩ none 0 []

set_option maxRecDepth 100000 in
set_option maxHeartbeats 4000000 in
theorem leastTopP_no (k : Int) (a : Option Addr) (cap : Nat) (l : List T) (w : World) (hin : (T.mk k a cap l).In w w.heap.size) (hv : (T.mk k a cap l).valid = false) :
    Calls Tryz.prog 15 #[.agg #[.int .i64 k, .slice a l.length cap]] w (Makes2 w (lstV (T.mk k a cap l)) 1) := by
  have C := fun (w1 : World) (h : Kp w w1) => typeV k a cap l w1 (hin.keep h.size h)
  rw [badT_arg, hv] at C
  have y0 : lstV (T.mk k a cap l) = .mk 0 0 ⟨#[]⟩ none 0 [] := by simp [lstV, hv]
  rw [y0]
  have HC := Lib.hid C
  clear C hin hv y0
  go_enter Tryz.func15, Tryz.ntmps15
  go_wp2_with fail
  refine (HC.out _ (kk (ka _ _) (ka _ _))).mono ?_
  rintro e w1 ⟨rfl, hk1⟩
  have hz1 := hk1.size
  simp at hz1
  have hblk : w1.heap[w.heap.size + 1]? = some (.cells zero4 24 (0, 0)) := (hk1.block _ (by simp)).trans (blockHere (by simp))
  have hbox : w1.heap[w.heap.size]? = some (.cells #[.int .i64 k, .slice a l.length cap] 27 (0, 0)) := (hk1.block _ (by simp; omega)).trans (blockPast (blockHere rfl))
  have b0 : w1.cell? ⟨w.heap.size, 0, none⟩ = some (.int .i64 k) := cellOf hbox rfl
  have b1 : w1.cell? ⟨w.heap.size, 1, none⟩ = some (.slice a l.length cap) := cellOf hbox rfl
  obtain ⟨c0, c1, c2, c3, f0, f1, f2, f3⟩ := cell4 hblk
  have HB := Lib.hid hblk
  have HK1 := Lib.hid (kk (kk (ka _ _) (ka _ _)) hk1)
  have HZ1 := Lib.hid hz1
  clear hk1 hblk hbox
  go_wp2_with fail
  obtain ⟨e0, e1, e2, e3, -⟩ := cell4 (put4_block (v0 := .int .i64 0) (v1 := .int .i64 0) (v2 := .string ⟨#[]⟩) (v3 := .slice none 0 0) HB.out)
  refine bodyPost_ret (v := .tuple #[.agg #[.int .i64 0, .int .i64 0, .string ⟨#[]⟩, .slice none 0 0], .int .i64 1]) (by simp [results, Tryz.results15, go_sem, e0, e1, e2, e3, argI]) rfl ?_
  exact ⟨.mk 0 0 ⟨#[]⟩ none 0 [], rfl, inLeaf _ _ _ (by unfold I64; omega) (by unfold I64; omega) (by decide), V.foot_leaf _ _ _ _ _, V.same_refl _, put4_kp HK1.out (by omega)⟩

set_option maxRecDepth 100000 in
set_option maxHeartbeats 4000000 in
theorem leastTopP_yes (k : Int) (a : Option Addr) (cap : Nat) (l : List T) (w : World) (hin : (T.mk k a cap l).In w w.heap.size) (hv : (T.mk k a cap l).valid = true) :
    Calls Tryz.prog 15 #[.agg #[.int .i64 k, .slice a l.length cap]] w (Makes2 w (lstV (T.mk k a cap l)) 0) := by
  have C := fun (w1 : World) (h : Kp w w1) => typeV k a cap l w1 (hin.keep h.size h)
  rw [badT_arg, hv] at C
  have y0 : lstV (T.mk k a cap l) = (T.mk k a cap l).lst := by simp [lstV, hv]
  rw [y0]
  have hsh : (T.mk k a cap l).sh 6 = true := by simp [T.valid] at hv; exact hv.1
  have D := fun (w1 : World) (h : Kp w w1) => leastP _ (T.mk k a cap l) 6 w1 (Nat.le_refl _) hsh (hin.keep h.size h)
  dsimp only [T.k, T.a, T.l, T.cap] at D
  generalize (T.mk k a cap l).lst = y at D ⊢
  have HC := Lib.hid C
  have HD := Lib.hid D
  clear C D hin hv y0 hsh
  go_enter Tryz.func15, Tryz.ntmps15
  go_wp2_with fail
  refine (HC.out _ (kk (ka _ _) (ka _ _))).mono ?_
  rintro e w1 ⟨rfl, hk1⟩
  have hz1 := hk1.size
  simp at hz1
  have hblk : w1.heap[w.heap.size + 1]? = some (.cells zero4 24 (0, 0)) := (hk1.block _ (by simp)).trans (blockHere (by simp))
  have hbox : w1.heap[w.heap.size]? = some (.cells #[.int .i64 k, .slice a l.length cap] 27 (0, 0)) := (hk1.block _ (by simp; omega)).trans (blockPast (blockHere rfl))
  have b0 : w1.cell? ⟨w.heap.size, 0, none⟩ = some (.int .i64 k) := cellOf hbox rfl
  have b1 : w1.cell? ⟨w.heap.size, 1, none⟩ = some (.slice a l.length cap) := cellOf hbox rfl
  obtain ⟨c0, c1, c2, c3, f0, f1, f2, f3⟩ := cell4 hblk
  have HB := Lib.hid hblk
  have HK1 := Lib.hid (kk (kk (ka _ _) (ka _ _)) hk1)
  have HZ1 := Lib.hid hz1
  clear hk1 hblk hbox
  go_wp2_with fail
  refine (HD.out _ HK1.out).mono ?_
  rintro e w2 ⟨z, rfl, hzi, hzf, hzs, hk2⟩
  have hblk := (hk2.block _ (lt_of_block HB.out)).trans HB.out
  obtain ⟨d0, d1, d2, d3, g0, g1, g2, g3⟩ := cell4 hblk
  have HB2 := Lib.hid hblk
  have HK2 := Lib.hid (kk HK1.out hk2)
  have hzf2 : z.foot (fun b => w.heap.size + 2 ≤ b) := V.foot.mono (fun b hb => by have := HZ1.out; omega) z hzf
  have HZI := Lib.hid hzi
  have HZF := Lib.hid hzf2
  have HZS := Lib.hid hzs
  clear hk2 hblk hzi hzf hzf2 hzs c0 c1 c2 c3 f0 f1 f2 f3
  cases z with
  | mk zk zn zs za zc zl =>
  simp only [V.val_mk]
  go_wp2_with fail
  obtain ⟨e0, e1, e2, e3, -⟩ := cell4 (put4_block (v0 := .int .i64 zk) (v1 := .int .i64 zn) (v2 := .string zs) (v3 := .slice za zl.length zc) HB2.out)
  refine bodyPost_ret (v := .tuple #[.agg #[.int .i64 zk, .int .i64 zn, .string zs, .slice za zl.length zc], .int .i64 0]) (by simp [results, Tryz.results15, go_sem, e0, e1, e2, e3]) rfl ?_
  have hS : (put4 w2 (w.heap.size + 1) (.int .i64 zk) (.int .i64 zn) (.string zs) (.slice za zl.length zc)).heap.size = w2.heap.size := by simp [World.setCell]
  refine ⟨.mk zk zn zs za zc zl, rfl, ?_, V.foot.mono (fun b hb => by omega) _ HZF.out, HZS.out, put4_kp HK2.out (by omega)⟩
  rw [hS]
  exact V.In.move (Nat.le_refl _) (fun b _ hb => put4_other (by omega)) _ HZI.out HZF.out

theorem leastTopP (k : Int) (a : Option Addr) (cap : Nat) (l : List T) (w : World) (hin : (T.mk k a cap l).In w w.heap.size) :
    Calls Tryz.prog 15 #[.agg #[.int .i64 k, .slice a l.length cap]] w (Makes2 w (lstV (T.mk k a cap l)) (argI (T.mk k a cap l).valid)) := by
  cases hv : (T.mk k a cap l).valid with
  | false => exact leastTopP_no k a cap l w hin hv
  | true => exact leastTopP_yes k a cap l w hin hv

set_option maxRecDepth 100000 in
set_option maxHeartbeats 4000000 in
theorem leastTopR_no (k : Int) (a : Option Addr) (cap : Nat) (l : List T) (w : World) (hin : (T.mk k a cap l).In w w.heap.size) (hv : (T.mk k a cap l).valid = false) :
    Calls Tryz.prog 16 #[.agg #[.int .i64 k, .slice a l.length cap]] w (Makes2 w (lstV (T.mk k a cap l)) 1) := by
  have C := fun (w1 : World) (h : Kp w w1) => validT_ref k a cap l w1 (hin.keep h.size h)
  rw [hv] at C
  have y0 : lstV (T.mk k a cap l) = .mk 0 0 ⟨#[]⟩ none 0 [] := by simp [lstV, hv]
  rw [y0]
  have HC := Lib.hid C
  clear C hin hv y0
  go_enter Tryz.func16, Tryz.ntmps16
  go_wp2_with fail
  refine (HC.out _ (kk (ka _ _) (ka _ _))).mono ?_
  rintro e w1 ⟨rfl, hk1⟩
  have hz1 := hk1.size
  simp at hz1
  have hblk : w1.heap[w.heap.size + 1]? = some (.cells zero4 24 (0, 0)) := (hk1.block _ (by simp)).trans (blockHere (by simp))
  have hbox : w1.heap[w.heap.size]? = some (.cells #[.int .i64 k, .slice a l.length cap] 27 (0, 0)) := (hk1.block _ (by simp; omega)).trans (blockPast (blockHere rfl))
  have b0 : w1.cell? ⟨w.heap.size, 0, none⟩ = some (.int .i64 k) := cellOf hbox rfl
  have b1 : w1.cell? ⟨w.heap.size, 1, none⟩ = some (.slice a l.length cap) := cellOf hbox rfl
  obtain ⟨c0, c1, c2, c3, f0, f1, f2, f3⟩ := cell4 hblk
  have HB := Lib.hid hblk
  have HK1 := Lib.hid (kk (kk (ka _ _) (ka _ _)) hk1)
  have HZ1 := Lib.hid hz1
  clear hk1 hblk hbox
  go_wp2_with fail
  obtain ⟨e0, e1, e2, e3, -⟩ := cell4 (put4_block (v0 := .int .i64 0) (v1 := .int .i64 0) (v2 := .string ⟨#[]⟩) (v3 := .slice none 0 0) HB.out)
  refine bodyPost_ret (v := .tuple #[.agg #[.int .i64 0, .int .i64 0, .string ⟨#[]⟩, .slice none 0 0], .int .i64 1]) (by simp [results, Tryz.results16, go_sem, e0, e1, e2, e3]) rfl ?_
  exact ⟨.mk 0 0 ⟨#[]⟩ none 0 [], rfl, inLeaf _ _ _ (by unfold I64; omega) (by unfold I64; omega) (by decide), V.foot_leaf _ _ _ _ _, V.same_refl _, put4_kp HK1.out (by omega)⟩

set_option maxRecDepth 100000 in
set_option maxHeartbeats 4000000 in
theorem leastTopR_yes (k : Int) (a : Option Addr) (cap : Nat) (l : List T) (w : World) (hin : (T.mk k a cap l).In w w.heap.size) (hv : (T.mk k a cap l).valid = true) :
    Calls Tryz.prog 16 #[.agg #[.int .i64 k, .slice a l.length cap]] w (Makes2 w (lstV (T.mk k a cap l)) 0) := by
  have C := fun (w1 : World) (h : Kp w w1) => validT_ref k a cap l w1 (hin.keep h.size h)
  rw [hv] at C
  have y0 : lstV (T.mk k a cap l) = (T.mk k a cap l).lst := by simp [lstV, hv]
  rw [y0]
  have hsh : (T.mk k a cap l).sh 6 = true := by simp [T.valid] at hv; exact hv.1
  have D := fun (w1 : World) (h : Kp w w1) => leastR _ (T.mk k a cap l) 6 w1 (Nat.le_refl _) hsh (hin.keep h.size h)
  dsimp only [T.k, T.a, T.l, T.cap] at D
  generalize (T.mk k a cap l).lst = y at D ⊢
  have HC := Lib.hid C
  have HD := Lib.hid D
  clear C D hin hv y0 hsh
  go_enter Tryz.func16, Tryz.ntmps16
  go_wp2_with fail
  refine (HC.out _ (kk (ka _ _) (ka _ _))).mono ?_
  rintro e w1 ⟨rfl, hk1⟩
  have hz1 := hk1.size
  simp at hz1
  have hblk : w1.heap[w.heap.size + 1]? = some (.cells zero4 24 (0, 0)) := (hk1.block _ (by simp)).trans (blockHere (by simp))
  have hbox : w1.heap[w.heap.size]? = some (.cells #[.int .i64 k, .slice a l.length cap] 27 (0, 0)) := (hk1.block _ (by simp; omega)).trans (blockPast (blockHere rfl))
  have b0 : w1.cell? ⟨w.heap.size, 0, none⟩ = some (.int .i64 k) := cellOf hbox rfl
  have b1 : w1.cell? ⟨w.heap.size, 1, none⟩ = some (.slice a l.length cap) := cellOf hbox rfl
  obtain ⟨c0, c1, c2, c3, f0, f1, f2, f3⟩ := cell4 hblk
  have HB := Lib.hid hblk
  have HK1 := Lib.hid (kk (kk (ka _ _) (ka _ _)) hk1)
  have HZ1 := Lib.hid hz1
  clear hk1 hblk hbox
  go_wp2_with fail
  refine (HD.out _ HK1.out).mono ?_
  rintro e w2 ⟨z, rfl, hzi, hzf, hzs, hk2⟩
  have hblk := (hk2.block _ (lt_of_block HB.out)).trans HB.out
  obtain ⟨d0, d1, d2, d3, g0, g1, g2, g3⟩ := cell4 hblk
  have HB2 := Lib.hid hblk
  have HK2 := Lib.hid (kk HK1.out hk2)
  have hzf2 : z.foot (fun b => w.heap.size + 2 ≤ b) := V.foot.mono (fun b hb => by have := HZ1.out; omega) z hzf
  have HZI := Lib.hid hzi
  have HZF := Lib.hid hzf2
  have HZS := Lib.hid hzs
  clear hk2 hblk hzi hzf hzf2 hzs c0 c1 c2 c3 f0 f1 f2 f3
  cases z with
  | mk zk zn zs za zc zl =>
  simp only [V.val_mk]
  go_wp2_with fail
  obtain ⟨e0, e1, e2, e3, -⟩ := cell4 (put4_block (v0 := .int .i64 zk) (v1 := .int .i64 zn) (v2 := .string zs) (v3 := .slice za zl.length zc) HB2.out)
  refine bodyPost_ret (v := .tuple #[.agg #[.int .i64 zk, .int .i64 zn, .string zs, .slice za zl.length zc], .int .i64 0]) (by simp [results, Tryz.results16, go_sem, e0, e1, e2, e3]) rfl ?_
  have hS : (put4 w2 (w.heap.size + 1) (.int .i64 zk) (.int .i64 zn) (.string zs) (.slice za zl.length zc)).heap.size = w2.heap.size := by simp [World.setCell]
  refine ⟨.mk zk zn zs za zc zl, rfl, ?_, V.foot.mono (fun b hb => by omega) _ HZF.out, HZS.out, put4_kp HK2.out (by omega)⟩
  rw [hS]
  exact V.In.move (Nat.le_refl _) (fun b _ hb => put4_other (by omega)) _ HZI.out HZF.out

theorem leastTopR (k : Int) (a : Option Addr) (cap : Nat) (l : List T) (w : World) (hin : (T.mk k a cap l).In w w.heap.size) :
    Calls Tryz.prog 16 #[.agg #[.int .i64 k, .slice a l.length cap]] w (Makes2 w (lstV (T.mk k a cap l)) (argI (T.mk k a cap l).valid)) := by
  cases hv : (T.mk k a cap l).valid with
  | false => exact leastTopR_no k a cap l w hin hv
  | true => exact leastTopR_yes k a cap l w hin hv

end Go.Proofs.YtkfmgafgokpjhaaGreatDoor

/-
  PLAIN MATHEMATICS: THE LEAST VALUE OF A TYPE IS OF IT, AND NO VALUE OF IT IS AHEAD.
-/
namespace Go.Proofs.YtkfmgafgokpjhaaGreatDoor
open Go.RowKit

mutual
theorem same_sh : ∀ (x y : V) (d : Nat), x.same y = true → x.sh d = y.sh d
  | .mk k n s a c l, .mk k' n' s' a' c' l', d, h => by
    simp [V.same] at h
    obtain ⟨rfl, rfl, hs, hl⟩ := h
    have hs2 : s = s' := by
      have : s.data.toList = s'.data.toList := by rw [← ByteArray.toList_eq, ← ByteArray.toList_eq]; exact hs
      exact WideShapes.bytes_inj this
    subst hs2
    have h1 := V.sameL_length l l' hl
    cases d with
    | zero => simp [V.sh]
    | succ d => simp [V.sh, h1, same_shL l l' d hl]
theorem same_shL : ∀ (l m : List V) (d : Nat), V.sameL l m = true → V.shL l d = V.shL m d
  | [], [], _, _ => rfl
  | [], _ :: _, _, h => by simp [V.sameL] at h
  | _ :: _, [], _, h => by simp [V.sameL] at h
  | x :: xs, y :: ys, d, h => by
    simp [V.sameL] at h
    simp [V.shL, same_sh x y d h.1, same_shL xs ys d h.2]
end
mutual
theorem same_rank : ∀ (x y : V), x.same y = true → x.rank = y.rank
  | .mk k n s a c l, .mk k' n' s' a' c' l', h => by
    simp [V.same] at h
    simp [V.rank, same_ranks l l' h.2.2.2]
theorem same_ranks : ∀ (l m : List V), V.sameL l m = true → V.rank.ranks l = V.rank.ranks m
  | [], [], _ => rfl
  | [], _ :: _, h => by simp [V.sameL] at h
  | _ :: _, [], h => by simp [V.sameL] at h
  | x :: xs, y :: ys, h => by
    simp [V.sameL] at h
    simp [V.rank.ranks, same_rank x y h.1, same_ranks xs ys h.2]
end
theorem same_valid {x y : V} (h : x.same y = true) : x.valid = y.valid := by
  unfold V.valid
  rw [same_sh x y 6 h, same_rank x y h]
mutual
theorem same_is : ∀ (x y : V) (t : T), x.same y = true → x.is t = y.is t
  | .mk k n s a c l, .mk k' n' s' a' c' l', t, h => by
    simp [V.same] at h
    obtain ⟨rfl, rfl, hs, hl⟩ := h
    simp [V.is, V.sameL_length l l' hl, same_isL l l' k n t 0 hl]
theorem same_isL : ∀ (l m : List V) (k n : Int) (t : T) (i : Nat), V.sameL l m = true → V.isL k n t l i = V.isL k n t m i
  | [], [], _, _, _, _, _ => rfl
  | [], _ :: _, _, _, _, _, h => by simp [V.sameL] at h
  | _ :: _, [], _, _, _, _, h => by simp [V.sameL] at h
  | x :: xs, y :: ys, k, n, t, i, h => by
    simp [V.sameL] at h
    simp only [V.isL, same_isL xs ys k n t (i + 1) h.2]
    congr 1
    split
    · exact same_is x y _ h.1
    · rfl
end
theorem same_part : ∀ {l m : List V} {j : Nat} {x : V}, V.sameL l m = true → l[j]? = some x → ∃ y, m[j]? = some y ∧ x.same y = true
  | [], [], _, _, _, h => by simp at h
  | [], _ :: _, _, _, h, _ => by simp [V.sameL] at h
  | _ :: _, [], _, _, h, _ => by simp [V.sameL] at h
  | x :: xs, y :: ys, 0, z, h, hz => by
    simp [V.sameL] at h
    simp at hz
    subst hz
    exact ⟨y, rfl, h.1⟩
  | x :: xs, y :: ys, j + 1, z, h, hz => by
    simp [V.sameL] at h
    obtain ⟨y', h1, h2⟩ := same_part (j := j) h.2 (by simpa using hz)
    exact ⟨y', by simpa using h1, h2⟩

theorem lstL_at : ∀ {l : List T} {j : Nat} {u : T}, l[j]? = some u → (T.lstL l)[j]? = some u.lst
  | [], _, _, h => by simp at h
  | x :: xs, 0, u, h => by simp at h; subst h; simp [T.lstL]
  | x :: xs, j + 1, u, h => by simpa [T.lstL] using lstL_at (j := j) (by simpa using h)
theorem lstL_ranks : ∀ (l : List T), (∀ (j : Nat) (u : T), l[j]? = some u → u.lst.rank ≤ u.rank) → V.rank.ranks (T.lstL l) ≤ T.rank.ranks l
  | [], _ => by simp [T.lstL, V.rank.ranks]
  | x :: xs, h => by
    have h1 := h 0 x rfl
    have h2 := lstL_ranks xs (fun j u hu => h (j + 1) u (by simpa using hu))
    simp [T.lstL, V.rank.ranks, T.rank.ranks]; omega

theorem lst0 (a : Option Addr) (c : Nat) (l : List T) : (T.mk 0 a c l).lst = .mk 0 (-2147483648) ⟨#[]⟩ none 0 [] := by simp [T.lst]
theorem lst1 (a : Option Addr) (c : Nat) (l : List T) : (T.mk 1 a c l).lst = .mk 1 0 ⟨#[]⟩ none 0 [] := by simp [T.lst]
theorem lst2 (a : Option Addr) (c : Nat) (l : List T) : (T.mk 2 a c l).lst = .mk 2 0 ⟨#[]⟩ none 0 (T.lstL l) := by simp [T.lst]
theorem lst3 (a : Option Addr) (c : Nat) (u : T) (l : List T) : (T.mk 3 a c (u :: l)).lst = .mk 3 0 ⟨#[]⟩ none 0 [u.lst] := by simp [T.lst, T.lstH]
theorem shLV_at {l : List V} {d j : Nat} {x : V} (h : V.shL l d = true) (hx : l[j]? = some x) : x.sh d = true := by
  induction l generalizing j with
  | nil => simp at hx
  | cons y ys ih =>
    simp [V.shL] at h
    cases j with
    | zero => simp at hx; subst hx; exact h.1
    | succ j => exact ih h.2 (by simpa using hx)

/-- The least value of a type is of it, no deeper and with no more values. -/
theorem lst_of : ∀ (N : Nat) (t : T) (d : Nat), t.rank ≤ N → t.sh d = true → t.lst.is t = true ∧ (∀ d, t.sh d = true → t.lst.sh d = true) ∧ t.lst.rank ≤ t.rank := by
  intro N
  induction N with
  | zero => intro t d h; have := t.rank_pos; omega
  | succ N ih =>
    intro t d hN ht
    cases t with
    | mk k ta tc tl =>
    cases d with
    | zero => simp [T.sh] at ht
    | succ d =>
    simp [T.sh] at ht
    obtain ⟨hf, hp⟩ := ht
    have hrk : (T.mk k ta tc tl).rank = 1 + T.rank.ranks tl := by simp [T.rank]
    have hih : ∀ (j : Nat) (u : T), tl[j]? = some u → u.lst.is u = true ∧ (∀ d, u.sh d = true → u.lst.sh d = true) ∧ u.lst.rank ≤ u.rank := fun j u hu =>
      ih u d (by have := T.ranks_mem hu; omega) (shLT_at hp hu)
    by_cases k0 : k = 0
    · subst k0
      have : tl = [] := by simpa [fitsT] using hf
      subst this
      refine ⟨by simp [T.lst, V.is, okB, kindI, T.k, V.isL], fun d hd => ?_, by simp [T.lst, V.rank, V.rank.ranks, T.rank, T.rank.ranks]⟩
      cases d with
      | zero => simp [T.sh] at hd
      | succ d => simp [T.lst, V.sh, V.shL, fitsB, wordB]
    by_cases k1 : k = 1
    · subst k1
      have : tl = [] := by simpa [fitsT] using hf
      subst this
      refine ⟨by simp [T.lst, V.is, okB, kindI, T.k, V.isL], fun d hd => ?_, by simp [T.lst, V.rank, V.rank.ranks, T.rank, T.rank.ranks]⟩
      cases d with
      | zero => simp [T.sh] at hd
      | succ d =>
        simp [T.lst, V.sh, V.shL, fitsB, textB, charsB]
        decide
    by_cases k2 : k = 2
    · subst k2
      have hpt : Parts tl (T.lstL tl) := by
        intro i x u hx hu
        rw [lstL_at hu] at hx
        cases hx
        exact ⟨(hih i u hu).1, (hih i u hu).2.1⟩
      obtain ⟨h1, h2, h3, -, -⟩ := madeVal_tuple (ta := ta) (a' := none) (tcap := tc) (cap' := 0) (lstL_length tl) hpt (lstL_ranks tl (fun j u hu => (hih j u hu).2.2)) (at_ := 0) (c := 1) (by omega) (by omega)
      rw [lst2]
      exact ⟨h1, h2, h3⟩
    by_cases k3 : k = 3
    · subst k3
      have hl : 0 < tl.length ∧ tl.length ≤ 8 := by simpa [fitsT] using hf
      cases tl with
      | nil => simp at hl
      | cons u us =>
        obtain ⟨h1, h2, h3⟩ := hih 0 u rfl
        obtain ⟨g1, g2, g3, -, -⟩ := madeVal_sum (ta := ta) (qa := none) (tcap := tc) (tl := u :: us) (j := 0) (u := u) (z := u.lst) rfl hl.2 (at_ := 0) (c := 1) ⟨h1, h2, h3, by omega, by omega⟩
        have hS : ∀ c, (V.mk 3 0 ⟨#[]⟩ none c [u.lst]).same (.mk 3 0 ⟨#[]⟩ none 0 [u.lst]) = true := fun c => V.same_node (V.sameL_one (V.same_refl _))
        rw [lst3]
        refine ⟨?_, fun d hd => ?_, ?_⟩
        · have := same_is _ _ (.mk 3 ta tc (u :: us)) (hS 1); exact this ▸ g1
        · have := same_sh _ _ d (hS 1); exact this ▸ g2 d hd
        · have := same_rank _ _ (hS 1); exact this ▸ g3
    · simp [fitsT, k0, k1, k2, k3] at hf

theorem ordL_le : ∀ (l m : List V), l.length = m.length → (∀ (j : Nat) (x y : V), l[j]? = some x → m[j]? = some y → x.ord y ≤ 0) → V.ordL l m ≤ 0
  | [], [], _, _ => by simp [V.ordL]
  | [], _ :: _, h, _ => by simp at h
  | _ :: _, [], h, _ => by simp at h
  | x :: xs, y :: ys, h, hp => by
    have h1 := hp 0 x y rfl rfl
    have h2 := ordL_le xs ys (by simpa using h) (fun j a b ha hb => hp (j + 1) a b (by simpa using ha) (by simpa using hb))
    rw [ordL_lex]
    unfold lex
    split <;> assumption
theorem lex_le {a b : Int} (h : a ≤ 0) (h' : b ≤ 0) : lex a b ≤ 0 := by unfold lex; split <;> assumption
theorem cb_nil_le (l : List UInt8) : cb [] l ≤ 0 := by cases l <;> simp [Lib.compareBytes]

theorem isL_at {k n : Int} {t : T} : ∀ {l : List V} {i j : Nat} {x : V}, V.isL k n t l i = true → l[j]? = some x → ∃ u, t.l[if k = 3 then n.toNat else i + j]? = some u ∧ x.is u = true
  | [], _, _, _, _, h => by simp at h
  | y :: ys, i, 0, x, h, hx => by
    simp at hx
    subst hx
    simp only [V.isL, Bool.and_eq_true] at h
    obtain ⟨h1, -⟩ := h
    split at h1
    · rename_i u hu
      exact ⟨u, hu, h1⟩
    · cases h1
  | y :: ys, i, j + 1, x, h, hx => by
    simp only [V.isL, Bool.and_eq_true] at h
    obtain ⟨u, hu, hxu⟩ := isL_at (i := i + 1) (j := j) h.2 (by simpa using hx)
    exact ⟨u, by rw [← hu]; congr 1; split <;> omega, hxu⟩

/-- No value of a type is ahead of its least one. -/
theorem lst_le : ∀ (N : Nat) (t : T) (d d' : Nat) (z : V), t.rank ≤ N → t.sh d = true → z.is t = true → z.sh d' = true → t.lst.ord z ≤ 0 := by
  intro N
  induction N with
  | zero => intro t d d' z h; have := t.rank_pos; omega
  | succ N ih =>
    intro t d d' z hN ht hz hzs
    cases t with
    | mk k ta tc tl =>
    cases z with
    | mk zk zn zs za zc zl =>
    cases d with
    | zero => simp [T.sh] at ht
    | succ d =>
    cases d' with
    | zero => simp [V.sh] at hzs
    | succ d' =>
    simp [T.sh] at ht
    obtain ⟨hf, hp⟩ := ht
    simp [V.sh] at hzs
    obtain ⟨hzf, hzp⟩ := hzs
    simp only [V.is, Bool.and_eq_true] at hz
    obtain ⟨hok, hil⟩ := hz
    have hrk : (T.mk k ta tc tl).rank = 1 + T.rank.ranks tl := by simp [T.rank]
    have hpart : ∀ (j : Nat) (u : T) (y : V) (i : Nat), tl[j]? = some u → zl[i]? = some y → y.is u = true → u.lst.ord y ≤ 0 := fun j u y i hu hy hyu =>
      ih u d d' y (by have := T.ranks_mem hu; omega) (shLT_at hp hu) hyu (shLV_at hzp hy)
    have hkk : zk = kindI k := by simp only [okB, T.k, Bool.and_eq_true] at hok; exact of_decide_eq_true hok.1
    rw [ord_lex]
    by_cases k0 : k = 0
    · subst k0
      simp [kindI] at hkk
      subst hkk
      simp [fitsB, wordB] at hzf
      obtain ⟨h1, h2, h3, h4⟩ := hzf
      subst h4
      rw [lst0]
      refine lex_le (lex_le (by simp [V.k, cmpI]) (lex_le (by rw [cmpQ_le]; exact h1) (cb_nil_le _))) (by simp [V.ordL, V.l])
    by_cases k1 : k = 1
    · subst k1
      simp [kindI] at hkk
      subst hkk
      simp [fitsB, textB] at hzf
      obtain ⟨h1, h2, -⟩ := hzf
      subst h1 h2
      rw [lst1]
      refine lex_le (lex_le (by simp [V.k, cmpI]) (lex_le (by simp [V.n, cmpI]) (cb_nil_le _))) (by simp [V.ordL, V.l])
    by_cases k2 : k = 2
    · subst k2
      simp [kindI] at hkk
      subst hkk
      have hlen : zl.length = tl.length := by
        have h := hok
        simp [okB, T.k, T.l, kindI] at h
        exact Decidable.not_not.1 (of_decide_eq_false h)
      simp [fitsB, tupleB] at hzf
      obtain ⟨h1, -, -⟩ := hzf
      subst h1
      rw [lst2]
      refine lex_le (lex_le (by simp [V.k, cmpI]) (lex_le (by simp [V.n, cmpI]) (cb_nil_le _))) ?_
      refine ordL_le _ _ (by simp [V.l, lstL_length, hlen]) (fun j x y hx hy => ?_)
      simp only [V.l] at hx hy
      obtain ⟨u, hu, hyu⟩ := isL_at hil hy
      simp [T.l] at hu
      rw [lstL_at hu] at hx
      cases hx
      exact hpart j u y j hu hy hyu
    by_cases k3 : k = 3
    · subst k3
      simp [kindI] at hkk
      subst hkk
      simp [fitsB, taggedB] at hzf
      obtain ⟨h1, -, -, h4⟩ := hzf
      have hl : 0 < tl.length ∧ tl.length ≤ 8 := by simpa [fitsT] using hf
      match zl, h4, tl, hl with
      | [y], _, u :: us, _ =>
      obtain ⟨u', hu', hyu⟩ := isL_at (j := 0) (x := y) hil rfl
      simp [T.l] at hu'
      rw [lst3]
      by_cases hn : zn = 0
      · subst hn
        simp at hu'
        subst hu'
        have hy := hpart 0 u y 0 rfl rfl hyu
        refine lex_le (lex_le (by simp [V.k, cmpI]) (lex_le (by simp [V.n, cmpI]) (cb_nil_le _))) ?_
        refine ordL_le _ _ rfl (fun j a b ha hb => ?_)
        cases j with
        | zero => simp [V.l] at ha hb; subst ha hb; exact hy
        | succ j => simp [V.l] at ha
      · have hneg : own3 (V.mk 3 0 ⟨#[]⟩ none 0 [u.lst]) (V.mk 3 zn zs za zc [y]) = -1 := by
          have hlt : (0 : Int) < zn := by omega
          simp [own3, lex, V.k, V.n, cmpI, hlt]
        simp [hneg, lex]
    · simp [fitsT, k0, k1, k2, k3] at hf

end Go.Proofs.YtkfmgafgokpjhaaGreatDoor

/-
  read OF A VALUE, whatever the reading tells; Parse OF ANY TEXT.
-/
namespace Go.Proofs.YtkfmgafgokpjhaaGreatDoor
open Go.RowKit

/-- Check of any value. -/
theorem checkOk (x : V) (w : World) (hin : x.In w w.heap.size) :
    Calls Tryz.prog 19 #[x.val] w fun e w' => e = .returned (.int .i64 (if x.valid then 0 else 1)) ∧ Kp w w' := by
  cases x with
  | mk k n s a c l =>
  have := checkV k n s a c l w hin
  rwa [bad_valid] at this

set_option maxRecDepth 100000 in
set_option maxHeartbeats 8000000 in
theorem readV_any (w : World) (s : ByteArray) (A : V → Nat → Prop) (B : Prop) (hM : (s.size : Int) ≤ 13000)
    (hF : Calls Tryz.prog 74 #[.pointer (some ⟨w.heap.size + 2, 0, none⟩)] (readW w s) fun e w' => (∃ y q, A y q ∧ q ≤ s.size ∧ ReadsV (readW w s) (w.heap.size + 2) s q y e w') ∨ (B ∧ e = .panicked formP ∧ Bt (w.heap.size + 2) (readW w s) w')) :
    Calls Tryz.prog 73 #[.string s, .int .i64 13000, .func (.func 74) #[] #[], .func (.func 19) #[] #[]] w fun e w' =>
      (∃ y, A y s.size ∧ y.valid = true ∧ Gets w y e w') ∨ (((∃ y q, A y q ∧ (q = s.size → y.valid = false)) ∨ B) ∧ e = .returned (.tuple #[.agg zero4, .int .i64 8]) ∧ Kp w w') := by
  have HF := Lib.hid hF
  clear hF
  have hmf : ∀ (fn : Fn) (first cap : Array Value) (w : World), (Instr.makeFunc fn first cap).run Tryz.prog w = .ok (.func fn first cap) w := fun _ _ _ _ => rfl
  go_enter_defers Tryz.func73, Tryz.ntmps73
  go_wp2_with fail
  refine HF.out.mono ?_
  rintro e w1 (⟨y, q, hA, hq, x, rfl, hxi, hxf, hxs, hr1, hb1⟩ | ⟨hB, rfl, hb1⟩)
  rotate_left
  · have x0 : w1.heap[w.heap.size]? = some (.cells zero4 24 (0, 0)) := (hb1.block _ (by simp; omega) (by omega)).trans ((Below.heap_alloc _ _ _ (by simp; omega)).trans ((Below.heap_alloc _ _ _ (by simp)).trans (blockHere rfl)))
    have x1 : w1.heap[w.heap.size + 1]? = some (.cells #[.int .i64 0] 28 (0, 0)) := (hb1.block _ (by simp) (by omega)).trans ((Below.heap_alloc _ _ _ (by simp)).trans (blockHere (by simp)))
    have K1 : Kp w w1 := ⟨hb1.os, hb1.tape, hb1.output, by have := hb1.size; simp at this; omega, fun k hk => (hb1.block k (by simp; omega) (by omega)).trans ((readW_kp w s).block k hk)⟩
    refine leaves_cons (f := 112) (args := #[.pointer (some ⟨w.heap.size, 0, none⟩), .pointer (some ⟨w.heap.size + 1, 0, none⟩)]) (by simp) (by simp [go_sem]) ?_
    refine (catch_panicking w.heap.size (w.heap.size + 1) 28 (.int .i64 8) [] _ _ _ _ _ _ x0 x1 (by omega)).mono ?_
    rintro e u' w'' ⟨rfl, rfl, m0, m1, ho, h1, h2, h3, h4⟩
    obtain ⟨a0, a1, a2, a3, -⟩ := cell4 m0
    have b0 := cellOf (i := 0) m1 rfl
    exact ⟨.tuple #[.agg zero4, .int .i64 8], by simp [results, Tryz.results73, go_sem, a0, a1, a2, a3, b0], .inr ⟨.inr hB, rfl, h1.trans K1.os, h2.trans K1.tape, h3.trans K1.output, Nat.le_trans K1.size h4, fun k hk => (ho k (Nat.lt_of_lt_of_le hk K1.size) (by omega) (by omega)).trans (K1.block k hk)⟩⟩

  have x0 : w1.heap[w.heap.size]? = some (.cells zero4 24 (0, 0)) := (hb1.block _ (by simp; omega) (by omega)).trans ((Below.heap_alloc _ _ _ (by simp; omega)).trans ((Below.heap_alloc _ _ _ (by simp)).trans (blockHere rfl)))
  have x1 : w1.heap[w.heap.size + 1]? = some (.cells #[.int .i64 0] 28 (0, 0)) := (hb1.block _ (by simp) (by omega)).trans ((Below.heap_alloc _ _ _ (by simp)).trans (blockHere (by simp)))
  have hxf2 : x.foot (fun b => w.heap.size + 2 ≤ b) := V.foot.mono (fun b hb => by simp at hb; omega) _ hxf
  obtain ⟨c0, c1, c2, c3, f0, f1, f2, f3⟩ := cell4 x0
  have K1 : Kp w w1 := ⟨hb1.os, hb1.tape, hb1.output, by have := hb1.size; simp at this; omega, fun k hk => (hb1.block k (by simp; omega) (by omega)).trans ((readW_kp w s).block k hk)⟩
  have HK1 := Lib.hid K1
  have HX := Lib.hid hxi
  have HXF := Lib.hid hxf2
  have HXS := Lib.hid hxs
  have X0 := Lib.hid x0
  have X1 := Lib.hid x1
  have HAA := Lib.hid hA
  have r0 := hr1.c0
  have r1 := hr1.c1
  clear K1 hxi hxf hxf2 hxs hr1 x0 x1 hb1 hA
  have C := fun (w1 : World) hin => checkOk x w1 hin
  have hval := same_valid HXS.out
  rw [hval] at C
  cases x with
  | mk k n t a cap l =>
  simp only [V.val_mk] at C ⊢
  have HC2 := Lib.hid C
  clear C hval
  by_cases hlt : q < s.size
  · have g1 : (q : Int) < (s.size : Int) := by omega
    have g2 : decide ((q : Int) < (s.size : Int)) = true := by simpa using g1
    go_wp2_with fail
    refine (refuse_any _).mono ?_
    rintro e w2 ⟨rfl, rfl⟩
    have x0 := put4_block (v0 := .int .i64 k) (v1 := .int .i64 n) (v2 := .string t) (v3 := .slice a l.length cap) X0.out
    have x1 := (put4_other (w := w1) (b := w.heap.size) (v0 := .int .i64 k) (v1 := .int .i64 n) (v2 := .string t) (v3 := .slice a l.length cap) (by omega : w.heap.size + 1 ≠ w.heap.size)).trans X1.out
    have K1 := put4_kp (b := w.heap.size) (v0 := .int .i64 k) (v1 := .int .i64 n) (v2 := .string t) (v3 := .slice a l.length cap) HK1.out (Nat.le_refl _)
    refine leaves_cons (f := 112) (args := #[.pointer (some ⟨w.heap.size, 0, none⟩), .pointer (some ⟨w.heap.size + 1, 0, none⟩)]) (by simp) (by simp [go_sem]) ?_
    refine (catch_panicking w.heap.size (w.heap.size + 1) 28 (.int .i64 8) [] _ _ _ _ _ _ x0 x1 (by omega)).mono ?_
    rintro e u' w'' ⟨rfl, rfl, m0, m1, ho, h1, h2, h3, h4⟩
    obtain ⟨a0, a1, a2, a3, -⟩ := cell4 m0
    have b0 := cellOf (i := 0) m1 rfl
    exact ⟨.tuple #[.agg zero4, .int .i64 8], by simp [results, Tryz.results73, go_sem, a0, a1, a2, a3, b0], .inr ⟨.inl ⟨y, q, HAA.out, fun h => by omega⟩, rfl, h1.trans K1.os, h2.trans K1.tape, h3.trans K1.output, Nat.le_trans K1.size h4, fun k hk => (ho k (Nat.lt_of_lt_of_le hk K1.size) (by omega) (by omega)).trans (K1.block k hk)⟩⟩
  · obtain rfl : q = s.size := by omega
    have g2 : decide ((s.size : Int) < (s.size : Int)) = false := by simp
    go_wp2_with fail
    have hS : (put4 w1 w.heap.size (.int .i64 k) (.int .i64 n) (.string t) (.slice a l.length cap)).heap.size = w1.heap.size := by simp [World.setCell]
    have hin2 : (V.mk k n t a cap l).In (put4 w1 w.heap.size (.int .i64 k) (.int .i64 n) (.string t) (.slice a l.length cap)) w1.heap.size := V.In.move (Nat.le_refl _) (fun b _ hb => put4_other (by omega)) _ HX.out HXF.out
    have hin3 : (V.mk k n t a cap l).In (put4 w1 w.heap.size (.int .i64 k) (.int .i64 n) (.string t) (.slice a l.length cap)) (put4 w1 w.heap.size (.int .i64 k) (.int .i64 n) (.string t) (.slice a l.length cap)).heap.size := by rw [hS]; exact hin2
    refine (HC2.out _ hin3).mono ?_
    rintro e w2 ⟨rfl, hk2⟩
    have y0 : w2.heap[w.heap.size]? = some (.cells #[.int .i64 k, .int .i64 n, .string t, .slice a l.length cap] 24 (0, 0)) := (hk2.block _ (by have := lt_of_block X0.out; simpa [World.setCell] using this)).trans (put4_block X0.out)
    have y1 : w2.heap[w.heap.size + 1]? = some (.cells #[.int .i64 0] 28 (0, 0)) := (hk2.block _ (by have := lt_of_block X1.out; simpa [World.setCell] using this)).trans ((put4_other (by omega)).trans X1.out)
    have K2 := kk (put4_kp (b := w.heap.size) (v0 := .int .i64 k) (v1 := .int .i64 n) (v2 := .string t) (v3 := .slice a l.length cap) HK1.out (Nat.le_refl _)) hk2
    have q2 : (V.mk k n t a cap l).In w2 w2.heap.size := hin3.keep hk2.size hk2
    clear c0 c1 c2 c3 f0 f1 f2 f3
    obtain ⟨e0, e1, e2, e3, g0, g1, g3, g4⟩ := cell4 y0
    have z0 := cellOf (i := 0) y1 rfl
    have z1 := freeOf (i := 0) y1
    have HY0 := Lib.hid y0
    have HY1 := Lib.hid y1
    have HK2 := Lib.hid K2
    have HQ2 := Lib.hid q2
    clear K2 q2 y0 y1 hk2 hin2 hin3
    by_cases hv : y.valid = true
    · rw [if_pos hv]
      go_wp2_with fail
      refine leaves_cons (f := 112) (args := #[.pointer (some ⟨w.heap.size, 0, none⟩), .pointer (some ⟨w.heap.size + 1, 0, none⟩)]) (by simp) (by simp [go_sem]) ?_
      refine (catch_idle w.heap.size (w.heap.size + 1) _).mono ?_
      rintro e u' w'' ⟨rfl, rfl, rfl⟩
      have m0 := (Below.heap_setCell _ ⟨w.heap.size + 1, 0, none⟩ (Value.int .i64 0) w.heap.size (by simp)).trans (put4_block (v0 := .int .i64 k) (v1 := .int .i64 n) (v2 := .string t) (v3 := .slice a l.length cap) HY0.out)
      have m1 := heap_set (i := 0) (u := Value.int .i64 0) ((put4_other (v0 := .int .i64 k) (v1 := .int .i64 n) (v2 := .string t) (v3 := .slice a l.length cap) (by omega : w.heap.size + 1 ≠ w.heap.size)).trans HY1.out)
      obtain ⟨a0, a1, a2, a3, -⟩ := cell4 m0
      have b0 := cellOf (i := 0) m1 rfl
      have kz : Kp w ((put4 w2 w.heap.size (.int .i64 k) (.int .i64 n) (.string t) (.slice a l.length cap)).setCell ⟨w.heap.size + 1, 0, none⟩ (.int .i64 0)) := put1_kp (put4_kp HK2.out (Nat.le_refl _)) (by simp)
      refine ⟨.tuple #[.agg #[.int .i64 k, .int .i64 n, .string t, .slice a l.length cap], .int .i64 0], by simp [results, Tryz.results73, go_sem, a0, a1, a2, a3, b0], .inl ⟨y, HAA.out, hv, .mk k n t a cap l, rfl, ?_, V.foot.mono (fun b hb => by omega) _ HXF.out, HXS.out, kz⟩⟩
      have hZ : ((put4 w2 w.heap.size (.int .i64 k) (.int .i64 n) (.string t) (.slice a l.length cap)).setCell ⟨w.heap.size + 1, 0, none⟩ (.int .i64 0)).heap.size = w2.heap.size := by simp [World.setCell]
      rw [hZ]
      exact V.In.move (Nat.le_refl _) (fun b _ hb => (Below.heap_setCell _ _ _ _ (by simp; omega)).trans (put4_other (by omega))) _ HQ2.out HXF.out
    · have hv' : y.valid = false := by simpa using hv
      rw [if_neg hv]
      go_wp2_with fail
      refine (refuse_any _).mono ?_
      rintro e w3 ⟨rfl, rfl⟩
      have x0 := HY0.out
      have x1 := HY1.out
      have K1 := HK2.out
      refine leaves_cons (f := 112) (args := #[.pointer (some ⟨w.heap.size, 0, none⟩), .pointer (some ⟨w.heap.size + 1, 0, none⟩)]) (by simp) (by simp [go_sem]) ?_
      refine (catch_panicking w.heap.size (w.heap.size + 1) 28 (.int .i64 8) [] _ _ _ _ _ _ x0 x1 (by omega)).mono ?_
      rintro e u' w'' ⟨rfl, rfl, m0, m1, ho, h1, h2, h3, h4⟩
      obtain ⟨a0, a1, a2, a3, -⟩ := cell4 m0
      have b0 := cellOf (i := 0) m1 rfl
      exact ⟨.tuple #[.agg zero4, .int .i64 8], by simp [results, Tryz.results73, go_sem, a0, a1, a2, a3, b0], .inr ⟨.inl ⟨y, s.size, HAA.out, fun _ => hv'⟩, rfl, h1.trans K1.os, h2.trans K1.tape, h3.trans K1.output, Nat.le_trans K1.size h4, fun k hk => (ho k (Nat.lt_of_lt_of_le hk K1.size) (by omega) (by omega)).trans (K1.block k hk)⟩⟩

set_option maxHeartbeats 4000000 in
/-- What hands on what read returns. -/
theorem parse_hands (w : World) (s : ByteArray) (Y : V → Prop) (N : Prop)
    (hR : ∀ w1 : World, Kp w w1 → Calls Tryz.prog 73 #[.string s, .int .i64 13000, .func (.func 74) #[] #[], .func (.func 19) #[] #[]] w1 fun e w' => (∃ y, Y y ∧ Gets w1 y e w') ∨ (N ∧ e = .returned (.tuple #[.agg zero4, .int .i64 8]) ∧ Kp w1 w')) :
    Calls Tryz.prog 31 #[.string s] w fun e w' => (∃ y, Y y ∧ Gets w y e w') ∨ (N ∧ e = .returned (.tuple #[.agg zero4, .int .i64 8]) ∧ Kp w w') := by
  have HC := Lib.hid hR
  clear hR
  go_enter Tryz.func31, Tryz.ntmps31
  go_wp2_with fail
  refine (HC.out _ (ka _ _)).mono ?_
  rintro e w1 (⟨y, hY, x, rfl, hxi, hxf, hxs, hk⟩ | ⟨hN, rfl, hk⟩)
  · have hblk := boxK hk
    have hxf2 : x.foot (fun b => w.heap.size + 1 ≤ b) := V.foot.mono (fun b hb => by simp at hb; omega) _ hxf
    have HK := Lib.hid (kk (ka _ _) hk)
    obtain ⟨c0, c1, c2, c3, f0, f1, f2, f3⟩ := cell4 hblk
    have HBL := Lib.hid hblk
    have HX := Lib.hid hxi
    have HXF := Lib.hid hxf2
    have HXS := Lib.hid hxs
    clear hk hblk hxi hxf hxf2 hxs
    cases x with
    | mk k n t a cap l =>
    simp only [V.val_mk]
    go_wp2_with fail
    obtain ⟨d0, d1, d2, d3, -⟩ := cell4 (put4_block (v0 := .int .i64 k) (v1 := .int .i64 n) (v2 := .string t) (v3 := .slice a l.length cap) HBL.out)
    have hS : (put4 w1 w.heap.size (.int .i64 k) (.int .i64 n) (.string t) (.slice a l.length cap)).heap.size = w1.heap.size := by simp [World.setCell]
    refine bodyPost_ret (v := .tuple #[.agg #[.int .i64 k, .int .i64 n, .string t, .slice a l.length cap], .int .i64 0]) (by simp [results, Tryz.results31, go_sem, d0, d1, d2, d3]) rfl ?_
    exact .inl ⟨y, hY, .mk k n t a cap l, rfl, by rw [hS]; exact V.In.move (Nat.le_refl _) (fun b _ hb => put4_other (by omega)) _ HX.out HXF.out, V.foot.mono (fun b hb => by omega) _ HXF.out, HXS.out, put4_kp HK.out (Nat.le_refl _)⟩
  · have hblk := boxK hk
    have HK := Lib.hid (kk (ka _ _) hk)
    obtain ⟨c0, c1, c2, c3, f0, f1, f2, f3⟩ := cell4 hblk
    have HBL := Lib.hid hblk
    clear hk hblk
    go_wp2_with fail
    obtain ⟨d0, d1, d2, d3, -⟩ := cell4 (put4_block (v0 := .int .i64 0) (v1 := .int .i64 0) (v2 := .string ⟨#[]⟩) (v3 := .slice none 0 0) HBL.out)
    refine bodyPost_ret (v := .tuple #[.agg zero4, .int .i64 8]) (by simp [results, Tryz.results31, go_sem, d0, d1, d2, d3]) rfl
      (.inr ⟨hN, rfl, put4_kp HK.out (Nat.le_refl _)⟩)

/-- Parse of any text that is not too long: the value that is read, or none. -/
theorem parse_any (w : World) (s : ByteArray) (hs : s.size ≤ 13000) (ht : Tb w w.heap.size) (he : Eb w w.heap.size) :
    Calls Tryz.prog 31 #[.string s] w fun e w' => (∃ y, (PV s.data.toList (some (y, [])) ∧ y.valid = true) ∧ Gets w y e w') ∨
      ((∃ o, PV s.data.toList o ∧ ∀ y, o = some (y, []) → y.valid = false) ∧ e = .returned (.tuple #[.agg zero4, .int .i64 8]) ∧ Kp w w') := by
  refine parse_hands w s _ _ fun w1 hk => ?_
  have hk2 := kk hk (readW_kp w1 s)
  have hz := hk.size
  have hz2 := hk2.size
  have ht2 : Tb (readW w1 s) (w1.heap.size + 2) := ht.keep hk2 (by omega)
  have he2 : Eb (readW w1 s) (w1.heap.size + 2) := he.keep hk2 (by omega)
  have hv := value_any s.size (readW w1 s) (w1.heap.size + 2) s 0 (by omega) (readW_reader w1 s) (Nat.zero_le _) (by omega) ht2 he2
  refine (readV_any w1 s (fun y q => PV s.data.toList (some (y, s.data.toList.drop q)) ∧ q ≤ s.size) (PV s.data.toList none) (by omega) (hv.mono ?_)).mono ?_
  · rintro e w' (⟨y, q, h1, h2, h3, h4⟩ | ⟨h1, h2, h3⟩)
    · exact .inl ⟨y, q, ⟨by simpa using h1, h3⟩, h3, h4⟩
    · exact .inr ⟨by simpa using h1, h2, h3⟩
  · rintro e w' (⟨y, ⟨h1, -⟩, h2, h3⟩ | ⟨h1, h2, h3⟩)
    · left
      refine ⟨y, ⟨?_, h2⟩, h3⟩
      rwa [List.drop_of_length_le (by simp)] at h1
    · right
      refine ⟨?_, h2, h3⟩
      rcases h1 with ⟨y, q, ⟨h1, h4⟩, h5⟩ | h1
      · refine ⟨_, h1, fun y' hy => ?_⟩
        injection hy with hy
        injection hy with h6 h7
        subst h6
        refine h5 ?_
        have := congrArg List.length h7
        simp at this
        have e : s.data.size = s.size := rfl
        omega
      · exact ⟨none, h1, fun y hy => by cases hy⟩

end Go.Proofs.YtkfmgafgokpjhaaGreatDoor

/-
  PLAIN MATHEMATICS: WHAT THE FIELDS OF A VALUE ARE, by its kind.
-/
namespace Go.Proofs.YtkfmgafgokpjhaaGreatDoor
open Go.RowKit

theorem sh_text {n : Int} {s : ByteArray} {a : Option Addr} {cap : Nat} {l : List V} {d : Nat} (h : (V.mk 1 n s a cap l).sh d = true) : n = 0 ∧ l = [] ∧ s.size ≤ 100 ∧ charsB s = true := by
  cases d with
  | zero => simp [V.sh] at h
  | succ d =>
    simp [V.sh, fitsB, textB] at h
    obtain ⟨⟨h1, h2, h3, h4⟩, -⟩ := h
    exact ⟨h1, h2, h3, h4⟩

theorem sh_tuple {n : Int} {s : ByteArray} {a : Option Addr} {cap : Nat} {l : List V} {d : Nat} (h : (V.mk 2 n s a cap l).sh d = true) : n = 0 ∧ s = ⟨#[]⟩ ∧ l.length ≤ 8 ∧ ∃ d', d = d' + 1 ∧ V.shL l d' = true := by
  cases d with
  | zero => simp [V.sh] at h
  | succ d =>
    simp [V.sh, fitsB, tupleB] at h
    obtain ⟨⟨h1, h2, h3⟩, h4⟩ := h
    exact ⟨h1, empty_of s (by simpa using h2), h3, d, rfl, h4⟩

theorem sh_tag {n : Int} {s : ByteArray} {a : Option Addr} {cap : Nat} {l : List V} {d : Nat} (h : (V.mk 3 n s a cap l).sh d = true) : 0 ≤ n ∧ n < 8 ∧ s = ⟨#[]⟩ ∧ ∃ x d', l = [x] ∧ d = d' + 1 ∧ x.sh d' = true := by
  cases d with
  | zero => simp [V.sh] at h
  | succ d =>
    simp [V.sh, fitsB, taggedB] at h
    obtain ⟨⟨h1, h2, h3, h4⟩, h5⟩ := h
    match l, h4, h5 with
    | [x], _, h5 => exact ⟨h1, h2, empty_of s (by simpa using h3), x, d, rfl, rfl, by simpa [V.shL] using h5⟩

theorem sh_word {k n : Int} {s : ByteArray} {a : Option Addr} {cap : Nat} {l : List V} {d : Nat} (h : (V.mk k n s a cap l).sh d = true) (h1 : k ≠ 1) (h2 : k ≠ 2) (h3 : k ≠ 3) : k = 0 ∧ -2147483648 ≤ n ∧ n ≤ 2147483647 ∧ s = ⟨#[]⟩ ∧ l = [] := by
  cases d with
  | zero => simp [V.sh] at h
  | succ d =>
    by_cases h0 : k = 0
    · subst h0
      simp [V.sh, fitsB, wordB] at h
      obtain ⟨⟨h5, h6, h7, h8⟩, -⟩ := h
      exact ⟨rfl, h5, h6, empty_of s (by simpa using h7), h8⟩
    · simp [V.sh, fitsB, h0, h1, h2, h3] at h

/-- The bytes of a text that a slot holds. -/
def strSize : Value → Nat
  | .string s => s.size
  | _ => 0

end Go.Proofs.YtkfmgafgokpjhaaGreatDoor

/-
  THE SPECIFICATION's quoted.
-/
namespace Go.Proofs.YtkfmgafgokpjhaaGreatDoor
open Go.RowKit

theorem sub_one (s : ByteArray) (j : Nat) (h : j < s.size) : (s.extract j (j + 1)).data.toList = [s[j]] := by
  rw [ByteArray.data_extract, Array.toList_extract]
  simp only [List.extract]
  have : j < s.data.toList.length := by simpa using h
  rw [List.drop_eq_getElem_cons this]
  simp
  rfl

theorem sub_one_size (s : ByteArray) (j : Nat) (h : j < s.size) : (s.extract j (j + 1)).size = 1 := by
  rw [ByteArray.size_extract]; omega

theorem app_list (a b : ByteArray) : (a ++ b).data.toList = a.data.toList ++ b.data.toList := by
  rw [ByteArray.data_append, Array.toList_append]

theorem size_list (a : ByteArray) : a.size = a.data.toList.length := by simp

set_option maxRecDepth 100000 in
set_option maxHeartbeats 2000000 in
theorem quotedR (s : ByteArray) (hs : s.size ≤ 1000000) (w : World) :
    Calls Tryz.prog 109 #[.string s] w fun e w' => (∃ b : ByteArray, e = .returned (.string b) ∧ b.data.toList = 34 :: esc s.data.toList ++ [34]) ∧ w = w' := by
  go_enter Tryz.func109, Tryz.ntmps109
  go_wp2_with fail
  go_loop [3, 4] (fun out i => ∃ (b : ByteArray) (j : Nat), j ≤ s.size ∧ b.size ≤ 2 * j ∧ Hid (b.data.toList = esc (s.data.toList.take j)) ∧ out = .string b ∧ i = .int .i64 j) (fun _ i => s.size - (intOf i).toNat)
  case atStart => exact ⟨⟨#[]⟩, 0, Nat.zero_le _, Nat.le_refl _, Lib.hid (by simp [esc]), rfl, rfl⟩
  case round =>
    obtain ⟨b, j, hj, hb, hl, rfl, rfl⟩ := hrel
    by_cases hlt : j < s.size
    · have HT := Lib.hid (take_snocB s j hlt)
      have hE := sub_one_size s j hlt
      have HS1 := Lib.hid (sub_one s j hlt)
      have z0 : (s.extract j (j + 1)).size ≤ 1 := by omega
      have z1 : b.size + (s.extract j (j + 1)).size ≤ 9223372036854775807 := by omega
      have e9 : (b ++ (⟨#[92]⟩ : ByteArray)).size = b.size + 1 := by rw [ByteArray.size_append]; rfl
      have z2 : b.size + (⟨#[92]⟩ : ByteArray).size ≤ 9223372036854775807 := by show b.size + 1 ≤ _; omega
      have z3 : (b ++ (⟨#[92]⟩ : ByteArray)).size + (s.extract j (j + 1)).size ≤ 9223372036854775807 := by omega
      have e1 : (b ++ s.extract j (j + 1)).size ≤ 2 * (j + 1) := by rw [ByteArray.size_append]; omega
      have e2 : (b ++ (⟨#[92]⟩ : ByteArray) ++ s.extract j (j + 1)).size ≤ 2 * (j + 1) := by rw [ByteArray.size_append]; omega
      have E1 := Lib.hid e1
      have E2 := Lib.hid e2
      clear hE e1 e2 e9
      by_cases h34 : s[j] = 34
      · have g : ((s[j].toNat : Nat) : Int) = 34 := by rw [h34]; rfl
        have HC := Lib.hid h34
        clear h34
        go_wp2_with fail
        go_round
        case rel => exact ⟨_, j + 1, by omega, E2.out, Lib.hid (by rw [app_list, app_list, HS1.out, hl.out, HT.out, esc_snoc, HC.out, List.append_assoc]; rfl), rfl, by go_num⟩
        case measure => simp [intOf]; omega
      by_cases h92 : s[j] = 92
      · have g : ((s[j].toNat : Nat) : Int) = 92 := by rw [h92]; rfl
        have HC := Lib.hid h92
        clear h92 h34
        go_wp2_with fail
        go_round
        case rel => exact ⟨_, j + 1, by omega, E2.out, Lib.hid (by rw [app_list, app_list, HS1.out, hl.out, HT.out, esc_snoc, HC.out, List.append_assoc]; rfl), rfl, by go_num⟩
        case measure => simp [intOf]; omega
      · have g : (((s[j].toNat : Nat) : Int) == 34) = false := by
          rw [beq_eq_false_iff_ne]; intro e; exact h34 (UInt8.toNat_inj.1 (by have : (34 : UInt8).toNat = 34 := rfl; omega))
        have g' : (((s[j].toNat : Nat) : Int) == 92) = false := by
          rw [beq_eq_false_iff_ne]; intro e; exact h92 (UInt8.toNat_inj.1 (by have : (92 : UInt8).toNat = 92 := rfl; omega))
        have HC := Lib.hid (show escB s[j] = [s[j]] by simp [escB, h34, h92])
        clear h92 h34
        go_wp2_with fail
        go_round
        case rel => exact ⟨_, j + 1, by omega, E1.out, Lib.hid (by rw [app_list, HS1.out, hl.out, HT.out, esc_snoc, HC.out]), rfl, by go_num⟩
        case measure => simp [intOf]; omega
    · have hjj : j = s.size := by omega
      subst hjj
      have z1 : (⟨#[34]⟩ : ByteArray).size + b.size ≤ 9223372036854775807 := by show 1 + b.size ≤ _; omega
      have e1 : ((⟨#[34]⟩ : ByteArray) ++ b).size = 1 + b.size := by rw [ByteArray.size_append]; rfl
      have z2 : ((⟨#[34]⟩ : ByteArray) ++ b).size + (⟨#[34]⟩ : ByteArray).size ≤ 9223372036854775807 := by rw [e1]; show 1 + b.size + 1 ≤ _; omega
      clear e1
      go_wp2_with fail
      go_ret
      refine ⟨⟨_, rfl, ?_⟩, rfl⟩
      rw [app_list, app_list, hl.out, List.take_of_length_le (by simp)]
      rfl

end Go.Proofs.YtkfmgafgokpjhaaGreatDoor
