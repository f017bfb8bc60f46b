/-
  Contracts of the functions of package value, of its specification and of what the statements of layer 1 share (values and types made of numbers, the chapter's examples), each for every argument: used by the proofs of layer 1's statements.
  Part 4 of 12.
-/
import Derived.Test.YtkfmgafgokpjhaaGreatDoorBc03
import Derived.Laws.CopyOwn
import Derived.Defers
import Derived.Recover
import Derived.Test.YtkfmgafgokpjhaaGreatDoorBc01
import Derived.RangeFuncNested
import Derived.RangeFuncBound
import Derived.RangeFuncCalls
import Derived.RangeFuncLeaves
import Derived.Shelf.Abstract
import Derived.Shelf.RegionOpen
import Derived.WalkKit
import Derived.OwnWalkIn
import Derived.TacticsInMore
import Derived.LoopNIn
import Derived.LoopIn
/-
  THE WALKS OF Parse AT "(1)" AND AT "(1,2)".
-/
namespace Go.Proofs.YtkfmgafgokpjhaaGreatDoor
open Go.RowKit

abbrev strQ : ByteArray := ⟨#[34]⟩
abbrev strL : ByteArray := ⟨#[40]⟩
abbrev strH : ByteArray := ⟨#[35]⟩

theorem box4b {w w1 : World} {R : Nat} {c0 c1 c2 c3 : Value} {t : Nat} (hR : R < w.heap.size) (hk : Bt R (w.alloc (.cells #[c0, c1, c2, c3] t)) w1) :
    w1.heap[w.heap.size]? = some (.cells #[c0, c1, c2, c3] t (0, 0)) ∧ w.heap.size < w1.heap.size :=
  ⟨(hk.block _ (by simp) (by omega)).trans (blockHere rfl), by have := hk.size; simp at this; omega⟩
theorem cell4 {w : World} {b : Nat} {c0 c1 c2 c3 : Value} {t : Nat} (h : w.heap[b]? = some (.cells #[c0, c1, c2, c3] t (0, 0))) :
    w.cell? ⟨b, 0, none⟩ = some c0 ∧ w.cell? ⟨b, 1, none⟩ = some c1 ∧ w.cell? ⟨b, 2, none⟩ = some c2 ∧ w.cell? ⟨b, 3, none⟩ = some c3 ∧
    w.frozen? ⟨b, 0, none⟩ = false ∧ w.frozen? ⟨b, 1, none⟩ = false ∧ w.frozen? ⟨b, 2, none⟩ = false ∧ w.frozen? ⟨b, 3, none⟩ = false := by
  simp [World.cell?, World.frozen?, h]

/-- Four cells of a block stored. -/
abbrev put4 (w : World) (b : Nat) (v0 v1 v2 v3 : Value) : World := (((w.setCell ⟨b, 0, none⟩ v0).setCell ⟨b, 1, none⟩ v1).setCell ⟨b, 2, none⟩ v2).setCell ⟨b, 3, none⟩ v3
theorem heap_set {w : World} {b i : Nat} {cs : Array Value} {t : Nat} {u : Value} (h : w.heap[b]? = some (.cells cs t (0, 0))) : (w.setCell ⟨b, i, none⟩ u).heap[b]? = some (.cells (cs.setIfInBounds i u) t (0, 0)) := by
  have hlt := lt_of_block h
  have h' : w.heap[b] = .cells cs t (0, 0) := by simpa [Array.getElem?_eq_getElem hlt] using h
  show (w.heap.modify b _)[b]? = _
  rw [Array.getElem?_eq_getElem (by simpa using hlt), Array.getElem_modify_self, h']
  rfl
theorem put4_block {w : World} {b : Nat} {c0 c1 c2 c3 v0 v1 v2 v3 : Value} {t : Nat} (h : w.heap[b]? = some (.cells #[c0, c1, c2, c3] t (0, 0))) :
    (put4 w b v0 v1 v2 v3).heap[b]? = some (.cells #[v0, v1, v2, v3] t (0, 0)) := heap_set (heap_set (heap_set (heap_set h)))
theorem put4_other {w : World} {b k : Nat} {v0 v1 v2 v3 : Value} (h : k ≠ b) : (put4 w b v0 v1 v2 v3).heap[k]? = w.heap[k]? := by
  rw [Below.heap_setCell _ _ _ _ h, Below.heap_setCell _ _ _ _ h, Below.heap_setCell _ _ _ _ h, Below.heap_setCell _ _ _ _ h]
theorem put4_bt {R b : Nat} {w w' : World} {v0 v1 v2 v3 : Value} (h : Bt R w w') (hb : w.heap.size ≤ b) : Bt R w (put4 w' b v0 v1 v2 v3) :=
  ⟨h.os, h.tape, h.output, by have := h.size; simp [World.setCell]; omega, fun k hk hc => (put4_other (by omega)).trans (h.block k hk hc)⟩
theorem put4_kp {b : Nat} {w w' : World} {v0 v1 v2 v3 : Value} (h : Kp w w') (hb : w.heap.size ≤ b) : Kp w (put4 w' b v0 v1 v2 v3) :=
  ⟨h.os, h.tape, h.output, by have := h.size; simp [World.setCell]; omega, fun k hk => (put4_other (by omega)).trans (h.block k hk)⟩

set_option maxRecDepth 100000 in
set_option maxHeartbeats 2000000 in
theorem value_one (w : World) (R : Nat) (s : ByteArray) (h : Reader w R s 1) (hsz : 3 ≤ s.size) (hs : s.size ≤ 1000000) (h1 : s[1] = 49) (h2 : s[2].toNat < 45) (hd : s.extract 1 2 = ⟨#[49]⟩) (ht : Tb w R)
    (p1 : Lib.hasPrefix (s.extract 1 s.size).data.toList strQ.data.toList = false) (p2 : Lib.hasPrefix (s.extract 1 s.size).data.toList strL.data.toList = false) (p3 : Lib.hasPrefix (s.extract 1 s.size).data.toList strH.data.toList = false) :
    Calls Tryz.prog 74 #[.pointer (some ⟨R, 0, none⟩)] w fun e w' => e = .returned (.agg #[.int .i64 0, .int .i64 1, .string ⟨#[]⟩, .slice none 0 0]) ∧ Reader w' R s 2 ∧ Bt R w w' := by
  have hRl := lt_of_block h
  have HR := Lib.hid h
  have N := fun (w1 : World) (hr : Reader w1 R s 1) (hb : Bt R w w1) => number_one w1 R s hr hsz hs h1 h2 hd (ht.keep (hb.below (Nat.le_refl _) (by omega)) (Nat.le_refl _))
  have HN := Lib.hid N
  have P1 := fun (w1 : World) (hr : Reader w1 R s 1) => skip_no w1 R s strQ 1 hr (by omega) p1
  have P2 := fun (w1 : World) (hr : Reader w1 R s 1) => skip_no w1 R s strL 1 hr (by omega) p2
  have P3 := fun (w1 : World) (hr : Reader w1 R s 1) => skip_no w1 R s strH 1 hr (by omega) p3
  have HP1 := Lib.hid P1
  have HP2 := Lib.hid P2
  have HP3 := Lib.hid P3
  clear h N P1 P2 P3 hsz hs h1 h2 hd ht p1 p2 p3
  go_enter Tryz.func74, Tryz.ntmps74
  go_wp2_with fail
  refine (HP1.out _ (HR.out.kp (ka _ _))).mono ?_
  rintro e w1 ⟨rfl, hk1⟩
  have HK1 := Lib.hid hk1
  clear hk1
  go_wp2_with fail
  refine (HP2.out _ (HR.out.kp (kk (ka _ _) HK1.out))).mono ?_
  rintro e w2 ⟨rfl, hk2⟩
  have HK2 := Lib.hid (kk HK1.out hk2)
  clear hk2
  go_wp2_with fail
  refine (HP3.out _ (HR.out.kp (kk (ka _ _) HK2.out))).mono ?_
  rintro e w3 ⟨rfl, hk3⟩
  have HK3 := Lib.hid (kk HK2.out hk3)
  clear hk3
  go_wp2_with fail
  refine (HN.out _ (HR.out.kp (kk (ka _ _) HK3.out)) (.kp (kk (ka _ _) HK3.out))).mono ?_
  rintro e w4 ⟨rfl, hr4, hb4⟩
  obtain ⟨hblk, hz⟩ := box4b hRl ((Bt.kp HK3.out).trans hb4)
  obtain ⟨c0, c1, c2, c3, f0, f1, f2, f3⟩ := cell4 hblk
  have HR4 := Lib.hid hr4
  have HB4 := Lib.hid ((Bt.kp (c := R) (kk (ka _ _) HK3.out)).trans hb4)
  clear hr4 hb4
  have HBL := Lib.hid hblk
  clear hblk
  go_wp2_with fail
  obtain ⟨d0, d1, d2, d3, _⟩ := cell4 (put4_block (v0 := .int .i64 0) (v1 := .int .i64 1) (v2 := .string ⟨#[]⟩) (v3 := .slice none 0 0) HBL.out)
  refine bodyPost_ret (v := .agg #[.int .i64 0, .int .i64 1, .string ⟨#[]⟩, .slice none 0 0]) (by simp [results, Tryz.results74, go_sem, d0, d1, d2, d3]) rfl ⟨rfl, ?_, put4_bt HB4.out (Nat.le_refl _)⟩
  exact (put4_other (by omega)).trans HR4.out

end Go.Proofs.YtkfmgafgokpjhaaGreatDoor

/-
  THE WALK OF together AT A LIST OF ONE.
-/
namespace Go.Proofs.YtkfmgafgokpjhaaGreatDoor
open Go.RowKit

theorem run_copy_rows {P : Program} (w : World) (dT sT ty elem : TypeId) (size g o dLen dCap : Nat) (a : Addr) (sLen sCap : Nat) (cur : Array Value) (t : TypeId) (cs : List Value)
    (hu : P.underlying dT = some (.slice elem)) (hs : (P.info? elem).map (·.size) = some size)
    (hg : w.heap[g]? = some (.cells cur t (0, 0))) (hn : cs.length = Nat.min sLen dLen * size)
    (hsrc : ∀ j v, cs[j]? = some v → w.cell? (a.add j) = some v) (hfit : o + cs.length ≤ cur.size) (h1 : ∀ v ∈ cs, v.oneCell' = true) :
    (Builtin.copy_ #[dT, sT] ty #[.slice (some ⟨g, o, none⟩) dLen dCap, .slice (some a) sLen sCap]).run P w =
      .ok (goInt (Nat.min sLen dLen)) (w.setRow g (cur.toList.take o ++ cs ++ cur.toList.drop (o + cs.length)).toArray) := by
  have hl := run_loadCells_list (P := P) w a cs hsrc
  have hst := run_storeCells_at P g o t cs 0 cur w hg (by simpa using hfit) h1
  cases hq : P.info? elem with
  | none => simp [hq] at hs
  | some i =>
    have hi : i.size = size := by simpa [hq] using hs
    simp [Builtin.copy_, run_underlying hu, Builtin.lenOf, Builtin.firstCells, sizeOf, typeInfo, hq, hi, ← hn, hl, hst]

theorem sizeV4 : (Tryz.prog.info? 24).map (·.size) = some 4 := by kernel_rfl

/-- Four cells of zeros. -/
abbrev zero4 : Array Value := #[.int .i64 0, .int .i64 0, .string ⟨#[]⟩, .slice none 0 0]
theorem make_one (w : World) : (Instr.makeSlice 22 (.int .i64 1) (.int .i64 1)).run Tryz.prog w = .ok (.slice (some ⟨w.heap.size, 0, none⟩) 1 1) (w.alloc (.cells zero4 24)) := by kernel_rfl

theorem copy_one (w : World) (q g off cap ty : Nat) (c0 c1 c2 c3 : Value) (hq : w.heap[q]? = some (.cells zero4 24 (0, 0))) (h0 : w.cell? ⟨g, off, none⟩ = some c0) (h1 : w.cell? ⟨g, off + 1, none⟩ = some c1) (h2 : w.cell? ⟨g, off + 2, none⟩ = some c2) (h3 : w.cell? ⟨g, off + 3, none⟩ = some c3)
    (h : ∀ v ∈ [c0, c1, c2, c3], v.oneCell' = true) :
    (Builtin.copy_ #[22, 22] ty #[.slice (some ⟨q, 0, none⟩) 1 1, .slice (some ⟨g, off, none⟩) 1 cap]).run Tryz.prog w = .ok (.int .i64 1) (w.setRow q #[c0, c1, c2, c3]) := by
  have := run_copy_rows (P := Tryz.prog) w 22 22 ty 24 4 q 0 1 1 ⟨g, off, none⟩ 1 cap zero4 24 [c0, c1, c2, c3] Tryz.underlying22 sizeV4 hq rfl (fun j v hj => by
    match j, hj with
    | 0, hj => simp at hj; subst hj; exact h0
    | 1, hj => simp at hj; subst hj; exact h1
    | 2, hj => simp at hj; subst hj; exact h2
    | 3, hj => simp at hj; subst hj; exact h3) (by simp) h
  rw [show goInt ((Nat.min 1 1 : Nat) : Int) = Value.int .i64 1 from rfl] at this
  simpa using this

set_option maxRecDepth 100000 in
set_option maxHeartbeats 2000000 in
theorem together_one (w : World) (g off cap : Nat) (c0 c1 c2 c3 : Value) (h0 : w.cell? ⟨g, off, none⟩ = some c0) (h1 : w.cell? ⟨g, off + 1, none⟩ = some c1) (h2 : w.cell? ⟨g, off + 2, none⟩ = some c2) (h3 : w.cell? ⟨g, off + 3, none⟩ = some c3) (h : ∀ v ∈ [c0, c1, c2, c3], v.oneCell' = true) :
    Calls Tryz.prog 95 #[.slice (some ⟨g, off, none⟩) 1 cap] w fun e w' => ∃ q, e = .returned (.slice (some ⟨q, 0, none⟩) 1 1) ∧ w.heap.size ≤ q ∧ w'.heap[q]? = some (.cells #[c0, c1, c2, c3] 24 (0, 0)) ∧ Kp w w' := by
  have hmk := make_one
  have hcp := fun ty => copy_one (w.alloc (.cells zero4 24)) w.heap.size g off cap ty c0 c1 c2 c3 (blockHere rfl) (past h0) (past h1) (past h2) (past h3) h
  have hb : (w.alloc (.cells zero4 24)).heap[w.heap.size]? = some (.cells zero4 24 (0, 0)) := blockHere rfl
  have HW := Lib.hid (setRow_heap _ w.heap.size _ #[c0, c1, c2, c3] _ _ hb)
  have HK := Lib.hid (below_setRow (ka w (.cells zero4 24)) (Nat.le_refl _) #[c0, c1, c2, c3])
  clear h0 h1 h2 h3 h hb
  go_enter Tryz.func95, Tryz.ntmps95
  go_wp2_with fail
  go_ret
  exact ⟨w.heap.size, rfl, Nat.le_refl _, HW.out, HK.out⟩

end Go.Proofs.YtkfmgafgokpjhaaGreatDoor

/-
  THE WALKS OF readList AND value AT "(1)" AND "(1,2)".
-/
namespace Go.Proofs.YtkfmgafgokpjhaaGreatDoor
open Go.RowKit

abbrev strC : ByteArray := ⟨#[44, 32]⟩
abbrev strR : ByteArray := ⟨#[41]⟩
abbrev one4 : Array Value := #[.int .i64 0, .int .i64 1, .string ⟨#[]⟩, .slice none 0 0]

/-- What is asked of a text that begins with "(1" and then something. -/
structure Beg (s : ByteArray) : Prop where
  sz : 3 ≤ s.size
  big : s.size ≤ 1000000
  h1 : ∀ h : 1 < s.size, s[1] = 49
  h2 : ∀ h : 2 < s.size, s[2].toNat < 45
  hd : s.extract 1 2 = ⟨#[49]⟩
  p1 : Lib.hasPrefix (s.extract 1 s.size).data.toList strQ.data.toList = false
  p2 : Lib.hasPrefix (s.extract 1 s.size).data.toList strL.data.toList = false
  p3 : Lib.hasPrefix (s.extract 1 s.size).data.toList strH.data.toList = false
  p4 : Lib.hasPrefix (s.extract 1 s.size).data.toList strR.data.toList = false
  q1 : Lib.hasPrefix (s.extract 0 s.size).data.toList strQ.data.toList = false
  q2 : Lib.hasPrefix (s.extract 0 s.size).data.toList strL.data.toList = true

theorem boxAny {w w1 : World} {R : Nat} {cs : Array Value} {t : Nat} (hR : R < w.heap.size) (hk : Bt R (w.alloc (.cells cs t)) w1) :
    w1.heap[w.heap.size]? = some (.cells cs t (0, 0)) := (hk.block _ (by simp) (by omega)).trans (blockHere rfl)
theorem cellOf {w : World} {b i : Nat} {cs : Array Value} {t : Nat} {v : Value} (h : w.heap[b]? = some (.cells cs t (0, 0))) (hc : cs[i]? = some v) : w.cell? ⟨b, i, none⟩ = some v := by simp [World.cell?, h, hc]
theorem freeOf {w : World} {b i : Nat} {cs : Array Value} {t : Nat} (h : w.heap[b]? = some (.cells cs t (0, 0))) : w.frozen? ⟨b, i, none⟩ = false := by simp [World.frozen?, h]

set_option maxRecDepth 100000 in
set_option maxHeartbeats 4000000 in
theorem list_ok (w : World) (R : Nat) (s : ByteArray) (h : Reader w R s 1) (hB : Beg s) (ht : Tb w R) (hr : Lib.hasPrefix (s.extract 2 s.size).data.toList strR.data.toList = true) :
    Calls Tryz.prog 116 #[.pointer (some ⟨R, 0, none⟩), .string strC, .string strR, .func (.func 74) #[] #[]] w fun e w' =>
      ∃ q, e = .returned (.slice (some ⟨q, 0, none⟩) 1 1) ∧ w.heap.size ≤ q ∧ w'.heap[q]? = some (.cells one4 24 (0, 0)) ∧ Reader w' R s 3 ∧ Bt R w w' := by
  have hRl := lt_of_block h
  have HR := Lib.hid h
  have N := fun (w1 : World) (hr : Reader w1 R s 1) (hb : Bt R w w1) => value_one w1 R s hr hB.sz hB.big (hB.h1 (by have := hB.sz; omega)) (hB.h2 (by have := hB.sz; omega)) hB.hd (ht.keep (hb.below (Nat.le_refl _) (by omega)) (Nat.le_refl _)) hB.p1 hB.p2 hB.p3
  have HN := Lib.hid N
  have P1 := fun (w1 : World) (hq : Reader w1 R s 1) => skip_no w1 R s strR 1 hq (by have := hB.sz; omega) hB.p4
  have P2 := fun (w1 : World) (hq : Reader w1 R s 2) => skip_yes w1 R s strR 2 hq (by have := hB.sz; omega) hB.big (by decide) hr
  have HP1 := Lib.hid P1
  have HP2 := Lib.hid P2
  clear h N P1 P2 hB ht hr
  go_enter Tryz.func116, Tryz.ntmps116
  go_wp2_with fail
  refine wp_loop_rounds (0 + 1 + 1) ?_
  rw [rounds_succ]
  go_wp2_with fail
  refine (HP1.out _ (HR.out.kp (ka _ _))).mono ?_
  rintro e w1 ⟨rfl, hk1⟩
  have HK1 := Lib.hid hk1
  clear hk1
  go_wp2_with fail
  refine (HN.out _ (HR.out.kp (kk (ka _ _) HK1.out)) (.kp (kk (ka _ _) HK1.out))).mono ?_
  rintro e w2 ⟨rfl, hr2, hb2⟩
  have hblk := boxAny hRl ((Bt.kp HK1.out).trans hb2)
  have c0 := cellOf (i := 0) hblk rfl
  have c1 := cellOf (i := 1) hblk rfl
  have c2 := cellOf (i := 2) hblk rfl
  have c3 := cellOf (i := 3) hblk rfl
  have f0 := freeOf (i := 0) hblk
  have f1 := freeOf (i := 1) hblk
  have f2 := freeOf (i := 2) hblk
  have f3 := freeOf (i := 3) hblk
  have HR2 := Lib.hid hr2
  have HB2 := Lib.hid ((Bt.kp (c := R) (kk (ka _ _) HK1.out)).trans hb2)
  have hz2 : w.heap.size < w2.heap.size := lt_of_block hblk
  have HBL := Lib.hid hblk
  clear hr2 hb2 hblk
  go_wp2_with fail
  have hrp := (put4_other (w := w2) (b := w.heap.size) (k := R) (v0 := .int .i64 0) (v1 := .int .i64 1) (v2 := .string ⟨#[]⟩) (v3 := .slice none 0 0) (by omega)).trans HR2.out
  have hblk2 := heap_set (i := 3) (u := .slice none 0 0) (heap_set (i := 2) (u := .string ⟨#[]⟩) (heap_set (i := 1) (u := .int .i64 1) (heap_set (i := 0) (u := .int .i64 0) HBL.out)))
  have hbt2 := put4_bt (v0 := .int .i64 0) (v1 := .int .i64 1) (v2 := .string ⟨#[]⟩) (v3 := .slice none 0 0) HB2.out (Nat.le_refl _)
  have HRP := Lib.hid hrp
  have HBL2 := Lib.hid hblk2
  have HBT2 := Lib.hid hbt2
  clear hrp hblk2 hbt2 c0 c1 c2 c3 f0 f1 f2 f3
  rw [rounds_succ]
  go_wp2_with fail
  refine (HP2.out _ HRP.out).mono ?_
  rintro e w3 ⟨rfl, hr3, hb3⟩
  have hblk3 := (hb3.block w.heap.size (by simp [World.setCell]; omega) (by omega)).trans HBL2.out
  have HR3 := Lib.hid hr3
  have HB3 := Lib.hid (HBT2.out.trans hb3)
  have d0 := cellOf (i := 0) hblk3 rfl
  have d1 := cellOf (i := 1) hblk3 rfl
  have d2 := cellOf (i := 2) hblk3 rfl
  have d3 := cellOf (i := 3) hblk3 rfl
  clear hr3 hb3 hblk3
  go_wp2_with fail
  refine (together_one w3 w.heap.size 0 8 _ _ _ _ d0 d1 d2 d3 (by simp [Value.oneCell'])).mono ?_
  rintro e w4 ⟨q, rfl, hq, hqb, hk4⟩
  have HQ := Lib.hid hqb
  have HK4 := Lib.hid hk4
  have hz3 := HB3.out.size
  clear hqb hk4
  go_wp2_with fail
  go_ret
  exact ⟨q, rfl, by omega, HQ.out, HR3.out.kp HK4.out, HB3.out.trans (.kp HK4.out)⟩

set_option maxRecDepth 100000 in
set_option maxHeartbeats 4000000 in
theorem list_bad (w : World) (R : Nat) (s : ByteArray) (h : Reader w R s 1) (hB : Beg s) (ht : Tb w R) (hr : Lib.hasPrefix (s.extract 2 s.size).data.toList strR.data.toList = false) (hc : Lib.hasPrefix (s.extract 2 s.size).data.toList strC.data.toList = false) :
    Calls Tryz.prog 116 #[.pointer (some ⟨R, 0, none⟩), .string strC, .string strR, .func (.func 74) #[] #[]] w fun e w' => e = .panicked formP ∧ Bt R w w' := by
  have hRl := lt_of_block h
  have HR := Lib.hid h
  have N := fun (w1 : World) (hr : Reader w1 R s 1) (hb : Bt R w w1) => value_one w1 R s hr hB.sz hB.big (hB.h1 (by have := hB.sz; omega)) (hB.h2 (by have := hB.sz; omega)) hB.hd (ht.keep (hb.below (Nat.le_refl _) (by omega)) (Nat.le_refl _)) hB.p1 hB.p2 hB.p3
  have HN := Lib.hid N
  have P1 := fun (w1 : World) (hq : Reader w1 R s 1) => skip_no w1 R s strR 1 hq (by have := hB.sz; omega) hB.p4
  have P2 := fun (w1 : World) (hq : Reader w1 R s 2) => skip_no w1 R s strR 2 hq (by have := hB.sz; omega) hr
  have P3 := fun (w1 : World) (hq : Reader w1 R s 2) => expect_no w1 R s strC 2 hq (by have := hB.sz; omega) hc
  have HP1 := Lib.hid P1
  have HP2 := Lib.hid P2
  have HP3 := Lib.hid P3
  clear h N P1 P2 P3 hB ht hr hc
  go_enter Tryz.func116, Tryz.ntmps116
  go_wp2_with fail
  refine wp_loop_rounds (0 + 1 + 1) ?_
  rw [rounds_succ]
  go_wp2_with fail
  refine (HP1.out _ (HR.out.kp (ka _ _))).mono ?_
  rintro e w1 ⟨rfl, hk1⟩
  have HK1 := Lib.hid hk1
  clear hk1
  go_wp2_with fail
  refine (HN.out _ (HR.out.kp (kk (ka _ _) HK1.out)) (.kp (kk (ka _ _) HK1.out))).mono ?_
  rintro e w2 ⟨rfl, hr2, hb2⟩
  have hblk := boxAny hRl ((Bt.kp HK1.out).trans hb2)
  have c0 := cellOf (i := 0) hblk rfl
  have c1 := cellOf (i := 1) hblk rfl
  have c2 := cellOf (i := 2) hblk rfl
  have c3 := cellOf (i := 3) hblk rfl
  have f0 := freeOf (i := 0) hblk
  have f1 := freeOf (i := 1) hblk
  have f2 := freeOf (i := 2) hblk
  have f3 := freeOf (i := 3) hblk
  have HR2 := Lib.hid hr2
  have HB2 := Lib.hid ((Bt.kp (c := R) (kk (ka _ _) HK1.out)).trans hb2)
  have hz2 : w.heap.size < w2.heap.size := lt_of_block hblk
  clear hr2 hb2 hblk
  go_wp2_with fail
  have hrp := (put4_other (w := w2) (b := w.heap.size) (k := R) (v0 := .int .i64 0) (v1 := .int .i64 1) (v2 := .string ⟨#[]⟩) (v3 := .slice none 0 0) (by omega)).trans HR2.out
  have hbt2 := put4_bt (v0 := .int .i64 0) (v1 := .int .i64 1) (v2 := .string ⟨#[]⟩) (v3 := .slice none 0 0) HB2.out (Nat.le_refl _)
  have HRP := Lib.hid hrp
  have HBT2 := Lib.hid hbt2
  clear hrp hbt2 c0 c1 c2 c3 f0 f1 f2 f3
  rw [rounds_succ]
  go_wp2_with fail
  refine (HP2.out _ HRP.out).mono ?_
  rintro e w3 ⟨rfl, hk3⟩
  have HR3 := Lib.hid (Reader.kp HRP.out hk3)
  have HB3 := Lib.hid (HBT2.out.trans (.kp hk3))
  clear hk3
  go_wp2_with fail
  refine (HP3.out _ HR3.out).mono ?_
  rintro e w4 ⟨rfl, hk4⟩
  exact ⟨rfl, rfl, HB3.out.trans (.kp hk4)⟩

end Go.Proofs.YtkfmgafgokpjhaaGreatDoor

/-
  THE WALKS OF value AND read AT "(1)" AND "(1,2)"; Parse.
-/
namespace Go.Proofs.YtkfmgafgokpjhaaGreatDoor
open Go.RowKit

set_option maxRecDepth 100000 in
set_option maxHeartbeats 4000000 in
theorem value_ok (w : World) (R : Nat) (s : ByteArray) (h : Reader w R s 0) (hB : Beg s) (ht : Tb w R) (hr : Lib.hasPrefix (s.extract 2 s.size).data.toList strR.data.toList = true) :
    Calls Tryz.prog 74 #[.pointer (some ⟨R, 0, none⟩)] w fun e w' =>
      ∃ q, e = .returned (.agg #[.int .i64 2, .int .i64 0, .string ⟨#[]⟩, .slice (some ⟨q, 0, none⟩) 1 1]) ∧ w.heap.size < q ∧ w'.heap[q]? = some (.cells one4 24 (0, 0)) ∧ Reader w' R s 3 ∧ Bt R w w' := by
  have hRl := lt_of_block h
  have HR := Lib.hid h
  have N := fun (w1 : World) (hq : Reader w1 R s 1) (hb : Bt R w w1) => list_ok w1 R s hq hB (ht.keep (hb.below (Nat.le_refl _) (by omega)) (Nat.le_refl _)) hr
  have HN := Lib.hid N
  have P1 := fun (w1 : World) (hq : Reader w1 R s 0) => skip_no w1 R s strQ 0 hq (by omega) hB.q1
  have P2 := fun (w1 : World) (hq : Reader w1 R s 0) => skip_yes w1 R s strL 0 hq (by omega) hB.big (by decide) hB.q2
  have HP1 := Lib.hid P1
  have HP2 := Lib.hid P2
  clear h N P1 P2 hB ht hr
  go_enter Tryz.func74, Tryz.ntmps74
  go_wp2_with fail
  refine (HP1.out _ (HR.out.kp (ka _ _))).mono ?_
  rintro e w1 ⟨rfl, hk1⟩
  have HK1 := Lib.hid hk1
  clear hk1
  go_wp2_with fail
  refine (HP2.out _ (HR.out.kp (kk (ka _ _) HK1.out))).mono ?_
  rintro e w2 ⟨rfl, hr2, hb2⟩
  have HR2 := Lib.hid hr2
  have HB2 := Lib.hid ((Bt.kp (c := R) HK1.out).trans hb2)
  clear hr2 hb2
  go_wp2_with fail
  refine (HN.out _ HR2.out ((Bt.kp (c := R) (ka _ _)).trans HB2.out)).mono ?_
  rintro e w3 ⟨q, rfl, hq, hqb, hr3, hb3⟩
  have hblk := boxAny hRl (HB2.out.trans hb3)
  have hz2 := HB2.out.size
  simp at hz2
  have HR3 := Lib.hid hr3
  have HB3 := Lib.hid ((Bt.kp (c := R) (ka _ _)).trans (HB2.out.trans hb3))
  have HQ := Lib.hid hqb
  have HBL := Lib.hid hblk
  obtain ⟨c0, c1, c2, c3, f0, f1, f2, f3⟩ := cell4 hblk
  clear hqb hr3 hb3 hblk
  go_wp2_with fail
  obtain ⟨d0, d1, d2, d3, _⟩ := cell4 (put4_block (v0 := .int .i64 2) (v1 := .int .i64 0) (v2 := .string ⟨#[]⟩) (v3 := .slice (some ⟨q, 0, none⟩) 1 1) HBL.out)
  refine bodyPost_ret (v := .agg #[.int .i64 2, .int .i64 0, .string ⟨#[]⟩, .slice (some ⟨q, 0, none⟩) 1 1]) (by simp [results, Tryz.results74, go_sem, d0, d1, d2, d3]) rfl
    ⟨q, rfl, by omega, (put4_other (by omega)).trans HQ.out, (put4_other (by omega)).trans HR3.out, put4_bt HB3.out (Nat.le_refl _)⟩

set_option maxRecDepth 100000 in
set_option maxHeartbeats 4000000 in
theorem value_bad (w : World) (R : Nat) (s : ByteArray) (h : Reader w R s 0) (hB : Beg s) (ht : Tb w R) (hr : Lib.hasPrefix (s.extract 2 s.size).data.toList strR.data.toList = false) (hc : Lib.hasPrefix (s.extract 2 s.size).data.toList strC.data.toList = false) :
    Calls Tryz.prog 74 #[.pointer (some ⟨R, 0, none⟩)] w fun e w' => e = .panicked formP ∧ Bt R w w' := by
  have hRl := lt_of_block h
  have HR := Lib.hid h
  have N := fun (w1 : World) (hq : Reader w1 R s 1) (hb : Bt R w w1) => list_bad w1 R s hq hB (ht.keep (hb.below (Nat.le_refl _) (by omega)) (Nat.le_refl _)) hr hc
  have HN := Lib.hid N
  have P1 := fun (w1 : World) (hq : Reader w1 R s 0) => skip_no w1 R s strQ 0 hq (by omega) hB.q1
  have P2 := fun (w1 : World) (hq : Reader w1 R s 0) => skip_yes w1 R s strL 0 hq (by omega) hB.big (by decide) hB.q2
  have HP1 := Lib.hid P1
  have HP2 := Lib.hid P2
  clear h N P1 P2 hB ht hr hc
  go_enter Tryz.func74, Tryz.ntmps74
  go_wp2_with fail
  refine (HP1.out _ (HR.out.kp (ka _ _))).mono ?_
  rintro e w1 ⟨rfl, hk1⟩
  have HK1 := Lib.hid hk1
  clear hk1
  go_wp2_with fail
  refine (HP2.out _ (HR.out.kp (kk (ka _ _) HK1.out))).mono ?_
  rintro e w2 ⟨rfl, hr2, hb2⟩
  have HR2 := Lib.hid hr2
  have HB2 := Lib.hid ((Bt.kp (c := R) HK1.out).trans hb2)
  clear hr2 hb2
  go_wp2_with fail
  refine (HN.out _ HR2.out ((Bt.kp (c := R) (ka _ _)).trans HB2.out)).mono ?_
  rintro e w3 ⟨rfl, hb3⟩
  exact ⟨rfl, rfl, (Bt.kp (c := R) (ka _ _)).trans (HB2.out.trans hb3)⟩

theorem bodyPostS_none {P : Program} {fn : Func} {c₀ : Frame} {cs : List Frame} {R : Ending → FrameMode → World → Prop} {a : Act} {u' : FrameMode} {w : World} (hd : a.defers = []) (h0 : fn.results = #[]) (hR : R (.returned (.tuple #[])) u' w) :
    bodyPostS P fn c₀ cs R .normal a ({ c₀ with mode := u' } :: cs) w := ⟨hd, u', rfl, .tuple #[], by simp [results, h0, go_sem], hR⟩

set_option maxHeartbeats 1000000 in
theorem catch_panicking (p q : Nat) (u : TypeId) (pv : Value) (older : List PanicEntry) (w : World) (c0 c1 c2 c3 c4 : Value) (h0 : w.heap[p]? = some (.cells #[c0, c1, c2, c3] 24 (0, 0))) (h1 : w.heap[q]? = some (.cells #[c4] 28 (0, 0))) (hne : p ≠ q) :
    CallsD Tryz.prog 112 #[.pointer (some ⟨p, 0, none⟩), .pointer (some ⟨q, 0, none⟩)] (.panicking ({ v := .iface u pv, recovered := false } :: older)) w fun e u' w' =>
      e = .returned (.tuple #[]) ∧ u' = .panicking ({ v := .iface u pv, recovered := true } :: older) ∧ w'.heap[p]? = some (.cells zero4 24 (0, 0)) ∧ w'.heap[q]? = some (.cells #[.int .i64 8] 28 (0, 0)) ∧
        (∀ k, k < w.heap.size → k ≠ p → k ≠ q → w'.heap[k]? = w.heap[k]?) ∧ w'.os = w.os ∧ w'.tape = w.tape ∧ w'.output = w.output ∧ w.heap.size ≤ w'.heap.size := by
  refine callsD_of_wpS Tryz.func112 rfl fun c₀ cs hu => ?_
  have p0 := cellOf (i := 0) h0 rfl
  have p1 := cellOf (i := 1) h0 rfl
  have p2 := cellOf (i := 2) h0 rfl
  have p3 := cellOf (i := 3) h0 rfl
  have r0 := freeOf (i := 0) h0
  have r1 := freeOf (i := 1) h0
  have r2 := freeOf (i := 2) h0
  have r3 := freeOf (i := 3) h0
  have q0 := cellOf (i := 0) h1 rfl
  have q1 := freeOf (i := 0) h1
  have hp : p < w.heap.size := lt_of_block h0
  have hq : q < w.heap.size := lt_of_block h1
  have H0 := Lib.hid h0
  have H1 := Lib.hid h1
  clear h0 h1
  apply wpS_seq
  apply wpS_region
  simp [wpOpsS, go_sem, recoverD, hu, Tryz.ntmps112, Exit.thenS]
  refine wpS_cond (t := true) (by simp [Act.eval, Array.replicate]) ?_
  simp only [if_true]
  refine wpS_of_wp ?_
  go_wp2
  have hB := heap_set (i := 0) (u := .int .i64 8) ((put4_other (v0 := .int .i64 0) (v1 := .int .i64 0) (v2 := .string ⟨#[]⟩) (v3 := .slice none 0 0) (Ne.symm hne)).trans H1.out)
  have hA := put4_block (v0 := .int .i64 0) (v1 := .int .i64 0) (v2 := .string ⟨#[]⟩) (v3 := .slice none 0 0) H0.out
  refine bodyPostS_none (u' := .panicking ({ v := .iface u pv, recovered := true } :: older)) rfl rfl ?_
  refine ⟨rfl, rfl, ?_, ?_, ?_, by simp [World.setCell, World.alloc], by simp [World.setCell, World.alloc], by simp [World.setCell, World.alloc], ?_⟩
  · exact (Below.heap_alloc _ _ _ (by simpa [World.setCell] using hp)).trans ((Below.heap_setCell _ _ _ _ hne).trans hA)
  · exact (Below.heap_alloc _ _ _ (by simpa [World.setCell] using hq)).trans hB
  · intro k hk hkp hkq
    exact (Below.heap_alloc _ _ _ (by simpa [World.setCell] using hk)).trans ((Below.heap_setCell _ _ _ _ hkq).trans (put4_other hkp))
  · simp [World.setCell]

theorem catch_idle (p q : Nat) (w : World) :
    CallsD Tryz.prog 112 #[.pointer (some ⟨p, 0, none⟩), .pointer (some ⟨q, 0, none⟩)] .returning w fun e u' w' => e = .returned (.tuple #[]) ∧ u' = .returning ∧ w' = w := by
  refine callsD_of_wpS Tryz.func112 rfl fun c₀ cs hu => ?_
  apply wpS_seq
  apply wpS_region
  simp [wpOpsS, go_sem, recoverD, hu, Tryz.ntmps112, Exit.thenS]
  refine wpS_cond (t := false) (by simp [Act.eval, Array.replicate]) ?_
  simp only [Bool.false_eq_true, if_false]
  refine wpS_of_wp (wp_skip ?_)
  cases c₀
  simp_all [bodyPostS, results, Tryz.results112]

end Go.Proofs.YtkfmgafgokpjhaaGreatDoor

/-
  THE WALKS OF read: what is read, and what is refused.
-/
namespace Go.Proofs.YtkfmgafgokpjhaaGreatDoor
open Go.RowKit

/-- read's own world as its reader begins: both results and the reader. -/
abbrev readW (w : World) (s : ByteArray) : World := ((w.alloc (.cells zero4 24)).alloc (.cells #[.int .i64 0] 28)).alloc (.cells #[.string s, .int .i64 0] 129)

theorem readW_kp (w : World) (s : ByteArray) : Kp w (readW w s) := (((Below.refl _ _).alloc (Nat.le_refl _) _).alloc (by simp) _).alloc (by simp; omega) _

theorem readW_reader (w : World) (s : ByteArray) : Reader (readW w s) (w.heap.size + 2) s 0 := blockHere (by simp)

/-- The value (1) in block q. -/
abbrev oneV (q : Nat) : V := .mk 2 0 ⟨#[]⟩ (some ⟨q, 0, none⟩) 1 [.mk 0 1 ⟨#[]⟩ none 0 []]
theorem in_leaf {w : World} {B : Nat} (k n : Int) (s : ByteArray) (hk : I64 k) (hn : I64 n) (hs : s.size ≤ maxLen) : (V.mk k n s none 0 []).In w B := by
  simp [V.In, V.InL, hk, hn, hs]
theorem in_node {w : World} {B b off : Nat} (k n : Int) (s : ByteArray) (l : List V) (hk : I64 k) (hn : I64 n) (hs : s.size ≤ maxLen) (hl : l.length ≤ maxLen) (hb : b < B) (hat : At w b off l) (hin : V.InL w B l) :
    (V.mk k n s (some ⟨b, off, none⟩) l.length l).In w B := by
  simp only [V.In]
  exact ⟨hk, hn, hs, Nat.le_refl _, hl, .inr ⟨b, off, rfl, hb, hat⟩, hin⟩
theorem oneV_in {w : World} {q B : Nat} {t : Nat} (h : w.heap[q]? = some (.cells one4 t (0, 0))) (hB : q < B) : (oneV q).In w B := by
  refine in_node 2 0 ⟨#[]⟩ [.mk 0 1 ⟨#[]⟩ none 0 []] (by unfold I64; omega) (by unfold I64; omega) (by decide) (by decide) hB ?_ ⟨in_leaf 0 1 ⟨#[]⟩ (by unfold I64; omega) (by unfold I64; omega) (by decide), trivial⟩
  intro j x hj
  rcases j with _ | j
  · obtain rfl : V.mk 0 1 ⟨#[]⟩ none 0 [] = x := by simpa using hj
    exact ⟨cellOf h rfl, cellOf h rfl, cellOf h rfl, cellOf h rfl⟩
  · simp at hj
theorem put1_kp {b i : Nat} {w w' : World} {v : Value} (h : Kp w w') (hb : w.heap.size ≤ b) : Kp w (w'.setCell ⟨b, i, none⟩ v) :=
  ⟨h.os, h.tape, h.output, by have := h.size; simp [World.setCell]; omega, fun k hk => (Below.heap_setCell _ _ _ _ (by simp; omega)).trans (h.block k hk)⟩
theorem oneV_cnt (q : Nat) : bad (oneV q).cnt = 0 := by simp [bad, V.cnt, V.wk, V.wkL, fitsB, wordB, tupleB]

set_option maxRecDepth 100000 in
set_option maxHeartbeats 4000000 in
theorem read_one (w : World) (s : ByteArray) (hsz : s.size = 3) (hB : Beg s) (ht : Tb w w.heap.size) (hr : Lib.hasPrefix (s.extract 2 s.size).data.toList strR.data.toList = true) :
    Calls Tryz.prog 73 #[.string s, .int .i64 13000, .func (.func 74) #[] #[], .func (.func 19) #[] #[]] w fun e w' =>
      ∃ q, e = .returned (.tuple #[.agg #[.int .i64 2, .int .i64 0, .string ⟨#[]⟩, .slice (some ⟨q, 0, none⟩) 1 1], .int .i64 0]) ∧ w'.heap[q]? = some (.cells one4 24 (0, 0)) ∧ w.heap.size ≤ q ∧ Kp w w' := by
  have C := fun (w1 : World) (q : Nat) hin => checkV 2 0 ⟨#[]⟩ (some ⟨q, 0, none⟩) 1 [.mk 0 1 ⟨#[]⟩ none 0 []] w1 hin
  simp only [oneV_cnt] at C
  have F := value_ok (readW w s) (w.heap.size + 2) s (readW_reader w s) hB (ht.keep (readW_kp w s) (by omega)) hr
  have HC := Lib.hid C
  have HF := Lib.hid F
  have hm : (s.size : Int) ≤ 13000 := by omega
  clear C F hB ht hr
  have hmf : ∀ (fn : Fn) (first cap : Array Value) (w : World), (Instr.makeFunc fn first cap).run Tryz.prog w = .ok (.func fn first cap) w := fun _ _ _ _ => rfl
  go_enter_defers Tryz.func73, Tryz.ntmps73
  go_wp2_with fail
  refine HF.out.mono ?_
  rintro e w1 ⟨q, rfl, hq, hqb, hr1, hb1⟩
  have x0 : w1.heap[w.heap.size]? = some (.cells zero4 24 (0, 0)) := (hb1.block _ (by simp; omega) (by omega)).trans ((Below.heap_alloc _ _ _ (by simp; omega)).trans ((Below.heap_alloc _ _ _ (by simp)).trans (blockHere rfl)))
  have x1 : w1.heap[w.heap.size + 1]? = some (.cells #[.int .i64 0] 28 (0, 0)) := (hb1.block _ (by simp) (by omega)).trans ((Below.heap_alloc _ _ _ (by simp)).trans (blockHere (by simp)))
  simp at hq
  obtain ⟨c0, c1, c2, c3, f0, f1, f2, f3⟩ := cell4 x0
  have K1 : Kp w w1 := ⟨hb1.os, hb1.tape, hb1.output, by have := hb1.size; simp at this; omega, fun k hk => (hb1.block k (by simp; omega) (by omega)).trans ((readW_kp w s).block k hk)⟩
  have HK1 := Lib.hid K1
  have HQ := Lib.hid hqb
  have HR := Lib.hid hr1
  have X0 := Lib.hid x0
  have X1 := Lib.hid x1
  have r0 := hr1.c0
  have r1 := hr1.c1
  clear K1 hqb hr1 x0 x1 hb1
  go_wp2_with fail
  refine (HC.out _ q (oneV_in ((put4_other (by omega)).trans HQ.out) (by have := lt_of_block HQ.out; simpa [World.setCell] using this))).mono ?_
  rintro e w2 ⟨rfl, hk2⟩
  have y0 : w2.heap[w.heap.size]? = some (.cells #[.int .i64 2, .int .i64 0, .string ⟨#[]⟩, .slice (some ⟨q, 0, none⟩) 1 1] 24 (0, 0)) := (hk2.block _ (by have := lt_of_block X0.out; simpa [World.setCell] using this)).trans (put4_block X0.out)
  have y1 : w2.heap[w.heap.size + 1]? = some (.cells #[.int .i64 0] 28 (0, 0)) := (hk2.block _ (by have := lt_of_block X1.out; simpa [World.setCell] using this)).trans ((put4_other (by omega)).trans X1.out)
  have K2 := kk (put4_kp (b := w.heap.size) (v0 := .int .i64 2) (v1 := .int .i64 0) (v2 := .string ⟨#[]⟩) (v3 := .slice (some ⟨q, 0, none⟩) 1 1) HK1.out (Nat.le_refl _)) hk2
  have q2 : w2.heap[q]? = some (.cells one4 24 (0, 0)) := (hk2.block _ (by have := lt_of_block HQ.out; simpa [World.setCell] using this)).trans ((put4_other (by omega)).trans HQ.out)
  obtain ⟨e0, e1, e2, e3, g0, g1, g2, g3⟩ := cell4 y0
  have z0 := cellOf (i := 0) y1 rfl
  have z1 := freeOf (i := 0) y1
  have HY0 := Lib.hid y0
  have HY1 := Lib.hid y1
  have HK2 := Lib.hid K2
  have HQ2 := Lib.hid q2
  clear K2 q2 y0 y1 hk2
  go_wp2_with fail
  refine leaves_cons (f := 112) (args := #[.pointer (some ⟨w.heap.size, 0, none⟩), .pointer (some ⟨w.heap.size + 1, 0, none⟩)]) (by simp) (by simp [go_sem]) ?_
  refine (catch_idle w.heap.size (w.heap.size + 1) _).mono ?_
  rintro e u' w'' ⟨rfl, rfl, rfl⟩
  have m0 := (Below.heap_setCell _ ⟨w.heap.size + 1, 0, none⟩ (Value.int .i64 0) w.heap.size (by simp)).trans (put4_block (v0 := .int .i64 2) (v1 := .int .i64 0) (v2 := .string ⟨#[]⟩) (v3 := .slice (some ⟨q, 0, none⟩) 1 1) HY0.out)
  have m1 := heap_set (i := 0) (u := Value.int .i64 0) ((put4_other (v0 := .int .i64 2) (v1 := .int .i64 0) (v2 := .string ⟨#[]⟩) (v3 := .slice (some ⟨q, 0, none⟩) 1 1) (by omega : w.heap.size + 1 ≠ w.heap.size)).trans HY1.out)
  obtain ⟨a0, a1, a2, a3, -⟩ := cell4 m0
  have b0 := cellOf (i := 0) m1 rfl
  have kz : Kp w ((put4 w2 w.heap.size (.int .i64 2) (.int .i64 0) (.string ⟨#[]⟩) (.slice (some ⟨q, 0, none⟩) 1 1)).setCell ⟨w.heap.size + 1, 0, none⟩ (.int .i64 0)) := put1_kp (put4_kp HK2.out (Nat.le_refl _)) (by simp)
  refine ⟨.tuple #[.agg #[.int .i64 2, .int .i64 0, .string ⟨#[]⟩, .slice (some ⟨q, 0, none⟩) 1 1], .int .i64 0], by simp [results, Tryz.results73, go_sem, a0, a1, a2, a3, b0], q, rfl, ?_, by omega, kz⟩
  exact (Below.heap_setCell _ _ _ _ (by simp; omega)).trans ((put4_other (by omega)).trans HQ2.out)


set_option maxRecDepth 100000 in
set_option maxHeartbeats 4000000 in
theorem read_bad (w : World) (s : ByteArray) (hm : (s.size : Int) ≤ 13000)
    (hF : Calls Tryz.prog 74 #[.pointer (some ⟨w.heap.size + 2, 0, none⟩)] (readW w s) fun e w' => e = .panicked formP ∧ Bt (w.heap.size + 2) (readW w s) w') :
    Calls Tryz.prog 73 #[.string s, .int .i64 13000, .func (.func 74) #[] #[], .func (.func 19) #[] #[]] w fun e w' =>
      e = .returned (.tuple #[.agg zero4, .int .i64 8]) ∧ Kp w w' := by
  have HF := Lib.hid hF
  clear hF
  have hmf : ∀ (fn : Fn) (first cap : Array Value) (w : World), (Instr.makeFunc fn first cap).run Tryz.prog w = .ok (.func fn first cap) w := fun _ _ _ _ => rfl
  go_enter_defers Tryz.func73, Tryz.ntmps73
  go_wp2_with fail
  refine HF.out.mono ?_
  rintro e w1 ⟨rfl, hb1⟩
  have x0 : w1.heap[w.heap.size]? = some (.cells zero4 24 (0, 0)) := (hb1.block _ (by simp; omega) (by omega)).trans ((Below.heap_alloc _ _ _ (by simp; omega)).trans ((Below.heap_alloc _ _ _ (by simp)).trans (blockHere rfl)))
  have x1 : w1.heap[w.heap.size + 1]? = some (.cells #[.int .i64 0] 28 (0, 0)) := (hb1.block _ (by simp) (by omega)).trans ((Below.heap_alloc _ _ _ (by simp)).trans (blockHere (by simp)))
  have K1 : Kp w w1 := ⟨hb1.os, hb1.tape, hb1.output, by have := hb1.size; simp at this; omega, fun k hk => (hb1.block k (by simp; omega) (by omega)).trans ((readW_kp w s).block k hk)⟩
  refine leaves_cons (f := 112) (args := #[.pointer (some ⟨w.heap.size, 0, none⟩), .pointer (some ⟨w.heap.size + 1, 0, none⟩)]) (by simp) (by simp [go_sem]) ?_
  refine (catch_panicking w.heap.size (w.heap.size + 1) 28 (.int .i64 8) [] _ _ _ _ _ _ x0 x1 (by omega)).mono ?_
  rintro e u' w'' ⟨rfl, rfl, m0, m1, ho, h1, h2, h3, h4⟩
  obtain ⟨a0, a1, a2, a3, -⟩ := cell4 m0
  have b0 := cellOf (i := 0) m1 rfl
  exact ⟨.tuple #[.agg zero4, .int .i64 8], by simp [results, Tryz.results73, go_sem, a0, a1, a2, a3, b0], rfl, h1.trans K1.os, h2.trans K1.tape, h3.trans K1.output, Nat.le_trans K1.size h4, fun k hk => (ho k (Nat.lt_of_lt_of_le hk K1.size) (by omega) (by omega)).trans (K1.block k hk)⟩

set_option maxRecDepth 100000 in
set_option maxHeartbeats 4000000 in
theorem readKey_bad (w : World) (s : ByteArray) (hm : (s.size : Int) ≤ 6500)
    (hF : Calls Tryz.prog 81 #[.pointer (some ⟨w.heap.size + 2, 0, none⟩)] (readW w s) fun e w' => e = .panicked formP ∧ Bt (w.heap.size + 2) (readW w s) w') :
    Calls Tryz.prog 73 #[.string s, .int .i64 6500, .func (.func 81) #[] #[], .func (.func 19) #[] #[]] w fun e w' =>
      e = .returned (.tuple #[.agg zero4, .int .i64 8]) ∧ Kp w w' := by
  have HF := Lib.hid hF
  clear hF
  have hmf : ∀ (fn : Fn) (first cap : Array Value) (w : World), (Instr.makeFunc fn first cap).run Tryz.prog w = .ok (.func fn first cap) w := fun _ _ _ _ => rfl
  go_enter_defers Tryz.func73, Tryz.ntmps73
  go_wp2_with fail
  refine HF.out.mono ?_
  rintro e w1 ⟨rfl, hb1⟩
  have x0 : w1.heap[w.heap.size]? = some (.cells zero4 24 (0, 0)) := (hb1.block _ (by simp; omega) (by omega)).trans ((Below.heap_alloc _ _ _ (by simp; omega)).trans ((Below.heap_alloc _ _ _ (by simp)).trans (blockHere rfl)))
  have x1 : w1.heap[w.heap.size + 1]? = some (.cells #[.int .i64 0] 28 (0, 0)) := (hb1.block _ (by simp) (by omega)).trans ((Below.heap_alloc _ _ _ (by simp)).trans (blockHere (by simp)))
  have K1 : Kp w w1 := ⟨hb1.os, hb1.tape, hb1.output, by have := hb1.size; simp at this; omega, fun k hk => (hb1.block k (by simp; omega) (by omega)).trans ((readW_kp w s).block k hk)⟩
  refine leaves_cons (f := 112) (args := #[.pointer (some ⟨w.heap.size, 0, none⟩), .pointer (some ⟨w.heap.size + 1, 0, none⟩)]) (by simp) (by simp [go_sem]) ?_
  refine (catch_panicking w.heap.size (w.heap.size + 1) 28 (.int .i64 8) [] _ _ _ _ _ _ x0 x1 (by omega)).mono ?_
  rintro e u' w'' ⟨rfl, rfl, m0, m1, ho, h1, h2, h3, h4⟩
  obtain ⟨a0, a1, a2, a3, -⟩ := cell4 m0
  have b0 := cellOf (i := 0) m1 rfl
  exact ⟨.tuple #[.agg zero4, .int .i64 8], by simp [results, Tryz.results73, go_sem, a0, a1, a2, a3, b0], rfl, h1.trans K1.os, h2.trans K1.tape, h3.trans K1.output, Nat.le_trans K1.size h4, fun k hk => (ho k (Nat.lt_of_lt_of_le hk K1.size) (by omega) (by omega)).trans (K1.block k hk)⟩

end Go.Proofs.YtkfmgafgokpjhaaGreatDoor

/-
  Parse AT "(1)" AND AT "(1,2)".
-/
namespace Go.Proofs.YtkfmgafgokpjhaaGreatDoor
open Go.RowKit

abbrev txt1 : ByteArray := ⟨#[40, 49, 41]⟩
abbrev txt12 : ByteArray := ⟨#[40, 49, 44, 50, 41]⟩

theorem beg1 : Beg txt1 := ⟨by decide, by decide, by decide, by decide, by decide, by decide, by decide, by decide, by decide, by decide, by decide⟩
theorem beg12 : Beg txt12 := ⟨by decide, by decide, by decide, by decide, by decide, by decide, by decide, by decide, by decide, by decide, by decide⟩

theorem boxK {w w1 : World} {cs : Array Value} {t : Nat} (hk : Kp (w.alloc (.cells cs t)) w1) : w1.heap[w.heap.size]? = some (.cells cs t (0, 0)) := (hk.block _ (by simp)).trans (blockHere rfl)

set_option maxHeartbeats 2000000 in
theorem parse_one (w : World) (ht : Tb w w.heap.size) :
    Calls Tryz.prog 31 #[.string txt1] w fun e w' =>
      ∃ q, e = .returned (.tuple #[.agg #[.int .i64 2, .int .i64 0, .string ⟨#[]⟩, .slice (some ⟨q, 0, none⟩) 1 1], .int .i64 0]) ∧ w'.heap[q]? = some (.cells one4 24 (0, 0)) ∧ w.heap.size ≤ q ∧ Kp w w' := by
  have C := fun (w1 : World) (k : Kp w w1) => read_one w1 txt1 (by decide) beg1 (ht.keep k k.size) (by decide)
  generalize txt1 = s at C ⊢
  have HC := Lib.hid C
  clear C ht
  go_enter Tryz.func31, Tryz.ntmps31
  go_wp2_with fail
  refine (HC.out _ (ka _ _)).mono ?_
  rintro e w1 ⟨q, rfl, hqb, hq, hk⟩
  have hblk := boxK hk
  simp at hq
  have HQ := Lib.hid hqb
  have HK := Lib.hid (kk (ka _ _) hk)
  obtain ⟨c0, c1, c2, c3, f0, f1, f2, f3⟩ := cell4 hblk
  have HBL := Lib.hid hblk
  clear hqb hk hblk
  go_wp2_with fail
  obtain ⟨d0, d1, d2, d3, -⟩ := cell4 (put4_block (v0 := .int .i64 2) (v1 := .int .i64 0) (v2 := .string ⟨#[]⟩) (v3 := .slice (some ⟨q, 0, none⟩) 1 1) HBL.out)
  refine bodyPost_ret (v := .tuple #[.agg #[.int .i64 2, .int .i64 0, .string ⟨#[]⟩, .slice (some ⟨q, 0, none⟩) 1 1], .int .i64 0]) (by simp [results, Tryz.results31, go_sem, d0, d1, d2, d3]) rfl
    ⟨q, rfl, (put4_other (by omega)).trans HQ.out, by omega, put4_kp HK.out (Nat.le_refl _)⟩

set_option maxHeartbeats 2000000 in
theorem parse_bad (w : World) (ht : Tb w w.heap.size) :
    Calls Tryz.prog 31 #[.string txt12] w fun e w' => e = .returned (.tuple #[.agg zero4, .int .i64 8]) ∧ Kp w w' := by
  have C := fun (w1 : World) (k : Kp w w1) => read_bad w1 txt12 (by decide) (value_bad (readW w1 txt12) (w1.heap.size + 2) txt12 (readW_reader w1 txt12) beg12 (ht.keep (kk k (readW_kp w1 txt12)) (by have := k.size; omega)) (by decide) (by decide))
  generalize txt12 = s at C ⊢
  have HC := Lib.hid C
  clear C
  go_enter Tryz.func31, Tryz.ntmps31
  go_wp2_with fail
  refine (HC.out _ (ka _ _)).mono ?_
  rintro e w1 ⟨rfl, hk⟩
  have hblk := boxK hk
  have HK := Lib.hid (kk (ka _ _) hk)
  obtain ⟨c0, c1, c2, c3, f0, f1, f2, f3⟩ := cell4 hblk
  have HBL := Lib.hid hblk
  clear hk hblk
  go_wp2_with fail
  obtain ⟨d0, d1, d2, d3, -⟩ := cell4 (put4_block (v0 := .int .i64 0) (v1 := .int .i64 0) (v2 := .string ⟨#[]⟩) (v3 := .slice none 0 0) HBL.out)
  refine bodyPost_ret (v := .tuple #[.agg zero4, .int .i64 8]) (by simp [results, Tryz.results31, go_sem, d0, d1, d2, d3]) rfl
    ⟨rfl, put4_kp HK.out (Nat.le_refl _)⟩

end Go.Proofs.YtkfmgafgokpjhaaGreatDoor

/-
  OfKey AT "\x03".
-/
namespace Go.Proofs.YtkfmgafgokpjhaaGreatDoor
open Go.RowKit

set_option maxRecDepth 100000 in
set_option maxHeartbeats 2000000 in
theorem ofKey_end (w : World) (R : Nat) (s : ByteArray) (h : Reader w R s s.size) :
    Calls Tryz.prog 81 #[.pointer (some ⟨R, 0, none⟩)] w fun e w' => e = .panicked formP ∧ Kp w w' := by
  have HR := Lib.hid h
  clear h
  go_enter Tryz.func81, Tryz.ntmps81
  go_wp2_with fail
  refine (kinds_any _).mono ?_
  rintro e w1 ⟨rfl, hk⟩
  have HK := Lib.hid (kk (ka _ _) hk)
  clear hk
  go_wp2_with fail
  have hk2 : Kp w (w1.alloc (.cells kindsA 71)) := kk HK.out (ka _ _)
  refine (next_no _ R s (HR.out.kp hk2)).mono ?_
  rintro e w3 ⟨rfl, hk3⟩
  exact ⟨rfl, rfl, kk hk2 hk3⟩

set_option maxRecDepth 100000 in
set_option maxHeartbeats 4000000 in
theorem keyList_end (w : World) (R : Nat) (s : ByteArray) (h : Reader w R s s.size) :
    Calls Tryz.prog 116 #[.pointer (some ⟨R, 0, none⟩), .string ⟨#[]⟩, .string ⟨#[0]⟩, .func (.func 81) #[] #[]] w fun e w' => e = .panicked formP ∧ Kp w w' := by
  have HR := Lib.hid h
  have P1 := fun (w1 : World) (hq : Reader w1 R s s.size) => skip_no w1 R s ⟨#[0]⟩ s.size hq (by omega) (by simp [Lib.hasPrefix])
  have HP1 := Lib.hid P1
  clear h P1
  go_enter Tryz.func116, Tryz.ntmps116
  go_wp2_with fail
  refine wp_loop_rounds (0 + 1) ?_
  rw [rounds_succ]
  go_wp2_with fail
  refine (HP1.out _ (HR.out.kp (ka _ _))).mono ?_
  rintro e w1 ⟨rfl, hk1⟩
  have HK1 := Lib.hid (kk (ka _ _) hk1)
  clear hk1
  go_wp2_with fail
  refine (ofKey_end _ R s (HR.out.kp HK1.out)).mono ?_
  rintro e w2 ⟨rfl, hk2⟩
  exact ⟨rfl, rfl, kk HK1.out hk2⟩

set_option maxRecDepth 100000 in
set_option maxHeartbeats 4000000 in
theorem keyTuple_end (w : World) (R : Nat) (s : ByteArray) (h : Reader w R s s.size) :
    Calls Tryz.prog 90 #[.pointer (some ⟨R, 0, none⟩)] w fun e w' => e = .panicked formP ∧ Kp w w' := by
  have HR := Lib.hid h
  clear h
  go_enter Tryz.func90, Tryz.ntmps90
  go_wp2_with fail
  refine (keyList_end _ R s (HR.out.kp (ka _ _))).mono ?_
  rintro e w1 ⟨rfl, hk1⟩
  exact ⟨rfl, rfl, kk (ka _ _) hk1⟩

set_option maxRecDepth 100000 in
set_option maxHeartbeats 4000000 in
theorem ofKey_bad (w : World) (R : Nat) (h : Reader w R ⟨#[3]⟩ 0) :
    Calls Tryz.prog 81 #[.pointer (some ⟨R, 0, none⟩)] w fun e w' => e = .panicked formP ∧ Bt R w w' := by
  have HR := Lib.hid h
  have hRl := lt_of_block h
  have N : ∀ w1 : World, Reader w1 R ⟨#[3]⟩ 0 → Calls Tryz.prog 125 #[.pointer (some ⟨R, 0, none⟩)] w1 fun e w' => e = .returned (.int .u8 3) ∧ Reader w' R ⟨#[3]⟩ 1 ∧ Bt R w1 w' := fun w1 hq => next_yes w1 R ⟨#[3]⟩ 0 hq (by decide) (by decide)
  have HN := Lib.hid N
  clear h N
  go_enter Tryz.func81, Tryz.ntmps81
  go_wp2_with fail
  refine (kinds_any _).mono ?_
  rintro e w1 ⟨rfl, hk⟩
  have HK := Lib.hid (kk (ka _ _) hk)
  clear hk
  go_wp2_with fail
  have hk2 : Kp w (w1.alloc (.cells kindsA 71)) := kk HK.out (ka _ _)
  refine (HN.out _ (HR.out.kp hk2)).mono ?_
  rintro e w3 ⟨rfl, hr3, hb3⟩
  have hz1 := HK.out.size
  have hblk := boxAny (R := R) (by omega) hb3
  have c5 := cellOf (i := 5) hblk rfl
  have HR3 := Lib.hid hr3
  have HB3 := Lib.hid ((Bt.kp (c := R) hk2).trans hb3)
  clear hr3 hb3 hblk hk2
  go_wp2_with fail
  refine (keyTuple_end _ R ⟨#[3]⟩ HR3.out).mono ?_
  rintro e w4 ⟨rfl, hk4⟩
  exact ⟨rfl, rfl, HB3.out.trans (.kp hk4)⟩

set_option maxHeartbeats 2000000 in
theorem ofKey_three (w : World) :
    Calls Tryz.prog 38 #[.string ⟨#[3]⟩] w fun e w' => e = .returned (.tuple #[.agg zero4, .int .i64 8]) ∧ Kp w w' := by
  have C := fun (w1 : World) => readKey_bad w1 ⟨#[3]⟩ (by decide) (ofKey_bad (readW w1 ⟨#[3]⟩) (w1.heap.size + 2) (readW_reader w1 ⟨#[3]⟩))
  generalize (⟨#[3]⟩ : ByteArray) = s at C ⊢
  have HC := Lib.hid C
  clear C
  go_enter Tryz.func38, Tryz.ntmps38
  go_wp2_with fail
  refine (HC.out _).mono ?_
  rintro e w1 ⟨rfl, hk⟩
  have hblk := boxK hk
  have HK := Lib.hid (kk (ka _ _) hk)
  obtain ⟨c0, c1, c2, c3, f0, f1, f2, f3⟩ := cell4 hblk
  have HBL := Lib.hid hblk
  clear hk hblk
  go_wp2_with fail
  obtain ⟨d0, d1, d2, d3, -⟩ := cell4 (put4_block (v0 := .int .i64 0) (v1 := .int .i64 0) (v2 := .string ⟨#[]⟩) (v3 := .slice none 0 0) HBL.out)
  refine bodyPost_ret (v := .tuple #[.agg zero4, .int .i64 8]) (by simp [results, Tryz.results38, go_sem, d0, d1, d2, d3]) rfl
    ⟨rfl, put4_kp HK.out (Nat.le_refl _)⟩

end Go.Proofs.YtkfmgafgokpjhaaGreatDoor

/-
  Least AT (int, text, (), [text + () + int]).
-/
namespace Go.Proofs.YtkfmgafgokpjhaaGreatDoor
open Go.RowKit

theorem make_zero (w : World) : (Instr.makeSlice 22 (.int .i64 0) (.int .i64 0)).run Tryz.prog w = .ok (.slice (some ⟨w.heap.size, 0, none⟩) 0 0) (w.alloc (.cells #[] 24)) := by kernel_rfl
abbrev zero16 : Array Value := #[.int .i64 0, .int .i64 0, .string ⟨#[]⟩, .slice none 0 0, .int .i64 0, .int .i64 0, .string ⟨#[]⟩, .slice none 0 0, .int .i64 0, .int .i64 0, .string ⟨#[]⟩, .slice none 0 0, .int .i64 0, .int .i64 0, .string ⟨#[]⟩, .slice none 0 0]
theorem make_four (w : World) : (Instr.makeSlice 22 (.int .i64 4) (.int .i64 4)).run Tryz.prog w = .ok (.slice (some ⟨w.heap.size, 0, none⟩) 4 4) (w.alloc (.cells zero16 24)) := by kernel_rfl

set_option maxHeartbeats 1000000 in
theorem least_int (w : World) (a : Option Addr) (l c : Nat) :
    Calls Tryz.prog 54 #[.agg #[.int .i64 0, .slice a l c]] w fun e w' => e = .returned (.agg #[.int .i64 0, .int .i64 (-2147483648), .string ⟨#[]⟩, .slice none 0 0]) ∧ Kp w w' := by
  go_enter Tryz.func54, Tryz.ntmps54
  go_wp2_with fail
  refine bodyPost_ret (v := .agg #[.int .i64 0, .int .i64 (-2147483648), .string ⟨#[]⟩, .slice none 0 0]) (by simp [results, Tryz.results54, go_sem]) rfl ⟨rfl, ?_⟩
  exact kk (ka _ _) (ka _ _)

set_option maxHeartbeats 1000000 in
theorem least_text (w : World) (a : Option Addr) (l c : Nat) :
    Calls Tryz.prog 54 #[.agg #[.int .i64 1, .slice a l c]] w fun e w' => e = .returned (.agg #[.int .i64 1, .int .i64 0, .string ⟨#[]⟩, .slice none 0 0]) ∧ Kp w w' := by
  go_enter Tryz.func54, Tryz.ntmps54
  go_wp2_with fail
  refine bodyPost_ret (v := .agg #[.int .i64 1, .int .i64 0, .string ⟨#[]⟩, .slice none 0 0]) (by simp [results, Tryz.results54, go_sem]) rfl ⟨rfl, ?_⟩
  exact kk (ka _ _) (ka _ _)

set_option maxRecDepth 100000 in
set_option maxHeartbeats 1000000 in
theorem least_unit (w : World) (a : Option Addr) (c : Nat) :
    Calls Tryz.prog 54 #[.agg #[.int .i64 2, .slice a 0 c]] w fun e w' => ∃ b, e = .returned (.agg #[.int .i64 2, .int .i64 0, .string ⟨#[]⟩, .slice b 0 0]) ∧ Kp w w' := by
  have hmk := make_zero
  go_enter Tryz.func54, Tryz.ntmps54
  go_wp2_with fail
  refine wp_loop_rounds (0 + 1) ?_
  rw [rounds_succ]
  go_wp2_with fail
  refine bodyPost_ret (v := .agg #[.int .i64 2, .int .i64 0, .string ⟨#[]⟩, .slice (some ⟨w.heap.size + 1 + 1, 0, none⟩) 0 0]) (by simp [results, Tryz.results54, go_sem]) rfl ⟨_, rfl, kk (kk (ka _ _) (ka _ _)) (ka _ _)⟩

set_option maxRecDepth 100000 in
set_option maxHeartbeats 2000000 in
theorem least_sum (w : World) (g off l c : Nat) (a0 : Option Addr) (l0 k0 : Nat) (x1 : w.cell? ⟨g, off, none⟩ = some (.int .i64 1)) (x2 : w.cell? ⟨g, off + 1, none⟩ = some (.slice a0 l0 k0)) :
    Calls Tryz.prog 54 #[.agg #[.int .i64 3, .slice (some ⟨g, off, none⟩) (l + 1) c]] w fun e w' => ∃ q, e = .returned (.agg #[.int .i64 3, .int .i64 0, .string ⟨#[]⟩, .slice (some ⟨q, 0, none⟩) 1 1]) ∧ w'.heap[q]? = some (.cells #[.int .i64 1, .int .i64 0, .string ⟨#[]⟩, .slice none 0 0] 24 (0, 0)) ∧ w.heap.size ≤ q ∧ Kp w w' := by
  have hg := World.block_lt_of_cell? w _ x1
  go_enter Tryz.func54, Tryz.ntmps54
  go_wp2_with fail
  refine (least_text _ a0 l0 k0).mono ?_
  rintro e w1 ⟨rfl, hk1⟩
  have hz1 := hk1.size
  simp at hz1
  have hblk : w1.heap[w.heap.size + 1]? = some (.cells zero4 24 (0, 0)) := (hk1.block _ (by simp)).trans (blockHere (by simp))
  obtain ⟨c0, c1, c2, c3, f0, f1, f2, f3⟩ := cell4 hblk
  have HB := Lib.hid hblk
  have HK1 := Lib.hid (kk (kk (ka _ _) (ka _ _)) hk1)
  clear hk1 hblk
  go_wp2_with fail
  refine (together_one _ w1.heap.size 0 1 (.int .i64 1) (.int .i64 0) (.string ⟨#[]⟩) (.slice none 0 0) (here rfl rfl) (here rfl rfl) (here rfl rfl) (here rfl rfl) (by simp [Value.oneCell'])).mono ?_
  rintro e w2 ⟨q, rfl, hq, hqb, hk2⟩
  simp at hq
  have hblk := ((kk (ka _ _) hk2).block _ (lt_of_block HB.out)).trans HB.out
  obtain ⟨d0, d1, d2, d3, g0, g1, g2, g3⟩ := cell4 hblk
  have HB2 := Lib.hid hblk
  have HK2 := Lib.hid (kk HK1.out (kk (ka _ _) hk2))
  have HQ := Lib.hid hqb
  clear hk2 hblk hqb c0 c1 c2 c3 f0 f1 f2 f3
  go_wp2_with fail
  obtain ⟨e0, e1, e2, e3, -⟩ := cell4 (put4_block (v0 := .int .i64 3) (v1 := .int .i64 0) (v2 := .string ⟨#[]⟩) (v3 := .slice (some ⟨q, 0, none⟩) 1 1) HB2.out)
  refine bodyPost_ret (v := .agg #[.int .i64 3, .int .i64 0, .string ⟨#[]⟩, .slice (some ⟨q, 0, none⟩) 1 1]) (by simp [results, Tryz.results54, go_sem, e0, e1, e2, e3]) rfl
    ⟨q, rfl, (put4_other (by omega)).trans HQ.out, by omega, put4_kp HK2.out (by omega)⟩

/-- The four cells from 4 * i on stored. -/
abbrev putAt (w : World) (b i : Nat) (v0 v1 v2 v3 : Value) : World := (((w.setCell ⟨b, i, none⟩ v0).setCell ⟨b, i + 1, none⟩ v1).setCell ⟨b, i + 2, none⟩ v2).setCell ⟨b, i + 3, none⟩ v3
theorem putAt_block {w : World} {b i : Nat} {cs : Array Value} {v0 v1 v2 v3 : Value} {t : Nat} (h : w.heap[b]? = some (.cells cs t (0, 0))) :
    (putAt w b i v0 v1 v2 v3).heap[b]? = some (.cells ((((cs.setIfInBounds i v0).setIfInBounds (i + 1) v1).setIfInBounds (i + 2) v2).setIfInBounds (i + 3) v3) t (0, 0)) := heap_set (heap_set (heap_set (heap_set h)))
theorem putAt_other {w : World} {b i k : Nat} {v0 v1 v2 v3 : Value} (h : k ≠ b) : (putAt w b i v0 v1 v2 v3).heap[k]? = w.heap[k]? := by
  rw [Below.heap_setCell _ _ _ _ h, Below.heap_setCell _ _ _ _ h, Below.heap_setCell _ _ _ _ h, Below.heap_setCell _ _ _ _ h]
theorem putAt_kp {b i : Nat} {w w' : World} {v0 v1 v2 v3 : Value} (h : Kp w w') (hb : w.heap.size ≤ b) : Kp w (putAt w' b i v0 v1 v2 v3) :=
  put1_kp (put1_kp (put1_kp (put1_kp h hb) hb) hb) hb

set_option maxRecDepth 100000 in
set_option maxHeartbeats 8000000 in
theorem least_kind (w : World) (g off c h hoff : Nat) (a1 a2 a3 a4 : Option Addr) (l1 k1 l2 k2 k3 l4 k4 l5 k5 : Nat)
    (x0 : w.cell? ⟨g, off, none⟩ = some (.int .i64 0)) (x1 : w.cell? ⟨g, off + 1, none⟩ = some (.slice a1 l1 k1))
    (x2 : w.cell? ⟨g, off + 2, none⟩ = some (.int .i64 1)) (x3 : w.cell? ⟨g, off + 2 + 1, none⟩ = some (.slice a2 l2 k2))
    (x4 : w.cell? ⟨g, off + 4, none⟩ = some (.int .i64 2)) (x5 : w.cell? ⟨g, off + 4 + 1, none⟩ = some (.slice a3 0 k3))
    (x6 : w.cell? ⟨g, off + 6, none⟩ = some (.int .i64 3)) (x7 : w.cell? ⟨g, off + 6 + 1, none⟩ = some (.slice (some ⟨h, hoff, none⟩) (l4 + 1) k4))
    (y0 : w.cell? ⟨h, hoff, none⟩ = some (.int .i64 1)) (y1 : w.cell? ⟨h, hoff + 1, none⟩ = some (.slice a4 l5 k5)) :
    Calls Tryz.prog 54 #[.agg #[.int .i64 2, .slice (some ⟨g, off, none⟩) 4 c]] w fun e w' => ∃ q r b, e = .returned (.agg #[.int .i64 2, .int .i64 0, .string ⟨#[]⟩, .slice (some ⟨q, 0, none⟩) 4 4]) ∧
      w'.heap[q]? = some (.cells #[.int .i64 0, .int .i64 (-2147483648), .string ⟨#[]⟩, .slice none 0 0, .int .i64 1, .int .i64 0, .string ⟨#[]⟩, .slice none 0 0, .int .i64 2, .int .i64 0, .string ⟨#[]⟩, .slice b 0 0, .int .i64 3, .int .i64 0, .string ⟨#[]⟩, .slice (some ⟨r, 0, none⟩) 1 1] 24 (0, 0)) ∧
      w'.heap[r]? = some (.cells #[.int .i64 1, .int .i64 0, .string ⟨#[]⟩, .slice none 0 0] 24 (0, 0)) ∧ w.heap.size ≤ q ∧ w.heap.size ≤ r ∧ Kp w w' := by
  have hg := World.block_lt_of_cell? w _ x0
  have hh := World.block_lt_of_cell? w _ y0
  simp at hg hh
  have hmk := make_four
  go_enter Tryz.func54, Tryz.ntmps54
  go_wp2_with fail
  have hK0 : Kp w (((w.alloc (.cells #[.int .i64 2, .slice (some ⟨g, off, none⟩) 4 c] 27)).alloc (.cells zero4 24)).alloc (.cells zero16 24)) := kk (kk (ka _ _) (ka _ _)) (ka _ _)
  have hr0 : (((w.alloc (.cells #[.int .i64 2, .slice (some ⟨g, off, none⟩) 4 c] 27)).alloc (.cells zero4 24)).alloc (.cells zero16 24)).heap[w.heap.size + 1]? = some (.cells zero4 24 (0, 0)) := blockPast (blockHere (by simp))
  have hq0 : (((w.alloc (.cells #[.int .i64 2, .slice (some ⟨g, off, none⟩) 4 c] 27)).alloc (.cells zero4 24)).alloc (.cells zero16 24)).heap[w.heap.size + 1 + 1]? = some (.cells zero16 24 (0, 0)) := blockHere (by simp)
  generalize ((w.alloc (.cells #[.int .i64 2, .slice (some ⟨g, off, none⟩) 4 c] 27)).alloc (.cells zero4 24)).alloc (.cells zero16 24) = W at hK0 hr0 hq0 ⊢
  have HK0 := Lib.hid hK0
  have HR0 := Lib.hid hr0
  have HQ0 := Lib.hid hq0
  clear hK0 hr0 hq0
  have hzW : w.heap.size + 1 + 1 < W.heap.size := lt_of_block HQ0.out
  refine wp_loop_rounds (0 + 1 + 1 + 1 + 1 + 1) ?_
  rw [rounds_succ]
  have z0 := kc HK0.out x0
  have z1 := kc HK0.out x1
  go_wp2_with fail
  refine (least_int _ a1 l1 k1).mono ?_
  rintro e w0 ⟨rfl, hk⟩
  have hw0 := hk.size
  simp at hw0
  have hk' := kk (ka _ _) hk
  have hr1 := (hk'.block _ (lt_of_block HR0.out)).trans HR0.out
  have hq1 := (hk'.block _ (lt_of_block HQ0.out)).trans HQ0.out
  have hK1 := kk HK0.out hk'
  have m0 := cellOf (i := 0) hq1 rfl
  have n0 := freeOf (i := 0) hq1
  have m1 := cellOf (i := 1) hq1 rfl
  have n1 := freeOf (i := 1) hq1
  have m2 := cellOf (i := 2) hq1 rfl
  have n2 := freeOf (i := 2) hq1
  have m3 := cellOf (i := 3) hq1 rfl
  have n3 := freeOf (i := 3) hq1
  have hQ : ((((w0.setCell ⟨w.heap.size + 1 + 1, 0, none⟩ (.int .i64 0)).setCell ⟨w.heap.size + 1 + 1, 1, none⟩ (.int .i64 (-2147483648))).setCell ⟨w.heap.size + 1 + 1, 2, none⟩ (.string ⟨#[]⟩)).setCell ⟨w.heap.size + 1 + 1, 3, none⟩ (.slice none 0 0)).heap[w.heap.size + 1 + 1]? = some (.cells #[.int .i64 0, .int .i64 (-2147483648), .string ⟨#[]⟩, .slice none 0 0, .int .i64 0, .int .i64 0, .string ⟨#[]⟩, .slice none 0 0, .int .i64 0, .int .i64 0, .string ⟨#[]⟩, .slice none 0 0, .int .i64 0, .int .i64 0, .string ⟨#[]⟩, .slice none 0 0] 24 (0, 0)) := heap_set (i := 3) (u := .slice none 0 0) (heap_set (i := 2) (u := .string ⟨#[]⟩) (heap_set (i := 1) (u := .int .i64 (-2147483648)) (heap_set (i := 0) (u := .int .i64 0) (hq1))))
  have hR : ((((w0.setCell ⟨w.heap.size + 1 + 1, 0, none⟩ (.int .i64 0)).setCell ⟨w.heap.size + 1 + 1, 1, none⟩ (.int .i64 (-2147483648))).setCell ⟨w.heap.size + 1 + 1, 2, none⟩ (.string ⟨#[]⟩)).setCell ⟨w.heap.size + 1 + 1, 3, none⟩ (.slice none 0 0)).heap[w.heap.size + 1]? = some (.cells zero4 24 (0, 0)) := (Below.heap_setCell _ _ _ _ (by simp)).trans ((Below.heap_setCell _ _ _ _ (by simp)).trans ((Below.heap_setCell _ _ _ _ (by simp)).trans ((Below.heap_setCell _ _ _ _ (by simp)).trans hr1)))
  have hK : Kp w ((((w0.setCell ⟨w.heap.size + 1 + 1, 0, none⟩ (.int .i64 0)).setCell ⟨w.heap.size + 1 + 1, 1, none⟩ (.int .i64 (-2147483648))).setCell ⟨w.heap.size + 1 + 1, 2, none⟩ (.string ⟨#[]⟩)).setCell ⟨w.heap.size + 1 + 1, 3, none⟩ (.slice none 0 0)) := put1_kp (b := w.heap.size + 1 + 1) (i := 3) (v := .slice none 0 0) (put1_kp (b := w.heap.size + 1 + 1) (i := 2) (v := .string ⟨#[]⟩) (put1_kp (b := w.heap.size + 1 + 1) (i := 1) (v := .int .i64 (-2147483648)) (put1_kp (b := w.heap.size + 1 + 1) (i := 0) (v := .int .i64 0) (hK1) (by omega)) (by omega)) (by omega)) (by omega)
  have hS : ((((w0.setCell ⟨w.heap.size + 1 + 1, 0, none⟩ (.int .i64 0)).setCell ⟨w.heap.size + 1 + 1, 1, none⟩ (.int .i64 (-2147483648))).setCell ⟨w.heap.size + 1 + 1, 2, none⟩ (.string ⟨#[]⟩)).setCell ⟨w.heap.size + 1 + 1, 3, none⟩ (.slice none 0 0)).heap.size = w0.heap.size := by simp [World.setCell]
  clear hr1 hq1 hK1 hk hk' z0 z1
  have HQ1 := Lib.hid hQ
  have HR1 := Lib.hid hR
  have HK1 := Lib.hid hK
  clear hQ hR hK
  go_wp2_with fail
  generalize ((((w0.setCell ⟨w.heap.size + 1 + 1, 0, none⟩ (.int .i64 0)).setCell ⟨w.heap.size + 1 + 1, 1, none⟩ (.int .i64 (-2147483648))).setCell ⟨w.heap.size + 1 + 1, 2, none⟩ (.string ⟨#[]⟩)).setCell ⟨w.heap.size + 1 + 1, 3, none⟩ (.slice none 0 0)) = W1 at HQ1 HR1 HK1 hS ⊢
  clear m0 m1 m2 m3 n0 n1 n2 n3
  rw [rounds_succ]
  have z0 := kc HK1.out x2
  have z1 := kc HK1.out x3
  go_wp2_with fail
  refine (least_text _ a2 l2 k2).mono ?_
  rintro e w1 ⟨rfl, hk⟩
  have hw1 := hk.size
  simp at hw1
  have hk' := kk (ka _ _) hk
  have hr1 := (hk'.block _ (lt_of_block HR1.out)).trans HR1.out
  have hq1 := (hk'.block _ (lt_of_block HQ1.out)).trans HQ1.out
  have hK1 := kk HK1.out hk'
  have m0 := cellOf (i := 4) hq1 rfl
  have n0 := freeOf (i := 4) hq1
  have m1 := cellOf (i := 5) hq1 rfl
  have n1 := freeOf (i := 5) hq1
  have m2 := cellOf (i := 6) hq1 rfl
  have n2 := freeOf (i := 6) hq1
  have m3 := cellOf (i := 7) hq1 rfl
  have n3 := freeOf (i := 7) hq1
  have hQ : ((((w1.setCell ⟨w.heap.size + 1 + 1, 4, none⟩ (.int .i64 1)).setCell ⟨w.heap.size + 1 + 1, 5, none⟩ (.int .i64 0)).setCell ⟨w.heap.size + 1 + 1, 6, none⟩ (.string ⟨#[]⟩)).setCell ⟨w.heap.size + 1 + 1, 7, none⟩ (.slice none 0 0)).heap[w.heap.size + 1 + 1]? = some (.cells #[.int .i64 0, .int .i64 (-2147483648), .string ⟨#[]⟩, .slice none 0 0, .int .i64 1, .int .i64 0, .string ⟨#[]⟩, .slice none 0 0, .int .i64 0, .int .i64 0, .string ⟨#[]⟩, .slice none 0 0, .int .i64 0, .int .i64 0, .string ⟨#[]⟩, .slice none 0 0] 24 (0, 0)) := heap_set (i := 7) (u := .slice none 0 0) (heap_set (i := 6) (u := .string ⟨#[]⟩) (heap_set (i := 5) (u := .int .i64 0) (heap_set (i := 4) (u := .int .i64 1) (hq1))))
  have hR : ((((w1.setCell ⟨w.heap.size + 1 + 1, 4, none⟩ (.int .i64 1)).setCell ⟨w.heap.size + 1 + 1, 5, none⟩ (.int .i64 0)).setCell ⟨w.heap.size + 1 + 1, 6, none⟩ (.string ⟨#[]⟩)).setCell ⟨w.heap.size + 1 + 1, 7, none⟩ (.slice none 0 0)).heap[w.heap.size + 1]? = some (.cells zero4 24 (0, 0)) := (Below.heap_setCell _ _ _ _ (by simp)).trans ((Below.heap_setCell _ _ _ _ (by simp)).trans ((Below.heap_setCell _ _ _ _ (by simp)).trans ((Below.heap_setCell _ _ _ _ (by simp)).trans hr1)))
  have hK : Kp w ((((w1.setCell ⟨w.heap.size + 1 + 1, 4, none⟩ (.int .i64 1)).setCell ⟨w.heap.size + 1 + 1, 5, none⟩ (.int .i64 0)).setCell ⟨w.heap.size + 1 + 1, 6, none⟩ (.string ⟨#[]⟩)).setCell ⟨w.heap.size + 1 + 1, 7, none⟩ (.slice none 0 0)) := put1_kp (b := w.heap.size + 1 + 1) (i := 7) (v := .slice none 0 0) (put1_kp (b := w.heap.size + 1 + 1) (i := 6) (v := .string ⟨#[]⟩) (put1_kp (b := w.heap.size + 1 + 1) (i := 5) (v := .int .i64 0) (put1_kp (b := w.heap.size + 1 + 1) (i := 4) (v := .int .i64 1) (hK1) (by omega)) (by omega)) (by omega)) (by omega)
  have hS : ((((w1.setCell ⟨w.heap.size + 1 + 1, 4, none⟩ (.int .i64 1)).setCell ⟨w.heap.size + 1 + 1, 5, none⟩ (.int .i64 0)).setCell ⟨w.heap.size + 1 + 1, 6, none⟩ (.string ⟨#[]⟩)).setCell ⟨w.heap.size + 1 + 1, 7, none⟩ (.slice none 0 0)).heap.size = w1.heap.size := by simp [World.setCell]
  clear hr1 hq1 hK1 hk hk' z0 z1
  have HQ2 := Lib.hid hQ
  have HR2 := Lib.hid hR
  have HK2 := Lib.hid hK
  clear hQ hR hK
  go_wp2_with fail
  generalize ((((w1.setCell ⟨w.heap.size + 1 + 1, 4, none⟩ (.int .i64 1)).setCell ⟨w.heap.size + 1 + 1, 5, none⟩ (.int .i64 0)).setCell ⟨w.heap.size + 1 + 1, 6, none⟩ (.string ⟨#[]⟩)).setCell ⟨w.heap.size + 1 + 1, 7, none⟩ (.slice none 0 0)) = W2 at HQ2 HR2 HK2 hS ⊢
  clear m0 m1 m2 m3 n0 n1 n2 n3
  rw [rounds_succ]
  have z0 := kc HK2.out x4
  have z1 := kc HK2.out x5
  go_wp2_with fail
  refine (least_unit _ a3 k3).mono ?_
  rintro e w2 ⟨bb, rfl, hk⟩
  have hw2 := hk.size
  simp at hw2
  have hk' := kk (ka _ _) hk
  have hr1 := (hk'.block _ (lt_of_block HR2.out)).trans HR2.out
  have hq1 := (hk'.block _ (lt_of_block HQ2.out)).trans HQ2.out
  have hK1 := kk HK2.out hk'
  have m0 := cellOf (i := 8) hq1 rfl
  have n0 := freeOf (i := 8) hq1
  have m1 := cellOf (i := 9) hq1 rfl
  have n1 := freeOf (i := 9) hq1
  have m2 := cellOf (i := 10) hq1 rfl
  have n2 := freeOf (i := 10) hq1
  have m3 := cellOf (i := 11) hq1 rfl
  have n3 := freeOf (i := 11) hq1
  have hQ : ((((w2.setCell ⟨w.heap.size + 1 + 1, 8, none⟩ (.int .i64 2)).setCell ⟨w.heap.size + 1 + 1, 9, none⟩ (.int .i64 0)).setCell ⟨w.heap.size + 1 + 1, 10, none⟩ (.string ⟨#[]⟩)).setCell ⟨w.heap.size + 1 + 1, 11, none⟩ (.slice bb 0 0)).heap[w.heap.size + 1 + 1]? = some (.cells #[.int .i64 0, .int .i64 (-2147483648), .string ⟨#[]⟩, .slice none 0 0, .int .i64 1, .int .i64 0, .string ⟨#[]⟩, .slice none 0 0, .int .i64 2, .int .i64 0, .string ⟨#[]⟩, .slice bb 0 0, .int .i64 0, .int .i64 0, .string ⟨#[]⟩, .slice none 0 0] 24 (0, 0)) := heap_set (i := 11) (u := .slice bb 0 0) (heap_set (i := 10) (u := .string ⟨#[]⟩) (heap_set (i := 9) (u := .int .i64 0) (heap_set (i := 8) (u := .int .i64 2) (hq1))))
  have hR : ((((w2.setCell ⟨w.heap.size + 1 + 1, 8, none⟩ (.int .i64 2)).setCell ⟨w.heap.size + 1 + 1, 9, none⟩ (.int .i64 0)).setCell ⟨w.heap.size + 1 + 1, 10, none⟩ (.string ⟨#[]⟩)).setCell ⟨w.heap.size + 1 + 1, 11, none⟩ (.slice bb 0 0)).heap[w.heap.size + 1]? = some (.cells zero4 24 (0, 0)) := (Below.heap_setCell _ _ _ _ (by simp)).trans ((Below.heap_setCell _ _ _ _ (by simp)).trans ((Below.heap_setCell _ _ _ _ (by simp)).trans ((Below.heap_setCell _ _ _ _ (by simp)).trans hr1)))
  have hK : Kp w ((((w2.setCell ⟨w.heap.size + 1 + 1, 8, none⟩ (.int .i64 2)).setCell ⟨w.heap.size + 1 + 1, 9, none⟩ (.int .i64 0)).setCell ⟨w.heap.size + 1 + 1, 10, none⟩ (.string ⟨#[]⟩)).setCell ⟨w.heap.size + 1 + 1, 11, none⟩ (.slice bb 0 0)) := put1_kp (b := w.heap.size + 1 + 1) (i := 11) (v := .slice bb 0 0) (put1_kp (b := w.heap.size + 1 + 1) (i := 10) (v := .string ⟨#[]⟩) (put1_kp (b := w.heap.size + 1 + 1) (i := 9) (v := .int .i64 0) (put1_kp (b := w.heap.size + 1 + 1) (i := 8) (v := .int .i64 2) (hK1) (by omega)) (by omega)) (by omega)) (by omega)
  have hS : ((((w2.setCell ⟨w.heap.size + 1 + 1, 8, none⟩ (.int .i64 2)).setCell ⟨w.heap.size + 1 + 1, 9, none⟩ (.int .i64 0)).setCell ⟨w.heap.size + 1 + 1, 10, none⟩ (.string ⟨#[]⟩)).setCell ⟨w.heap.size + 1 + 1, 11, none⟩ (.slice bb 0 0)).heap.size = w2.heap.size := by simp [World.setCell]
  clear hr1 hq1 hK1 hk hk' z0 z1
  have HQ3 := Lib.hid hQ
  have HR3 := Lib.hid hR
  have HK3 := Lib.hid hK
  clear hQ hR hK
  go_wp2_with fail
  generalize ((((w2.setCell ⟨w.heap.size + 1 + 1, 8, none⟩ (.int .i64 2)).setCell ⟨w.heap.size + 1 + 1, 9, none⟩ (.int .i64 0)).setCell ⟨w.heap.size + 1 + 1, 10, none⟩ (.string ⟨#[]⟩)).setCell ⟨w.heap.size + 1 + 1, 11, none⟩ (.slice bb 0 0)) = W3 at HQ3 HR3 HK3 hS ⊢
  clear m0 m1 m2 m3 n0 n1 n2 n3
  rw [rounds_succ]
  have z0 := kc HK3.out x6
  have z1 := kc HK3.out x7
  have u0 := kc HK3.out y0
  have u1 := kc HK3.out y1
  go_wp2_with fail
  refine (least_sum _ h hoff l4 k4 a4 l5 k5 (past u0) (past u1)).mono ?_
  rintro e w3 ⟨r, rfl, hrb, hrz, hk⟩
  have hw3 := hk.size
  simp at hw3
  simp at hrz
  have hk' := kk (ka _ _) hk
  have hr1 := (hk'.block _ (lt_of_block HR3.out)).trans HR3.out
  have hq1 := (hk'.block _ (lt_of_block HQ3.out)).trans HQ3.out
  have hK1 := kk HK3.out hk'
  have m0 := cellOf (i := 12) hq1 rfl
  have n0 := freeOf (i := 12) hq1
  have m1 := cellOf (i := 13) hq1 rfl
  have n1 := freeOf (i := 13) hq1
  have m2 := cellOf (i := 14) hq1 rfl
  have n2 := freeOf (i := 14) hq1
  have m3 := cellOf (i := 15) hq1 rfl
  have n3 := freeOf (i := 15) hq1
  have hQ : ((((w3.setCell ⟨w.heap.size + 1 + 1, 12, none⟩ (.int .i64 3)).setCell ⟨w.heap.size + 1 + 1, 13, none⟩ (.int .i64 0)).setCell ⟨w.heap.size + 1 + 1, 14, none⟩ (.string ⟨#[]⟩)).setCell ⟨w.heap.size + 1 + 1, 15, none⟩ (.slice (some ⟨r, 0, none⟩) 1 1)).heap[w.heap.size + 1 + 1]? = some (.cells #[.int .i64 0, .int .i64 (-2147483648), .string ⟨#[]⟩, .slice none 0 0, .int .i64 1, .int .i64 0, .string ⟨#[]⟩, .slice none 0 0, .int .i64 2, .int .i64 0, .string ⟨#[]⟩, .slice bb 0 0, .int .i64 3, .int .i64 0, .string ⟨#[]⟩, .slice (some ⟨r, 0, none⟩) 1 1] 24 (0, 0)) := heap_set (i := 15) (u := .slice (some ⟨r, 0, none⟩) 1 1) (heap_set (i := 14) (u := .string ⟨#[]⟩) (heap_set (i := 13) (u := .int .i64 0) (heap_set (i := 12) (u := .int .i64 3) (hq1))))
  have hR : ((((w3.setCell ⟨w.heap.size + 1 + 1, 12, none⟩ (.int .i64 3)).setCell ⟨w.heap.size + 1 + 1, 13, none⟩ (.int .i64 0)).setCell ⟨w.heap.size + 1 + 1, 14, none⟩ (.string ⟨#[]⟩)).setCell ⟨w.heap.size + 1 + 1, 15, none⟩ (.slice (some ⟨r, 0, none⟩) 1 1)).heap[w.heap.size + 1]? = some (.cells zero4 24 (0, 0)) := (Below.heap_setCell _ _ _ _ (by simp)).trans ((Below.heap_setCell _ _ _ _ (by simp)).trans ((Below.heap_setCell _ _ _ _ (by simp)).trans ((Below.heap_setCell _ _ _ _ (by simp)).trans hr1)))
  have hK : Kp w ((((w3.setCell ⟨w.heap.size + 1 + 1, 12, none⟩ (.int .i64 3)).setCell ⟨w.heap.size + 1 + 1, 13, none⟩ (.int .i64 0)).setCell ⟨w.heap.size + 1 + 1, 14, none⟩ (.string ⟨#[]⟩)).setCell ⟨w.heap.size + 1 + 1, 15, none⟩ (.slice (some ⟨r, 0, none⟩) 1 1)) := put1_kp (b := w.heap.size + 1 + 1) (i := 15) (v := .slice (some ⟨r, 0, none⟩) 1 1) (put1_kp (b := w.heap.size + 1 + 1) (i := 14) (v := .string ⟨#[]⟩) (put1_kp (b := w.heap.size + 1 + 1) (i := 13) (v := .int .i64 0) (put1_kp (b := w.heap.size + 1 + 1) (i := 12) (v := .int .i64 3) (hK1) (by omega)) (by omega)) (by omega)) (by omega)
  have hS : ((((w3.setCell ⟨w.heap.size + 1 + 1, 12, none⟩ (.int .i64 3)).setCell ⟨w.heap.size + 1 + 1, 13, none⟩ (.int .i64 0)).setCell ⟨w.heap.size + 1 + 1, 14, none⟩ (.string ⟨#[]⟩)).setCell ⟨w.heap.size + 1 + 1, 15, none⟩ (.slice (some ⟨r, 0, none⟩) 1 1)).heap.size = w3.heap.size := by simp [World.setCell]
  clear hr1 hq1 hK1 hk hk' z0 z1
  have hX : ((((w3.setCell ⟨w.heap.size + 1 + 1, 12, none⟩ (.int .i64 3)).setCell ⟨w.heap.size + 1 + 1, 13, none⟩ (.int .i64 0)).setCell ⟨w.heap.size + 1 + 1, 14, none⟩ (.string ⟨#[]⟩)).setCell ⟨w.heap.size + 1 + 1, 15, none⟩ (.slice (some ⟨r, 0, none⟩) 1 1)).heap[r]? = some (.cells #[.int .i64 1, .int .i64 0, .string ⟨#[]⟩, .slice none 0 0] 24 (0, 0)) := (Below.heap_setCell _ _ _ _ (by simp; omega)).trans ((Below.heap_setCell _ _ _ _ (by simp; omega)).trans ((Below.heap_setCell _ _ _ _ (by simp; omega)).trans ((Below.heap_setCell _ _ _ _ (by simp; omega)).trans hrb)))
  clear hrb u0 u1
  have HQ4 := Lib.hid hQ
  have HR4 := Lib.hid hR
  have HK4 := Lib.hid hK
  clear hQ hR hK
  have HX := Lib.hid hX
  clear hX
  go_wp2_with fail
  generalize ((((w3.setCell ⟨w.heap.size + 1 + 1, 12, none⟩ (.int .i64 3)).setCell ⟨w.heap.size + 1 + 1, 13, none⟩ (.int .i64 0)).setCell ⟨w.heap.size + 1 + 1, 14, none⟩ (.string ⟨#[]⟩)).setCell ⟨w.heap.size + 1 + 1, 15, none⟩ (.slice (some ⟨r, 0, none⟩) 1 1)) = W4 at HQ4 HR4 HK4 hS HX ⊢
  clear m0 m1 m2 m3 n0 n1 n2 n3
  rw [rounds_succ]
  obtain ⟨d0, d1, d2, d3, g0, g1, g2, g3⟩ := cell4 HR4.out
  go_wp2_with fail
  obtain ⟨e0, e1, e2, e3, -⟩ := cell4 (put4_block (v0 := .int .i64 2) (v1 := .int .i64 0) (v2 := .string ⟨#[]⟩) (v3 := .slice (some ⟨w.heap.size + 1 + 1, 0, none⟩) 4 4) HR4.out)
  refine bodyPost_ret (v := .agg #[.int .i64 2, .int .i64 0, .string ⟨#[]⟩, .slice (some ⟨w.heap.size + 1 + 1, 0, none⟩) 4 4]) (by simp [results, Tryz.results54, go_sem, e0, e1, e2, e3]) rfl
    ⟨w.heap.size + 1 + 1, r, bb, rfl, (put4_other (by omega)).trans HQ4.out, (put4_other (by omega)).trans HX.out, by omega, by omega, put4_kp HK4.out (by omega)⟩

end Go.Proofs.YtkfmgafgokpjhaaGreatDoor

/-
  Least AT (int, text, (), [text + () + int]): the whole call.
-/
namespace Go.Proofs.YtkfmgafgokpjhaaGreatDoor
open Go.RowKit

theorem inT_leaf {w : World} {B : Nat} (k : Int) (hk : I64 k) : (T.mk k none 0 []).In w B := by
  simp [T.In, T.InL, hk]
theorem inT_node {w : World} {B b off : Nat} (k : Int) (l : List T) (hk : I64 k) (hl : l.length ≤ maxLen) (hb : b < B) (hat : AtT w b off l) (hin : T.InL w B l) :
    (T.mk k (some ⟨b, off, none⟩) l.length l).In w B := by
  simp only [T.In]
  exact ⟨hk, Nat.le_refl _, hl, .inr ⟨b, off, rfl, hb, hat⟩, hin⟩

/-- The sum and the tuple of kind(). -/
abbrev sumCells : Array Value := #[.int .i64 1, .slice none 0 0, .int .i64 2, .slice none 0 0, .int .i64 0, .slice none 0 0]
abbrev kindCells (h : Nat) : Array Value := #[.int .i64 0, .slice none 0 0, .int .i64 1, .slice none 0 0, .int .i64 2, .slice none 0 0, .int .i64 3, .slice (some ⟨h, 0, none⟩) 3 3]
abbrev sumT (h : Nat) : T := .mk 3 (some ⟨h, 0, none⟩) 3 [.mk 1 none 0 [], .mk 2 none 0 [], .mk 0 none 0 []]
abbrev kindT (g h : Nat) : T := .mk 2 (some ⟨g, 0, none⟩) 4 [.mk 0 none 0 [], .mk 1 none 0 [], .mk 2 none 0 [], sumT h]

theorem sumT_in {w : World} {h B t : Nat} (hh : w.heap[h]? = some (.cells sumCells t (0, 0))) (hB : h < B) : (sumT h).In w B := by
  refine inT_node 3 [.mk 1 none 0 [], .mk 2 none 0 [], .mk 0 none 0 []] (by unfold I64; omega) (by decide) hB ?_ ⟨inT_leaf 1 (by unfold I64; omega), inT_leaf 2 (by unfold I64; omega), inT_leaf 0 (by unfold I64; omega), trivial⟩
  intro j x hj
  match j, hj with
  | 0, hj => simp at hj; subst hj; exact ⟨cellOf hh rfl, cellOf hh rfl⟩
  | 1, hj => simp at hj; subst hj; exact ⟨cellOf hh rfl, cellOf hh rfl⟩
  | 2, hj => simp at hj; subst hj; exact ⟨cellOf hh rfl, cellOf hh rfl⟩
  | j + 3, hj => simp at hj
theorem kindT_in {w : World} {g h B t u : Nat} (hg : w.heap[g]? = some (.cells (kindCells h) t (0, 0))) (hh : w.heap[h]? = some (.cells sumCells u (0, 0))) (hB : g < B) (hB2 : h < B) : (kindT g h).In w B := by
  refine inT_node 2 [.mk 0 none 0 [], .mk 1 none 0 [], .mk 2 none 0 [], sumT h] (by unfold I64; omega) (by show 4 ≤ maxLen; decide) hB ?_ ⟨inT_leaf 0 (by unfold I64; omega), inT_leaf 1 (by unfold I64; omega), inT_leaf 2 (by unfold I64; omega), sumT_in hh hB2, trivial⟩
  intro j x hj
  match j, hj with
  | 0, hj => simp at hj; subst hj; exact ⟨cellOf hg rfl, cellOf hg rfl⟩
  | 1, hj => simp at hj; subst hj; exact ⟨cellOf hg rfl, cellOf hg rfl⟩
  | 2, hj => simp at hj; subst hj; exact ⟨cellOf hg rfl, cellOf hg rfl⟩
  | 3, hj => simp at hj; subst hj; exact ⟨cellOf hg rfl, cellOf hg rfl⟩
  | j + 4, hj => simp at hj
theorem kindT_cnt (g h : Nat) : bad (kindT g h).cnt = 0 := by simp [bad, T.cnt, T.wk, T.wkL, fitsT]

/-- What Least makes of it, in blocks q and r. -/
abbrev leastCells (r : Nat) (b : Option Addr) : Array Value := #[.int .i64 0, .int .i64 (-2147483648), .string ⟨#[]⟩, .slice none 0 0, .int .i64 1, .int .i64 0, .string ⟨#[]⟩, .slice none 0 0, .int .i64 2, .int .i64 0, .string ⟨#[]⟩, .slice b 0 0, .int .i64 3, .int .i64 0, .string ⟨#[]⟩, .slice (some ⟨r, 0, none⟩) 1 1]

set_option maxRecDepth 100000 in
set_option maxHeartbeats 4000000 in
theorem least_top (w : World) (g h t u : Nat) (hg : w.heap[g]? = some (.cells (kindCells h) t (0, 0))) (hh : w.heap[h]? = some (.cells sumCells u (0, 0))) :
    Calls Tryz.prog 15 #[.agg #[.int .i64 2, .slice (some ⟨g, 0, none⟩) 4 4]] w fun e w' => ∃ q r b, e = .returned (.tuple #[.agg #[.int .i64 2, .int .i64 0, .string ⟨#[]⟩, .slice (some ⟨q, 0, none⟩) 4 4], .int .i64 0]) ∧
      w'.heap[q]? = some (.cells (leastCells r b) 24 (0, 0)) ∧ w'.heap[r]? = some (.cells #[.int .i64 1, .int .i64 0, .string ⟨#[]⟩, .slice none 0 0] 24 (0, 0)) ∧ w.heap.size ≤ q ∧ w.heap.size ≤ r ∧ Kp w w' := by
  have hgl := lt_of_block hg
  have hhl := lt_of_block hh
  have C : ∀ w1 : World, Kp w w1 → Calls Tryz.prog 17 #[.agg #[.int .i64 2, .slice (some ⟨g, 0, none⟩) 4 4]] w1 fun e w' => e = .returned (.int .i64 0) ∧ Kp w1 w' := fun w1 k => by
    have := typeV 2 (some ⟨g, 0, none⟩) 4 [.mk 0 none 0 [], .mk 1 none 0 [], .mk 2 none 0 [], sumT h] w1 (kindT_in ((k.block _ hgl).trans hg) ((k.block _ hhl).trans hh) (by have := k.size; omega) (by have := k.size; omega))
    rwa [kindT_cnt] at this
  have D := fun (w1 : World) (k : Kp w w1) => least_kind w1 g 0 4 h 0 none none none none 0 0 0 0 0 2 3 0 0 (kc k (cellOf hg rfl)) (kc k (cellOf hg rfl)) (kc k (cellOf hg rfl)) (kc k (cellOf hg rfl)) (kc k (cellOf hg rfl)) (kc k (cellOf hg rfl)) (kc k (cellOf hg rfl)) (kc k (cellOf hg rfl)) (kc k (cellOf hh rfl)) (kc k (cellOf hh rfl))
  have HC := Lib.hid C
  have HD := Lib.hid D
  clear C D hg hh
  go_enter Tryz.func15, Tryz.ntmps15
  go_wp2_with fail
  refine (HC.out _ (kk (ka _ _) (ka _ _))).mono ?_
  rintro e w1 ⟨rfl, hk⟩
  have hz1 := hk.size
  simp at hz1
  have hblk : w1.heap[w.heap.size + 1]? = some (.cells zero4 24 (0, 0)) := (hk.block _ (by simp)).trans (blockHere (by simp))
  have hbox : w1.heap[w.heap.size]? = some (.cells #[.int .i64 2, .slice (some ⟨g, 0, none⟩) 4 4] 27 (0, 0)) := (hk.block _ (by simp; omega)).trans (blockPast (blockHere rfl))
  have b0 := cellOf (i := 0) hbox rfl
  have b1 := cellOf (i := 1) hbox rfl
  have HB := Lib.hid hblk
  have HK1 := Lib.hid (kk (kk (ka _ _) (ka _ _)) hk)
  clear hk hblk hbox
  go_wp2_with fail
  refine (HD.out _ HK1.out).mono ?_
  rintro e w2 ⟨q, r, b, rfl, hq, hr, hqz, hrz, hk2⟩
  have hblk := (hk2.block _ (lt_of_block HB.out)).trans HB.out
  obtain ⟨c0, c1, c2, c3, f0, f1, f2, f3⟩ := cell4 hblk
  have HB2 := Lib.hid hblk
  have HQ := Lib.hid hq
  have HR := Lib.hid hr
  have HK2 := Lib.hid (kk HK1.out hk2)
  clear hk2 hblk hq hr
  go_wp2_with fail
  obtain ⟨e0, e1, e2, e3, -⟩ := cell4 (put4_block (v0 := .int .i64 2) (v1 := .int .i64 0) (v2 := .string ⟨#[]⟩) (v3 := .slice (some ⟨q, 0, none⟩) 4 4) HB2.out)
  refine bodyPost_ret (v := .tuple #[.agg #[.int .i64 2, .int .i64 0, .string ⟨#[]⟩, .slice (some ⟨q, 0, none⟩) 4 4], .int .i64 0]) (by simp [results, Tryz.results15, go_sem, e0, e1, e2, e3]) rfl
    ⟨q, r, b, rfl, (put4_other (by omega)).trans HQ.out, (put4_other (by omega)).trans HR.out, by omega, by omega, put4_kp HK2.out (by omega)⟩
end Go.Proofs.YtkfmgafgokpjhaaGreatDoor

/-
  A RANGE OVER A FUNCTION WHOSE ROUNDS GO ON JUST WHERE WHAT CAME IS RIGHT: the iterator may rely on it (Derived/RangeFuncFrom's law hands the iterator rounds of which nothing is known).
-/
namespace Go.Proofs.YtkfmgafgokpjhaaGreatDoor
open Go.RowKit Go.Shelf

theorem lt_of_block' {w : World} {b : Nat} {o : Obj} (h : w.heap[b]? = some o) : b < w.heap.size := (Array.getElem?_eq_some_iff.1 h).1
theorem blockPast' {w : World} {o o' : Obj} {b : Nat} (h : w.heap[b]? = some o') : (w.alloc o).heap[b]? = some o' := (Below.heap_alloc _ _ _ (lt_of_block' h)).trans h

/-- Two blocks alone may have changed. -/
structure Bt2 (c d : Nat) (w w' : World) : Prop where
  os : w'.os = w.os
  tape : w'.tape = w.tape
  output : w'.output = w.output
  size : w.heap.size ≤ w'.heap.size
  block : ∀ k, k < w.heap.size → k ≠ c → k ≠ d → w'.heap[k]? = w.heap[k]?
theorem Bt2.refl (c d : Nat) (w : World) : Bt2 c d w w := ⟨rfl, rfl, rfl, Nat.le_refl _, fun _ _ _ _ => rfl⟩
theorem Bt2.trans {c d : Nat} {w w1 w2 : World} (h : Bt2 c d w w1) (k : Bt2 c d w1 w2) : Bt2 c d w w2 :=
  ⟨k.os.trans h.os, k.tape.trans h.tape, k.output.trans h.output, Nat.le_trans h.size k.size, fun i hi hc hd => (k.block i (Nat.lt_of_lt_of_le hi h.size) hc hd).trans (h.block i hi hc hd)⟩
theorem Bt2.kp {c d : Nat} {w w1 : World} (h : Kp w w1) : Bt2 c d w w1 := ⟨h.os, h.tape, h.output, h.size, fun k hk _ _ => h.block k hk⟩
theorem Bt2.left {c d : Nat} {w w1 : World} (h : Bt c w w1) : Bt2 c d w w1 := ⟨h.os, h.tape, h.output, h.size, fun k hk hc _ => h.block k hk hc⟩
theorem Bt2.right {c d : Nat} {w w1 : World} (h : Bt d w w1) : Bt2 c d w w1 := ⟨h.os, h.tape, h.output, h.size, fun k hk _ hd => h.block k hk hd⟩
theorem Bt.put (w : World) (l : Nat) (o : Obj) : Bt l w (w.putObj l o) := ⟨rfl, rfl, rfl, by simp, fun _ _ hc => World.putObj_heap_other hc⟩

/-- How the body of a round may be left: it goes on just where what came is right. -/
def rpost {α : Type} (c : Nat) (I : World → Prop) (Ix : Code → World → Prop) (Ok : α → Prop) (x : α) (W : World) : Exit → Act → World → Prop
  | .normal, _, W' => Ok x ∧ Bt c W W' ∧ I W'
  | .ret, _, W' => ¬ Ok x ∧ Bt c W W' ∧ Ix .ret W'
  | .exit id, _, W' => ¬ Ok x ∧ Bt c W W' ∧ Ix (.exit id) W'
  | .goto t, _, W' => ¬ Ok x ∧ Bt c W W' ∧ Ix (.goto t) W'
  | .panic _, _, _ => False
  | .outgrown, _, _ => False

/-- What a round pays to the iterator. -/
abbrev YieldOk {α : Type} (P : Program) (c l : Nat) (encs : α → Array Value) (Ok : α → Prop) (G Gx : World → Prop) (x : α) (A : World) : Prop :=
  YieldAt Fence.wide 0 P l (encs x) A fun e B => (e = .returned (.bool true) ∧ Ok x ∧ G B ∧ Bt2 c l A B) ∨ (e = .returned (.bool false) ∧ ¬ Ok x ∧ Gx B ∧ Bt2 c l A B)

/-- The iterator's contract: M: all is right. -/
def SeqOk {α : Type} (P : Program) (gf : Nat) (lb : Array Value) (encs : α → Array Value) (c : Nat) (Ok : α → Prop) (Pre : α → World → Prop) (M : Prop) (w : World) : Prop :=
  ∀ (l : Nat) (G Gx : World → Prop) (W : World), w.heap.size ≤ l → l < W.heap.size → (∀ A B, G A → Kp A B → G B) → (∀ A B, Gx A → Kp A B → Gx B) →
    (∀ x A, G A → Pre x A → YieldOk P c l encs Ok G Gx x A) → G W → Kp w W →
    CallsIn Fence.wide 0 P gf (#[.func (.yield l) #[] #[]] ++ lb) W fun e W' => (∃ v, e = .returned v) ∧ Bt2 c l W W' ∧ ((M ∧ G W') ∨ (¬ M ∧ Gx W'))

theorem range_ok {α : Type} {P : Program} {g : Operand} {ps : Array Tmp} {assign body : Code} {Q : Exit → Act → World → Prop} {a : Act} {w : World} {gf : Nat} {lb : Array Value} {encs : α → Array Value} {c : Nat} {Ok : α → Prop} {Pre : α → World → Prop} {M : Prop}
    (hg : a.eval g = .func (.func gf) #[] lb) (eg : ∀ args w, (callFunc gf args).run P w = .ok (.enter gf args) w) (hps : ∀ x, (encs x).size = ps.size) (hc : c < w.heap.size)
    (hseq : SeqOk P gf lb encs c Ok Pre M w)
    (I : World → Prop) (Ix : Code → World → Prop) (hI : ∀ A B : World, I A → B.heap[c]? = A.heap[c]? → I B) (hIx : ∀ (d : Code) (A B : World), Ix d A → B.heap[c]? = A.heap[c]? → Ix d B) (hIc : ∀ A : World, I A → c < A.heap.size) (hIxc : ∀ (d : Code) (A : World), Ix d A → c < A.heap.size) (h0 : I w)
    (hround : ∀ (l : Nat) (x : α) (W : World), w.heap.size ≤ l → l < W.heap.size → I W → Pre x W →
      assign.wpIn (Fence.wide.inRound l) 0 P (Exit.then (fun a1 W1 => Kp W W1 ∧ ∀ W2, Bt l W1 W2 → body.wpIn (Fence.wide.inRound l) 0 P (rpost c I Ix Ok x W2) a1 W2) (fun _ _ _ => False)) { tmps := (ps.zip (encs x)).foldl (fun t (p, v) => t.setIfInBounds p v) a.tmps, defers := [] } W)
    (hdone : ∀ (D : Nat) (W : World), w.heap.size ≤ D → M → I W → Bt c w W → W.heap[D]? = some (.deferred (some [])) → Q .normal { a with defers := { target := .collected D, args := #[] } :: a.defers } W)
    (hstop : ∀ (D : Nat) (d : Code) (W : World), w.heap.size ≤ D → ¬ M → Ix d W → Bt c w W → W.heap[D]? = some (.deferred (some [])) → d.wpIn Fence.wide 0 P Q { a with defers := { target := .collected D, args := #[] } :: a.defers } W) :
    (Code.rangeFunc g ps assign body).wpIn Fence.wide 0 P Q a w := by
  refine wpIn_rangeFunc ?_
  intro fn hfn
  obtain ⟨rec, hrec⟩ : ∃ rec : LoopState → Option Code → Loop, rec = fun st pe => { state := st, pending := pe, fn, tmps := a.tmps, params := ps, assign, body, defers := w.heap.size } := ⟨_, rfl⟩
  -- the world in which the iterator begins: the deferred calls' block D, the record's l
  have hWl : ((w.alloc (.deferred (some []))).alloc (.loop (rec .ready none))).heap[w.heap.size + 1]? = some (.loop (rec .ready none)) := blockHere (by simp)
  have hWd : ((w.alloc (.deferred (some []))).alloc (.loop (rec .ready none))).heap[w.heap.size]? = some (.deferred (some [])) := blockPast' (blockHere rfl)
  have hWk : Kp w ((w.alloc (.deferred (some []))).alloc (.loop (rec .ready none))) := kk (ka _ _) (ka _ _)
  refine ⟨w.heap.size + 1, [{ target := .collected w.heap.size, args := #[] }], (w.alloc (.deferred (some []))).alloc (.loop (rec .ready none)), { target := .fn (.func gf) lb, args := #[.func (.yield (w.heap.size + 1)) #[] #[]] }, (w.alloc (.deferred (some []))).alloc (.loop (rec .ready none)), gf, #[.func (.yield (w.heap.size + 1)) #[] #[]] ++ lb, (w.alloc (.deferred (some []))).alloc (.loop (rec .ready none)), ?_, ?_, fun _ _ => trivial, ?_, (by intro h; cases h), ?_⟩
  · rw [hrec]; exact run_enterLoop_outer _ _ _ _ _
  · simp only [resolve, hg]
    simp [go_sem]
  · simp [invoke, go_sem, eg]
  refine (hseq (w.heap.size + 1) (fun W => I W ∧ W.heap[w.heap.size + 1]? = some (.loop (rec .ready none)) ∧ W.heap[w.heap.size]? = some (.deferred (some [])))
    (fun W => ∃ d, Ix d W ∧ W.heap[w.heap.size + 1]? = some (.loop (rec .done (some d))) ∧ W.heap[w.heap.size]? = some (.deferred (some []))) _ (by omega) (lt_of_block' hWl) ?_ ?_ ?_ ⟨hI _ _ h0 (hWk.block _ hc), hWl, hWd⟩ hWk).mono ?_
  · rintro A B ⟨hi, hl, hd⟩ hk
    exact ⟨hI _ _ hi (hk.block _ (hIc _ hi)), (hk.block _ (lt_of_block' hl)).trans hl, (hk.block _ (lt_of_block' hd)).trans hd⟩
  · rintro A B ⟨d, hi, hl, hd⟩ hk
    exact ⟨d, hIx _ _ _ hi (hk.block _ (hIxc _ _ hi)), (hk.block _ (lt_of_block' hl)).trans hl, (hk.block _ (lt_of_block' hd)).trans hd⟩
  · -- one round
    rintro x A ⟨hi, hl, hd⟩ hp
    have hy := run_yield (P := P) (args := encs x) hl (by rw [hrec]; exact hps x)
    rw [hrec] at hy
    refine ⟨fn, _, assign, body, hy, roundIn_of_wpIn hfn ?_⟩
    refine wpIn_mono (hround (w.heap.size + 1) x A (by omega) (lt_of_block' hl) hi hp) ?_
    rintro e a1 W1 h
    cases e with
    | normal =>
      obtain ⟨hk, hb⟩ := h
      have hl1 := (hk.block _ (lt_of_block' hl)).trans hl
      have hd1 := (hk.block _ (lt_of_block' hd)).trans hd
      refine ⟨_, run_beginRound hl1 (by rw [hrec]), ?_⟩
      have hl2 : (W1.putObj (w.heap.size + 1) (.loop { rec .ready none with state := .busy })).heap[w.heap.size + 1]? = some (.loop { rec .ready none with state := .busy }) := World.putObj_heap_same (lt_of_block' hl1)
      have hd2 : (W1.putObj (w.heap.size + 1) (.loop { rec .ready none with state := .busy })).heap[w.heap.size]? = some (.deferred (some [])) := (World.putObj_heap_other (by omega)).trans hd1
      have hb2 : Bt2 c (w.heap.size + 1) A (W1.putObj (w.heap.size + 1) (.loop { rec .ready none with state := .busy })) := (Bt2.kp hk).trans (.right (Bt.put _ _ _))
      refine wpIn_mono (hb _ (Bt.put _ _ _)) ?_
      generalize W1.putObj (w.heap.size + 1) (.loop { rec .ready none with state := .busy }) = W2 at hl2 hd2 hb2 ⊢
      -- behind the body: the record is turned
      have fin : ∀ (jump : Option Code) (W3 : World), Bt c W2 W3 →
          (Instr.endRound (w.heap.size + 1) jump).run P W3 = .ok (.bool jump.isNone) (W3.putObj (w.heap.size + 1) (.loop (rec (if jump.isNone then .ready else .done) jump))) ∧
          (W3.putObj (w.heap.size + 1) (.loop (rec (if jump.isNone then .ready else .done) jump))).heap[w.heap.size + 1]? = some (.loop (rec (if jump.isNone then .ready else .done) jump)) ∧
          (W3.putObj (w.heap.size + 1) (.loop (rec (if jump.isNone then .ready else .done) jump))).heap[w.heap.size]? = some (.deferred (some [])) ∧
          (W3.putObj (w.heap.size + 1) (.loop (rec (if jump.isNone then .ready else .done) jump))).heap[c]? = W3.heap[c]? ∧
          Bt2 c (w.heap.size + 1) A (W3.putObj (w.heap.size + 1) (.loop (rec (if jump.isNone then .ready else .done) jump))) := fun jump W3 hb3 => by
        have hl3 := (hb3.block _ (lt_of_block' hl2) (by omega)).trans hl2
        have hd3 := (hb3.block _ (lt_of_block' hd2) (by omega)).trans hd2
        have hr := run_endRound (P := P) jump hl3
        rw [hrec] at hr ⊢
        exact ⟨hr, World.putObj_heap_same (lt_of_block' hl3), (World.putObj_heap_other (by omega)).trans hd3, World.putObj_heap_other (by omega), hb2.trans ((Bt2.left hb3).trans (.right (Bt.put _ _ _)))⟩
      rintro e a3 W3 hp
      cases e with
      | normal =>
        obtain ⟨ho, hb3, hi3⟩ := hp
        obtain ⟨hr, q1, q2, q3, q4⟩ := fin none W3 hb3
        exact ⟨_, _, hr, .inl ⟨rfl, ho, ⟨hI _ _ hi3 q3, q1, q2⟩, q4⟩⟩
      | ret =>
        obtain ⟨ho, hb3, hi3⟩ := hp
        obtain ⟨hr, q1, q2, q3, q4⟩ := fin (some .ret) W3 hb3
        exact ⟨_, _, hr, .inr ⟨rfl, ho, ⟨_, hIx _ _ _ hi3 q3, q1, q2⟩, q4⟩⟩
      | exit id =>
        obtain ⟨ho, hb3, hi3⟩ := hp
        obtain ⟨hr, q1, q2, q3, q4⟩ := fin (some (.exit id)) W3 hb3
        exact ⟨_, _, hr, .inr ⟨rfl, ho, ⟨_, hIx _ _ _ hi3 q3, q1, q2⟩, q4⟩⟩
      | goto t =>
        obtain ⟨ho, hb3, hi3⟩ := hp
        obtain ⟨hr, q1, q2, q3, q4⟩ := fin (some (.goto t)) W3 hb3
        exact ⟨_, _, hr, .inr ⟨rfl, ho, ⟨_, hIx _ _ _ hi3 q3, q1, q2⟩, q4⟩⟩
      | panic ch => exact hp.elim
      | outgrown => exact hp.elim
    | ret => exact h
    | exit id => exact h
    | goto t => exact h
    | panic ch => exact h
    | outgrown => exact h
  · have hbt : ∀ {W2 : World} (o : Obj), Bt2 c (w.heap.size + 1) ((w.alloc (.deferred (some []))).alloc (.loop (rec .ready none))) W2 → Bt c w (W2.putObj (w.heap.size + 1) o) := fun o hb =>
      ⟨hb.os.trans hWk.os, hb.tape.trans hWk.tape, hb.output.trans hWk.output, by have := hb.size; simp at this ⊢; omega, fun k hk hkc => (World.putObj_heap_other (by omega)).trans ((hb.block k (by simp; omega) hkc (by omega)).trans (hWk.block k hk))⟩
    rintro e W2 ⟨⟨v, rfl⟩, hb, (⟨hM, hi, hl, hd⟩ | ⟨hM, d, hi, hl, hd⟩)⟩
    · refine ⟨none, _, by have := run_endLoop (P := P) hl (by rw [hrec]; simp); rw [hrec] at this; exact this, ?_⟩
      exact hdone _ _ (Nat.le_refl _) hM (hI _ _ hi (World.putObj_heap_other (by omega))) (hbt _ hb) ((World.putObj_heap_other (by omega)).trans hd)
    · refine ⟨some d, _, by have := run_endLoop (P := P) hl (by rw [hrec]; simp); rw [hrec] at this; exact this, ?_⟩
      exact hstop _ _ _ (Nat.le_refl _) hM (hIx _ _ _ hi (World.putObj_heap_other (by omega))) (hbt _ hb) ((World.putObj_heap_other (by omega)).trans hd)

end Go.Proofs.YtkfmgafgokpjhaaGreatDoor
