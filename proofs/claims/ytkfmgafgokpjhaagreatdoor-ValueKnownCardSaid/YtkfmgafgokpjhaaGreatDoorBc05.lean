/-
  Contracts of the functions of package value, of its specification and of what the statements of layer 1 share (values and types made of numbers, the chapter's examples), each for every argument: used by the proofs of layer 1's statements.
  Part 5 of 12.
-/
import Derived.Test.YtkfmgafgokpjhaaGreatDoorBc04
import Derived.StillTailTactics
import Derived.WalkMore
/-
  THE WALK OF pairs' CLOSURE: a value and a type, node by node.
-/
namespace Go.Proofs.YtkfmgafgokpjhaaGreatDoor
open Go.RowKit Go.Shelf

attribute [local go_sem] Oper.semAt_some

/-- A node of a value fits a node of a type. -/
def okB (k n : Int) (len : Nat) (tk : Int) (tlen : Nat) : Bool := decide (k = kindI tk) && (!(decide (k = 2) && decide (len ≠ tlen)) && !(decide (k = 3) && decide ((tlen : Int) ≤ n)))

mutual
/-- A value is of a type: node by node, ahead of its parts. -/
def V.is : V → T → Bool
  | .mk k n _ _ _ l, t => okB k n l.length t.k t.l.length && V.isL k n t l 0
def V.isL (k n : Int) (t : T) : List V → Nat → Bool
  | [], _ => true
  | x :: xs, i => (match t.l[if k = 3 then n.toNat else i]? with | some u => x.is u | none => false) && V.isL k n t xs (i + 1)
end

mutual
/-- What is asked of a value's form: parts of tuples and tagged values alone, tags from 0 on. -/
def V.good : V → Prop
  | .mk k n _ _ _ l => (k = 3 → 0 ≤ n) ∧ (k ≠ 2 → k ≠ 3 → l = []) ∧ V.goodL l
def V.goodL : List V → Prop
  | [] => True
  | x :: xs => x.good ∧ V.goodL xs
end

theorem V.goodL_at {l : List V} (h : V.goodL l) {j : Nat} {x : V} (hx : l[j]? = some x) : x.good := by
  induction l generalizing j with
  | nil => simp at hx
  | cons y ys ih =>
    cases j with
    | zero => simp at hx; exact hx ▸ h.1
    | succ j => exact ih h.2 (by simpa using hx)

theorem V.isL_drop (k n : Int) (t : T) (l : List V) (i j : Nat) (x : V) (hx : l[j]? = some x) :
    V.isL k n t (l.drop j) i = ((match t.l[if k = 3 then n.toNat else i]? with | some u => x.is u | none => false) && V.isL k n t (l.drop (j + 1)) (i + 1)) := by
  have hj : j < l.length := (List.getElem?_eq_some_iff.1 hx).1
  rw [List.drop_eq_getElem_cons hj]
  have : l[j] = x := (List.getElem?_eq_some_iff.1 hx).2
  rw [this]; rfl

theorem Bt2.below {c d B : Nat} {w w1 : World} (h : Bt2 c d w w1) (hc : B ≤ c) (hd : B ≤ d) (hs : B ≤ w.heap.size) : Below B w w1 :=
  ⟨h.os, h.tape, h.output, h.size, fun k hk => h.block k (by omega) (by omega) (by omega)⟩

theorem Bt2.cell' {c d : Nat} {w w1 : World} (h : Bt2 c d w w1) {p : Addr} {v : Value} (hp : w.cell? p = some v) (hc : p.block ≠ c) (hd : p.block ≠ d) : w1.cell? p = some v :=
  (World.cell?_of_block (w := w) (h.block p.block (World.block_lt_of_cell? w p hp) hc hd)).trans hp

abbrev pairE (p : V × T) : Array Value := #[.agg #[.int .i64 p.1.k, .int .i64 p.1.n, .string p.1.s, .slice p.1.a p.1.l.length p.1.cap], .agg #[.int .i64 p.2.k, .slice p.2.a p.2.l.length p.2.cap]]
abbrev pairOk (p : V × T) : Prop := okB p.1.k p.1.n p.1.l.length p.2.k p.2.l.length = true

/-- The world in which a part is handed on: it lies in a box of its own, and an order has been drawn. -/
def partW (w : World) (k n : Int) (s : ByteArray) (a : Option Addr) (len cap : Nat) : World := (w.alloc (.cells #[.int .i64 k, .int .i64 n, .string s, .slice a len cap] 24)).drew
theorem partW_kp (w : World) (k n : Int) (s : ByteArray) (a : Option Addr) (len cap : Nat) : Kp w (partW w k n s a len cap) := kk (ka _ _) ⟨rfl, rfl, rfl, Nat.le_refl _, fun _ _ => rfl⟩
theorem partW_c0 (w : World) (k n : Int) (s : ByteArray) (a : Option Addr) (len cap : Nat) : (partW w k n s a len cap).cell? ⟨w.heap.size, 0, none⟩ = some (.int .i64 k) := here (w := w) rfl rfl
theorem partW_c1 (w : World) (k n : Int) (s : ByteArray) (a : Option Addr) (len cap : Nat) : (partW w k n s a len cap).cell? ⟨w.heap.size, 1, none⟩ = some (.int .i64 n) := here (w := w) rfl rfl
theorem partW_c2 (w : World) (k n : Int) (s : ByteArray) (a : Option Addr) (len cap : Nat) : (partW w k n s a len cap).cell? ⟨w.heap.size, 2, none⟩ = some (.string s) := here (w := w) rfl rfl
theorem partW_c3 (w : World) (k n : Int) (s : ByteArray) (a : Option Addr) (len cap : Nat) : (partW w k n s a len cap).cell? ⟨w.heap.size, 3, none⟩ = some (.slice a len cap) := here (w := w) rfl rfl

set_option maxRecDepth 100000 in
set_option maxHeartbeats 4000000 in
theorem pairsWalk (l c YB WB B : Nat) (hc : B ≤ c) (hl : B ≤ l) (hy : YB ≠ c ∧ YB ≠ l) (hw : WB ≠ c ∧ WB ≠ l) (M : Nat) (hM : c < M ∧ l < M) (G Gx : World → Prop) (hG : ∀ A B, G A → Kp A B → G B) (hGx : ∀ A B, Gx A → Kp A B → Gx B)
    (Pre : V × T → World → Prop) (hP : ∀ v t W, v.In W B → t.In W B → Pre (v, t) W)
    (hY : ∀ x A, G A → Pre x A → YieldOk Tryz.prog c l pairE pairOk G Gx x A) :
    ∀ (N : Nat) (k n : Int) (s : ByteArray) (a : Option Addr) (cap : Nat) (ls : List V) (tk : Int) (ta : Option Addr) (tcap : Nat) (tl : List T) (W : World), (V.mk k n s a cap ls).rank ≤ N → (V.mk k n s a cap ls).In W B → (T.mk tk ta tcap tl).In W B → (V.mk k n s a cap ls).good → M ≤ W.heap.size → G W →
      W.heap[YB]? = some (.cells #[.func (.yield l) #[] #[]] 35 (0, 0)) → W.heap[WB]? = some (.cells #[.func (.func 100) #[] #[.pointer (some ⟨YB, 0, none⟩), .pointer (some ⟨WB, 0, none⟩)]] 35 (0, 0)) →
      CallsIn Fence.wide 0 Tryz.prog 100 (pairE (.mk k n s a cap ls, .mk tk ta tcap tl) ++ #[.pointer (some ⟨YB, 0, none⟩), .pointer (some ⟨WB, 0, none⟩)]) W fun e W' =>
        e = .returned (.bool ((V.mk k n s a cap ls).is (.mk tk ta tcap tl))) ∧ ((V.mk k n s a cap ls).is (.mk tk ta tcap tl) = true → G W') ∧ ((V.mk k n s a cap ls).is (.mk tk ta tcap tl) = false → Gx W') ∧ Bt2 c l W W' := by
  intro N
  induction N with
  | zero => intro k n s a cap ls _ _ _ _ _ h; have := V.rank_pos (.mk k n s a cap ls); omega
  | succ N ih =>
    intro k n s a cap ls tk ta tcap tl W hN hv ht hg hMW hGW hYB hWB
    have hB : B ≤ W.heap.size := by omega
    have hcs : c < W.heap.size ∧ l < W.heap.size := by omega
    have hk1 : Kp W ((W.alloc (.cells #[.int .i64 k, .int .i64 n, .string s, .slice a ls.length cap] 24)).alloc (.cells #[.int .i64 tk, .slice ta tl.length tcap] 27)) := kk (ka _ _) (ka _ _)
    obtain ⟨fn, tmps, assign, body, hyr, hR⟩ := hY (.mk k n s a cap ls, .mk tk ta tcap tl) _ (hG _ _ hGW hk1) (hP _ _ _ (hv.keep (Nat.le_refl _) (hk1.mono hB)) (ht.keep (Nat.le_refl _) (hk1.mono hB)))
    dsimp only [pairE, V.k, V.n, V.s, V.a, V.l, V.cap, T.k, T.a, T.l, T.cap] at hyr ⊢
    have y0 : W.cell? ⟨YB, 0, none⟩ = some (.func (.yield l) #[] #[]) := cellOf (i := 0) hYB rfl
    have hYlt := lt_of_block hYB
    have HR := Lib.hid hR
    have IH := Lib.hid ih
    have HV := Lib.hid hv
    have HT := Lib.hid ht
    have HGD := Lib.hid hg
    have HYB := Lib.hid hYB
    have HWB := Lib.hid hWB
    have HGW := Lib.hid hGW
    have HY := Lib.hid hY
    have HG := Lib.hid hG
    have HGx := Lib.hid hGx
    have HP := Lib.hid hP
    clear hR ih hv ht hg hYB hWB hGW hY hG hGx hP
    refine callsIn_of_wp Tryz.func100 rfl trivial ?_ rfl
    simp only [Tryz.ntmps100, List.size_toArray, List.length_cons, List.length_nil, Nat.reduceAdd, Nat.reduceSub, Array.replicate_succ, Array.replicate_zero, List.push_toArray, List.append_toArray, List.nil_append, List.cons_append]
    gi_wp2_with fail
    refine ⟨rfl, ?_⟩
    refine HR.out.mono ?_
    rintro e W1 (⟨rfl, ho, hG1, hb1⟩ | ⟨rfl, ho, hx1, hb1⟩)
    · -- the node is right: its parts
      have ho' : okB k n ls.length tk tl.length = true := ho
      have hx0 : W1.heap[W.heap.size]? = some (.cells #[.int .i64 k, .int .i64 n, .string s, .slice a ls.length cap] 24 (0, 0)) := (hb1.block _ (by simp; omega) (by omega) (by omega)).trans (blockPast (blockHere rfl))
      have hx1 : W1.heap[W.heap.size + 1]? = some (.cells #[.int .i64 tk, .slice ta tl.length tcap] 27 (0, 0)) := (hb1.block _ (by simp) (by omega) (by omega)).trans (blockHere (by simp))
      have hWB1 := (hb1.block _ (by have := lt_of_block HWB.out; simp; omega) hw.1 hw.2).trans ((hk1.block _ (lt_of_block HWB.out)).trans HWB.out)
      have hYB1 := (hb1.block _ (by have := lt_of_block HYB.out; simp; omega) hy.1 hy.2).trans ((hk1.block _ (lt_of_block HYB.out)).trans HYB.out)
      have c0 := cellOf (i := 0) hx0 rfl
      have c1 := cellOf (i := 1) hx0 rfl
      have c3 := cellOf (i := 3) hx0 rfl
      have hbW := Lib.hid ((Bt2.kp (c := c) (d := l) hk1).trans hb1)
      have HX0 := Lib.hid hx0
      have HX1 := Lib.hid hx1
      have HWB1 := Lib.hid hWB1
      have HYB1 := Lib.hid hYB1
      have HG1 := Lib.hid hG1
      have HO := Lib.hid ho'
      have hbz := hb1.size
      simp at hbz
      clear hx0 hx1 hWB1 hYB1 hG1 ho ho' hb1 hyr HR hk1
      gi_wp2_with fail
      refine wpIn_wide.2 ?_
      go_loopw [18] (fun i wr => ∃ j : Nat, j ≤ ls.length ∧ i = .int .i64 j ∧ V.isL k n (.mk tk ta tcap tl) (ls.drop j) j = V.isL k n (.mk tk ta tcap tl) ls 0 ∧ G wr ∧ Bt2 c l W1 wr) (fun i _ => ls.length - (intOf i).toNat)
      case atStart => exact ⟨0, Nat.zero_le _, rfl, rfl, HG1.out, Bt2.refl _ _ _⟩
      case round =>
        obtain ⟨j, hj, rfl, hrest, hGr, hbr⟩ := hrel
        have hzr := hbr.size
        have d0 := (hbr.cell' (p := ⟨W.heap.size, 0, none⟩) c0 (by show W.heap.size ≠ c; omega) (by show W.heap.size ≠ l; omega))
        have d1 := (hbr.cell' (p := ⟨W.heap.size, 1, none⟩) c1 (by show W.heap.size ≠ c; omega) (by show W.heap.size ≠ l; omega))
        have d3 := (hbr.cell' (p := ⟨W.heap.size + 1, 1, none⟩) (cellOf (i := 1) HX1.out rfl) (by show W.heap.size + 1 ≠ c; omega) (by show W.heap.size + 1 ≠ l; omega))
        have dW := (hbr.cell' (p := ⟨WB, 0, none⟩) (cellOf (i := 0) HWB1.out rfl) hw.1 hw.2)
        have hWBl : WB < wr.heap.size := by have := lt_of_block HWB1.out; omega
        have hbz1 : W.heap.size < wr.heap.size := by omega
        have hbz2 : W.heap.size + 1 < wr.heap.size := by omega
        have HREST := Lib.hid hrest
        have HGR := Lib.hid hGr
        have HBR := Lib.hid hbr
        clear hrest hGr hbr c0 c1 c3
        have hlen := V.lenLe HV.out
        by_cases hlt : j < ls.length
        · obtain ⟨x, hx⟩ : ∃ x, ls[j]? = some x := ⟨ls[j], by simp [hlt]⟩
          obtain ⟨b0, off, rfl, hb0, q0, q1, q2, q3, hxin⟩ := V.atPart HV.out hx
          have hbl : Below B W wr := (hbW.out.trans HBR.out).below hc hl hB
          have hxr := hxin.keep (Nat.le_refl _) hbl
          have r0 := (hbl.cell (p := ⟨b0, _, none⟩) hb0).trans q0
          have r1 := (hbl.cell (p := ⟨b0, _, none⟩) hb0).trans q1
          have r2 := (hbl.cell (p := ⟨b0, _, none⟩) hb0).trans q2
          have r3 := (hbl.cell (p := ⟨b0, _, none⟩) hb0).trans q3
          have hrk := V.rank_part (v := .mk k n s (some ⟨b0, off, none⟩) cap ls) (j := j) (x := x) hx
          have hgx := V.goodL_at HGD.out.2.2 hx
          have hdrop := V.isL_drop k n (.mk tk ta tcap tl) ls j j x hx
          have hb0r : b0 < wr.heap.size := by omega
          cases x with
          | mk k' n' s' a' cap' l' =>
          simp only [V.k, V.n, V.s, V.a, V.l, V.cap] at r0 r1 r2 r3
          by_cases hk3 : k = 3
          · -- a tagged value
            subst hk3
            obtain ⟨m, rfl⟩ := Int.eq_ofNat_of_zero_le (HGD.out.1 rfl)
            have hm : m < tl.length := by
              have := HO.out
              simp [okB] at this
              omega
            obtain ⟨u, hu⟩ : ∃ u, tl[m]? = some u := ⟨tl[m], by simp [hm]⟩
            obtain ⟨b1, off1, rfl, hb1', p0, p1, huin⟩ := T.atPart HT.out hu
            have hur := huin.keep (Nat.le_refl _) hbl
            have t0 := (hbl.cell (p := ⟨b1, _, none⟩) hb1').trans p0
            have t1 := (hbl.cell (p := ⟨b1, _, none⟩) hb1').trans p1
            have hb1r : b1 < wr.heap.size := by omega
            have g0 : (0 : Int) ≤ (m : Int) := by omega
            have g1 : (m : Int) < (tl.length : Int) := by omega
            cases u with
            | mk k2 a2 cap2 l2 =>
            simp only [T.k, T.a, T.l, T.cap] at t0 t1
            have hdr := hdrop
            simp [T.l, hu] at hdr
            have hih := fun (w2 : World) (hk : Kp wr w2) => callsIn_wide.1 (IH.out k' n' s' a' cap' l' k2 a2 cap2 l2 w2 (by omega) (hxr.keep (Nat.le_refl _) (hk.mono (by omega))) (hur.keep (Nat.le_refl _) (hk.mono (by omega))) hgx (by have := hk.size; omega) (HG.out _ _ HGR.out hk) ((hk.block _ (by have := lt_of_block HYB1.out; omega)).trans ((HBR.out.block _ (lt_of_block HYB1.out) hy.1 hy.2).trans HYB1.out)) ((hk.block _ hWBl).trans ((HBR.out.block _ (lt_of_block HWB1.out) hw.1 hw.2).trans HWB1.out)))
            dsimp only [pairE, V.k, V.n, V.s, V.a, V.l, V.cap, T.k, T.a, T.l, T.cap] at hih
            cases hr : V.is (.mk k' n' s' a' cap' l') (.mk k2 a2 cap2 l2) with
            | true =>
              rw [hr] at hih hdr
              have HIH := Lib.hid hih
              have HDR := Lib.hid hdr
              clear hih hdr hdrop hxr hur hgx hbl hr hu hx p0 p1 huin q0 q1 q2 q3 hxin
              go_wp2_with fail
              refine wp_region_still_tail 7 (by kernel_rfl) (by kernel_rfl) ?_
              have kw : Kp wr (partW wr k' n' s' a' l'.length cap') := partW_kp _ _ _ _ _ _ _
              have v0 := partW_c0 wr k' n' s' a' l'.length cap'
              have v1 := partW_c1 wr k' n' s' a' l'.length cap'
              have v2 := partW_c2 wr k' n' s' a' l'.length cap'
              have v3 := partW_c3 wr k' n' s' a' l'.length cap'
              have e3 := kc kw d3
              have eW := kc kw dW
              have et0 := kc kw t0
              have et1 := kc kw t1
              have HIH2 := Lib.hid (HIH.out _ kw)
              change wpStill _ _ (partW wr k' n' s' a' l'.length cap') (fun a' => wpList _ _ _ _ a' (partW wr k' n' s' _ l'.length cap')) _ _
              generalize partW wr k' n' s' a' l'.length cap' = w2 at *
              simp only [List.take_succ_cons, List.take_zero, List.drop_succ_cons, List.drop_zero]
              repeat still_step
              refine wpStill_nil ?_
              go_wp2_with fail
              refine HIH2.out.mono ?_
              rintro e w3 ⟨rfl, hGt, hGf, hb3⟩
              have hG3 := hGt trivial
              have hbr3 := HBR.out.trans ((Bt2.kp kw).trans hb3)
              clear v0 v1 v2 v3 e3 eW et0 et1 HIH2 hGt hGf hb3
              have HG3 := Lib.hid hG3
              have HB3 := Lib.hid hbr3
              clear hG3 hbr3
              go_wp2_with fail
              go_roundw
              case rel => exact ⟨j + 1, by omega, by simp, HDR.out.symm.trans HREST.out, HG3.out, HB3.out⟩
              case measure => simp [intOf]; omega
            | false =>
              rw [hr] at hih hdr
              have HIH := Lib.hid hih
              have HDR := Lib.hid hdr
              clear hih hdr hdrop hxr hur hgx hbl hr hu hx p0 p1 huin q0 q1 q2 q3 hxin
              go_wp2_with fail
              refine wp_region_still_tail 7 (by kernel_rfl) (by kernel_rfl) ?_
              have kw : Kp wr (partW wr k' n' s' a' l'.length cap') := partW_kp _ _ _ _ _ _ _
              have v0 := partW_c0 wr k' n' s' a' l'.length cap'
              have v1 := partW_c1 wr k' n' s' a' l'.length cap'
              have v2 := partW_c2 wr k' n' s' a' l'.length cap'
              have v3 := partW_c3 wr k' n' s' a' l'.length cap'
              have e3 := kc kw d3
              have eW := kc kw dW
              have et0 := kc kw t0
              have et1 := kc kw t1
              have HIH2 := Lib.hid (HIH.out _ kw)
              change wpStill _ _ (partW wr k' n' s' a' l'.length cap') (fun a' => wpList _ _ _ _ a' (partW wr k' n' s' _ l'.length cap')) _ _
              generalize partW wr k' n' s' a' l'.length cap' = w2 at *
              simp only [List.take_succ_cons, List.take_zero, List.drop_succ_cons, List.drop_zero]
              repeat still_step
              refine wpStill_nil ?_
              go_wp2_with fail
              refine HIH2.out.mono ?_
              rintro e w3 ⟨rfl, hGt, hGf, hb3⟩
              have hX3 := hGf trivial
              have hbr3 := hbW.out.trans (HBR.out.trans ((Bt2.kp kw).trans hb3))
              clear v0 v1 v2 v3 e3 eW et0 et1 HIH2 hGt hGf hb3
              have HX3 := Lib.hid hX3
              have HB3 := Lib.hid hbr3
              clear hX3 hbr3
              have HF : Hid (V.is (.mk 3 (m : Int) s (some ⟨b0, off, none⟩) cap ls) (.mk tk (some ⟨b1, off1, none⟩) tcap tl) = false) := Lib.hid (by
                have := HREST.out.symm.trans HDR.out
                simp [V.is, this])
              go_wp2_with fail
              gi_wp2_with fail
              refine bodyPost_ret (v := .bool false) (by simp [results, Tryz.results100]) rfl ⟨by rw [HF.out], (fun h => by rw [HF.out] at h; cases h), fun _ => HX3.out, HB3.out⟩
          · -- a tuple
            obtain rfl : k = 2 := by
              rcases Decidable.em (k = 2) with h | h
              · exact h
              · exact absurd (HGD.out.2.1 h hk3) (by rintro rfl; simp at hlt)
            have hm : j < tl.length := by
              have := HO.out
              simp [okB] at this
              omega
            obtain ⟨u, hu⟩ : ∃ u, tl[j]? = some u := ⟨tl[j], by simp [hm]⟩
            obtain ⟨b1, off1, rfl, hb1', p0, p1, huin⟩ := T.atPart HT.out hu
            have hur := huin.keep (Nat.le_refl _) hbl
            have t0 := (hbl.cell (p := ⟨b1, _, none⟩) hb1').trans p0
            have t1 := (hbl.cell (p := ⟨b1, _, none⟩) hb1').trans p1
            have hb1r : b1 < wr.heap.size := by omega
            have g0 : (0 : Int) ≤ (j : Int) := by omega
            have g1 : (j : Int) < (tl.length : Int) := by omega
            cases u with
            | mk k2 a2 cap2 l2 =>
            simp only [T.k, T.a, T.l, T.cap] at t0 t1
            have hdr := hdrop
            simp [T.l, hu] at hdr
            have hih := fun (w2 : World) (hk : Kp wr w2) => callsIn_wide.1 (IH.out k' n' s' a' cap' l' k2 a2 cap2 l2 w2 (by omega) (hxr.keep (Nat.le_refl _) (hk.mono (by omega))) (hur.keep (Nat.le_refl _) (hk.mono (by omega))) hgx (by have := hk.size; omega) (HG.out _ _ HGR.out hk) ((hk.block _ (by have := lt_of_block HYB1.out; omega)).trans ((HBR.out.block _ (lt_of_block HYB1.out) hy.1 hy.2).trans HYB1.out)) ((hk.block _ hWBl).trans ((HBR.out.block _ (lt_of_block HWB1.out) hw.1 hw.2).trans HWB1.out)))
            dsimp only [pairE, V.k, V.n, V.s, V.a, V.l, V.cap, T.k, T.a, T.l, T.cap] at hih
            cases hr : V.is (.mk k' n' s' a' cap' l') (.mk k2 a2 cap2 l2) with
            | true =>
              rw [hr] at hih hdr
              have HIH := Lib.hid hih
              have HDR := Lib.hid hdr
              clear hih hdr hdrop hxr hur hgx hbl hr hu hx p0 p1 huin q0 q1 q2 q3 hxin
              go_wp2_with fail
              refine wp_region_still_tail 7 (by kernel_rfl) (by kernel_rfl) ?_
              have kw : Kp wr (partW wr k' n' s' a' l'.length cap') := partW_kp _ _ _ _ _ _ _
              have v0 := partW_c0 wr k' n' s' a' l'.length cap'
              have v1 := partW_c1 wr k' n' s' a' l'.length cap'
              have v2 := partW_c2 wr k' n' s' a' l'.length cap'
              have v3 := partW_c3 wr k' n' s' a' l'.length cap'
              have e3 := kc kw d3
              have eW := kc kw dW
              have et0 := kc kw t0
              have et1 := kc kw t1
              have HIH2 := Lib.hid (HIH.out _ kw)
              change wpStill _ _ (partW wr k' n' s' a' l'.length cap') (fun a' => wpList _ _ _ _ a' (partW wr k' n' s' _ l'.length cap')) _ _
              generalize partW wr k' n' s' a' l'.length cap' = w2 at *
              simp only [List.take_succ_cons, List.take_zero, List.drop_succ_cons, List.drop_zero]
              repeat still_step
              refine wpStill_nil ?_
              go_wp2_with fail
              refine HIH2.out.mono ?_
              rintro e w3 ⟨rfl, hGt, hGf, hb3⟩
              have hG3 := hGt trivial
              have hbr3 := HBR.out.trans ((Bt2.kp kw).trans hb3)
              clear v0 v1 v2 v3 e3 eW et0 et1 HIH2 hGt hGf hb3
              have HG3 := Lib.hid hG3
              have HB3 := Lib.hid hbr3
              clear hG3 hbr3
              go_wp2_with fail
              go_roundw
              case rel => exact ⟨j + 1, by omega, by simp, HDR.out.symm.trans HREST.out, HG3.out, HB3.out⟩
              case measure => simp [intOf]; omega
            | false =>
              rw [hr] at hih hdr
              have HIH := Lib.hid hih
              have HDR := Lib.hid hdr
              clear hih hdr hdrop hxr hur hgx hbl hr hu hx p0 p1 huin q0 q1 q2 q3 hxin
              go_wp2_with fail
              refine wp_region_still_tail 7 (by kernel_rfl) (by kernel_rfl) ?_
              have kw : Kp wr (partW wr k' n' s' a' l'.length cap') := partW_kp _ _ _ _ _ _ _
              have v0 := partW_c0 wr k' n' s' a' l'.length cap'
              have v1 := partW_c1 wr k' n' s' a' l'.length cap'
              have v2 := partW_c2 wr k' n' s' a' l'.length cap'
              have v3 := partW_c3 wr k' n' s' a' l'.length cap'
              have e3 := kc kw d3
              have eW := kc kw dW
              have et0 := kc kw t0
              have et1 := kc kw t1
              have HIH2 := Lib.hid (HIH.out _ kw)
              change wpStill _ _ (partW wr k' n' s' a' l'.length cap') (fun a' => wpList _ _ _ _ a' (partW wr k' n' s' _ l'.length cap')) _ _
              generalize partW wr k' n' s' a' l'.length cap' = w2 at *
              simp only [List.take_succ_cons, List.take_zero, List.drop_succ_cons, List.drop_zero]
              repeat still_step
              refine wpStill_nil ?_
              go_wp2_with fail
              refine HIH2.out.mono ?_
              rintro e w3 ⟨rfl, hGt, hGf, hb3⟩
              have hX3 := hGf trivial
              have hbr3 := hbW.out.trans (HBR.out.trans ((Bt2.kp kw).trans hb3))
              clear v0 v1 v2 v3 e3 eW et0 et1 HIH2 hGt hGf hb3
              have HX3 := Lib.hid hX3
              have HB3 := Lib.hid hbr3
              clear hX3 hbr3
              have HF : Hid (V.is (.mk 2 n s (some ⟨b0, off, none⟩) cap ls) (.mk tk (some ⟨b1, off1, none⟩) tcap tl) = false) := Lib.hid (by
                have := HREST.out.symm.trans HDR.out
                simp [V.is, this])
              go_wp2_with fail
              gi_wp2_with fail
              refine bodyPost_ret (v := .bool false) (by simp [results, Tryz.results100]) rfl ⟨by rw [HF.out], (fun h => by rw [HF.out] at h; cases h), fun _ => HX3.out, HB3.out⟩
        · have hje : j = ls.length := by omega
          subst hje
          have hall : V.is (.mk k n s a cap ls) (.mk tk ta tcap tl) = true := by
            have := HREST.out
            simp only [List.drop_length, V.isL] at this
            simp [V.is, T.k, T.l, HO.out, ← this]
          have HALL := Lib.hid hall
          clear hall
          go_wp2_with fail
          gi_wp2_with fail
          refine bodyPost_ret (v := .bool true) (by simp [results, Tryz.results100]) rfl ⟨by rw [HALL.out], fun _ => HGR.out, (fun h => by rw [HALL.out] at h; cases h), hbW.out.trans HBR.out⟩
    · -- the node is wrong
      have hf : V.is (.mk k n s a cap ls) (.mk tk ta tcap tl) = false := by
        have ho' : ¬ okB k n ls.length tk tl.length = true := ho
        simp [V.is, T.k, T.l, ho']
      have HF := Lib.hid hf
      clear hf
      gi_wp2_with fail
      refine bodyPost_ret (v := .bool false) (by simp [results, Tryz.results100]) rfl ⟨by rw [HF.out], (fun h => by rw [HF.out] at h; cases h), fun _ => hx1, (Bt2.kp hk1).trans hb1⟩

end Go.Proofs.YtkfmgafgokpjhaaGreatDoor

/-
  pairs: ITS CONTRACT.
-/
namespace Go.Proofs.YtkfmgafgokpjhaaGreatDoor
open Go.RowKit Go.Shelf

attribute [local go_sem] Oper.semAt_some

set_option maxRecDepth 100000 in
set_option maxHeartbeats 4000000 in
theorem pairs_ok (c XB YX B : Nat) (hc : B ≤ c) (k n : Int) (s : ByteArray) (a : Option Addr) (cap : Nat) (ls : List V) (tk : Int) (ta : Option Addr) (tcap : Nat) (tl : List T) (w : World) (hcw : c < w.heap.size)
    (hv : (V.mk k n s a cap ls).In w B) (ht : (T.mk tk ta tcap tl).In w B) (hg : (V.mk k n s a cap ls).good)
    (hx : w.heap[XB]? = some (.cells #[.int .i64 k, .int .i64 n, .string s, .slice a ls.length cap] 24 (0, 0))) (hy : w.heap[YX]? = some (.cells #[.int .i64 tk, .slice ta tl.length tcap] 27 (0, 0))) :
    SeqOk Tryz.prog 99 #[.pointer (some ⟨XB, 0, none⟩), .pointer (some ⟨YX, 0, none⟩)] pairE c pairOk (fun p A => p.1.In A B ∧ p.2.In A B) ((V.mk k n s a cap ls).is (.mk tk ta tcap tl) = true) w := by
  intro l G Gx W hwl hlW hG hGx hY hGW hk
  have hx1 := (hk.block _ (lt_of_block hx)).trans hx
  have hy1 := (hk.block _ (lt_of_block hy)).trans hy
  have hk2 : Kp W ((W.alloc (.cells #[.func (.yield l) #[] #[]] 35)).alloc (.cells #[.func (.func 100) #[] #[.pointer (some ⟨W.heap.size, 0, none⟩), .pointer (some ⟨W.heap.size + 1, 0, none⟩)]] 35)) := kk (ka _ _) (ka _ _)
  have hkw := kk hk hk2
  have hw := pairsWalk l c W.heap.size (W.heap.size + 1) B hc (by omega) (by omega) (by omega) (l + 1) (by omega) G Gx hG hGx (fun p A => p.1.In A B ∧ p.2.In A B) (fun v t W h1 h2 => ⟨h1, h2⟩) hY _ k n s a cap ls tk ta tcap tl _ (Nat.le_refl _) (hv.keep (Nat.le_refl _) (hkw.mono (by omega))) (ht.keep (Nat.le_refl _) (hkw.mono (by omega))) hg (by simp; omega) (hG _ _ hGW hk2) (blockPast (blockHere rfl)) (blockHere (by simp))
  dsimp only [pairE, V.k, V.n, V.s, V.a, V.l, V.cap, T.k, T.a, T.l, T.cap] at hw
  have x0 : W.cell? ⟨XB, 0, none⟩ = some (.int .i64 k) := cellOf hx1 rfl
  have x1 : W.cell? ⟨XB, 1, none⟩ = some (.int .i64 n) := cellOf hx1 rfl
  have x2 : W.cell? ⟨XB, 2, none⟩ = some (.string s) := cellOf hx1 rfl
  have x3 : W.cell? ⟨XB, 3, none⟩ = some (.slice a ls.length cap) := cellOf hx1 rfl
  have y0 : W.cell? ⟨YX, 0, none⟩ = some (.int .i64 tk) := cellOf hy1 rfl
  have y1 : W.cell? ⟨YX, 1, none⟩ = some (.slice ta tl.length tcap) := cellOf hy1 rfl
  have hxl := lt_of_block hx1
  have hyl := lt_of_block hy1
  have HW := Lib.hid hw
  have HK2 := Lib.hid hk2
  clear hw hk2 hkw hx hy hx1 hy1 hv ht hg hY hGW hG hGx hk
  have hmf : ∀ (fn : Fn) (first cap : Array Value) (w : World), (Instr.makeFunc fn first cap).run Tryz.prog w = .ok (.func fn first cap) w := fun _ _ _ _ => rfl
  show CallsIn Fence.wide 0 Tryz.prog 99 #[.func (.yield l) #[] #[], .pointer (some ⟨XB, 0, none⟩), .pointer (some ⟨YX, 0, none⟩)] W _
  refine callsIn_of_wp Tryz.func99 rfl trivial ?_ rfl
  simp only [Tryz.ntmps99, List.size_toArray, List.length_cons, List.length_nil, Nat.reduceAdd, Nat.reduceSub, Array.replicate_succ, Array.replicate_zero, List.push_toArray, List.append_toArray, List.nil_append, List.cons_append]
  gi_wp2_with fail
  refine ⟨trivial, rfl, ?_⟩
  refine HW.out.mono ?_
  rintro e w1 ⟨rfl, hGt, hGf, hb⟩
  have hb2 := (Bt2.kp (c := c) (d := l) HK2.out).trans hb
  have hfin : ((V.mk k n s a cap ls).is (.mk tk ta tcap tl) = true ∧ G w1) ∨ (¬ (V.mk k n s a cap ls).is (.mk tk ta tcap tl) = true ∧ Gx w1) := by
    cases h : (V.mk k n s a cap ls).is (.mk tk ta tcap tl) with
    | true => exact .inl ⟨rfl, hGt h⟩
    | false => exact .inr ⟨by simp, hGf h⟩
  clear hGt hGf hb HW HK2
  gi_wp2_with fail
  go_end0
  exact ⟨⟨_, rfl⟩, hb2, hfin⟩

set_option maxHeartbeats 1000000 in
theorem pairs_any (k n : Int) (s : ByteArray) (a : Option Addr) (len cap : Nat) (tk : Int) (ta : Option Addr) (tlen tcap : Nat) (w : World) :
    Calls Tryz.prog 60 #[.agg #[.int .i64 k, .int .i64 n, .string s, .slice a len cap], .agg #[.int .i64 tk, .slice ta tlen tcap]] w fun e w' =>
      e = .returned (.func (.func 99) #[] #[.pointer (some ⟨w.heap.size, 0, none⟩), .pointer (some ⟨w.heap.size + 1, 0, none⟩)]) ∧
        w' = (w.alloc (.cells #[.int .i64 k, .int .i64 n, .string s, .slice a len cap] 24)).alloc (.cells #[.int .i64 tk, .slice ta tlen tcap] 27) := by
  have hmf : ∀ (fn : Fn) (first cap : Array Value) (w : World), (Instr.makeFunc fn first cap).run Tryz.prog w = .ok (.func fn first cap) w := fun _ _ _ _ => rfl
  go_enter Tryz.func60, Tryz.ntmps60
  go_wp2_with fail
  go_ret
  exact ⟨rfl, rfl⟩

end Go.Proofs.YtkfmgafgokpjhaaGreatDoor

/-
  Is.
-/
namespace Go.Proofs.YtkfmgafgokpjhaaGreatDoor
open Go.RowKit Go.Shelf

attribute [local go_sem] Oper.semAt_some

theorem fits_good {k n : Int} {s : ByteArray} {l : List V} (h : fitsB k n s l.length = true) : (k = 3 → 0 ≤ n) ∧ (k ≠ 2 → k ≠ 3 → l = []) := by
  unfold fitsB at h
  split at h
  · rename_i hk; subst hk
    simp [wordB] at h
    exact ⟨fun h => by omega, fun _ _ => h.2.2.2⟩
  split at h
  · rename_i hk; subst hk
    simp [textB] at h
    exact ⟨fun h => by omega, fun _ _ => h.2.1⟩
  split at h
  · rename_i hk; subst hk
    exact ⟨fun h => by omega, fun h => absurd rfl h⟩
  split at h
  · rename_i hk; subst hk
    simp [taggedB] at h
    exact ⟨fun _ => h.1, fun _ h => absurd rfl h⟩
  · cases h

mutual
theorem V.wk_good : ∀ (v : V) (d c : Nat), (v.wk d c).1 = true → v.good
  | .mk k n s a cap l, d, c, h => by
    simp only [V.wk] at h
    split at h
    · cases h
    · rename_i hc
      have hf : fitsB k n s l.length = true := by
        cases hf : fitsB k n s l.length with
        | true => rfl
        | false => exact absurd (.inr (.inr hf)) hc
      exact ⟨(fits_good hf).1, (fits_good hf).2, V.wkL_good l _ _ h⟩
theorem V.wkL_good : ∀ (l : List V) (d c : Nat), (V.wkL l d c).1 = true → V.goodL l
  | [], _, _, _ => trivial
  | x :: xs, d, c, h => by
    simp only [V.wkL] at h
    cases hx : x.wk d c with
    | mk b c' =>
      cases b with
      | true => rw [hx] at h; exact ⟨V.wk_good x d c (by rw [hx]), V.wkL_good xs d c' h⟩
      | false => rw [hx] at h; cases h
end

theorem V.cnt_good {v : V} (h : bad v.cnt = 0) : v.good := by
  refine V.wk_good v 1 0 ?_
  cases h3 : (v.wk 1 0).1 with
  | true => rfl
  | false => simp [bad, V.cnt, h3] at h

theorem kpD {w : World} : Kp w w.drew := ⟨rfl, rfl, rfl, Nat.le_refl _, fun _ _ => rfl⟩

/-- What Is says. -/
def isVal (v : V) (t : T) : Bool := decide (bad v.cnt = 0) && (decide (bad t.cnt = 0) && v.is t)

set_option maxRecDepth 100000 in
set_option maxHeartbeats 4000000 in
theorem is_valid (k n : Int) (s : ByteArray) (a : Option Addr) (cap : Nat) (ls : List V) (tk : Int) (ta : Option Addr) (tcap : Nat) (tl : List T) (w : World)
    (hv : (V.mk k n s a cap ls).In w w.heap.size) (ht : (T.mk tk ta tcap tl).In w w.heap.size) (h : bad (V.mk k n s a cap ls).cnt = 0) (h2 : bad (T.mk tk ta tcap tl).cnt = 0) :
    Calls Tryz.prog 21 #[.agg #[.int .i64 k, .int .i64 n, .string s, .slice a ls.length cap], .agg #[.int .i64 tk, .slice ta tl.length tcap]] w fun e w' =>
      e = .returned (.bool ((V.mk k n s a cap ls).is (.mk tk ta tcap tl))) ∧ Kp w w' := by
  have C := fun (w1 : World) hin => checkV k n s a cap ls w1 hin
  have D := fun (w1 : World) hin => typeV tk ta tcap tl w1 hin
  rw [h] at C
  rw [h2] at D
  have hg := V.cnt_good h
  have HC := Lib.hid C
  have HD := Lib.hid D
  have HV := Lib.hid hv
  have HT := Lib.hid ht
  have HGD := Lib.hid hg
  clear C D hv ht hg h h2
  refine (callsIn_wide (n := 0)).1 ?_
  refine callsIn_of_wp_marks Tryz.func21 rfl trivial ?_ rfl
  simp only [Tryz.ntmps21, List.size_toArray, List.length_cons, List.length_nil, Nat.reduceAdd, Nat.reduceSub, Array.replicate_succ, Array.replicate_zero, List.push_toArray, List.append_toArray, List.nil_append, List.cons_append]
  refine wpIn_wide.2 ?_
  go_wp2_with fail
  go_step3
  go_wp2_with fail
  refine (HC.out _ (HV.out.keep (by simp; omega) (kk (ka _ _) (ka _ _)))).mono ?_
  rintro e w1 ⟨rfl, hk1⟩
  have hb0 : w1.heap[w.heap.size]? = some (.cells #[.int .i64 k, .int .i64 n, .string s, .slice a ls.length cap] 24 (0, 0)) := (hk1.block _ (by simp; omega)).trans (blockPast (blockHere rfl))
  have hb1 : w1.heap[w.heap.size + 1]? = some (.cells #[.int .i64 tk, .slice ta tl.length tcap] 27 (0, 0)) := (hk1.block _ (by simp)).trans (blockHere (by simp))
  have c0 : w1.cell? ⟨w.heap.size, 0, none⟩ = some (.int .i64 k) := cellOf hb0 rfl
  have c1 : w1.cell? ⟨w.heap.size, 1, none⟩ = some (.int .i64 n) := cellOf hb0 rfl
  have c2 : w1.cell? ⟨w.heap.size, 2, none⟩ = some (.string s) := cellOf hb0 rfl
  have c3 : w1.cell? ⟨w.heap.size, 3, none⟩ = some (.slice a ls.length cap) := cellOf hb0 rfl
  have d0 : w1.cell? ⟨w.heap.size + 1, 0, none⟩ = some (.int .i64 tk) := cellOf hb1 rfl
  have d1 : w1.cell? ⟨w.heap.size + 1, 1, none⟩ = some (.slice ta tl.length tcap) := cellOf hb1 rfl
  have HK1 := Lib.hid (kk (kk (ka _ _) (ka _ _)) hk1)
  have hz1 := hk1.size
  simp at hz1
  clear hk1 hb0 hb1
  go_wp2_with fail
  refine (HD.out _ (HT.out.keep (by omega) HK1.out)).mono ?_
  rintro e w2 ⟨rfl, hk2⟩
  have e0 := kc hk2 c0
  have e1 := kc hk2 c1
  have e2 := kc hk2 c2
  have e3 := kc hk2 c3
  have f0 := kc hk2 d0
  have f1 := kc hk2 d1
  have HK2 := Lib.hid (kk HK1.out hk2)
  have hz2 := hk2.size
  have hl0 : w.heap.size < w2.heap.size := by omega
  have hl1 : w.heap.size + 1 < w2.heap.size := by omega
  clear hk2 c0 c1 c2 c3 d0 d1
  go_wp2_with fail
  go_step3
  go_wp2_with fail
  refine (pairs_any _ _ _ _ _ _ _ _ _ _ _).mono ?_
  rintro e w3 ⟨rfl, rfl⟩
  go_wp2_with fail
  have hvw := HV.out.keep (Nat.le_refl _) HK2.out
  have htw := HT.out.keep (Nat.le_refl _) HK2.out
  have hk5 : Kp w2 (((w2.alloc (.cells #[.bool true] 4)).alloc (.cells #[.int .i64 k, .int .i64 n, .string s, .slice a ls.length cap] 24)).alloc (.cells #[.int .i64 tk, .slice ta tl.length tcap] 27)) := kk (kk (ka _ _) (ka _ _)) (ka _ _)
  have hc5 : (((w2.alloc (.cells #[.bool true] 4)).alloc (.cells #[.int .i64 k, .int .i64 n, .string s, .slice a ls.length cap] 24)).alloc (.cells #[.int .i64 tk, .slice ta tl.length tcap] 27)).heap[w2.heap.size]? = some (.cells #[.bool true] 4 (0, 0)) := blockPast (blockPast (blockHere rfl))
  have hx5 : (((w2.alloc (.cells #[.bool true] 4)).alloc (.cells #[.int .i64 k, .int .i64 n, .string s, .slice a ls.length cap] 24)).alloc (.cells #[.int .i64 tk, .slice ta tl.length tcap] 27)).heap[w2.heap.size + 1]? = some (.cells #[.int .i64 k, .int .i64 n, .string s, .slice a ls.length cap] 24 (0, 0)) := blockPast (blockHere (by simp))
  have hy5 : (((w2.alloc (.cells #[.bool true] 4)).alloc (.cells #[.int .i64 k, .int .i64 n, .string s, .slice a ls.length cap] 24)).alloc (.cells #[.int .i64 tk, .slice ta tl.length tcap] 27)).heap[w2.heap.size + 1 + 1]? = some (.cells #[.int .i64 tk, .slice ta tl.length tcap] 27 (0, 0)) := blockHere (by simp)
  have hv5 := HV.out.keep (Nat.le_refl _) (HK2.out.trans (hk5.mono HK2.out.size))
  have ht5 := HT.out.keep (Nat.le_refl _) (HK2.out.trans (hk5.mono HK2.out.size))
  have hk6 := kk HK2.out hk5
  generalize ((w2.alloc (.cells #[.bool true] 4)).alloc (.cells #[.int .i64 k, .int .i64 n, .string s, .slice a ls.length cap] 24)).alloc (.cells #[.int .i64 tk, .slice ta tl.length tcap] 27) = w5 at hk5 hc5 hx5 hy5 hv5 ht5 hk6 ⊢
  generalize hcc : w2.heap.size = c at *
  have hcw := lt_of_block hc5
  have HG := Lib.hid HGD.out
  have HK6 := Lib.hid hk6
  have hwc : w.heap.size ≤ c := by omega
  refine (wpIn_wide (n := 0)).1 ?_
  have hseq := pairs_ok c (c + 1) (c + 1 + 1) w.heap.size hwc k n s a cap ls tk ta tcap tl w5 hcw hv5 ht5 HG.out hx5 hy5
  clear hv5 ht5 hx5 hy5 hk5 hk6 hvw htw e0 e1 e2 e3 f0 f1 HC HD
  refine range_ok (gf := 99) (lb := #[.pointer (some ⟨c + 1, 0, none⟩), .pointer (some ⟨c + 1 + 1, 0, none⟩)]) (encs := pairE) (c := c) (Ok := pairOk) rfl (enters_of Tryz.func99 (by kernel_rfl) rfl) (fun _ => rfl) hcw hseq
    (fun A => A.heap[c]? = some (.cells #[.bool true] 4 (0, 0))) (fun d A => d = .exit 0 ∧ A.heap[c]? = some (.cells #[.bool false] 4 (0, 0)))
    (fun A B h hb => hb.trans h) (fun d A B h hb => ⟨h.1, hb.trans h.2⟩) (fun A h => lt_of_block h) (fun d A h => lt_of_block h.2) hc5 ?round ?done ?stop
  case round =>
    rintro l ⟨⟨k1, n1, s1, a1, cap1, l1⟩, ⟨tk1, ta1, tcap1, tl1⟩⟩ W hl hlW hI ⟨hp1, hp2⟩
    have hcW := lt_of_block hI
    gi_wp2_with fail
    dsimp only [V.k, V.n, V.s, V.a, V.l, V.cap, T.k, T.a, T.l, T.cap]
    refine ⟨kk (ka _ _) (ka _ _), fun W2 hb2 => ?_⟩
    have q0 : W2.heap[W.heap.size]? = some (.cells #[.int .i64 k1, .int .i64 n1, .string s1, .slice a1 l1.length cap1] 24 (0, 0)) := (hb2.block _ (by simp; omega) (by omega)).trans (blockPast (blockHere rfl))
    have q1 : W2.heap[W.heap.size + 1]? = some (.cells #[.int .i64 tk1, .slice ta1 tl1.length tcap1] 27 (0, 0)) := (hb2.block _ (by simp) (by omega)).trans (blockHere (by simp))
    have q2 : W2.heap[c]? = some (.cells #[.bool true] 4 (0, 0)) := (hb2.block _ (by simp; omega) (by omega)).trans (blockPast' (blockPast' hI))
    have hlen1 := V.lenLe hp1
    have hlen2 := T.lenLe hp2
    have x0 : W2.cell? ⟨W.heap.size, 0, none⟩ = some (.int .i64 k1) := cellOf q0 rfl
    have x1 : W2.cell? ⟨W.heap.size, 1, none⟩ = some (.int .i64 n1) := cellOf q0 rfl
    have x3 : W2.cell? ⟨W.heap.size, 3, none⟩ = some (.slice a1 l1.length cap1) := cellOf q0 rfl
    have y0 : W2.cell? ⟨W.heap.size + 1, 0, none⟩ = some (.int .i64 tk1) := cellOf q1 rfl
    have y1 : W2.cell? ⟨W.heap.size + 1, 1, none⟩ = some (.slice ta1 tl1.length tcap1) := cellOf q1 rfl
    have b0 : W2.cell? ⟨c, 0, none⟩ = some (.bool true) := cellOf q2 rfl
    have b1 : W2.frozen? ⟨c, 0, none⟩ = false := freeOf q2
    have Q2 := Lib.hid q2
    have hcne : c ≠ W.heap.size ∧ c ≠ W.heap.size + 1 := by omega
    have hcW2 := lt_of_block q2
    have hW2 := lt_of_block q1
    clear hb2 q0 q1 q2 hp1 hp2 hI
    have hmx : Tryz.prog.follows .mixedOrders = true := by kernel_rfl
    have hko := fun w1 => kindOf_any tk1 ta1 tl1.length tcap1 w1
    have HKO := Lib.hid hko
    clear hko
    have hgoal : okB k1 n1 l1.length tk1 tl1.length = (decide (k1 = kindI tk1) && (!(decide (k1 = 2) && decide (l1.length ≠ tl1.length)) && !(decide (k1 = 3) && decide ((tl1.length : Int) ≤ n1)))) := rfl
    have HGOAL := Lib.hid hgoal
    clear hgoal
    generalize kindI tk1 = q at HKO HGOAL
    gi_wp2_with fail
    gi_region_with_o (refine ⟨trivial, rfl, ?_⟩; gi_at_call 61; refine (CallsIn.inRound l (callsIn_wide.2 (HKO.out _))).mono ?_; rintro e w6 ⟨rfl, hk6⟩; have z0 : w6.cell? ⟨W.heap.size, 0, none⟩ = some (.int .i64 k1) := kc hk6 (by exact x0))
    all_goals
      have kw6 : Kp W2 w6 := by first | exact hk6 | exact kk kpD hk6 | exact kk kpD (kk kpD hk6)
      have j0 := kc kw6 x0
      have j1 := kc kw6 x1
      have j3 := kc kw6 x3
      have m0 := kc kw6 y0
      have m1 := kc kw6 y1
      have n0 := kc kw6 b0
      have n1' := freeOf (i := 0) ((kw6.block _ hcW2).trans Q2.out)
      have KW6 := Lib.hid kw6
      have Q6 := Lib.hid ((kw6.block _ hcW2).trans Q2.out)
      clear hk6 x0 x1 x3 y0 y1 b0 b1 kw6 Q2
    all_goals
      by_cases hq : k1 = q
      · subst hq
        by_cases h2 : k1 = 2
        · subst h2
          by_cases hl2 : l1.length = tl1.length
          · have g2 : ((l1.length : Int) == (tl1.length : Int)) = true := by rw [beq_iff_eq]; omega
            gi_wp2_with fail
            exact ⟨HGOAL.out.trans (by simp [hl2]), .kp KW6.out, Q6.out⟩
          · have g2 : ((l1.length : Int) == (tl1.length : Int)) = false := by rw [beq_eq_false_iff_ne]; omega
            gi_wp2_with fail
            exact ⟨(fun h => by have h' : _ = true := HGOAL.out.symm.trans h; simp [hl2] at h'), (Bt.kp KW6.out).trans (Bt.set _ ⟨c, 0, none⟩ _), rfl, heap_set Q6.out⟩
        · have g2 : (k1 == 2) = false := by rw [beq_eq_false_iff_ne]; omega
          by_cases h3 : k1 = 3
          · subst h3
            by_cases hn : (tl1.length : Int) ≤ n1
            · have g3 : decide ((tl1.length : Int) ≤ n1) = true := by simpa using hn
              gi_wp2_with fail
              exact ⟨(fun h => by have h' : _ = true := HGOAL.out.symm.trans h; simp [hn] at h'), (Bt.kp KW6.out).trans (Bt.set _ ⟨c, 0, none⟩ _), rfl, heap_set Q6.out⟩
            · have g3 : decide ((tl1.length : Int) ≤ n1) = false := by simpa using hn
              gi_wp2_with fail
              exact ⟨HGOAL.out.trans (by simp [hn]), .kp KW6.out, Q6.out⟩
          · have g3 : (k1 == 3) = false := by rw [beq_eq_false_iff_ne]; omega
            gi_wp2_with fail
            exact ⟨HGOAL.out.trans (by simp [h2, h3]), .kp KW6.out, Q6.out⟩
      · have g1 : (k1 == q) = false := by rw [beq_eq_false_iff_ne]; omega
        gi_wp2_with fail
        exact ⟨(fun h => by have h' : _ = true := HGOAL.out.symm.trans h; simp [hq] at h'), (Bt.kp KW6.out).trans (Bt.set _ ⟨c, 0, none⟩ _), rfl, heap_set Q6.out⟩
  case done =>
    rintro D W hD hM hI hb hd
    have hM' : V.is (.mk k n s a cap ls) (.mk tk ta tcap tl) = true := hM
    have c0 : W.cell? ⟨c, 0, none⟩ = some (.bool true) := cellOf hI rfl
    clear hM hseq
    gi_wp2_with fail
    go_wp2_with fail
    rw [Exit.noGoto_ret]
    refine ⟨by simp, .inl ⟨_, _, rfl, run_takeDeferred hd, ?_⟩⟩
    refine ⟨_, results_tmp rfl _ _ _, by rw [hM']; rfl, ?_⟩
    have hz5 := HK6.out.size
    exact ⟨hb.os.trans HK6.out.os, hb.tape.trans HK6.out.tape, hb.output.trans HK6.out.output, by have := hb.size; simp; omega, fun i hi => (World.putObj_heap_other (by omega)).trans ((hb.block i (by omega) (by omega)).trans (HK6.out.block i hi))⟩
  case stop =>
    rintro D d W hD hM ⟨rfl, hI⟩ hb hd
    have hM' : V.is (.mk k n s a cap ls) (.mk tk ta tcap tl) = false := by simpa using hM
    have c0 : W.cell? ⟨c, 0, none⟩ = some (.bool false) := cellOf hI rfl
    clear hM hseq
    gi_wp2_with fail
    go_wp2_with fail
    rw [Exit.noGoto_ret]
    refine ⟨by simp, .inl ⟨_, _, rfl, run_takeDeferred hd, ?_⟩⟩
    refine ⟨_, results_tmp rfl _ _ _, by rw [hM']; rfl, ?_⟩
    have hz5 := HK6.out.size
    exact ⟨hb.os.trans HK6.out.os, hb.tape.trans HK6.out.tape, hb.output.trans HK6.out.output, by have := hb.size; simp; omega, fun i hi => (World.putObj_heap_other (by omega)).trans ((hb.block i (by omega) (by omega)).trans (HK6.out.block i hi))⟩

end Go.Proofs.YtkfmgafgokpjhaaGreatDoor

/-
  THE SPECIFICATION's OWN WALKS: Lies, text, numbers.
-/
namespace Go.Proofs.YtkfmgafgokpjhaaGreatDoor
open Go.RowKit

set_option maxHeartbeats 400000 in
theorem lies_any (n low high : Int) (w : World) :
    Calls Tryz.prog 42 #[.int .i64 n, .int .i64 low, .int .i64 high] w fun e w' => e = .returned (.bool (decide (low ≤ n) && decide (n ≤ high))) ∧ w' = w := by
  by_cases h1 : low ≤ n
  · have g1 : decide (low ≤ n) = true := by simpa using h1
    go_enter Tryz.func42, Tryz.ntmps42
    go_wp2_with fail
    go_ret
    exact ⟨by simp [g1], rfl⟩
  · have g1 : decide (low ≤ n) = false := by simpa using h1
    go_enter Tryz.func42, Tryz.ntmps42
    go_wp2_with fail
    go_ret
    exact ⟨by simp, rfl⟩

set_option maxHeartbeats 400000 in
theorem numbers_any (a b : Int) (w : World) :
    Calls Tryz.prog 105 #[.int .i64 a, .int .i64 b] w fun e w' => e = .returned (.int .i64 (cmpI a b)) ∧ w' = w := by
  by_cases h1 : a < b
  · have hr : cmpI a b = -1 := by simp [cmpI, h1]
    rw [hr]
    go_enter Tryz.func105, Tryz.ntmps105
    go_wp2_with fail
    go_ret
    exact ⟨rfl, rfl⟩
  · by_cases h2 : b < a
    · have hr : cmpI a b = 1 := by simp [cmpI, h1, h2]
      rw [hr]
      go_enter Tryz.func105, Tryz.ntmps105
      go_wp2_with fail
      go_ret
      exact ⟨rfl, rfl⟩
    · have hr : cmpI a b = 0 := by simp [cmpI, h1, h2]
      rw [hr]
      go_enter Tryz.func105, Tryz.ntmps105
      go_wp2_with fail
      go_ret
      exact ⟨rfl, rfl⟩

/-- The texts that the specification calls so. -/
def textR (s : ByteArray) : Bool := decide (s.size ≤ 100) && charsB s

set_option maxHeartbeats 2000000 in
theorem text_ref (s : ByteArray) (hs : s.size ≤ 9223372036854775807) (w : World) :
    Calls Tryz.prog 127 #[.string s] w fun e w' => e = .returned (.bool (textR s)) ∧ w' = w := by
  by_cases h3 : s.size ≤ 100
  · have g3 : decide ((s.size : Int) ≤ 100) = true := by simp; omega
    have hr : textR s = charsB s := by simp [textR, h3]
    rw [hr]
    clear hr
    go_enter Tryz.func127, Tryz.ntmps127
    go_wp2_with fail
    go_loopw [3, 4] (fun b i wr => ∃ j : Nat, j ≤ s.size ∧ i = .int .i64 j ∧ b = .bool ((s.data.toList.take j).all byteB) ∧ wr = w) (fun _ i _ => s.size - (intOf i).toNat)
    case atStart => exact ⟨0, Nat.zero_le _, rfl, rfl, rfl⟩
    case round =>
      obtain ⟨j, hj, rfl, rfl, rfl⟩ := hrel
      cases hp : (s.data.toList.take j).all byteB with
      | true =>
        by_cases hlt : j < s.size
        · have HT := Lib.hid (take_all s j hlt)
          have HC := Lib.hid (charAt s j hlt)
          have HP := Lib.hid hp
          clear hp
          go_wp2_with fail
          refine (lies_any _ _ _ _).mono ?_
          rintro e w1 ⟨rfl, rfl⟩
          go_wp2_with fail
          go_roundw
          case rel =>
            refine ⟨j + 1, by omega, by first | go_num | simp, ?_, by trivial⟩
            rw [HT.out, HP.out]
            simp only [byteB, Bool.true_and]
            rw [show wrap64 ((s[j].toNat : Nat) : Int) = ((s[j].toNat : Nat) : Int) from by have := s[j].toNat_lt; simp [wrap64]; omega]
            congr 2 <;> (rw [decide_eq_decide]; omega)
          case measure => simp [intOf]; omega
        · have hjj : j = s.size := by omega
          subst hjj
          have hr : charsB s = true := by
            unfold charsB; rw [List.take_of_length_le (by simp)] at hp; exact hp
          have HRR := Lib.hid hr
          clear hr hp
          go_wp2_with fail
          go_ret
          exact ⟨by rw [HRR.out] <;> rfl, rfl⟩
      | false =>
        have hr : charsB s = false := by
          cases hc : charsB s with
          | false => rfl
          | true =>
            have : (s.data.toList.take j).all byteB = true := by
              rw [List.all_eq_true]; intro x hx
              exact List.all_eq_true.1 hc x (List.mem_of_mem_take hx)
            rw [this] at hp; cases hp
        have HRR := Lib.hid hr
        clear hr hp
        go_wp2_with fail
        go_ret
        exact ⟨by rw [HRR.out] <;> rfl, rfl⟩
  · have g3 : decide ((s.size : Int) ≤ 100) = false := by simp; omega
    have hr : textR s = false := by simp [textR, h3]
    rw [hr]
    clear hr
    go_enter Tryz.func127, Tryz.ntmps127
    go_wp2_with fail
    go_loopw [3, 4] (fun b i wr => b = .bool false ∧ i = .int .i64 0 ∧ wr = w) (fun _ _ _ => 0)
    case atStart => exact ⟨rfl, rfl, rfl⟩
    case round =>
      obtain ⟨rfl, rfl, rfl⟩ := hrel
      go_wp2_with fail
      go_ret
      exact ⟨rfl, rfl⟩

end Go.Proofs.YtkfmgafgokpjhaaGreatDoor

/-
  THE SPECIFICATION's count.
-/
namespace Go.Proofs.YtkfmgafgokpjhaaGreatDoor
open Go.RowKit

theorem ranks_take (l : List V) (j : Nat) (x : V) (h : l[j]? = some x) : V.rank.ranks (l.take (j + 1)) = V.rank.ranks (l.take j) + x.rank := by
  induction l generalizing j with
  | nil => simp at h
  | cons y ys ih =>
    cases j with
    | zero => simp at h; subst h; simp [V.rank.ranks]
    | succ j => have := ih j (by simpa using h); simp [V.rank.ranks, this]; omega

set_option maxRecDepth 100000 in
set_option maxHeartbeats 4000000 in
theorem count_ref : ∀ (N : Nat) (k n : Int) (s : ByteArray) (a : Option Addr) (cap : Nat) (l : List V) (w : World), (V.mk k n s a cap l).rank ≤ N → N ≤ 1000000000 → (V.mk k n s a cap l).In w w.heap.size →
    Calls Tryz.prog 53 #[.agg #[.int .i64 k, .int .i64 n, .string s, .slice a l.length cap]] w fun e w' => e = .returned (.int .i64 (V.mk k n s a cap l).rank) ∧ Kp w w' := by
  intro N
  induction N with
  | zero => intro k n s a cap l w h; have := V.rank_pos (.mk k n s a cap l); omega
  | succ N ih =>
    intro k n s a cap l w hN hM hin
    have hrk : (V.mk k n s a cap l).rank = 1 + V.rank.ranks l := rfl
    have hlen := V.lenLe hin
    have IH := Lib.hid ih
    have HIN := Lib.hid hin
    clear ih hin
    go_enter Tryz.func53, Tryz.ntmps53
    go_wp2_with fail
    go_loopw [3, 4] (fun c i wr => ∃ j : Nat, j ≤ l.length ∧ i = .int .i64 j ∧ c = .int .i64 ((1 + V.rank.ranks (l.take j) : Nat) : Int) ∧ Kp (w.alloc (.cells #[.int .i64 k, .int .i64 n, .string s, .slice a l.length cap] 24)) wr) (fun _ i _ => l.length - (intOf i).toNat)
    case atStart => exact ⟨0, Nat.zero_le _, rfl, by simp [V.rank.ranks], Below.refl _ _⟩
    case round =>
      obtain ⟨j, hj, rfl, rfl, hk⟩ := hrel
      obtain ⟨b0, b1, b2, b3, hz⟩ := box4 hk
      by_cases hlt : j < l.length
      · obtain ⟨x, hx⟩ : ∃ x, l[j]? = some x := ⟨l[j], by simp [hlt]⟩
        obtain ⟨p0, off, rfl, hp0, q0, q1, q2, q3, hxin⟩ := V.atPart HIN.out hx
        have hkw := kk (ka _ _) hk
        have r0 := kc hkw q0
        have r1 := kc hkw q1
        have r2 := kc hkw q2
        have r3 := kc hkw q3
        have hxr := hxin.keep hkw.size hkw
        have hrx := V.rank_part (v := .mk k n s (some ⟨p0, off, none⟩) cap l) (j := j) (x := x) hx
        have htk := ranks_take l j x hx
        have hle : V.rank.ranks (l.take (j + 1)) ≤ V.rank.ranks l := by
          have : ∀ (m : List V) (i : Nat), V.rank.ranks (m.take i) ≤ V.rank.ranks m := by
            intro m
            induction m with
            | nil => intro i; simp [V.rank.ranks]
            | cons y ys ih => intro i; cases i with
              | zero => simp [V.rank.ranks]
              | succ i => have := ih i; simp [V.rank.ranks]; omega
          exact this l (j + 1)
        cases x with
        | mk k' n' s' a' cap' l' =>
        simp only [V.k, V.n, V.s, V.a, V.l, V.cap] at r0 r1 r2 r3
        have hih := IH.out k' n' s' a' cap' l' wr (by omega) (by omega) hxr
        have HIH := Lib.hid hih
        have HK := Lib.hid hk
        generalize (V.mk k' n' s' a' cap' l').rank = rx at *
        clear hih hk hxin hxr hx hkw q0 q1 q2 q3
        go_wp2_with fail
        refine HIH.out.mono ?_
        rintro e w2 ⟨rfl, hk2⟩
        have HK2 := Lib.hid (kk HK.out hk2)
        clear hk2
        go_wp2_with fail
        go_roundw
        case rel => exact ⟨j + 1, by omega, by first | go_num | simp, by rw [htk]; congr 1; omega, HK2.out⟩
        case measure => simp [intOf]; omega
      · have hjj : j = l.length := by omega
        subst hjj
        have HK := Lib.hid (kk (ka _ _) hk)
        clear hk
        go_wp2_with fail
        go_ret
        exact ⟨by simp [hrk], HK.out⟩

end Go.Proofs.YtkfmgafgokpjhaaGreatDoor

/-
  THE SPECIFICATION's shaped (written by wip/gen_shaped.py).
-/
namespace Go.Proofs.YtkfmgafgokpjhaaGreatDoor
open Go.RowKit

mutual
/-- Shaped: so deep at most. -/
def V.sh : V → Nat → Bool
  | .mk k n s _ _ l, d => if d = 0 then false else fitsB k n s l.length && V.shL l (d - 1)
def V.shL : List V → Nat → Bool
  | [], _ => true
  | x :: xs, d => x.sh d && V.shL xs d
end

theorem V.shL_snoc (l : List V) (d j : Nat) (x : V) (h : l[j]? = some x) : V.shL (l.take (j + 1)) d = (V.shL (l.take j) d && x.sh d) := by
  induction l generalizing j with
  | nil => simp at h
  | cons y ys ih =>
    cases j with
    | zero => simp at h; subst h; simp [V.shL]
    | succ j => have := ih j (by simpa using h); simp [V.shL, this, Bool.and_assoc]
theorem V.shL_stop (l : List V) (d j : Nat) (h : V.shL (l.take j) d = false) : V.shL l d = false := by
  induction l generalizing j with
  | nil => simp [V.shL] at h
  | cons y ys ih =>
    cases j with
    | zero => simp [V.shL] at h
    | succ j =>
      simp only [List.take_succ_cons, V.shL, Bool.and_eq_false_iff] at h ⊢
      rcases h with h | h
      · exact .inl h
      · exact .inr (ih j h)

set_option maxRecDepth 100000 in
set_option maxHeartbeats 8000000 in
theorem shaped_zero (k n : Int) (s : ByteArray) (a : Option Addr) (cap : Nat) (l : List V) (w : World) :
    Calls Tryz.prog 94 #[.agg #[.int .i64 k, .int .i64 n, .string s, .slice a l.length cap], .int .i64 0] w fun e w' => e = .returned (.bool false) ∧ Kp w w' := by
  go_enter Tryz.func94, Tryz.ntmps94
  go_wp2_with fail
  go_ret
  exact ⟨rfl, ka _ _⟩

set_option maxRecDepth 100000 in
set_option maxHeartbeats 8000000 in
theorem shaped_f0a (left : Nat) (n : Int) (s : ByteArray) (a : Option Addr) (cap : Nat) (l : List V) (w : World) (hd : left ≠ 0) (hs : s.size ≤ 9223372036854775807) (_hlen : l.length ≤ 9223372036854775807) (hA : (decide ((-2147483648 : Int) ≤ n) && decide (n ≤ 2147483647)) = false) :
    Calls Tryz.prog 94 #[.agg #[.int .i64 0, .int .i64 n, .string s, .slice a l.length cap], .int .i64 left] w fun e w' => e = .returned (.bool false) ∧ Kp w w' := by
    have hd0 : ((left : Int) == 0) = false := by rw [beq_eq_false_iff_ne]; omega
    have L := fun w => lies_any n (-2147483648) 2147483647 w
    simp only [hA] at L
    have HL := Lib.hid L
    have HTX := Lib.hid (fun w => text_ref s hs w)
    clear L
    go_enter Tryz.func94, Tryz.ntmps94
    go_wp2_with (first | (go_at_call 42; refine (HL.out _).mono ?_; rintro e w1 ⟨rfl, rfl⟩) | (go_at_call 127; refine (HTX.out _).mono ?_; rintro e w1 ⟨rfl, rfl⟩))
    go_loopw [5, 6] (fun b i wr => b = .bool false ∧ i = .int .i64 0 ∧ wr = (w.alloc (.cells #[.int .i64 0, .int .i64 n, .string s, .slice a l.length cap] 24))) (fun _ _ _ => 0)
    case atStart => exact ⟨by first | rfl | simp [*], rfl, rfl⟩
    case round =>
      obtain ⟨rfl, rfl, rfl⟩ := hrel
      go_wp2_with fail
      go_ret
      exact ⟨rfl, ka _ _⟩

set_option maxRecDepth 100000 in
set_option maxHeartbeats 8000000 in
theorem shaped_f0b (left : Nat) (n : Int) (s : ByteArray) (a : Option Addr) (cap : Nat) (l : List V) (w : World) (hd : left ≠ 0) (hs : s.size ≤ 9223372036854775807) (_hlen : l.length ≤ 9223372036854775807) (hA : (decide ((-2147483648 : Int) ≤ n) && decide (n ≤ 2147483647)) = true) (_e1 : s.toList.isEmpty = false) (e2 : (s.toList == ([] : List UInt8)) = false) :
    Calls Tryz.prog 94 #[.agg #[.int .i64 0, .int .i64 n, .string s, .slice a l.length cap], .int .i64 left] w fun e w' => e = .returned (.bool false) ∧ Kp w w' := by
    have hd0 : ((left : Int) == 0) = false := by rw [beq_eq_false_iff_ne]; omega
    have L := fun w => lies_any n (-2147483648) 2147483647 w
    simp only [hA] at L
    have HL := Lib.hid L
    have HTX := Lib.hid (fun w => text_ref s hs w)
    clear L
    go_enter Tryz.func94, Tryz.ntmps94
    go_wp2_with (first | (go_at_call 42; refine (HL.out _).mono ?_; rintro e w1 ⟨rfl, rfl⟩) | (go_at_call 127; refine (HTX.out _).mono ?_; rintro e w1 ⟨rfl, rfl⟩))
    go_loopw [5, 6] (fun b i wr => b = .bool false ∧ i = .int .i64 0 ∧ wr = (w.alloc (.cells #[.int .i64 0, .int .i64 n, .string s, .slice a l.length cap] 24))) (fun _ _ _ => 0)
    case atStart => exact ⟨by first | rfl | simp [*], rfl, rfl⟩
    case round =>
      obtain ⟨rfl, rfl, rfl⟩ := hrel
      go_wp2_with fail
      go_ret
      exact ⟨rfl, ka _ _⟩

set_option maxRecDepth 100000 in
set_option maxHeartbeats 8000000 in
theorem shaped_f0c (left : Nat) (n : Int) (s : ByteArray) (a : Option Addr) (cap : Nat) (l : List V) (w : World) (hd : left ≠ 0) (hs : s.size ≤ 9223372036854775807) (hlen : l.length ≤ 9223372036854775807) (hA : (decide ((-2147483648 : Int) ≤ n) && decide (n ≤ 2147483647)) = true) (hS : s = ⟨#[]⟩) (hc : l.length ≠ 0) :
    Calls Tryz.prog 94 #[.agg #[.int .i64 0, .int .i64 n, .string s, .slice a l.length cap], .int .i64 left] w fun e w' => e = .returned (.bool false) ∧ Kp w w' := by
    have hd0 : ((left : Int) == 0) = false := by rw [beq_eq_false_iff_ne]; omega
    subst hS
    have L := fun w => lies_any n (-2147483648) 2147483647 w
    simp only [hA] at L
    have HL := Lib.hid L
    have HTX := Lib.hid (fun w => text_ref ⟨#[]⟩ (by decide) w)
    clear L
    have hlc : ((l.length : Int) == 0) = false := by rw [beq_eq_false_iff_ne]; omega
    go_enter Tryz.func94, Tryz.ntmps94
    go_wp2_with (first | (go_at_call 42; refine (HL.out _).mono ?_; rintro e w1 ⟨rfl, rfl⟩) | (go_at_call 127; refine (HTX.out _).mono ?_; rintro e w1 ⟨rfl, rfl⟩))
    go_loopw [5, 6] (fun b i wr => b = .bool false ∧ i = .int .i64 0 ∧ wr = (w.alloc (.cells #[.int .i64 0, .int .i64 n, .string ⟨#[]⟩, .slice a l.length cap] 24))) (fun _ _ _ => 0)
    case atStart => exact ⟨by first | rfl | simp [*], rfl, rfl⟩
    case round =>
      obtain ⟨rfl, rfl, rfl⟩ := hrel
      go_wp2_with fail
      go_ret
      exact ⟨rfl, ka _ _⟩

set_option maxRecDepth 100000 in
set_option maxHeartbeats 8000000 in
theorem shaped_f1a (left : Nat) (n : Int) (s : ByteArray) (a : Option Addr) (cap : Nat) (l : List V) (w : World) (hd : left ≠ 0) (hs : s.size ≤ 9223372036854775807) (_hlen : l.length ≤ 9223372036854775807) (hn : n ≠ 0) :
    Calls Tryz.prog 94 #[.agg #[.int .i64 1, .int .i64 n, .string s, .slice a l.length cap], .int .i64 left] w fun e w' => e = .returned (.bool false) ∧ Kp w w' := by
    have hd0 : ((left : Int) == 0) = false := by rw [beq_eq_false_iff_ne]; omega
    have HL := Lib.hid (fun w => lies_any n 0 7 w)
    have HTX := Lib.hid (fun w => text_ref s hs w)
    have hn0 : (n == 0) = false := by rw [beq_eq_false_iff_ne]; omega
    go_enter Tryz.func94, Tryz.ntmps94
    go_wp2_with (first | (go_at_call 42; refine (HL.out _).mono ?_; rintro e w1 ⟨rfl, rfl⟩) | (go_at_call 127; refine (HTX.out _).mono ?_; rintro e w1 ⟨rfl, rfl⟩))
    go_loopw [5, 6] (fun b i wr => b = .bool false ∧ i = .int .i64 0 ∧ wr = (w.alloc (.cells #[.int .i64 1, .int .i64 n, .string s, .slice a l.length cap] 24))) (fun _ _ _ => 0)
    case atStart => exact ⟨by first | rfl | simp [*], rfl, rfl⟩
    case round =>
      obtain ⟨rfl, rfl, rfl⟩ := hrel
      go_wp2_with fail
      go_ret
      exact ⟨rfl, ka _ _⟩

set_option maxRecDepth 100000 in
set_option maxHeartbeats 8000000 in
theorem shaped_f1b (left : Nat) (n : Int) (s : ByteArray) (a : Option Addr) (cap : Nat) (l : List V) (w : World) (hd : left ≠ 0) (hs : s.size ≤ 9223372036854775807) (_hlen : l.length ≤ 9223372036854775807) (hn : n = 0) (hB : textR s = false) :
    Calls Tryz.prog 94 #[.agg #[.int .i64 1, .int .i64 n, .string s, .slice a l.length cap], .int .i64 left] w fun e w' => e = .returned (.bool false) ∧ Kp w w' := by
    have hd0 : ((left : Int) == 0) = false := by rw [beq_eq_false_iff_ne]; omega
    subst hn
    have L := fun w => text_ref s hs w
    simp only [hB] at L
    have HL := Lib.hid (fun w => lies_any 0 0 7 w)
    have HTX := Lib.hid L
    clear L
    go_enter Tryz.func94, Tryz.ntmps94
    go_wp2_with (first | (go_at_call 42; refine (HL.out _).mono ?_; rintro e w1 ⟨rfl, rfl⟩) | (go_at_call 127; refine (HTX.out _).mono ?_; rintro e w1 ⟨rfl, rfl⟩))
    go_loopw [5, 6] (fun b i wr => b = .bool false ∧ i = .int .i64 0 ∧ wr = (w.alloc (.cells #[.int .i64 1, .int .i64 0, .string s, .slice a l.length cap] 24))) (fun _ _ _ => 0)
    case atStart => exact ⟨by first | rfl | simp [*], rfl, rfl⟩
    case round =>
      obtain ⟨rfl, rfl, rfl⟩ := hrel
      go_wp2_with fail
      go_ret
      exact ⟨rfl, ka _ _⟩

set_option maxRecDepth 100000 in
set_option maxHeartbeats 8000000 in
theorem shaped_f1c (left : Nat) (n : Int) (s : ByteArray) (a : Option Addr) (cap : Nat) (l : List V) (w : World) (hd : left ≠ 0) (hs : s.size ≤ 9223372036854775807) (hlen : l.length ≤ 9223372036854775807) (hn : n = 0) (hB : textR s = true) (hc : l.length ≠ 0) :
    Calls Tryz.prog 94 #[.agg #[.int .i64 1, .int .i64 n, .string s, .slice a l.length cap], .int .i64 left] w fun e w' => e = .returned (.bool false) ∧ Kp w w' := by
    have hd0 : ((left : Int) == 0) = false := by rw [beq_eq_false_iff_ne]; omega
    subst hn
    have L := fun w => text_ref s hs w
    simp only [hB] at L
    have HL := Lib.hid (fun w => lies_any 0 0 7 w)
    have HTX := Lib.hid L
    clear L
    have hlc : ((l.length : Int) == 0) = false := by rw [beq_eq_false_iff_ne]; omega
    go_enter Tryz.func94, Tryz.ntmps94
    go_wp2_with (first | (go_at_call 42; refine (HL.out _).mono ?_; rintro e w1 ⟨rfl, rfl⟩) | (go_at_call 127; refine (HTX.out _).mono ?_; rintro e w1 ⟨rfl, rfl⟩))
    go_loopw [5, 6] (fun b i wr => b = .bool false ∧ i = .int .i64 0 ∧ wr = (w.alloc (.cells #[.int .i64 1, .int .i64 0, .string s, .slice a l.length cap] 24))) (fun _ _ _ => 0)
    case atStart => exact ⟨by first | rfl | simp [*], rfl, rfl⟩
    case round =>
      obtain ⟨rfl, rfl, rfl⟩ := hrel
      go_wp2_with fail
      go_ret
      exact ⟨rfl, ka _ _⟩

set_option maxRecDepth 100000 in
set_option maxHeartbeats 8000000 in
theorem shaped_f2a (left : Nat) (n : Int) (s : ByteArray) (a : Option Addr) (cap : Nat) (l : List V) (w : World) (hd : left ≠ 0) (hs : s.size ≤ 9223372036854775807) (_hlen : l.length ≤ 9223372036854775807) (hn : n ≠ 0) :
    Calls Tryz.prog 94 #[.agg #[.int .i64 2, .int .i64 n, .string s, .slice a l.length cap], .int .i64 left] w fun e w' => e = .returned (.bool false) ∧ Kp w w' := by
    have hd0 : ((left : Int) == 0) = false := by rw [beq_eq_false_iff_ne]; omega
    have HL := Lib.hid (fun w => lies_any n 0 7 w)
    have HTX := Lib.hid (fun w => text_ref s hs w)
    have hn0 : (n == 0) = false := by rw [beq_eq_false_iff_ne]; omega
    go_enter Tryz.func94, Tryz.ntmps94
    go_wp2_with (first | (go_at_call 42; refine (HL.out _).mono ?_; rintro e w1 ⟨rfl, rfl⟩) | (go_at_call 127; refine (HTX.out _).mono ?_; rintro e w1 ⟨rfl, rfl⟩))
    go_loopw [5, 6] (fun b i wr => b = .bool false ∧ i = .int .i64 0 ∧ wr = (w.alloc (.cells #[.int .i64 2, .int .i64 n, .string s, .slice a l.length cap] 24))) (fun _ _ _ => 0)
    case atStart => exact ⟨by first | rfl | simp [*], rfl, rfl⟩
    case round =>
      obtain ⟨rfl, rfl, rfl⟩ := hrel
      go_wp2_with fail
      go_ret
      exact ⟨rfl, ka _ _⟩

set_option maxRecDepth 100000 in
set_option maxHeartbeats 8000000 in
theorem shaped_f2b (left : Nat) (n : Int) (s : ByteArray) (a : Option Addr) (cap : Nat) (l : List V) (w : World) (hd : left ≠ 0) (hs : s.size ≤ 9223372036854775807) (_hlen : l.length ≤ 9223372036854775807) (hn : n = 0) (_e1 : s.toList.isEmpty = false) (e2 : (s.toList == ([] : List UInt8)) = false) :
    Calls Tryz.prog 94 #[.agg #[.int .i64 2, .int .i64 n, .string s, .slice a l.length cap], .int .i64 left] w fun e w' => e = .returned (.bool false) ∧ Kp w w' := by
    have hd0 : ((left : Int) == 0) = false := by rw [beq_eq_false_iff_ne]; omega
    subst hn
    have HL := Lib.hid (fun w => lies_any 0 0 7 w)
    have HTX := Lib.hid (fun w => text_ref s hs w)
    go_enter Tryz.func94, Tryz.ntmps94
    go_wp2_with (first | (go_at_call 42; refine (HL.out _).mono ?_; rintro e w1 ⟨rfl, rfl⟩) | (go_at_call 127; refine (HTX.out _).mono ?_; rintro e w1 ⟨rfl, rfl⟩))
    go_loopw [5, 6] (fun b i wr => b = .bool false ∧ i = .int .i64 0 ∧ wr = (w.alloc (.cells #[.int .i64 2, .int .i64 0, .string s, .slice a l.length cap] 24))) (fun _ _ _ => 0)
    case atStart => exact ⟨by first | rfl | simp [*], rfl, rfl⟩
    case round =>
      obtain ⟨rfl, rfl, rfl⟩ := hrel
      go_wp2_with fail
      go_ret
      exact ⟨rfl, ka _ _⟩

set_option maxRecDepth 100000 in
set_option maxHeartbeats 8000000 in
theorem shaped_f2c (left : Nat) (n : Int) (s : ByteArray) (a : Option Addr) (cap : Nat) (l : List V) (w : World) (hd : left ≠ 0) (hs : s.size ≤ 9223372036854775807) (hlen : l.length ≤ 9223372036854775807) (hn : n = 0) (hS : s = ⟨#[]⟩) (hc : 8 < l.length) :
    Calls Tryz.prog 94 #[.agg #[.int .i64 2, .int .i64 n, .string s, .slice a l.length cap], .int .i64 left] w fun e w' => e = .returned (.bool false) ∧ Kp w w' := by
    have hd0 : ((left : Int) == 0) = false := by rw [beq_eq_false_iff_ne]; omega
    subst hn
    subst hS
    have HL := Lib.hid (fun w => lies_any 0 0 7 w)
    have HTX := Lib.hid (fun w => text_ref ⟨#[]⟩ (by decide) w)
    have hlc : decide ((l.length : Int) ≤ 8) = false := by simp; omega
    go_enter Tryz.func94, Tryz.ntmps94
    go_wp2_with (first | (go_at_call 42; refine (HL.out _).mono ?_; rintro e w1 ⟨rfl, rfl⟩) | (go_at_call 127; refine (HTX.out _).mono ?_; rintro e w1 ⟨rfl, rfl⟩))
    go_loopw [5, 6] (fun b i wr => b = .bool false ∧ i = .int .i64 0 ∧ wr = (w.alloc (.cells #[.int .i64 2, .int .i64 0, .string ⟨#[]⟩, .slice a l.length cap] 24))) (fun _ _ _ => 0)
    case atStart => exact ⟨by first | rfl | simp [*], rfl, rfl⟩
    case round =>
      obtain ⟨rfl, rfl, rfl⟩ := hrel
      go_wp2_with fail
      go_ret
      exact ⟨rfl, ka _ _⟩

set_option maxRecDepth 100000 in
set_option maxHeartbeats 8000000 in
theorem shaped_f3a (left : Nat) (n : Int) (s : ByteArray) (a : Option Addr) (cap : Nat) (l : List V) (w : World) (hd : left ≠ 0) (hs : s.size ≤ 9223372036854775807) (_hlen : l.length ≤ 9223372036854775807) (hA : (decide ((0 : Int) ≤ n) && decide (n ≤ 7)) = false) :
    Calls Tryz.prog 94 #[.agg #[.int .i64 3, .int .i64 n, .string s, .slice a l.length cap], .int .i64 left] w fun e w' => e = .returned (.bool false) ∧ Kp w w' := by
    have hd0 : ((left : Int) == 0) = false := by rw [beq_eq_false_iff_ne]; omega
    have L := fun w => lies_any n 0 7 w
    simp only [hA] at L
    have HL := Lib.hid L
    have HTX := Lib.hid (fun w => text_ref s hs w)
    clear L
    go_enter Tryz.func94, Tryz.ntmps94
    go_wp2_with (first | (go_at_call 42; refine (HL.out _).mono ?_; rintro e w1 ⟨rfl, rfl⟩) | (go_at_call 127; refine (HTX.out _).mono ?_; rintro e w1 ⟨rfl, rfl⟩))
    go_loopw [5, 6] (fun b i wr => b = .bool false ∧ i = .int .i64 0 ∧ wr = (w.alloc (.cells #[.int .i64 3, .int .i64 n, .string s, .slice a l.length cap] 24))) (fun _ _ _ => 0)
    case atStart => exact ⟨by first | rfl | simp [*], rfl, rfl⟩
    case round =>
      obtain ⟨rfl, rfl, rfl⟩ := hrel
      go_wp2_with fail
      go_ret
      exact ⟨rfl, ka _ _⟩

set_option maxRecDepth 100000 in
set_option maxHeartbeats 8000000 in
theorem shaped_f3b (left : Nat) (n : Int) (s : ByteArray) (a : Option Addr) (cap : Nat) (l : List V) (w : World) (hd : left ≠ 0) (hs : s.size ≤ 9223372036854775807) (_hlen : l.length ≤ 9223372036854775807) (hA : (decide ((0 : Int) ≤ n) && decide (n ≤ 7)) = true) (_e1 : s.toList.isEmpty = false) (e2 : (s.toList == ([] : List UInt8)) = false) :
    Calls Tryz.prog 94 #[.agg #[.int .i64 3, .int .i64 n, .string s, .slice a l.length cap], .int .i64 left] w fun e w' => e = .returned (.bool false) ∧ Kp w w' := by
    have hd0 : ((left : Int) == 0) = false := by rw [beq_eq_false_iff_ne]; omega
    have L := fun w => lies_any n 0 7 w
    simp only [hA] at L
    have HL := Lib.hid L
    have HTX := Lib.hid (fun w => text_ref s hs w)
    clear L
    go_enter Tryz.func94, Tryz.ntmps94
    go_wp2_with (first | (go_at_call 42; refine (HL.out _).mono ?_; rintro e w1 ⟨rfl, rfl⟩) | (go_at_call 127; refine (HTX.out _).mono ?_; rintro e w1 ⟨rfl, rfl⟩))
    go_loopw [5, 6] (fun b i wr => b = .bool false ∧ i = .int .i64 0 ∧ wr = (w.alloc (.cells #[.int .i64 3, .int .i64 n, .string s, .slice a l.length cap] 24))) (fun _ _ _ => 0)
    case atStart => exact ⟨by first | rfl | simp [*], rfl, rfl⟩
    case round =>
      obtain ⟨rfl, rfl, rfl⟩ := hrel
      go_wp2_with fail
      go_ret
      exact ⟨rfl, ka _ _⟩

set_option maxRecDepth 100000 in
set_option maxHeartbeats 8000000 in
theorem shaped_f3c (left : Nat) (n : Int) (s : ByteArray) (a : Option Addr) (cap : Nat) (l : List V) (w : World) (hd : left ≠ 0) (hs : s.size ≤ 9223372036854775807) (_hlen : l.length ≤ 9223372036854775807) (hA : (decide ((0 : Int) ≤ n) && decide (n ≤ 7)) = true) (hS : s = ⟨#[]⟩) (hc : l.length ≠ 1) :
    Calls Tryz.prog 94 #[.agg #[.int .i64 3, .int .i64 n, .string s, .slice a l.length cap], .int .i64 left] w fun e w' => e = .returned (.bool false) ∧ Kp w w' := by
    have hd0 : ((left : Int) == 0) = false := by rw [beq_eq_false_iff_ne]; omega
    subst hS
    have L := fun w => lies_any n 0 7 w
    simp only [hA] at L
    have HL := Lib.hid L
    have HTX := Lib.hid (fun w => text_ref ⟨#[]⟩ (by decide) w)
    clear L
    have hlc : ((l.length : Int) == 1) = false := by rw [beq_eq_false_iff_ne]; omega
    go_enter Tryz.func94, Tryz.ntmps94
    go_wp2_with (first | (go_at_call 42; refine (HL.out _).mono ?_; rintro e w1 ⟨rfl, rfl⟩) | (go_at_call 127; refine (HTX.out _).mono ?_; rintro e w1 ⟨rfl, rfl⟩))
    go_loopw [5, 6] (fun b i wr => b = .bool false ∧ i = .int .i64 0 ∧ wr = (w.alloc (.cells #[.int .i64 3, .int .i64 n, .string ⟨#[]⟩, .slice a l.length cap] 24))) (fun _ _ _ => 0)
    case atStart => exact ⟨by first | rfl | simp [*], rfl, rfl⟩
    case round =>
      obtain ⟨rfl, rfl, rfl⟩ := hrel
      go_wp2_with fail
      go_ret
      exact ⟨rfl, ka _ _⟩

set_option maxRecDepth 100000 in
set_option maxHeartbeats 8000000 in
theorem shaped_fk (k : Int) (left : Nat) (n : Int) (s : ByteArray) (a : Option Addr) (cap : Nat) (l : List V) (w : World) (hd : left ≠ 0) (hs : s.size ≤ 9223372036854775807) (_hlen : l.length ≤ 9223372036854775807) (h0 : k ≠ 0) (h1 : k ≠ 1) (h2 : k ≠ 2) (h3 : k ≠ 3) :
    Calls Tryz.prog 94 #[.agg #[.int .i64 k, .int .i64 n, .string s, .slice a l.length cap], .int .i64 left] w fun e w' => e = .returned (.bool false) ∧ Kp w w' := by
    have hd0 : ((left : Int) == 0) = false := by rw [beq_eq_false_iff_ne]; omega
    have HL := Lib.hid (fun w => lies_any n 0 7 w)
    have HTX := Lib.hid (fun w => text_ref s hs w)
    have hk0 : (k == 0) = false := by rw [beq_eq_false_iff_ne]; omega
    have hk1 : (k == 1) = false := by rw [beq_eq_false_iff_ne]; omega
    have hk2 : (k == 2) = false := by rw [beq_eq_false_iff_ne]; omega
    have hk3 : (k == 3) = false := by rw [beq_eq_false_iff_ne]; omega
    go_enter Tryz.func94, Tryz.ntmps94
    go_wp2_with (first | (go_at_call 42; refine (HL.out _).mono ?_; rintro e w1 ⟨rfl, rfl⟩) | (go_at_call 127; refine (HTX.out _).mono ?_; rintro e w1 ⟨rfl, rfl⟩))
    go_loopw [5, 6] (fun b i wr => b = .bool false ∧ i = .int .i64 0 ∧ wr = (w.alloc (.cells #[.int .i64 k, .int .i64 n, .string s, .slice a l.length cap] 24))) (fun _ _ _ => 0)
    case atStart => exact ⟨by first | rfl | simp [*], rfl, rfl⟩
    case round =>
      obtain ⟨rfl, rfl, rfl⟩ := hrel
      go_wp2_with fail
      go_ret
      exact ⟨rfl, ka _ _⟩

end Go.Proofs.YtkfmgafgokpjhaaGreatDoor

/-
  THE SPECIFICATION's shaped, where the fields fit; Valid (written by wip/gen_shaped2.py).
-/
namespace Go.Proofs.YtkfmgafgokpjhaaGreatDoor
open Go.RowKit

set_option maxRecDepth 100000 in
set_option maxHeartbeats 8000000 in
theorem shaped_t0 (d : Nat) (hd : d ≤ 100) (n : Int) (s : ByteArray) (a : Option Addr) (cap : Nat) (l : List V) (w : World) (hs : s.size ≤ 9223372036854775807) (hin : (V.mk 0 n s a cap l).In w w.heap.size) (hA : (decide ((-2147483648 : Int) ≤ n) && decide (n ≤ 2147483647)) = true) (hS : s = ⟨#[]⟩) (hc : l.length = 0)
    (ih : ∀ (j : Nat) (x : V), l[j]? = some x → ∀ w1 : World, x.In w1 w1.heap.size → Calls Tryz.prog 94 #[.agg #[.int .i64 x.k, .int .i64 x.n, .string x.s, .slice x.a x.l.length x.cap], .int .i64 (d : Int)] w1 fun e w' => e = .returned (.bool (x.sh d)) ∧ Kp w1 w') :
    Calls Tryz.prog 94 #[.agg #[.int .i64 0, .int .i64 n, .string s, .slice a l.length cap], .int .i64 ((d : Int) + 1)] w fun e w' => e = .returned (.bool (V.shL l d)) ∧ Kp w w' := by
    have hlen := V.lenLe hin
    have hd0 : ((d : Int) + 1 == 0) = false := by rw [beq_eq_false_iff_ne]; omega
    have IH := Lib.hid ih
    have HIN := Lib.hid hin
    clear ih hin
    subst hS
    have L := fun w => lies_any n (-2147483648) 2147483647 w
    simp only [hA] at L
    have HL := Lib.hid L
    have HTX := Lib.hid (fun w => text_ref ⟨#[]⟩ (by decide) w)
    clear L
    have hlc : ((l.length : Int) == 0) = true := by rw [beq_iff_eq]; omega
    clear hc
    go_enter Tryz.func94, Tryz.ntmps94
    go_wp2_with (first | (go_at_call 42; refine (HL.out _).mono ?_; rintro e w1 ⟨rfl, rfl⟩) | (go_at_call 127; refine (HTX.out _).mono ?_; rintro e w1 ⟨rfl, rfl⟩))
    go_loopw [5, 6] (fun b i wr => ∃ j : Nat, j ≤ l.length ∧ i = .int .i64 j ∧ b = .bool (V.shL (l.take j) d) ∧ Kp (w.alloc (.cells #[.int .i64 0, .int .i64 n, .string ⟨#[]⟩, .slice a l.length cap] 24)) wr) (fun _ i _ => l.length - (intOf i).toNat)
    case atStart => exact ⟨0, Nat.zero_le _, rfl, by first | rfl | simp [V.shL, *], Below.refl _ _⟩
    case round =>
      obtain ⟨j, hj, rfl, rfl, hk⟩ := hrel
      obtain ⟨b0, b1, b2, b3, hz⟩ := box4 hk
      cases hp : V.shL (l.take j) d with
      | true =>
        by_cases hlt : j < l.length
        · obtain ⟨x, hx⟩ : ∃ x, l[j]? = some x := ⟨l[j], by simp [hlt]⟩
          obtain ⟨p0, off, rfl, hp0, q0, q1, q2, q3, hxin⟩ := V.atPart HIN.out hx
          have hkw := kk (ka _ _) hk
          have r0 := kc hkw q0
          have r1 := kc hkw q1
          have r2 := kc hkw q2
          have r3 := kc hkw q3
          have hih := IH.out j x hx wr (hxin.keep hkw.size hkw)
          have hsn := V.shL_snoc l d j x hx
          rw [hp] at hsn
          generalize x.sh d = bx at hih hsn
          generalize x.k = xk at *
          generalize x.n = xn at *
          generalize x.s = xs at *
          generalize x.a = xa at *
          generalize x.l.length = xl at *
          generalize x.cap = xc at *
          have HSN := Lib.hid hsn
          have HIH := Lib.hid hih
          have HK := Lib.hid hk
          clear hih hk hxin hx hkw q0 q1 q2 q3 hsn hp
          go_wp2_with fail
          refine HIH.out.mono ?_
          rintro e w2 ⟨rfl, hk2⟩
          have HK2 := Lib.hid (kk HK.out hk2)
          clear hk2
          go_wp2_with fail
          go_roundw
          case rel => exact ⟨j + 1, by omega, by first | go_num | simp, by rw [HSN.out]; simp, HK2.out⟩
          case measure => simp [intOf]; omega
        · have hjj : j = l.length := by omega
          subst hjj
          have hall : V.shL l d = true := by rw [List.take_of_length_le (Nat.le_refl _)] at hp; exact hp
          have HR := Lib.hid hall
          have HK := Lib.hid (kk (ka _ _) hk)
          clear hk hp hall
          go_wp2_with fail
          go_ret
          exact ⟨by rw [HR.out] <;> rfl, HK.out⟩
      | false =>
        have HR := Lib.hid (V.shL_stop l d j hp)
        have HK := Lib.hid (kk (ka _ _) hk)
        clear hk hp
        go_wp2_with fail
        go_ret
        exact ⟨by rw [HR.out] <;> rfl, HK.out⟩

set_option maxRecDepth 100000 in
set_option maxHeartbeats 8000000 in
theorem shaped_t1 (d : Nat) (hd : d ≤ 100) (n : Int) (s : ByteArray) (a : Option Addr) (cap : Nat) (l : List V) (w : World) (hs : s.size ≤ 9223372036854775807) (hin : (V.mk 1 n s a cap l).In w w.heap.size) (hn : n = 0) (hB : textR s = true) (hc : l.length = 0)
    (ih : ∀ (j : Nat) (x : V), l[j]? = some x → ∀ w1 : World, x.In w1 w1.heap.size → Calls Tryz.prog 94 #[.agg #[.int .i64 x.k, .int .i64 x.n, .string x.s, .slice x.a x.l.length x.cap], .int .i64 (d : Int)] w1 fun e w' => e = .returned (.bool (x.sh d)) ∧ Kp w1 w') :
    Calls Tryz.prog 94 #[.agg #[.int .i64 1, .int .i64 n, .string s, .slice a l.length cap], .int .i64 ((d : Int) + 1)] w fun e w' => e = .returned (.bool (V.shL l d)) ∧ Kp w w' := by
    have hlen := V.lenLe hin
    have hd0 : ((d : Int) + 1 == 0) = false := by rw [beq_eq_false_iff_ne]; omega
    have IH := Lib.hid ih
    have HIN := Lib.hid hin
    clear ih hin
    subst hn
    have L := fun w => text_ref s hs w
    simp only [hB] at L
    have HL := Lib.hid (fun w => lies_any 0 0 7 w)
    have HTX := Lib.hid L
    clear L
    have hlc : ((l.length : Int) == 0) = true := by rw [beq_iff_eq]; omega
    clear hc
    go_enter Tryz.func94, Tryz.ntmps94
    go_wp2_with (first | (go_at_call 42; refine (HL.out _).mono ?_; rintro e w1 ⟨rfl, rfl⟩) | (go_at_call 127; refine (HTX.out _).mono ?_; rintro e w1 ⟨rfl, rfl⟩))
    go_loopw [5, 6] (fun b i wr => ∃ j : Nat, j ≤ l.length ∧ i = .int .i64 j ∧ b = .bool (V.shL (l.take j) d) ∧ Kp (w.alloc (.cells #[.int .i64 1, .int .i64 0, .string s, .slice a l.length cap] 24)) wr) (fun _ i _ => l.length - (intOf i).toNat)
    case atStart => exact ⟨0, Nat.zero_le _, rfl, by first | rfl | simp [V.shL, *], Below.refl _ _⟩
    case round =>
      obtain ⟨j, hj, rfl, rfl, hk⟩ := hrel
      obtain ⟨b0, b1, b2, b3, hz⟩ := box4 hk
      cases hp : V.shL (l.take j) d with
      | true =>
        by_cases hlt : j < l.length
        · obtain ⟨x, hx⟩ : ∃ x, l[j]? = some x := ⟨l[j], by simp [hlt]⟩
          obtain ⟨p0, off, rfl, hp0, q0, q1, q2, q3, hxin⟩ := V.atPart HIN.out hx
          have hkw := kk (ka _ _) hk
          have r0 := kc hkw q0
          have r1 := kc hkw q1
          have r2 := kc hkw q2
          have r3 := kc hkw q3
          have hih := IH.out j x hx wr (hxin.keep hkw.size hkw)
          have hsn := V.shL_snoc l d j x hx
          rw [hp] at hsn
          generalize x.sh d = bx at hih hsn
          generalize x.k = xk at *
          generalize x.n = xn at *
          generalize x.s = xs at *
          generalize x.a = xa at *
          generalize x.l.length = xl at *
          generalize x.cap = xc at *
          have HSN := Lib.hid hsn
          have HIH := Lib.hid hih
          have HK := Lib.hid hk
          clear hih hk hxin hx hkw q0 q1 q2 q3 hsn hp
          go_wp2_with fail
          refine HIH.out.mono ?_
          rintro e w2 ⟨rfl, hk2⟩
          have HK2 := Lib.hid (kk HK.out hk2)
          clear hk2
          go_wp2_with fail
          go_roundw
          case rel => exact ⟨j + 1, by omega, by first | go_num | simp, by rw [HSN.out]; simp, HK2.out⟩
          case measure => simp [intOf]; omega
        · have hjj : j = l.length := by omega
          subst hjj
          have hall : V.shL l d = true := by rw [List.take_of_length_le (Nat.le_refl _)] at hp; exact hp
          have HR := Lib.hid hall
          have HK := Lib.hid (kk (ka _ _) hk)
          clear hk hp hall
          go_wp2_with fail
          go_ret
          exact ⟨by rw [HR.out] <;> rfl, HK.out⟩
      | false =>
        have HR := Lib.hid (V.shL_stop l d j hp)
        have HK := Lib.hid (kk (ka _ _) hk)
        clear hk hp
        go_wp2_with fail
        go_ret
        exact ⟨by rw [HR.out] <;> rfl, HK.out⟩

set_option maxRecDepth 100000 in
set_option maxHeartbeats 8000000 in
theorem shaped_t2 (d : Nat) (hd : d ≤ 100) (n : Int) (s : ByteArray) (a : Option Addr) (cap : Nat) (l : List V) (w : World) (hs : s.size ≤ 9223372036854775807) (hin : (V.mk 2 n s a cap l).In w w.heap.size) (hn : n = 0) (hS : s = ⟨#[]⟩) (hc : l.length ≤ 8)
    (ih : ∀ (j : Nat) (x : V), l[j]? = some x → ∀ w1 : World, x.In w1 w1.heap.size → Calls Tryz.prog 94 #[.agg #[.int .i64 x.k, .int .i64 x.n, .string x.s, .slice x.a x.l.length x.cap], .int .i64 (d : Int)] w1 fun e w' => e = .returned (.bool (x.sh d)) ∧ Kp w1 w') :
    Calls Tryz.prog 94 #[.agg #[.int .i64 2, .int .i64 n, .string s, .slice a l.length cap], .int .i64 ((d : Int) + 1)] w fun e w' => e = .returned (.bool (V.shL l d)) ∧ Kp w w' := by
    have hlen := V.lenLe hin
    have hd0 : ((d : Int) + 1 == 0) = false := by rw [beq_eq_false_iff_ne]; omega
    have IH := Lib.hid ih
    have HIN := Lib.hid hin
    clear ih hin
    subst hn
    subst hS
    have HL := Lib.hid (fun w => lies_any 0 0 7 w)
    have HTX := Lib.hid (fun w => text_ref ⟨#[]⟩ (by decide) w)
    have hlc : decide ((l.length : Int) ≤ 8) = true := by simp; omega
    go_enter Tryz.func94, Tryz.ntmps94
    go_wp2_with (first | (go_at_call 42; refine (HL.out _).mono ?_; rintro e w1 ⟨rfl, rfl⟩) | (go_at_call 127; refine (HTX.out _).mono ?_; rintro e w1 ⟨rfl, rfl⟩))
    go_loopw [5, 6] (fun b i wr => ∃ j : Nat, j ≤ l.length ∧ i = .int .i64 j ∧ b = .bool (V.shL (l.take j) d) ∧ Kp (w.alloc (.cells #[.int .i64 2, .int .i64 0, .string ⟨#[]⟩, .slice a l.length cap] 24)) wr) (fun _ i _ => l.length - (intOf i).toNat)
    case atStart => exact ⟨0, Nat.zero_le _, rfl, by first | rfl | simp [V.shL, *], Below.refl _ _⟩
    case round =>
      obtain ⟨j, hj, rfl, rfl, hk⟩ := hrel
      obtain ⟨b0, b1, b2, b3, hz⟩ := box4 hk
      cases hp : V.shL (l.take j) d with
      | true =>
        by_cases hlt : j < l.length
        · obtain ⟨x, hx⟩ : ∃ x, l[j]? = some x := ⟨l[j], by simp [hlt]⟩
          obtain ⟨p0, off, rfl, hp0, q0, q1, q2, q3, hxin⟩ := V.atPart HIN.out hx
          have hkw := kk (ka _ _) hk
          have r0 := kc hkw q0
          have r1 := kc hkw q1
          have r2 := kc hkw q2
          have r3 := kc hkw q3
          have hih := IH.out j x hx wr (hxin.keep hkw.size hkw)
          have hsn := V.shL_snoc l d j x hx
          rw [hp] at hsn
          generalize x.sh d = bx at hih hsn
          generalize x.k = xk at *
          generalize x.n = xn at *
          generalize x.s = xs at *
          generalize x.a = xa at *
          generalize x.l.length = xl at *
          generalize x.cap = xc at *
          have HSN := Lib.hid hsn
          have HIH := Lib.hid hih
          have HK := Lib.hid hk
          clear hih hk hxin hx hkw q0 q1 q2 q3 hsn hp
          go_wp2_with fail
          refine HIH.out.mono ?_
          rintro e w2 ⟨rfl, hk2⟩
          have HK2 := Lib.hid (kk HK.out hk2)
          clear hk2
          go_wp2_with fail
          go_roundw
          case rel => exact ⟨j + 1, by omega, by first | go_num | simp, by rw [HSN.out]; simp, HK2.out⟩
          case measure => simp [intOf]; omega
        · have hjj : j = l.length := by omega
          subst hjj
          have hall : V.shL l d = true := by rw [List.take_of_length_le (Nat.le_refl _)] at hp; exact hp
          have HR := Lib.hid hall
          have HK := Lib.hid (kk (ka _ _) hk)
          clear hk hp hall
          go_wp2_with fail
          go_ret
          exact ⟨by rw [HR.out] <;> rfl, HK.out⟩
      | false =>
        have HR := Lib.hid (V.shL_stop l d j hp)
        have HK := Lib.hid (kk (ka _ _) hk)
        clear hk hp
        go_wp2_with fail
        go_ret
        exact ⟨by rw [HR.out] <;> rfl, HK.out⟩

set_option maxRecDepth 100000 in
set_option maxHeartbeats 8000000 in
theorem shaped_t3 (d : Nat) (hd : d ≤ 100) (n : Int) (s : ByteArray) (a : Option Addr) (cap : Nat) (l : List V) (w : World) (hs : s.size ≤ 9223372036854775807) (hin : (V.mk 3 n s a cap l).In w w.heap.size) (hA : (decide ((0 : Int) ≤ n) && decide (n ≤ 7)) = true) (hS : s = ⟨#[]⟩) (hc : l.length = 1)
    (ih : ∀ (j : Nat) (x : V), l[j]? = some x → ∀ w1 : World, x.In w1 w1.heap.size → Calls Tryz.prog 94 #[.agg #[.int .i64 x.k, .int .i64 x.n, .string x.s, .slice x.a x.l.length x.cap], .int .i64 (d : Int)] w1 fun e w' => e = .returned (.bool (x.sh d)) ∧ Kp w1 w') :
    Calls Tryz.prog 94 #[.agg #[.int .i64 3, .int .i64 n, .string s, .slice a l.length cap], .int .i64 ((d : Int) + 1)] w fun e w' => e = .returned (.bool (V.shL l d)) ∧ Kp w w' := by
    have hlen := V.lenLe hin
    have hd0 : ((d : Int) + 1 == 0) = false := by rw [beq_eq_false_iff_ne]; omega
    have IH := Lib.hid ih
    have HIN := Lib.hid hin
    clear ih hin
    subst hS
    have L := fun w => lies_any n 0 7 w
    simp only [hA] at L
    have HL := Lib.hid L
    have HTX := Lib.hid (fun w => text_ref ⟨#[]⟩ (by decide) w)
    clear L
    have hlc : ((l.length : Int) == 1) = true := by rw [beq_iff_eq]; omega
    clear hc
    go_enter Tryz.func94, Tryz.ntmps94
    go_wp2_with (first | (go_at_call 42; refine (HL.out _).mono ?_; rintro e w1 ⟨rfl, rfl⟩) | (go_at_call 127; refine (HTX.out _).mono ?_; rintro e w1 ⟨rfl, rfl⟩))
    go_loopw [5, 6] (fun b i wr => ∃ j : Nat, j ≤ l.length ∧ i = .int .i64 j ∧ b = .bool (V.shL (l.take j) d) ∧ Kp (w.alloc (.cells #[.int .i64 3, .int .i64 n, .string ⟨#[]⟩, .slice a l.length cap] 24)) wr) (fun _ i _ => l.length - (intOf i).toNat)
    case atStart => exact ⟨0, Nat.zero_le _, rfl, by first | rfl | simp [V.shL, *], Below.refl _ _⟩
    case round =>
      obtain ⟨j, hj, rfl, rfl, hk⟩ := hrel
      obtain ⟨b0, b1, b2, b3, hz⟩ := box4 hk
      cases hp : V.shL (l.take j) d with
      | true =>
        by_cases hlt : j < l.length
        · obtain ⟨x, hx⟩ : ∃ x, l[j]? = some x := ⟨l[j], by simp [hlt]⟩
          obtain ⟨p0, off, rfl, hp0, q0, q1, q2, q3, hxin⟩ := V.atPart HIN.out hx
          have hkw := kk (ka _ _) hk
          have r0 := kc hkw q0
          have r1 := kc hkw q1
          have r2 := kc hkw q2
          have r3 := kc hkw q3
          have hih := IH.out j x hx wr (hxin.keep hkw.size hkw)
          have hsn := V.shL_snoc l d j x hx
          rw [hp] at hsn
          generalize x.sh d = bx at hih hsn
          generalize x.k = xk at *
          generalize x.n = xn at *
          generalize x.s = xs at *
          generalize x.a = xa at *
          generalize x.l.length = xl at *
          generalize x.cap = xc at *
          have HSN := Lib.hid hsn
          have HIH := Lib.hid hih
          have HK := Lib.hid hk
          clear hih hk hxin hx hkw q0 q1 q2 q3 hsn hp
          go_wp2_with fail
          refine HIH.out.mono ?_
          rintro e w2 ⟨rfl, hk2⟩
          have HK2 := Lib.hid (kk HK.out hk2)
          clear hk2
          go_wp2_with fail
          go_roundw
          case rel => exact ⟨j + 1, by omega, by first | go_num | simp, by rw [HSN.out]; simp, HK2.out⟩
          case measure => simp [intOf]; omega
        · have hjj : j = l.length := by omega
          subst hjj
          have hall : V.shL l d = true := by rw [List.take_of_length_le (Nat.le_refl _)] at hp; exact hp
          have HR := Lib.hid hall
          have HK := Lib.hid (kk (ka _ _) hk)
          clear hk hp hall
          go_wp2_with fail
          go_ret
          exact ⟨by rw [HR.out] <;> rfl, HK.out⟩
      | false =>
        have HR := Lib.hid (V.shL_stop l d j hp)
        have HK := Lib.hid (kk (ka _ _) hk)
        clear hk hp
        go_wp2_with fail
        go_ret
        exact ⟨by rw [HR.out] <;> rfl, HK.out⟩

end Go.Proofs.YtkfmgafgokpjhaaGreatDoor

/-
  THE SPECIFICATION's shaped, whole; Valid.
-/
namespace Go.Proofs.YtkfmgafgokpjhaaGreatDoor
open Go.RowKit Go.Lib

theorem empty_of (s : ByteArray) (h : s.toList.isEmpty = true) : s = ⟨#[]⟩ := by
  rw [ByteArray.toList_eq] at h
  obtain ⟨⟨x⟩⟩ := s
  have : x = [] := List.isEmpty_iff.1 h
  rw [this]
theorem V.sizeLe {w : World} {B : Nat} {k n : Int} {s : ByteArray} {a : Option Addr} {cap : Nat} {l : List V} (hin : (V.mk k n s a cap l).In w B) : s.size ≤ 9223372036854775807 := by
  rw [V.In_def] at hin; have := hin.2.2.1; unfold maxLen at this; simp [V.s] at *; omega

set_option maxHeartbeats 2000000 in
/-- shaped: any value, any depth. -/
theorem shaped_ref : ∀ (N : Nat) (k n : Int) (s : ByteArray) (a : Option Addr) (cap : Nat) (l : List V) (d : Nat) (w : World), (V.mk k n s a cap l).rank ≤ N → d ≤ 100 → (V.mk k n s a cap l).In w w.heap.size →
    Calls Tryz.prog 94 #[.agg #[.int .i64 k, .int .i64 n, .string s, .slice a l.length cap], .int .i64 (d : Int)] w fun e w' => e = .returned (.bool ((V.mk k n s a cap l).sh d)) ∧ Kp w w' := by
  intro N
  induction N with
  | zero => intro k n s a cap l d w h; have := V.rank_pos (.mk k n s a cap l); omega
  | succ N ih =>
    intro k n s a cap l d w hN hd hin
    have hlen := V.lenLe hin
    have hs : s.size ≤ 9223372036854775807 := V.sizeLe hin
    cases d with
    | zero => exact shaped_zero k n s a cap l w
    | succ d =>
      have hd1 : d + 1 ≠ 0 := by omega
      have hih : ∀ (j : Nat) (x : V), l[j]? = some x → ∀ w1 : World, x.In w1 w1.heap.size → Calls Tryz.prog 94 #[.agg #[.int .i64 x.k, .int .i64 x.n, .string x.s, .slice x.a x.l.length x.cap], .int .i64 (d : Int)] w1 fun e w' => e = .returned (.bool (x.sh d)) ∧ Kp w1 w' := fun j x hx w1 hw => by
        have hr := V.rank_part (v := .mk k n s a cap l) (j := j) (x := x) hx
        cases x with
        | mk k' n' s' a' cap' l' => exact ih k' n' s' a' cap' l' d w1 (by omega) (by omega) hw
      have hsh : (V.mk k n s a cap l).sh (d + 1) = (fitsB k n s l.length && V.shL l d) := by simp [V.sh]
      rw [hsh]
      have hne : s.toList.isEmpty = false → (s.toList == ([] : List UInt8)) = false := fun h => by cases hl : s.toList with
        | nil => rw [hl] at h; cases h
        | cons _ _ => rfl
      have fin : ∀ {b : Bool}, fitsB k n s l.length = b → (b = false → Calls Tryz.prog 94 #[.agg #[.int .i64 k, .int .i64 n, .string s, .slice a l.length cap], .int .i64 ((d + 1 : Nat) : Int)] w fun e w' => e = .returned (.bool false) ∧ Kp w w') → (b = true → Calls Tryz.prog 94 #[.agg #[.int .i64 k, .int .i64 n, .string s, .slice a l.length cap], .int .i64 ((d + 1 : Nat) : Int)] w fun e w' => e = .returned (.bool (V.shL l d)) ∧ Kp w w') →
          Calls Tryz.prog 94 #[.agg #[.int .i64 k, .int .i64 n, .string s, .slice a l.length cap], .int .i64 ((d + 1 : Nat) : Int)] w fun e w' => e = .returned (.bool (fitsB k n s l.length && V.shL l d)) ∧ Kp w w' := by
        intro b hb hf ht
        rw [hb]
        cases b with
        | false => simpa using hf rfl
        | true => simpa using ht rfl
      by_cases h0 : k = 0
      · subst h0
        cases hA : (decide ((-2147483648 : Int) ≤ n) && decide (n ≤ 2147483647)) with
        | false => exact fin (b := false) (by simp [fitsB, wordB, ← Bool.and_assoc, hA]) (fun _ => shaped_f0a (d + 1) n s a cap l w hd1 hs hlen hA) (fun h => by cases h)
        | true =>
          cases hE : s.toList.isEmpty with
          | false => exact fin (b := false) (by simp [fitsB, wordB, hE]) (fun _ => shaped_f0b (d + 1) n s a cap l w hd1 hs hlen hA hE (hne hE)) (fun h => by cases h)
          | true =>
            by_cases hc : l.length = 0
            · exact fin (b := true) (by simp [fitsB, wordB, hE, hc]; simpa using hA) (fun h => by cases h) (fun _ => shaped_t0 d (by omega) n s a cap l w hs hin hA (empty_of s hE) hc hih)
            · exact fin (b := false) (by simp [fitsB, wordB, hc]) (fun _ => shaped_f0c (d + 1) n s a cap l w hd1 hs hlen hA (empty_of s hE) hc) (fun h => by cases h)
      by_cases h1 : k = 1
      · subst h1
        by_cases hn : n = 0
        · cases hB : textR s with
          | false => exact fin (b := false) (by simp only [textR] at hB; simp [fitsB, textB, hn, hB]) (fun _ => shaped_f1b (d + 1) n s a cap l w hd1 hs hlen hn hB) (fun h => by cases h)
          | true =>
            by_cases hc : l.length = 0
            · exact fin (b := true) (by simp only [textR] at hB; simp [fitsB, textB, hn, hc]; simpa using hB) (fun h => by cases h) (fun _ => shaped_t1 d (by omega) n s a cap l w hs hin hn hB hc hih)
            · exact fin (b := false) (by simp [fitsB, textB, hc]) (fun _ => shaped_f1c (d + 1) n s a cap l w hd1 hs hlen hn hB hc) (fun h => by cases h)
        · exact fin (b := false) (by simp [fitsB, textB, hn]) (fun _ => shaped_f1a (d + 1) n s a cap l w hd1 hs hlen hn) (fun h => by cases h)
      by_cases h2 : k = 2
      · subst h2
        by_cases hn : n = 0
        · cases hE : s.toList.isEmpty with
          | false => exact fin (b := false) (by simp [fitsB, tupleB, hE]) (fun _ => shaped_f2b (d + 1) n s a cap l w hd1 hs hlen hn hE (hne hE)) (fun h => by cases h)
          | true =>
            by_cases hc : l.length ≤ 8
            · exact fin (b := true) (by simp [fitsB, tupleB, hn, hE, hc]) (fun h => by cases h) (fun _ => shaped_t2 d (by omega) n s a cap l w hs hin hn (empty_of s hE) hc hih)
            · exact fin (b := false) (by simp [fitsB, tupleB, hc]) (fun _ => shaped_f2c (d + 1) n s a cap l w hd1 hs hlen hn (empty_of s hE) (by omega)) (fun h => by cases h)
        · exact fin (b := false) (by simp [fitsB, tupleB, hn]) (fun _ => shaped_f2a (d + 1) n s a cap l w hd1 hs hlen hn) (fun h => by cases h)
      by_cases h3 : k = 3
      · subst h3
        have h78 : decide (n < 8) = decide (n ≤ 7) := by rw [decide_eq_decide]; omega
        cases hA : (decide ((0 : Int) ≤ n) && decide (n ≤ 7)) with
        | false => exact fin (b := false) (by simp only [fitsB, taggedB, h78]; simp [← Bool.and_assoc, hA]) (fun _ => shaped_f3a (d + 1) n s a cap l w hd1 hs hlen hA) (fun h => by cases h)
        | true =>
          cases hE : s.toList.isEmpty with
          | false => exact fin (b := false) (by simp [fitsB, taggedB, hE]) (fun _ => shaped_f3b (d + 1) n s a cap l w hd1 hs hlen hA hE (hne hE)) (fun h => by cases h)
          | true =>
            by_cases hc : l.length = 1
            · exact fin (b := true) (by simp only [fitsB, taggedB, h78]; simp [hE, hc]; simpa using hA) (fun h => by cases h) (fun _ => shaped_t3 d (by omega) n s a cap l w hs hin hA (empty_of s hE) hc hih)
            · exact fin (b := false) (by simp [fitsB, taggedB, hc]) (fun _ => shaped_f3c (d + 1) n s a cap l w hd1 hs hlen hA (empty_of s hE) hc) (fun h => by cases h)
      exact fin (b := false) (by simp [fitsB, h0, h1, h2, h3]) (fun _ => shaped_fk k (d + 1) n s a cap l w hd1 hs hlen h0 h1 h2 h3) (fun h => by cases h)

end Go.Proofs.YtkfmgafgokpjhaaGreatDoor
