/-
  Proved: the statement ValueChecks (value.Type, Check, Is, Size and Least answer as the specification's do, and the chapter's examples hold, for every value and type), as its tied card says it, with no condition beyond the card's own.
  Part 8 of 9.
-/
import Derived.Test.YtbiljalhabnhlaaGreatDoorVc07
import Derived.Test.YtbiljalhabnhlaaGreatDoorVc01
import Derived.Laws.AppendOwn
import Derived.Test.YtbiljalhabnhlaaGreatDoorVc04
import Derived.OwnWalk
import Derived.Test.YtbiljalhabnhlaaGreatDoorVc06
import Derived.Deep.AppendLies
import Derived.Deep.RegionHeld3
import Derived.Test.YtbiljalhabnhlaaGreatDoorVc03
/-
  PLAIN MATHEMATICS, no Go: in which blocks a value lies; a value that a call has made.
-/
namespace Go.Proofs.YtbiljalhabnhlaaGreatDoor
open Go.RowKit

mutual
/-- Each list of a value lies in a block of which P holds. -/
def V.foot (P : Nat → Prop) : V → Prop
  | .mk _ _ _ a _ l => (l = [] ∨ ∃ b off, a = some ⟨b, off, none⟩ ∧ P b) ∧ V.footL P l
def V.footL (P : Nat → Prop) : List V → Prop
  | [] => True
  | x :: xs => x.foot P ∧ V.footL P xs
end

theorem V.footL_iff {P : Nat → Prop} {l : List V} : V.footL P l ↔ ∀ (j : Nat) (x : V), l[j]? = some x → x.foot P := by
  induction l with
  | nil => simp [V.footL]
  | cons y ys ih =>
    simp only [V.footL, ih]
    constructor
    · rintro ⟨h1, h2⟩ j x hj
      cases j with
      | zero => simp at hj; exact hj ▸ h1
      | succ j => exact h2 j x (by simpa using hj)
    · intro h
      exact ⟨h 0 y (by simp), fun j x hj => h (j + 1) x (by simpa using hj)⟩

mutual
theorem V.foot.mono {P Q : Nat → Prop} (h : ∀ b, P b → Q b) : ∀ (v : V), v.foot P → v.foot Q
  | .mk k n s a cap l, hv => by
    simp only [V.foot] at hv ⊢
    refine ⟨?_, V.footL.mono h l hv.2⟩
    rcases hv.1 with h1 | ⟨b, off, ha, hb⟩
    · exact .inl h1
    · exact .inr ⟨b, off, ha, h b hb⟩
theorem V.footL.mono {P Q : Nat → Prop} (h : ∀ b, P b → Q b) : ∀ (l : List V), V.footL P l → V.footL Q l
  | [], _ => trivial
  | x :: xs, hv => ⟨V.foot.mono h x hv.1, V.footL.mono h xs hv.2⟩
end

theorem At.move {w w' : World} {b off : Nat} {l : List V} (h : At w b off l) (k : w'.heap[b]? = w.heap[b]?) : At w' b off l := fun j x hj => by
  obtain ⟨h0, h1, h2, h3⟩ := h j x hj
  exact ⟨(World.cell?_of_block k).trans h0, (World.cell?_of_block k).trans h1, (World.cell?_of_block k).trans h2, (World.cell?_of_block k).trans h3⟩

mutual
/-- What memory holds is still held where the blocks in which it lies are as they were. -/
theorem V.In.move {w w' : World} {B C : Nat} {P : Nat → Prop} (hC : B ≤ C) (k : ∀ b, b < B → P b → w'.heap[b]? = w.heap[b]?) : ∀ (v : V), v.In w B → v.foot P → v.In w' C
  | .mk c n s a cap l, hv, hf => by
    simp only [V.In, V.foot] at hv hf ⊢
    obtain ⟨h1, h2, h3, h4, h5, h6, h7⟩ := hv
    refine ⟨h1, h2, h3, h4, h5, ?_, V.InL.move hC k l h7 hf.2⟩
    rcases hf.1 with h8 | ⟨b', off', ha', hp⟩
    · exact .inl h8
    · rcases h6 with h6 | ⟨b, off, ha, hb, hat⟩
      · exact .inl h6
      · refine .inr ⟨b, off, ha, by omega, hat.move (k b hb ?_)⟩
        rw [ha] at ha'
        cases ha'
        exact hp
theorem V.InL.move {w w' : World} {B C : Nat} {P : Nat → Prop} (hC : B ≤ C) (k : ∀ b, b < B → P b → w'.heap[b]? = w.heap[b]?) : ∀ (l : List V), V.InL w B l → V.footL P l → V.InL w' C l
  | [], _, _ => trivial
  | x :: xs, hv, hf => ⟨V.In.move hC k x hv.1 hf.1, V.InL.move hC k xs hv.2 hf.2⟩
end

/-- A call has made a value that is the same as y: it lies in new memory. -/
def Makes (w : World) (y : V) (e : Ending) (w' : World) : Prop :=
  ∃ x : V, e = .returned x.val ∧ x.In w' w'.heap.size ∧ x.foot (fun b => w.heap.size ≤ b) ∧ x.same y = true ∧ Kp w w'

/-- A call has made a value that is the same as y, and another number. -/
def Makes2 (w : World) (y : V) (c : Int) (e : Ending) (w' : World) : Prop :=
  ∃ x : V, e = .returned (.tuple #[x.val, .int .i64 c]) ∧ x.In w' w'.heap.size ∧ x.foot (fun b => w.heap.size ≤ b) ∧ x.same y = true ∧ Kp w w'

/-- A value without parts. -/
theorem V.foot_leaf {P : Nat → Prop} (k n : Int) (s : ByteArray) (a : Option Addr) (cap : Nat) : (V.mk k n s a cap []).foot P := by simp [V.foot, V.footL]

mutual
theorem V.same_refl : ∀ (v : V), v.same v = true
  | .mk k n s a cap l => by simp [V.same, V.sameL_refl l]
theorem V.sameL_refl : ∀ (l : List V), V.sameL l l = true
  | [] => by simp [V.sameL]
  | x :: xs => by simp [V.sameL, V.same_refl x, V.sameL_refl xs]
end
mutual
theorem V.same_symm : ∀ (v w : V), v.same w = true → w.same v = true
  | .mk k n s a cap l, .mk k' n' s' a' cap' l', h => by
    simp [V.same] at h ⊢
    exact ⟨h.1.symm, h.2.1.symm, h.2.2.1.symm, V.sameL_symm l l' h.2.2.2⟩
theorem V.sameL_symm : ∀ (l m : List V), V.sameL l m = true → V.sameL m l = true
  | [], [], _ => by simp [V.sameL]
  | [], _ :: _, h => by simp [V.sameL] at h
  | _ :: _, [], h => by simp [V.sameL] at h
  | x :: xs, y :: ys, h => by
    simp [V.sameL] at h ⊢
    exact ⟨V.same_symm x y h.1, V.sameL_symm xs ys h.2⟩
end
mutual
theorem V.same_trans : ∀ (u v w : V), u.same v = true → v.same w = true → u.same w = true
  | .mk k n s a cap l, .mk k' n' s' a' cap' l', .mk k2 n2 s2 a2 cap2 l2, h, h' => by
    simp [V.same] at h h' ⊢
    exact ⟨h.1.trans h'.1, h.2.1.trans h'.2.1, h.2.2.1.trans h'.2.2.1, V.sameL_trans l l' l2 h.2.2.2 h'.2.2.2⟩
theorem V.sameL_trans : ∀ (k l m : List V), V.sameL k l = true → V.sameL l m = true → V.sameL k m = true
  | [], [], [], _, _ => by simp [V.sameL]
  | [], [], _ :: _, _, h => by simp [V.sameL] at h
  | [], _ :: _, _, h, _ => by simp [V.sameL] at h
  | _ :: _, [], _, h, _ => by simp [V.sameL] at h
  | _ :: _, _ :: _, [], _, h => by simp [V.sameL] at h
  | x :: xs, y :: ys, z :: zs, h, h' => by
    simp [V.sameL] at h h' ⊢
    exact ⟨V.same_trans x y z h.1 h'.1, V.sameL_trans xs ys zs h.2 h'.2⟩
end

theorem V.sameL_snoc {l m : List V} {x y : V} (h : V.sameL l m = true) (hx : x.same y = true) : V.sameL (l ++ [x]) (m ++ [y]) = true := by
  induction l generalizing m with
  | nil => cases m with
    | nil => simp [V.sameL, hx]
    | cons _ _ => simp [V.sameL] at h
  | cons z zs ih => cases m with
    | nil => simp [V.sameL] at h
    | cons b bs =>
      simp [V.sameL] at h ⊢
      exact ⟨h.1, ih h.2⟩

theorem V.same_node {k n : Int} {s : ByteArray} {a a' : Option Addr} {cap cap' : Nat} {l m : List V} (h : V.sameL l m = true) : (V.mk k n s a cap l).same (.mk k n s a' cap' m) = true := by
  simp only [V.same, h]; simp
theorem V.sameL_one {x y : V} (h : x.same y = true) : V.sameL [x] [y] = true := by
  show (x.same y && V.sameL [] []) = true
  rw [h]; simp [V.sameL]

theorem V.InL_snoc {w : World} {B : Nat} {l : List V} {x : V} (h : V.InL w B l) (hx : x.In w B) : V.InL w B (l ++ [x]) := by
  induction l with
  | nil => exact ⟨hx, trivial⟩
  | cons z zs ih => exact ⟨h.1, ih h.2⟩
theorem V.footL_snoc {P : Nat → Prop} {l : List V} {x : V} (h : V.footL P l) (hx : x.foot P) : V.footL P (l ++ [x]) := by
  induction l with
  | nil => exact ⟨hx, trivial⟩
  | cons z zs ih => exact ⟨h.1, ih h.2⟩
theorem V.InL.keep {w w' : World} {B C : Nat} {l : List V} (h : V.InL w B l) (hC : B ≤ C) (k : Below B w w') : V.InL w' C l := by
  rw [V.InL_iff] at h ⊢
  exact fun j x hx => (h j x hx).keep hC k

/-- The four cells of a value, and those of a list. -/
def V.cells4 (x : V) : List Value := [.int .i64 x.k, .int .i64 x.n, .string x.s, .slice x.a x.l.length x.cap]
def cellsL (l : List V) : List Value := l.flatMap V.cells4

theorem cellsL_length (l : List V) : (cellsL l).length = l.length * 4 := by
  induction l with
  | nil => rfl
  | cons x xs ih => simp [cellsL, V.cells4] at ih ⊢; omega
theorem cellsL_snoc (l : List V) (x : V) : cellsL (l ++ [x]) = cellsL l ++ x.cells4 := by simp [cellsL]
theorem cellsL_at : ∀ (l : List V) (j : Nat) (x : V), l[j]? = some x → (cellsL l)[j * 4]? = some (.int .i64 x.k) ∧ (cellsL l)[j * 4 + 1]? = some (.int .i64 x.n) ∧ (cellsL l)[j * 4 + 2]? = some (.string x.s) ∧ (cellsL l)[j * 4 + 3]? = some (.slice x.a x.l.length x.cap)
  | [], j, x, h => by simp at h
  | y :: ys, 0, x, h => by simp at h; subst h; simp [cellsL, V.cells4]
  | y :: ys, j + 1, x, h => by
    have ih := cellsL_at ys j x (by simpa using h)
    have hc : cellsL (y :: ys) = .int .i64 y.k :: .int .i64 y.n :: .string y.s :: .slice y.a y.l.length y.cap :: cellsL ys := by simp [cellsL, V.cells4]
    rw [hc, show (j + 1) * 4 = j * 4 + 1 + 1 + 1 + 1 from by omega]
    simpa using ih

/-- A list of values that a row of the call's own holds. -/
theorem At.of_row {w : World} {base g n cap : Nat} {t : TypeId} {l : List V} (h : w.ownsRow base t 4 (.slice (some ⟨g, 0, none⟩) n cap) n (cellsL l)) : At w g 0 l := fun j x hj => by
  have hc := h.cells (g := g) rfl
  obtain ⟨h0, h1, h2, h3⟩ := cellsL_at l j x hj
  have ad : ∀ i, (⟨g, 0, none⟩ : Addr).add i = ⟨g, i, none⟩ := fun i => by unfold Addr.add; split <;> simp_all
  have c0 := hc _ _ h0
  have c1 := hc _ _ h1
  have c2 := hc _ _ h2
  have c3 := hc _ _ h3
  rw [ad] at c0 c1 c2 c3
  simpa using ⟨c0, c1, c2, c3⟩

/-- A row whose block is known whole. -/
theorem At.of_block {w : World} {g t : Nat} {fr : Nat × Nat} {cs : Array Value} {l : List V} (h : w.heap[g]? = some (.cells cs t fr)) (hc : cs.toList = cellsL l) : At w g 0 l := fun j x hj => by
  obtain ⟨h0, h1, h2, h3⟩ := cellsL_at l j x hj
  rw [← hc] at h0 h1 h2 h3
  simp only [Array.getElem?_toList] at h0 h1 h2 h3
  simp only [Nat.zero_add, World.cell?, h, h0, h1, h2, h3]
  simp

mutual
theorem V.In.foot_lt {w : World} {B : Nat} {P : Nat → Prop} : ∀ (v : V), v.In w B → v.foot P → v.foot (fun b => P b ∧ b < B)
  | .mk c n s a cap l, hv, hf => by
    simp only [V.In, V.foot] at hv hf ⊢
    obtain ⟨h1, h2, h3, h4, h5, h6, h7⟩ := hv
    refine ⟨?_, V.InL.foot_lt l h7 hf.2⟩
    rcases hf.1 with h8 | ⟨b', off', ha', hp⟩
    · exact .inl h8
    · rcases h6 with h6 | ⟨b, off, ha, hb, hat⟩
      · exact .inl h6
      · rw [ha] at ha'
        cases ha'
        exact .inr ⟨_, _, ha, hp, hb⟩
theorem V.InL.foot_lt {w : World} {B : Nat} {P : Nat → Prop} : ∀ (l : List V), V.InL w B l → V.footL P l → V.footL (fun b => P b ∧ b < B) l
  | [], _, _ => trivial
  | x :: xs, hv, hf => ⟨V.In.foot_lt x hv.1 hf.1, V.InL.foot_lt xs hv.2 hf.2⟩
end

theorem ownsRow_kp {w w' : World} {base size n : Nat} {e : TypeId} {v : Value} {xs : List Value} (h : w.ownsRow base e size v n xs) (k : Kp w w') : w'.ownsRow base e size v n xs := by
  refine ⟨h.1, ?_⟩
  rcases h.2 with hn | ⟨g, cap, cur, rfl, hb, hg, rest⟩
  · exact .inl hn
  · exact .inr ⟨g, cap, cur, rfl, hb, (k.block g (Array.getElem?_eq_some_iff.1 hg).1).trans hg, rest⟩
theorem ownsRow_set {w : World} {base size n b i : Nat} {e : TypeId} {v u : Value} {xs : List Value} (h : w.ownsRow base e size v n xs) (hb : b < base) : (w.setCell ⟨b, i, none⟩ u).ownsRow base e size v n xs := by
  refine ⟨h.1, ?_⟩
  rcases h.2 with hn | ⟨g, cap, cur, rfl, hbg, hg, rest⟩
  · exact .inl hn
  · exact .inr ⟨g, cap, cur, rfl, hbg, (Below.heap_setCell _ _ _ _ (by show g ≠ b; omega)).trans hg, rest⟩

/-- A tuple in the making in block vb: its parts vs (the same as ys) lie in a row of the call's own. -/
structure TupAt (w : World) (vb : Nat) (ys : List V) (sl : Value) (vs : List V) : Prop where
  box : w.heap[vb]? = some (.cells #[.int .i64 2, .int .i64 0, .string ⟨#[]⟩, sl] 24 (0, 0))
  own : w.ownsRow (vb + 1) 24 4 sl vs.length (cellsL vs)
  same : V.sameL vs ys = true
  hin : V.InL w w.heap.size vs
  foot : V.footL (fun b => vb < b ∧ sl.ownBlock ≠ some b) vs

theorem V.sameL_length : ∀ (l m : List V), V.sameL l m = true → l.length = m.length
  | [], [], _ => rfl
  | [], _ :: _, h => by simp [V.sameL] at h
  | _ :: _, [], h => by simp [V.sameL] at h
  | x :: xs, y :: ys, h => by simp [V.sameL] at h; simp [V.sameL_length xs ys h.2]

theorem TupAt.lt {w : World} {vb : Nat} {ys : List V} {sl : Value} {vs : List V} (h : TupAt w vb ys sl vs) : vb < w.heap.size := (Array.getElem?_eq_some_iff.1 h.box).1

theorem TupAt.kp {w w' : World} {vb : Nat} {ys : List V} {sl : Value} {vs : List V} (h : TupAt w vb ys sl vs) (k : Kp w w') : TupAt w' vb ys sl vs :=
  ⟨(k.block _ h.lt).trans h.box, ownsRow_kp h.own k, h.same, h.hin.keep k.size k, h.foot⟩

theorem TupAt.step {wr wz wc w2 : World} {vb g cap : Nat} {ys : List V} {sl : Value} {vs : List V} {z y : V} (h : TupAt wr vb ys sl vs) (hkz : Kp wr wz) (hz : z.In wz wz.heap.size) (hf : z.foot (fun b => wr.heap.size ≤ b)) (hs : z.same y = true)
    (hkc : Kp wz wc) (hown : w2.ownsRow (vb + 1) 24 4 (.slice (some ⟨g, 0, none⟩) (vs.length + 1) cap) (vs.length + 1) (cellsL vs ++ z.cells4)) (hg : wc.grownBy w2 sl.ownBlock) (hat : sl.ownBlock = some g ∨ g = wc.heap.size) :
    TupAt (w2.setCell ⟨vb, 3, none⟩ (.slice (some ⟨g, 0, none⟩) (vs.length + 1) cap)) vb (ys ++ [y]) (.slice (some ⟨g, 0, none⟩) (vs.length + 1) cap) (vs ++ [z]) := by
  have hvb := h.lt
  have hrow := h.own.lt
  have hkk := kk hkz hkc
  have hz1 := hkk.size
  have hz2 := hkc.size
  have hz3 : wc.heap.size ≤ w2.heap.size := by obtain ⟨_, _, _, h4, _⟩ := hg; exact h4
  have hz4 : w2.heap.size = (w2.setCell ⟨vb, 3, none⟩ (.slice (some ⟨g, 0, none⟩) (vs.length + 1) cap)).heap.size := by simp [World.setCell]
  have hvr : some vb ≠ sl.ownBlock := fun e => by have := (hrow vb e.symm).1; omega
  have hbox : w2.heap[vb]? = some (.cells #[.int .i64 2, .int .i64 0, .string ⟨#[]⟩, sl] 24 (0, 0)) := (hg.block vb (by omega) hvr).trans ((hkk.block _ hvb).trans h.box)
  have mv : ∀ b, b < wc.heap.size → (vb < b ∧ sl.ownBlock ≠ some b) → (w2.setCell ⟨vb, 3, none⟩ (.slice (some ⟨g, 0, none⟩) (vs.length + 1) cap)).heap[b]? = wc.heap[b]? := fun b hb hp =>
    (Below.heap_setCell _ _ _ _ (by show b ≠ vb; omega)).trans (hg.block b hb (Ne.symm hp.2))
  have hfz : z.foot (fun b => (wr.heap.size ≤ b) ∧ b < wz.heap.size) := V.In.foot_lt z hz hf
  have hfv : V.footL (fun b => (vb < b ∧ sl.ownBlock ≠ some b) ∧ b < wr.heap.size) vs := V.InL.foot_lt vs h.hin h.foot
  have hzp : z.foot (fun b => vb < b ∧ sl.ownBlock ≠ some b) := V.foot.mono (fun b hb => ⟨by omega, fun e => by have := (hrow b e).2; omega⟩) z hfz
  refine ⟨?_, ?_, V.sameL_snoc h.same hs, ?_, ?_⟩
  · have := heap_setCell_same w2 vb 3 _ _ (.slice (some ⟨g, 0, none⟩) (vs.length + 1) cap) hbox
    simpa using this
  · rw [cellsL_snoc, List.length_append]
    exact ownsRow_set hown (by omega)
  · rw [← hz4]
    refine V.InL_snoc (V.InL.move hz3 mv vs (h.hin.keep hz1 hkk) h.foot) (V.In.move hz3 mv z (hz.keep hz2 hkc) hzp)
  · refine V.footL_snoc (V.footL.mono (fun b hb => ⟨hb.1.1, ?_⟩) vs hfv) (V.foot.mono (fun b hb => ⟨by omega, ?_⟩) z hfz)
    · intro e
      have e' : g = b := by simpa [Value.ownBlock] using e
      subst e'
      rcases hat with h1 | h1
      · exact hb.1.2 h1
      · omega
    · intro e
      have e' : g = b := by simpa [Value.ownBlock] using e
      subst e'
      rcases hat with h1 | h1
      · have := (hrow g h1).2; omega
      · omega

/-- What has been made is a value. -/
theorem TupAt.value {w : World} {vb : Nat} {ys : List V} {sl : Value} {vs : List V} (h : TupAt w vb ys sl vs) : ∃ a cap, sl = .slice a vs.length cap ∧ (V.mk 2 0 ⟨#[]⟩ a cap vs).In w w.heap.size ∧ (V.mk 2 0 ⟨#[]⟩ a cap vs).foot (fun b => vb < b) := by
  have hft : V.footL (fun b => vb < b) vs := V.footL.mono (fun b hb => hb.1) vs h.foot
  rcases h.own.2 with ⟨hs, hn⟩ | ⟨g, cap, cur, hs, hb, hg, hnc, hcm, -, -⟩
  · have : vs = [] := List.length_eq_zero_iff.1 hn
    subst this
    refine ⟨none, 0, hs, ?_, V.foot_leaf _ _ _ _ _⟩
    simp [V.In, V.InL, I64]
    decide
  · refine ⟨some ⟨g, 0, none⟩, cap, hs, ?_, ?_⟩
    · simp only [V.In]
      have hrow := h.own
      rw [hs] at hrow
      exact ⟨by unfold I64; omega, by unfold I64; omega, by decide, hnc, hcm, .inr ⟨g, 0, rfl, (Array.getElem?_eq_some_iff.1 hg).1, At.of_row hrow⟩, h.hin⟩
    · simp only [V.foot]
      exact ⟨.inr ⟨g, 0, rfl, by omega⟩, hft⟩

theorem kp_grown {w wc w2 : World} {row : Option Nat} (h : Kp w wc) (hg : wc.grownBy w2 row) (hr : ∀ k, row = some k → w.heap.size ≤ k) : Kp w w2 := by
  have hsz := h.size
  obtain ⟨h1, h2, h3, h4, h5⟩ := hg
  obtain ⟨k1, k2, k3, k4, k5⟩ := h
  exact ⟨h1.trans k1, h2.trans k2, h3.trans k3, Nat.le_trans k4 h4, fun k hk => (h5 k (by omega) (fun e => by have := hr k e.symm; omega)).trans (k5 k hk)⟩

theorem step_block {wr wz wc w2 : World} {vb k i : Nat} {row : Option Nat} {o : Obj} {u : Value} (hk : Kp wr wz) (hc : Kp wz wc) (hg : wc.grownBy w2 row) (hrow : some k ≠ row) (hkv : k ≠ vb) (h : wr.heap[k]? = some o) : (w2.setCell ⟨vb, i, none⟩ u).heap[k]? = some o := by
  have hlt := (Array.getElem?_eq_some_iff.1 h).1
  have := (hk.trans (hc.mono hk.size)).size
  exact (Below.heap_setCell _ _ _ _ (by show k ≠ vb; exact hkv)).trans ((hg.block k (by omega) hrow).trans (((hk.trans (hc.mono hk.size)).block k hlt).trans h))

theorem I64.ofSmall {n : Int} (h : -2147483648 ≤ n) (h' : n ≤ 2147483648) : I64 n := by unfold I64; omega

mutual
/-- The least value of a type. -/
def T.lst : T → V
  | .mk k _ _ l => if k = 1 then .mk 1 0 ⟨#[]⟩ none 0 [] else if k = 2 then .mk 2 0 ⟨#[]⟩ none 0 (T.lstL l) else if k = 3 then .mk 3 0 ⟨#[]⟩ none 0 (T.lstH l) else .mk 0 (-2147483648) ⟨#[]⟩ none 0 []
def T.lstL : List T → List V
  | [] => []
  | x :: xs => x.lst :: T.lstL xs
def T.lstH : List T → List V
  | [] => []
  | x :: _ => [x.lst]
end

theorem lstL_length (l : List T) : (T.lstL l).length = l.length := by
  induction l with
  | nil => rfl
  | cons x xs ih => simp [T.lstL, ih]
theorem lstL_take (l : List T) (j : Nat) (x : T) (h : l[j]? = some x) : T.lstL (l.take (j + 1)) = T.lstL (l.take j) ++ [x.lst] := by
  induction l generalizing j with
  | nil => simp at h
  | cons y ys ih =>
    cases j with
    | zero => simp at h; subst h; simp [T.lstL]
    | succ j => have := ih j (by simpa using h); simp [T.lstL, this]

end Go.Proofs.YtbiljalhabnhlaaGreatDoor

/-
  THE PROGRAM's least, AT ANY VALID TYPE.
-/
namespace Go.Proofs.YtbiljalhabnhlaaGreatDoor
open Go.RowKit

theorem infoV : (Tryz.prog.info? 24).map (fun i => (i.zero, i.size, i.bytes)) = some (some (.agg #[.int .i64 0, .int .i64 0, .string ⟨#[]⟩, .slice none 0 0]), 4, 56) := by kernel_rfl

theorem grown_kp {w w' : World} (h : w.grownBy w' none) : Kp w w' := by
  obtain ⟨h1, h2, h3, h4, h5⟩ := h
  exact ⟨h1, h2, h3, h4, fun k hk => h5 k hk (by simp)⟩

theorem inLeaf {w : World} {B : Nat} (k n : Int) (s : ByteArray) (hk : I64 k) (hn : I64 n) (hs : s.size ≤ maxLen) : (V.mk k n s none 0 []).In w B := by
  simp [V.In, V.InL, hk, hn, hs]

theorem leastP_int (w : World) (a : Option Addr) (l c : Nat) :
    Calls Tryz.prog 54 #[.agg #[.int .i64 0, .slice a l c]] w (Makes w (.mk 0 (-2147483648) ⟨#[]⟩ none 0 [])) :=
  (least_int w a l c).mono fun _ _ ⟨he, hk⟩ => ⟨.mk 0 (-2147483648) ⟨#[]⟩ none 0 [], he, inLeaf _ _ _ (by unfold I64; omega) (by unfold I64; omega) (by decide), V.foot_leaf _ _ _ _ _, V.same_refl _, hk⟩

theorem leastP_text (w : World) (a : Option Addr) (l c : Nat) :
    Calls Tryz.prog 54 #[.agg #[.int .i64 1, .slice a l c]] w (Makes w (.mk 1 0 ⟨#[]⟩ none 0 [])) :=
  (least_text w a l c).mono fun _ _ ⟨he, hk⟩ => ⟨.mk 1 0 ⟨#[]⟩ none 0 [], he, inLeaf _ _ _ (by unfold I64; omega) (by unfold I64; omega) (by decide), V.foot_leaf _ _ _ _ _, V.same_refl _, hk⟩

set_option maxRecDepth 100000 in
set_option maxHeartbeats 4000000 in
theorem leastP_sum (g off l c : Nat) (x : T) (w : World) (x1 : w.cell? ⟨g, off, none⟩ = some (.int .i64 x.k)) (x2 : w.cell? ⟨g, off + 1, none⟩ = some (.slice x.a x.l.length x.cap)) (hx : x.In w w.heap.size)
    (ih : ∀ w1 : World, x.In w1 w1.heap.size → Calls Tryz.prog 54 #[.agg #[.int .i64 x.k, .slice x.a x.l.length x.cap]] w1 (Makes w1 x.lst)) :
    Calls Tryz.prog 54 #[.agg #[.int .i64 3, .slice (some ⟨g, off, none⟩) (l + 1) c]] w (Makes w (.mk 3 0 ⟨#[]⟩ none 0 [x.lst])) := by
  have hg := World.block_lt_of_cell? w _ x1
  have C := fun w1 (h : Kp w w1) => ih w1 (hx.keep h.size h)
  generalize x.lst = y at C ⊢
  generalize x.k = xk at *
  generalize x.a = xa at *
  generalize x.l.length = xl at *
  generalize x.cap = xc at *
  have HC := Lib.hid C
  clear C ih hx
  go_enter Tryz.func54, Tryz.ntmps54
  go_wp2_with fail
  refine (HC.out _ (kk (ka _ _) (ka _ _))).mono ?_
  rintro e w1 ⟨z, rfl, hzi, hzf, hzs, hk1⟩
  have hz1 := hk1.size
  simp at hz1
  have hblk : w1.heap[w.heap.size + 1]? = some (.cells zero4 24 (0, 0)) := (hk1.block _ (by simp)).trans (blockHere (by simp))
  obtain ⟨c0, c1, c2, c3, f0, f1, f2, f3⟩ := cell4 hblk
  have HB := Lib.hid hblk
  have HK1 := Lib.hid (kk (kk (ka _ _) (ka _ _)) hk1)
  have hzf2 : z.foot (fun b => w.heap.size + 2 ≤ b) := V.foot.mono (fun b hb => by simp at hb; omega) z hzf
  have HZI := Lib.hid hzi
  have HZF := Lib.hid hzf2
  have HZS := Lib.hid hzs
  clear hk1 hblk hzi hzf hzf2 hzs
  cases z with
  | mk k n s a cap zl =>
  simp only [V.val_mk]
  go_wp2_with fail
  refine (together_one _ w1.heap.size 0 1 (.int .i64 k) (.int .i64 n) (.string s) (.slice a zl.length cap) (here rfl rfl) (here rfl rfl) (here rfl rfl) (here rfl rfl) (by simp [Value.oneCell'])).mono ?_
  rintro e w2 ⟨q, rfl, hq, hqb, hk2⟩
  simp at hq
  have hblk := ((kk (ka _ _) hk2).block _ (lt_of_block HB.out)).trans HB.out
  obtain ⟨d0, d1, d2, d3, g0, g1, g2, g3⟩ := cell4 hblk
  have HB2 := Lib.hid hblk
  have hk12 := kk (ka _ _) hk2
  have HK2 := Lib.hid (kk HK1.out hk12)
  have HQ := Lib.hid hqb
  have HZ2 := Lib.hid (HZI.out.keep hk12.size hk12)
  clear hk2 hk12 hblk hqb c0 c1 c2 c3 f0 f1 f2 f3
  go_wp2_with fail
  obtain ⟨e0, e1, e2, e3, -⟩ := cell4 (put4_block (v0 := .int .i64 3) (v1 := .int .i64 0) (v2 := .string ⟨#[]⟩) (v3 := .slice (some ⟨q, 0, none⟩) 1 1) HB2.out)
  refine bodyPost_ret (v := .agg #[.int .i64 3, .int .i64 0, .string ⟨#[]⟩, .slice (some ⟨q, 0, none⟩) 1 1]) (by simp [results, Tryz.results54, go_sem, e0, e1, e2, e3]) rfl ?_
  have hqs := lt_of_block HQ.out
  have hmv : ∀ b, b < w2.heap.size → w.heap.size + 2 ≤ b → (put4 w2 (w.heap.size + 1) (.int .i64 3) (.int .i64 0) (.string ⟨#[]⟩) (.slice (some ⟨q, 0, none⟩) 1 1)).heap[b]? = w2.heap[b]? := fun b _ hb => put4_other (by omega)
  have hS : (put4 w2 (w.heap.size + 1) (.int .i64 3) (.int .i64 0) (.string ⟨#[]⟩) (.slice (some ⟨q, 0, none⟩) 1 1)).heap.size = w2.heap.size := by simp [World.setCell]
  refine ⟨.mk 3 0 ⟨#[]⟩ (some ⟨q, 0, none⟩) 1 [.mk k n s a cap zl], rfl, ?_, ?_, ?_, put4_kp HK2.out (by omega)⟩
  · rw [hS]
    simp only [V.In, V.InL]
    refine ⟨by unfold I64; omega, by unfold I64; omega, by decide, Nat.le_refl _, by decide, .inr ⟨q, 0, rfl, hqs, ?_⟩, ?_, trivial⟩
    · exact At.of_block ((hmv q hqs (by omega)).trans HQ.out) rfl
    · exact V.In.move (Nat.le_refl _) hmv _ HZ2.out HZF.out
  · simp only [V.foot, V.footL]
    exact ⟨.inr ⟨q, 0, rfl, by omega⟩, V.foot.mono (fun b hb => by omega) _ HZF.out, trivial⟩
  · exact V.same_node (V.sameL_one HZS.out)

/-- A row of l.length values in block g, of which the first j have been stored: vs, the least values of l's first j types. -/
structure RowAt (w : World) (g : Nat) (l : List T) (j : Nat) (cs : Array Value) (vs : List V) : Prop where
  blk : w.heap[g]? = some (.cells cs 24 (0, 0))
  size : cs.size = l.length * 4
  take : cs.toList.take (j * 4) = cellsL vs
  same : V.sameL vs (T.lstL (l.take j)) = true
  hin : V.InL w w.heap.size vs
  foot : V.footL (fun b => g < b) vs

/-- Four cells of a row turned. -/
theorem take_put4 {cs : Array Value} {j n : Nat} {v0 v1 v2 v3 : Value} (hs : cs.size = n * 4) (hj : j < n) :
    ((((cs.setIfInBounds (j * 4) v0).setIfInBounds (j * 4 + 1) v1).setIfInBounds (j * 4 + 2) v2).setIfInBounds (j * 4 + 3) v3).toList.take ((j + 1) * 4) = cs.toList.take (j * 4) ++ [v0, v1, v2, v3] := by
  apply List.ext_getElem?
  intro i
  simp only [Array.toList_setIfInBounds, List.getElem?_take, List.getElem?_set, List.getElem?_append, List.length_take, Array.length_toList, List.length_set]
  have hmin : min (j * 4) cs.size = j * 4 := by omega
  rw [hmin]
  by_cases h0 : i < j * 4
  · have h1 : i < (j + 1) * 4 := by omega
    simp [h0, h1, show ¬ j * 4 + 3 = i from by omega, show ¬ j * 4 + 2 = i from by omega, show ¬ j * 4 + 1 = i from by omega, show ¬ j * 4 = i from by omega]
  · by_cases h1 : i < (j + 1) * 4
    · obtain ⟨r, hr, hr4⟩ : ∃ r, i = j * 4 + r ∧ r < 4 := ⟨i - j * 4, by omega, by omega⟩
      subst hr
      have : r = 0 ∨ r = 1 ∨ r = 2 ∨ r = 3 := by omega
      rcases this with rfl | rfl | rfl | rfl
      · simp [show (0 : Nat) < 4 from by omega, show j * 4 < (j + 1) * 4 from by omega, show j * 4 < cs.size from by omega]
      · simp [h1, show j * 4 + 1 < cs.size from by omega]
        intro h; omega
      · simp [h1, show j * 4 + 2 < cs.size from by omega]
        intro h; omega
      · simp [h1, show j * 4 + 3 < cs.size from by omega]
        intro h; omega
    · simp [h0, h1]
      omega

theorem RowAt.step {w w2 : World} {g j : Nat} {l : List T} {cs : Array Value} {vs : List V} {z y : V} (h : RowAt w g l j cs vs) (hj : j < l.length) (hg : g < w.heap.size) (hk : Kp w w2) (hz : z.In w2 w2.heap.size)
    (hf : z.foot (fun b => w.heap.size ≤ b)) (hs : z.same y = true) (htk : T.lstL (l.take (j + 1)) = T.lstL (l.take j) ++ [y]) :
    RowAt (putAt w2 g (j * 4) (.int .i64 z.k) (.int .i64 z.n) (.string z.s) (.slice z.a z.l.length z.cap)) g l (j + 1)
      ((((cs.setIfInBounds (j * 4) (.int .i64 z.k)).setIfInBounds (j * 4 + 1) (.int .i64 z.n)).setIfInBounds (j * 4 + 2) (.string z.s)).setIfInBounds (j * 4 + 3) (.slice z.a z.l.length z.cap)) (vs ++ [z]) := by
  have hS : (putAt w2 g (j * 4) (.int .i64 z.k) (.int .i64 z.n) (.string z.s) (.slice z.a z.l.length z.cap)).heap.size = w2.heap.size := by simp [World.setCell]
  have hmv : ∀ b, b < w2.heap.size → g < b → (putAt w2 g (j * 4) (.int .i64 z.k) (.int .i64 z.n) (.string z.s) (.slice z.a z.l.length z.cap)).heap[b]? = w2.heap[b]? := fun b _ hb => putAt_other (by omega)
  refine ⟨putAt_block ((hk.block _ hg).trans h.blk), by simp [h.size], ?_, ?_, ?_, ?_⟩
  · rw [take_put4 h.size hj, h.take, cellsL_snoc]; rfl
  · rw [htk]; exact V.sameL_snoc h.same hs
  · rw [hS]
    exact V.InL_snoc (V.InL.move (Nat.le_refl _) hmv _ (h.hin.keep hk.size hk) h.foot) (V.In.move (Nat.le_refl _) hmv _ hz (V.foot.mono (fun b hb => by omega) _ hf))
  · exact V.footL_snoc h.foot (V.foot.mono (fun b hb => by omega) _ hf)

set_option maxRecDepth 100000 in
set_option maxHeartbeats 8000000 in
theorem leastP_tuple (a : Option Addr) (cap : Nat) (l : List T) (w : World) (hin : (T.mk 2 a cap l).In w w.heap.size) (hl8 : l.length ≤ 8)
    (ih : ∀ (j : Nat) (x : T), l[j]? = some x → ∀ w1 : World, x.In w1 w1.heap.size → Calls Tryz.prog 54 #[.agg #[.int .i64 x.k, .slice x.a x.l.length x.cap]] w1 (Makes w1 x.lst)) :
    Calls Tryz.prog 54 #[.agg #[.int .i64 2, .slice a l.length cap]] w (Makes w (.mk 2 0 ⟨#[]⟩ none 0 (T.lstL l))) := by
  obtain ⟨i0, hi, hz0, hz1, hz2⟩ := info_parts infoV
  have HIN := Lib.hid hin
  have IH := Lib.hid ih
  clear hin ih
  go_enter Tryz.func54, Tryz.ntmps54
  go_wp2_with (refine wpList_make_full _ rfl _ _ 22 rfl 0 24 i0 _ 4 Tryz.underlying22 hi hz0 hz1 .i64 .i64 _ _ l.length rfl rfl rfl rfl ?c1 ?c2 ?c3 ?_)
  case c1 => rw [hz2]; omega
  case c2 => unfold maxLen; omega
  case c3 => omega
  intro w1 hown hgrow
  obtain ⟨cs, hblk, hcs⟩ : ∃ cs : Array Value, w1.heap[w.heap.size + 1 + 1]? = some (.cells cs 24 (0, 0)) ∧ cs.size = l.length * 4 := by
    rcases hown.2 with ⟨h, -⟩ | ⟨g, cap', cur, hv, -, hg, -, -, hsz, -⟩
    · cases h
    · cases hv; exact ⟨cur, hg, hsz⟩
  have hk1 : Kp w w1 := kk (kk (ka _ _) (ka _ _)) (grown_kp hgrow)
  have hbox : w1.heap[w.heap.size]? = some (.cells #[.int .i64 2, .slice a l.length cap] 27 (0, 0)) := ((grown_kp hgrow).block _ (by simp; omega)).trans (blockPast (blockHere rfl))
  have hres : w1.heap[w.heap.size + 1]? = some (.cells zero4 24 (0, 0)) := ((grown_kp hgrow).block _ (by simp)).trans (blockHere (by simp))
  have hzw := lt_of_block hblk
  have b0 := cellOf (i := 0) hbox rfl
  have b1 := cellOf (i := 1) hbox rfl
  have HB := Lib.hid hblk
  have HBX := Lib.hid hbox
  have HRS := Lib.hid hres
  have HK1 := Lib.hid hk1
  have HCS := Lib.hid hcs
  clear hblk hbox hres hk1 hcs hown hgrow hz0 hz1 hz2 hi
  generalize hg : w.heap.size + 1 + 1 = g at *
  go_wp2_with fail
  go_loopw [20] (fun i wr => ∃ (j : Nat) (cs : Array Value) (vs : List V), j ≤ l.length ∧ i = .int .i64 j ∧ RowAt wr g l j cs vs ∧ Kp w wr ∧ wr.heap[w.heap.size]? = some (.cells #[.int .i64 2, .slice a l.length cap] 27 (0, 0)) ∧ wr.heap[w.heap.size + 1]? = some (.cells zero4 24 (0, 0))) (fun i _ => l.length - (intOf i).toNat)
  case atStart => exact ⟨0, cs, [], Nat.zero_le _, rfl, ⟨HB.out, HCS.out, by simp [cellsL], by simp [T.lstL, V.sameL], trivial, trivial⟩, HK1.out, HBX.out, HRS.out⟩
  case round =>
    obtain ⟨j, cs, vs, hj, rfl, hrow, hk, hbox, hres⟩ := hrel
    by_cases hlt : j < l.length
    · obtain ⟨x, hx⟩ : ∃ x, l[j]? = some x := ⟨l[j], by simp [hlt]⟩
      obtain ⟨p0, off, rfl, hp0, q0, q1, hxin⟩ := T.atPart HIN.out hx
      have r0 := kc hk q0
      have r1 := kc hk q1
      have g0 : (0 : Int) ≤ (j : Int) := by omega
      have g1 : (j : Int) < (l.length : Int) := by omega
      have hih := fun (w1 : World) (h : Kp wr w1) => IH.out j x hx w1 (hxin.keep (kk hk h).size (kk hk h))
      have htk := lstL_take l j x hx
      generalize x.lst = y at *
      generalize x.k = xk at *
      generalize x.a = xa at *
      generalize x.l.length = xl at *
      generalize x.cap = xc at *
      have HIH := Lib.hid hih
      have HTK := Lib.hid htk
      have HROW := Lib.hid hrow
      have HK := Lib.hid hk
      have HBX2 := Lib.hid hbox
      have HRS2 := Lib.hid hres
      clear hih htk hrow hk hbox hres hx hxin q0 q1
      go_wp2_with fail
      have hgl := lt_of_block HROW.out.blk
      have hsz := HROW.out.size
      refine (HIH.out _ (ka _ _)).mono ?_
      rintro e w2 ⟨z, rfl, hzi, hzf, hzs, hk2⟩
      have hk2' := kk (ka _ _) hk2
      have hst := HROW.out.step hlt hgl hk2' hzi (V.foot.mono (fun b hb => by simp at hb; omega) z hzf) hzs HTK.out
      have hb2 := (hk2'.block _ hgl).trans HROW.out.blk
      obtain ⟨u0, hu0⟩ : ∃ u, cs[j * 4]? = some u := ⟨cs[j * 4]'(by omega), by simp⟩
      obtain ⟨u1, hu1⟩ : ∃ u, cs[j * 4 + 1]? = some u := ⟨cs[j * 4 + 1]'(by omega), by simp⟩
      obtain ⟨u2, hu2⟩ : ∃ u, cs[j * 4 + 2]? = some u := ⟨cs[j * 4 + 2]'(by omega), by simp⟩
      obtain ⟨u3, hu3⟩ : ∃ u, cs[j * 4 + 3]? = some u := ⟨cs[j * 4 + 3]'(by omega), by simp⟩
      have m0 := cellOf hb2 hu0
      have m1 := cellOf hb2 hu1
      have m2 := cellOf hb2 hu2
      have m3 := cellOf hb2 hu3
      have n0 := freeOf (i := j * 4) hb2
      have n1 := freeOf (i := j * 4 + 1) hb2
      have n2 := freeOf (i := j * 4 + 2) hb2
      have n3 := freeOf (i := j * 4 + 3) hb2
      have HST := Lib.hid hst
      have HK2 := Lib.hid (kk HK.out hk2')
      have HBX3 := Lib.hid ((hk2'.block _ (lt_of_block HBX2.out)).trans HBX2.out)
      have HRS3 := Lib.hid ((hk2'.block _ (lt_of_block HRS2.out)).trans HRS2.out)
      clear hst hk2 hk2' hzi hzf hzs hb2 hu0 hu1 hu2 hu3 r0 r1
      cases z with
      | mk k n s za zc zl =>
      simp only [V.val_mk]
      go_wp2_with fail
      go_roundw
      case rel => exact ⟨j + 1, _, _, by omega, by first | go_num | simp, HST.out, putAt_kp HK2.out (by omega), (putAt_other (by omega)).trans HBX3.out, (putAt_other (by omega)).trans HRS3.out⟩
      case measure => simp [intOf]; omega
    · have hjj : j = l.length := by omega
      subst hjj
      obtain ⟨d0, d1, d2, d3, f0, f1, f2, f3⟩ := cell4 hres
      have HROW := Lib.hid hrow
      have HK := Lib.hid hk
      have HRS2 := Lib.hid hres
      clear hrow hk hbox hres
      go_wp2_with fail
      obtain ⟨e0, e1, e2, e3, -⟩ := cell4 (put4_block (v0 := .int .i64 2) (v1 := .int .i64 0) (v2 := .string ⟨#[]⟩) (v3 := .slice (some ⟨g, 0, none⟩) l.length l.length) HRS2.out)
      refine bodyPost_ret (v := .agg #[.int .i64 2, .int .i64 0, .string ⟨#[]⟩, .slice (some ⟨g, 0, none⟩) l.length l.length]) (by simp [results, Tryz.results54, go_sem, e0, e1, e2, e3]) rfl ?_
      obtain ⟨hb, hsz, htk, hsm, hvi, hvf⟩ := HROW.out
      rw [List.take_of_length_le (Nat.le_refl _)] at hsm
      have hcl : cs.toList.length = l.length * 4 := (Array.length_toList (xs := cs)).trans hsz
      have hlen : vs.length = l.length := by
        have := congrArg List.length htk
        rw [cellsL_length, List.length_take, hcl, Nat.min_self] at this
        omega
      rw [← hlen]
      have hmv : ∀ b, b < wr.heap.size → g ≤ b → (put4 wr (w.heap.size + 1) (.int .i64 2) (.int .i64 0) (.string ⟨#[]⟩) (.slice (some ⟨g, 0, none⟩) vs.length vs.length)).heap[b]? = wr.heap[b]? := fun b _ hb => put4_other (by omega)
      have hS : (put4 wr (w.heap.size + 1) (.int .i64 2) (.int .i64 0) (.string ⟨#[]⟩) (.slice (some ⟨g, 0, none⟩) vs.length vs.length)).heap.size = wr.heap.size := by simp [World.setCell]
      refine ⟨.mk 2 0 ⟨#[]⟩ (some ⟨g, 0, none⟩) vs.length vs, rfl, ?_, ?_, V.same_node hsm, put4_kp HK.out (by omega)⟩
      · rw [hS]
        simp only [V.In]
        refine ⟨by unfold I64; omega, by unfold I64; omega, by decide, Nat.le_refl _, by unfold maxLen; omega, .inr ⟨g, 0, rfl, lt_of_block hb, ?_⟩, V.InL.move (Nat.le_refl _) (fun b h1 h2 => hmv b h1 (Nat.le_of_lt h2)) _ hvi hvf⟩
        refine At.of_block ((hmv g (lt_of_block hb) (Nat.le_refl _)).trans hb) ?_
        rw [← htk]
        exact (List.take_of_length_le (l := cs.toList) (i := l.length * 4) (Nat.le_of_eq hcl)).symm
      · simp only [V.foot]
        exact ⟨.inr ⟨g, 0, rfl, by omega⟩, V.footL.mono (fun b hb => by omega) _ hvf⟩

set_option maxHeartbeats 1000000 in
theorem leastP : ∀ (N : Nat) (t : T) (d : Nat) (w : World), t.rank ≤ N → t.sh d = true → t.In w w.heap.size →
    Calls Tryz.prog 54 #[.agg #[.int .i64 t.k, .slice t.a t.l.length t.cap]] w (Makes w t.lst) := by
  intro N
  induction N with
  | zero => intro t d w h; have := t.rank_pos; omega
  | succ N ih =>
    intro t d w hN ht hin
    cases t with
    | mk k a cap l =>
    cases d with
    | zero => simp [T.sh] at ht
    | succ d =>
    simp [T.sh] at ht
    obtain ⟨hf, hp⟩ := ht
    have hih : ∀ (j : Nat) (x : T), l[j]? = some x → ∀ w1 : World, x.In w1 w1.heap.size → Calls Tryz.prog 54 #[.agg #[.int .i64 x.k, .slice x.a x.l.length x.cap]] w1 (Makes w1 x.lst) := fun j x hx w1 h1 =>
      ih x d w1 (by have := T.rank_part (v := .mk k a cap l) (j := j) (x := x) hx; omega) (shLT_at hp hx) h1
    show Calls Tryz.prog 54 #[.agg #[.int .i64 k, .slice a l.length cap]] w _
    by_cases h0 : k = 0
    · subst h0; simp [T.lst]; exact leastP_int w a l.length cap
    by_cases h1 : k = 1
    · subst h1; simp [T.lst]; exact leastP_text w a l.length cap
    by_cases h2 : k = 2
    · subst h2; simp [T.lst]
      exact leastP_tuple a cap l w hin (by simp [fitsT] at hf; exact hf) hih
    by_cases h3 : k = 3
    · subst h3
      have hl : 0 < l.length := by simp [fitsT] at hf; exact hf.1
      cases l with
      | nil => simp at hl
      | cons x xs =>
        simp [T.lst, T.lstH]
        obtain ⟨p0, off, rfl, hp0, q0, q1, hxin⟩ := T.atPart hin (j := 0) (x := x) rfl
        exact leastP_sum p0 off xs.length cap x w (by simpa using q0) (by simpa using q1) hxin (fun w1 h1 => hih 0 x rfl w1 h1)
    · simp [fitsT, h0, h1, h2, h3] at hf

end Go.Proofs.YtbiljalhabnhlaaGreatDoor

/-
  THE VALUES THAT THE STATEMENTS MAKE: Int, Text, Tuple, Tag; sample, kind.
-/
namespace Go.Proofs.YtbiljalhabnhlaaGreatDoor
open Go.RowKit

set_option maxHeartbeats 400000 in
theorem int_any (n : Int) (w : World) : Calls Tryz.prog 46 #[.int .i64 n] w fun e w' => e = .returned (.agg #[.int .i64 0, .int .i64 n, .string ⟨#[]⟩, .slice none 0 0]) ∧ Kp w w' := by
  go_enter Tryz.func46, Tryz.ntmps46
  go_wp2_with fail
  exact bodyPost_ret (v := .agg #[.int .i64 0, .int .i64 n, .string ⟨#[]⟩, .slice none 0 0]) (by simp [results, Tryz.results46, go_sem]) rfl ⟨rfl, ka _ _⟩

set_option maxHeartbeats 400000 in
theorem text_any (s : ByteArray) (w : World) : Calls Tryz.prog 47 #[.string s] w fun e w' => e = .returned (.agg #[.int .i64 1, .int .i64 0, .string s, .slice none 0 0]) ∧ Kp w w' := by
  go_enter Tryz.func47, Tryz.ntmps47
  go_wp2_with fail
  exact bodyPost_ret (v := .agg #[.int .i64 1, .int .i64 0, .string s, .slice none 0 0]) (by simp [results, Tryz.results47, go_sem]) rfl ⟨rfl, ka _ _⟩

set_option maxHeartbeats 400000 in
theorem tuple_any (a : Option Addr) (l c : Nat) (w : World) : Calls Tryz.prog 41 #[.slice a l c] w fun e w' => e = .returned (.agg #[.int .i64 2, .int .i64 0, .string ⟨#[]⟩, .slice a l c]) ∧ Kp w w' := by
  go_enter Tryz.func41, Tryz.ntmps41
  go_wp2_with fail
  exact bodyPost_ret (v := .agg #[.int .i64 2, .int .i64 0, .string ⟨#[]⟩, .slice a l c]) (by simp [results, Tryz.results41, go_sem]) rfl ⟨rfl, ka _ _⟩

set_option maxRecDepth 100000 in
set_option maxHeartbeats 1000000 in
theorem tag_any (i k n : Int) (s : ByteArray) (a : Option Addr) (l c : Nat) (w : World) : Calls Tryz.prog 44 #[.int .i64 i, .agg #[.int .i64 k, .int .i64 n, .string s, .slice a l c]] w fun e w' =>
    ∃ q, e = .returned (.agg #[.int .i64 3, .int .i64 i, .string ⟨#[]⟩, .slice (some ⟨q, 0, none⟩) 1 1]) ∧ w'.heap[q]? = some (.cells #[.int .i64 k, .int .i64 n, .string s, .slice a l c] 24 (0, 0)) ∧ w.heap.size ≤ q ∧ Kp w w' := by
  go_enter Tryz.func44, Tryz.ntmps44
  go_wp2_with fail
  exact bodyPost_ret (v := .agg #[.int .i64 3, .int .i64 i, .string ⟨#[]⟩, .slice (some ⟨w.heap.size + 1 + 1, 0, none⟩) 1 1]) (by simp [results, Tryz.results44, go_sem]) rfl
    ⟨_, rfl, blockHere (by simp), by omega, kk (kk (ka _ _) (ka _ _)) (ka _ _)⟩

/-- The sample's parts, and the tag's. -/
abbrev sampleTag : Array Value := #[.int .i64 0, .int .i64 0, .string ⟨#[]⟩, .slice none 0 0]
abbrev sampleCells (r : Nat) : Array Value := #[.int .i64 0, .int .i64 (-3), .string ⟨#[]⟩, .slice none 0 0, .int .i64 1, .int .i64 0, .string ⟨#[97, 34, 98]⟩, .slice none 0 0, .int .i64 2, .int .i64 0, .string ⟨#[]⟩, .slice none 0 0, .int .i64 3, .int .i64 2, .string ⟨#[]⟩, .slice (some ⟨r, 0, none⟩) 1 1]

set_option maxRecDepth 100000 in
set_option maxHeartbeats 2000000 in
theorem sample_any (w : World) : Calls Tryz.prog 64 #[] w fun e w' =>
    ∃ q r, e = .returned (.agg #[.int .i64 2, .int .i64 0, .string ⟨#[]⟩, .slice (some ⟨q, 0, none⟩) 4 4]) ∧ w'.heap[q]? = some (.cells (sampleCells r) 24 (0, 0)) ∧ w'.heap[r]? = some (.cells sampleTag 24 (0, 0)) ∧ w.heap.size ≤ q ∧ w.heap.size ≤ r ∧ Kp w w' := by
  go_enter Tryz.func64, Tryz.ntmps64
  go_wp2_with fail
  refine (int_any _ _).mono ?_
  rintro e w1 ⟨rfl, hk1⟩
  have HK1 := Lib.hid hk1
  clear hk1
  go_wp2_with fail
  refine (text_any _ _).mono ?_
  rintro e w2 ⟨rfl, hk2⟩
  have HK2 := Lib.hid (kk HK1.out hk2)
  clear hk2
  go_wp2_with fail
  refine (tuple_any _ _ _ _).mono ?_
  rintro e w3 ⟨rfl, hk3⟩
  have HK3 := Lib.hid (kk HK2.out hk3)
  clear hk3
  go_wp2_with fail
  refine (int_any _ _).mono ?_
  rintro e w4 ⟨rfl, hk4⟩
  have HK4 := Lib.hid (kk HK3.out hk4)
  clear hk4
  go_wp2_with fail
  refine (tag_any _ _ _ _ _ _ _ _).mono ?_
  rintro e w5 ⟨r, rfl, hr, hrz, hk5⟩
  have HK5 := Lib.hid (kk HK4.out hk5)
  have hz4 := HK4.out.size
  simp at hz4
  have HR := Lib.hid hr
  clear hk5 hr
  go_wp2_with fail
  have hq : (w5.alloc (.cells (sampleCells r) 24)).heap[w5.heap.size]? = some (.cells (sampleCells r) 24 (0, 0)) := blockHere rfl
  have hk6 := kk HK5.out (ka w5 (.cells (sampleCells r) 24))
  have hr6 := ((ka w5 (.cells (sampleCells r) 24)).block _ (lt_of_block HR.out)).trans HR.out
  have HQ := Lib.hid hq
  have HK6 := Lib.hid hk6
  have HR6 := Lib.hid hr6
  clear hq hk6 hr6
  refine (tuple_any _ _ _ _).mono ?_
  rintro e w7 ⟨rfl, hk7⟩
  have hb := boxK (kk HK6.out hk7)
  obtain ⟨c0, c1, c2, c3, f0, f1, f2, f3⟩ := cell4 hb
  have HB := Lib.hid hb
  have HK7 := Lib.hid (kk (ka _ _) (kk HK6.out hk7))
  have HQ7 := Lib.hid ((hk7.block _ (lt_of_block HQ.out)).trans HQ.out)
  have HR7 := Lib.hid ((hk7.block _ (lt_of_block HR6.out)).trans HR6.out)
  have hz5 := HK5.out.size
  simp at hz5
  clear hb hk7
  go_wp2_with fail
  obtain ⟨d0, d1, d2, d3, -⟩ := cell4 (put4_block (v0 := .int .i64 2) (v1 := .int .i64 0) (v2 := .string ⟨#[]⟩) (v3 := .slice (some ⟨w5.heap.size, 0, none⟩) 4 4) HB.out)
  refine bodyPost_ret (v := .agg #[.int .i64 2, .int .i64 0, .string ⟨#[]⟩, .slice (some ⟨w5.heap.size, 0, none⟩) 4 4]) (by simp [results, Tryz.results64, go_sem, d0, d1, d2, d3]) rfl
    ⟨_, r, rfl, (put4_other (by omega)).trans HQ7.out, (put4_other (by omega)).trans HR7.out, by omega, by omega, put4_kp HK7.out (Nat.le_refl _)⟩

set_option maxRecDepth 100000 in
set_option maxHeartbeats 2000000 in
theorem kind_any (w : World) : Calls Tryz.prog 65 #[] w fun e w' =>
    ∃ g h, e = .returned (.agg #[.int .i64 2, .slice (some ⟨g, 0, none⟩) 4 4]) ∧ w'.heap[g]? = some (.cells (kindCells h) 27 (0, 0)) ∧ w'.heap[h]? = some (.cells sumCells 27 (0, 0)) ∧ w.heap.size ≤ g ∧ w.heap.size ≤ h ∧ Kp w w' := by
  go_enter Tryz.func65, Tryz.ntmps65
  go_wp2_with fail
  exact bodyPost_ret (v := .agg #[.int .i64 2, .slice (some ⟨w.heap.size + 1 + 1 + 1 + 1 + 1, 0, none⟩) 4 4]) (by simp [results, Tryz.results65, go_sem]) rfl
    ⟨_, w.heap.size + 1 + 1 + 1, rfl, blockHere (by simp), blockPast (blockPast (blockHere (by simp))), by omega, by omega, kk (kk (kk (kk (kk (ka _ _) (ka _ _)) (ka _ _)) (ka _ _)) (ka _ _)) (ka _ _)⟩

end Go.Proofs.YtbiljalhabnhlaaGreatDoor

/-
  THE SPECIFICATION's least, Least; THE PROGRAM's Least.
-/
namespace Go.Proofs.YtbiljalhabnhlaaGreatDoor
open Go.RowKit

theorem World.drew_size (w : World) : w.drew.heap.size = w.heap.size := rfl

set_option maxRecDepth 100000 in
set_option maxHeartbeats 4000000 in
theorem leastR_int (w : World) (a : Option Addr) (l c : Nat) :
    Calls Tryz.prog 56 #[.agg #[.int .i64 0, .slice a l c]] w (Makes w (.mk 0 (-2147483648) ⟨#[]⟩ none 0 [])) := by
  go_enter Tryz.func56, Tryz.ntmps56
  go_wp2_with fail
  refine (int_any _ _).mono ?_
  rintro e w1 ⟨rfl, hk1⟩
  have hz1 := hk1.size
  simp at hz1
  have hblk : w1.heap[w.heap.size + 1]? = some (.cells zero4 24 (0, 0)) := (hk1.block _ (by simp)).trans (blockHere (by simp))
  obtain ⟨c0, c1, c2, c3, f0, f1, f2, f3⟩ := cell4 hblk
  have HB := Lib.hid hblk
  have HK1 := Lib.hid (kk (kk (ka _ _) (ka _ _)) hk1)
  clear hk1 hblk
  go_wp2_with fail
  obtain ⟨e0, e1, e2, e3, -⟩ := cell4 (put4_block (v0 := .int .i64 0) (v1 := .int .i64 (-2147483648)) (v2 := .string ⟨#[]⟩) (v3 := .slice none 0 0) HB.out)
  refine bodyPost_ret (v := .agg #[.int .i64 0, .int .i64 (-2147483648), .string ⟨#[]⟩, .slice none 0 0]) (by simp [results, Tryz.results56, go_sem, e0, e1, e2, e3]) rfl ?_
  exact ⟨.mk 0 (-2147483648) ⟨#[]⟩ none 0 [], rfl, inLeaf _ _ _ (by unfold I64; omega) (by unfold I64; omega) (by decide), V.foot_leaf _ _ _ _ _, V.same_refl _, put4_kp HK1.out (by omega)⟩

set_option maxRecDepth 100000 in
set_option maxHeartbeats 4000000 in
theorem leastR_text (w : World) (a : Option Addr) (l c : Nat) :
    Calls Tryz.prog 56 #[.agg #[.int .i64 1, .slice a l c]] w (Makes w (.mk 1 0 ⟨#[]⟩ none 0 [])) := by
  go_enter Tryz.func56, Tryz.ntmps56
  go_wp2_with fail
  refine (text_any _ _).mono ?_
  rintro e w1 ⟨rfl, hk1⟩
  have hz1 := hk1.size
  simp at hz1
  have hblk : w1.heap[w.heap.size + 1]? = some (.cells zero4 24 (0, 0)) := (hk1.block _ (by simp)).trans (blockHere (by simp))
  obtain ⟨c0, c1, c2, c3, f0, f1, f2, f3⟩ := cell4 hblk
  have HB := Lib.hid hblk
  have HK1 := Lib.hid (kk (kk (ka _ _) (ka _ _)) hk1)
  clear hk1 hblk
  go_wp2_with fail
  obtain ⟨e0, e1, e2, e3, -⟩ := cell4 (put4_block (v0 := .int .i64 1) (v1 := .int .i64 0) (v2 := .string ⟨#[]⟩) (v3 := .slice none 0 0) HB.out)
  refine bodyPost_ret (v := .agg #[.int .i64 1, .int .i64 0, .string ⟨#[]⟩, .slice none 0 0]) (by simp [results, Tryz.results56, go_sem, e0, e1, e2, e3]) rfl ?_
  exact ⟨.mk 1 0 ⟨#[]⟩ none 0 [], rfl, inLeaf _ _ _ (by unfold I64; omega) (by unfold I64; omega) (by decide), V.foot_leaf _ _ _ _ _, V.same_refl _, put4_kp HK1.out (by omega)⟩

set_option maxRecDepth 100000 in
set_option maxHeartbeats 4000000 in
theorem leastR_sum (g off l c : Nat) (x : T) (w : World) (x1 : w.cell? ⟨g, off, none⟩ = some (.int .i64 x.k)) (x2 : w.cell? ⟨g, off + 1, none⟩ = some (.slice x.a x.l.length x.cap)) (hx : x.In w w.heap.size)
    (ih : ∀ w1 : World, x.In w1 w1.heap.size → Calls Tryz.prog 56 #[.agg #[.int .i64 x.k, .slice x.a x.l.length x.cap]] w1 (Makes w1 x.lst)) :
    Calls Tryz.prog 56 #[.agg #[.int .i64 3, .slice (some ⟨g, off, none⟩) (l + 1) c]] w (Makes w (.mk 3 0 ⟨#[]⟩ none 0 [x.lst])) := by
  have hg := World.block_lt_of_cell? w _ x1
  have C := fun w1 (h : Kp w w1) => ih w1 (hx.keep h.size h)
  generalize x.lst = y at C ⊢
  generalize x.k = xk at *
  generalize x.a = xa at *
  generalize x.l.length = xl at *
  generalize x.cap = xc at *
  have HC := Lib.hid C
  clear C ih hx
  go_enter Tryz.func56, Tryz.ntmps56
  go_wp2_with fail
  refine (HC.out _ (kk (ka _ _) (ka _ _))).mono ?_
  rintro e w1 ⟨z, rfl, hzi, hzf, hzs, hk1⟩
  have hz1 := hk1.size
  simp at hz1
  have hblk : w1.heap[w.heap.size + 1]? = some (.cells zero4 24 (0, 0)) := (hk1.block _ (by simp)).trans (blockHere (by simp))
  obtain ⟨c0, c1, c2, c3, f0, f1, f2, f3⟩ := cell4 hblk
  have HB := Lib.hid hblk
  have HK1 := Lib.hid (kk (kk (ka _ _) (ka _ _)) hk1)
  have hzf2 : z.foot (fun b => w.heap.size + 2 ≤ b) := V.foot.mono (fun b hb => by simp at hb; omega) z hzf
  have HZI := Lib.hid hzi
  have HZF := Lib.hid hzf2
  have HZS := Lib.hid hzs
  clear hk1 hblk hzi hzf hzf2 hzs
  cases z with
  | mk k n s a cap zl =>
  simp only [V.val_mk]
  go_wp2_with fail
  refine (tag_any _ _ _ _ _ _ _ _).mono ?_
  rintro e w2 ⟨q, rfl, hqb, hq, hk2⟩
  have hblk := (hk2.block _ (lt_of_block HB.out)).trans HB.out
  obtain ⟨d0, d1, d2, d3, g0, g1, g2, g3⟩ := cell4 hblk
  have HB2 := Lib.hid hblk
  have HK2 := Lib.hid (kk HK1.out hk2)
  have HQ := Lib.hid hqb
  have HZ2 := Lib.hid (HZI.out.keep hk2.size hk2)
  clear hk2 hblk hqb c0 c1 c2 c3 f0 f1 f2 f3
  go_wp2_with fail
  obtain ⟨e0, e1, e2, e3, -⟩ := cell4 (put4_block (v0 := .int .i64 3) (v1 := .int .i64 0) (v2 := .string ⟨#[]⟩) (v3 := .slice (some ⟨q, 0, none⟩) 1 1) HB2.out)
  refine bodyPost_ret (v := .agg #[.int .i64 3, .int .i64 0, .string ⟨#[]⟩, .slice (some ⟨q, 0, none⟩) 1 1]) (by simp [results, Tryz.results56, go_sem, e0, e1, e2, e3]) rfl ?_
  have hqs := lt_of_block HQ.out
  have hmv : ∀ b, b < w2.heap.size → w.heap.size + 2 ≤ b → (put4 w2 (w.heap.size + 1) (.int .i64 3) (.int .i64 0) (.string ⟨#[]⟩) (.slice (some ⟨q, 0, none⟩) 1 1)).heap[b]? = w2.heap[b]? := fun b _ hb => put4_other (by omega)
  have hS : (put4 w2 (w.heap.size + 1) (.int .i64 3) (.int .i64 0) (.string ⟨#[]⟩) (.slice (some ⟨q, 0, none⟩) 1 1)).heap.size = w2.heap.size := by simp [World.setCell]
  refine ⟨.mk 3 0 ⟨#[]⟩ (some ⟨q, 0, none⟩) 1 [.mk k n s a cap zl], rfl, ?_, ?_, V.same_node (V.sameL_one HZS.out), put4_kp HK2.out (by omega)⟩
  · rw [hS]
    simp only [V.In, V.InL]
    refine ⟨by unfold I64; omega, by unfold I64; omega, by decide, Nat.le_refl _, by decide, .inr ⟨q, 0, rfl, hqs, ?_⟩, ?_, trivial⟩
    · exact At.of_block ((hmv q hqs (by omega)).trans HQ.out) rfl
    · exact V.In.move (Nat.le_refl _) hmv _ HZ2.out HZF.out
  · simp only [V.foot, V.footL]
    exact ⟨.inr ⟨q, 0, rfl, by omega⟩, V.foot.mono (fun b hb => by omega) _ HZF.out, trivial⟩

set_option maxRecDepth 100000 in
set_option maxHeartbeats 8000000 in
theorem leastR_tuple (a : Option Addr) (cap : Nat) (l : List T) (w : World) (hin : (T.mk 2 a cap l).In w w.heap.size) (hl8 : l.length ≤ 8)
    (ih : ∀ (j : Nat) (x : T), l[j]? = some x → ∀ w1 : World, x.In w1 w1.heap.size → Calls Tryz.prog 56 #[.agg #[.int .i64 x.k, .slice x.a x.l.length x.cap]] w1 (Makes w1 x.lst)) :
    Calls Tryz.prog 56 #[.agg #[.int .i64 2, .slice a l.length cap]] w (Makes w (.mk 2 0 ⟨#[]⟩ none 0 (T.lstL l))) := by
  obtain ⟨i0, hi, hz0, hz1, hz2⟩ := info_parts infoV
  have HIN := Lib.hid hin
  have IH := Lib.hid ih
  clear hin ih
  go_enter Tryz.func56, Tryz.ntmps56
  go_wp2_with fail
  refine (tuple_any _ _ _ _).mono ?_
  rintro e w1 ⟨rfl, hk1⟩
  go_wp2_with fail
  have hvz : w.heap.size + 2 ≤ w1.heap.size := by have := hk1.size; simp at this; omega
  have hkW := kk (kk (kk (ka _ _) (ka _ _)) hk1) (ka w1 (.cells #[.int .i64 2, .int .i64 0, .string ⟨#[]⟩, .slice none 0 0] 24))
  have hbox : (w1.alloc (.cells #[.int .i64 2, .int .i64 0, .string ⟨#[]⟩, .slice none 0 0] 24)).heap[w.heap.size]? = some (.cells #[.int .i64 2, .slice a l.length cap] 27 (0, 0)) := blockPast ((hk1.block _ (by simp; omega)).trans (blockPast (blockHere rfl)))
  have hres : (w1.alloc (.cells #[.int .i64 2, .int .i64 0, .string ⟨#[]⟩, .slice none 0 0] 24)).heap[w.heap.size + 1]? = some (.cells zero4 24 (0, 0)) := blockPast ((hk1.block _ (by simp)).trans (blockHere (by simp)))
  have htup : TupAt (w1.alloc (.cells #[.int .i64 2, .int .i64 0, .string ⟨#[]⟩, .slice none 0 0] 24)) w1.heap.size [] (.slice none 0 0) [] := ⟨blockHere rfl, World.ownsRow_nil _ _ _ _, rfl, trivial, trivial⟩
  generalize w1.alloc (.cells #[.int .i64 2, .int .i64 0, .string ⟨#[]⟩, .slice none 0 0] 24) = W at *
  generalize w1.heap.size = vb at *
  have HKW := Lib.hid hkW
  have HBX := Lib.hid hbox
  have HRS := Lib.hid hres
  have HTP := Lib.hid htup
  clear hk1 hkW hbox hres htup
  go_loopw [4] (fun i wr => ∃ (j : Nat) (sl : Value) (vs : List V), j ≤ l.length ∧ i = .int .i64 j ∧ TupAt wr vb (T.lstL (l.take j)) sl vs ∧ Kp w wr ∧ wr.heap[w.heap.size]? = some (.cells #[.int .i64 2, .slice a l.length cap] 27 (0, 0)) ∧ wr.heap[w.heap.size + 1]? = some (.cells zero4 24 (0, 0))) (fun i _ => l.length - (intOf i).toNat)
  case atStart => exact ⟨0, _, _, Nat.zero_le _, rfl, by simpa [T.lstL] using HTP.out, HKW.out, HBX.out, HRS.out⟩
  case round =>
    obtain ⟨j, sl, vs, hj, rfl, htp, hk, hbox, hres⟩ := hrel
    by_cases hlt : j < l.length
    · obtain ⟨x, hx⟩ : ∃ x, l[j]? = some x := ⟨l[j], by simp [hlt]⟩
      obtain ⟨p0, off, rfl, hp0, q0, q1, hxin⟩ := T.atPart HIN.out hx
      have r0 := kc hk q0
      have r1 := kc hk q1
      have b1 : wr.cell? ⟨w.heap.size, 1, none⟩ = some (.slice (some ⟨p0, off, none⟩) l.length cap) := cellOf hbox rfl
      have v3 : wr.cell? ⟨vb, 3, none⟩ = some sl := cellOf htp.box rfl
      have f3 := freeOf (i := 3) htp.box
      have hvl := htp.lt
      have hvs : vs.length ≤ 8 := by have := V.sameL_length _ _ htp.same; rw [lstL_length] at this; simp at this; omega
      have g0 : (0 : Int) ≤ (j : Int) := by omega
      have g1 : (j : Int) < (l.length : Int) := by omega
      have nb0 : some w.heap.size ≠ sl.ownBlock := fun e => by have := (htp.own.lt _ e.symm).1; omega
      have np0 : some p0 ≠ sl.ownBlock := fun e => by have := (htp.own.lt _ e.symm).1; omega
      have nb1 : some (w.heap.size + 1) ≠ sl.ownBlock := fun e => by have := (htp.own.lt _ e.symm).1; omega
      have nvb : some vb ≠ sl.ownBlock := fun e => by have := (htp.own.lt _ e.symm).1; omega
      have hih := fun (w1 : World) (h : Kp wr w1) => IH.out j x hx w1 (hxin.keep (kk hk h).size (kk hk h))
      have htk := lstL_take l j x hx
      generalize x.lst = y at *
      generalize x.k = xk at *
      generalize x.a = xa at *
      generalize x.l.length = xl at *
      generalize x.cap = xc at *
      have HIH := Lib.hid hih
      have HTK := Lib.hid htk
      have HTP2 := Lib.hid htp
      have HK := Lib.hid hk
      have HBX2 := Lib.hid hbox
      have HRS2 := Lib.hid hres
      clear hih htk htp hk hbox hres hx hxin q0 q1
      go_wp2_with fail
      go_region_held3 (fun w' => w'.cell? ⟨w.heap.size, 1, none⟩ = some (.slice (some ⟨p0, off, none⟩) l.length cap) ∧ w'.cell? ⟨p0, off + j * 2, none⟩ = some (.int .i64 xk) ∧ w'.cell? ⟨p0, off + j * 2 + 1, none⟩ = some (.slice xa xl xc))
        (first
          | go_keep
          | (go_split_ands; refine ⟨?_, ?_, ?_⟩ <;> exact kc hk2 (by assumption))
          | (go_split_ands
             refine ⟨?_, ?_, ?_⟩
             · (rw [hgrow.cell_far _ (by simp; omega) nb0]; assumption)
             · (rw [hgrow.cell_far _ (by simp; omega) np0]; assumption)
             · (rw [hgrow.cell_far _ (by simp; omega) np0]; assumption))
          | (go_split_ands
             refine ⟨?_, ?_, ?_⟩
             · (rw [World.cell?_of_block (Below.heap_setCell _ _ _ _ (by simp; omega))]; assumption)
             · (rw [World.cell?_of_block (Below.heap_setCell _ _ _ _ (by simp; omega))]; assumption)
             · (rw [World.cell?_of_block (Below.heap_setCell _ _ _ _ (by simp; omega))]; assumption)))
        (first
          | (go_at_call 56; refine (HIH.out _ kpD).mono ?_; rintro e w2 ⟨⟨zk, zn, zs, za, zc, zl⟩, rfl, hzi, hzf, hzs, hk2⟩; rw [V.val_mk]; have hsz2 := hk2.size; simp only [World.drew_size] at hsz2; have HB2 := Lib.hid ((hk2.block vb hvl).trans HTP2.out.box); have v3c : w2.cell? ⟨vb, 3, none⟩ = some sl := cellOf HB2.out rfl; have v3d : (w2.alloc (.cells #[.int .i64 zk, .int .i64 zn, .string zs, .slice za zl.length zc] 24)).cell? ⟨vb, 3, none⟩ = some sl := past v3c)
          | (refine step_append_lies _ (by rfl) _ _ _ (by rfl) (vb + 1) 24 i0 _ 4 56 Tryz.underlying22 hi hz0 hz1 hz2 rfl (by omega) sl vs.length (cellsL vs) (by rfl) ((ownsRow_kp HTP2.out.own (kk kpD hk2)).alloc _)
              ⟨w2.heap.size, 0, none⟩ 1 1 [.int .i64 zk, .int .i64 zn, .string zs, .slice za zl.length zc] (by rfl) (by rfl) (World.news_of_block (cs := #[.int .i64 zk, .int .i64 zn, .string zs, .slice za zl.length zc]) (t := 24) (fr := (0, 0)) (heap_alloc_new w2 _)) (by simp [Value.oneCell'])
              (by omega) (by unfold maxLen; omega) (by omega) (by have := hk2.size; simp at this ⊢; omega) (w2.heap.size + 1) (by simp) ?_; intro gg gcap w3 hown1 hgrow hat hltg; have HB3 := Lib.hid ((hgrow.block vb (by simp; omega) nvb).trans (blockPast HB2.out)); have v3e : w3.cell? ⟨vb, 3, none⟩ = some sl := cellOf HB3.out rfl; have f3e : w3.frozen? ⟨vb, 3, none⟩ = false := freeOf HB3.out))
      all_goals
        have hkz := kk (kpD (w := wr)) hk2
        have HST := Lib.hid (HTP2.out.step hkz hzi hzf hzs (ka _ _) hown1 hgrow (by simpa using hat))
        have HK3 := Lib.hid (put1_kp (i := 3) (v := .slice (some ⟨gg, 0, none⟩) (vs.length + 1) gcap) (kp_grown (kk (kk HK.out hkz) (ka _ _)) hgrow (fun k e => by have := (HTP2.out.own.lt k e).1; omega)) (by omega : w.heap.size ≤ vb))
        have HB4 := Lib.hid (step_block (i := 3) (u := .slice (some ⟨gg, 0, none⟩) (vs.length + 1) gcap) hkz (ka _ _) hgrow nb0 (by omega : w.heap.size ≠ vb) HBX2.out)
        have HR4 := Lib.hid (step_block (i := 3) (u := .slice (some ⟨gg, 0, none⟩) (vs.length + 1) gcap) hkz (ka _ _) hgrow nb1 (by omega : w.heap.size + 1 ≠ vb) HRS2.out)
        clear hzi hzf hzs hk2 hkz hown1 hgrow hat v3c v3d v3e f3e v3 f3 b1 r0 r1
        go_wp2_with fail
        go_roundw
        case rel => exact ⟨j + 1, _, _, by omega, by first | go_num | simp, by rw [HTK.out]; exact HST.out, HK3.out, HB4.out, HR4.out⟩
        case measure => simp [intOf]; omega
    · have hjj : j = l.length := by omega
      subst hjj
      have b1 : wr.cell? ⟨w.heap.size, 1, none⟩ = some (.slice a l.length cap) := cellOf hbox rfl
      obtain ⟨a', cap', rfl, hvin, hvft⟩ := htp.value
      have hsm := htp.same
      rw [List.take_of_length_le (Nat.le_refl _)] at hsm
      obtain ⟨d0, d1, d2, d3, f0, f1, f2, f3⟩ := cell4 hres
      obtain ⟨c0, c1, c2, c3, -⟩ := cell4 htp.box
      have hvl := htp.lt
      have HK := Lib.hid hk
      have HRS2 := Lib.hid hres
      have HVI := Lib.hid hvin
      have HVF := Lib.hid hvft
      have HSM := Lib.hid hsm
      clear htp hk hbox hres hvin hvft hsm
      go_wp2_with fail
      obtain ⟨e0, e1, e2, e3, -⟩ := cell4 (put4_block (v0 := .int .i64 2) (v1 := .int .i64 0) (v2 := .string ⟨#[]⟩) (v3 := .slice a' vs.length cap') HRS2.out)
      refine bodyPost_ret (v := .agg #[.int .i64 2, .int .i64 0, .string ⟨#[]⟩, .slice a' vs.length cap']) (by simp [results, Tryz.results56, go_sem, e0, e1, e2, e3]) rfl ?_
      have hS : (put4 wr (w.heap.size + 1) (.int .i64 2) (.int .i64 0) (.string ⟨#[]⟩) (.slice a' vs.length cap')).heap.size = wr.heap.size := by simp [World.setCell]
      refine ⟨.mk 2 0 ⟨#[]⟩ a' cap' vs, rfl, ?_, V.foot.mono (fun b hb => by omega) _ HVF.out, V.same_node HSM.out, put4_kp HK.out (by omega)⟩
      rw [hS]
      exact V.In.move (Nat.le_refl _) (fun b _ hb => put4_other (by omega)) _ HVI.out HVF.out

set_option maxHeartbeats 1000000 in
theorem leastR : ∀ (N : Nat) (t : T) (d : Nat) (w : World), t.rank ≤ N → t.sh d = true → t.In w w.heap.size →
    Calls Tryz.prog 56 #[.agg #[.int .i64 t.k, .slice t.a t.l.length t.cap]] w (Makes w t.lst) := by
  intro N
  induction N with
  | zero => intro t d w h; have := t.rank_pos; omega
  | succ N ih =>
    intro t d w hN ht hin
    cases t with
    | mk k a cap l =>
    cases d with
    | zero => simp [T.sh] at ht
    | succ d =>
    simp [T.sh] at ht
    obtain ⟨hf, hp⟩ := ht
    have hih : ∀ (j : Nat) (x : T), l[j]? = some x → ∀ w1 : World, x.In w1 w1.heap.size → Calls Tryz.prog 56 #[.agg #[.int .i64 x.k, .slice x.a x.l.length x.cap]] w1 (Makes w1 x.lst) := fun j x hx w1 h1 =>
      ih x d w1 (by have := T.rank_part (v := .mk k a cap l) (j := j) (x := x) hx; omega) (shLT_at hp hx) h1
    show Calls Tryz.prog 56 #[.agg #[.int .i64 k, .slice a l.length cap]] w _
    by_cases h0 : k = 0
    · subst h0; simp [T.lst]; exact leastR_int w a l.length cap
    by_cases h1 : k = 1
    · subst h1; simp [T.lst]; exact leastR_text w a l.length cap
    by_cases h2 : k = 2
    · subst h2; simp [T.lst]
      exact leastR_tuple a cap l w hin (by simp [fitsT] at hf; exact hf) hih
    by_cases h3 : k = 3
    · subst h3
      have hl : 0 < l.length := by simp [fitsT] at hf; exact hf.1
      cases l with
      | nil => simp at hl
      | cons x xs =>
        simp [T.lst, T.lstH]
        obtain ⟨p0, off, rfl, hp0, q0, q1, hxin⟩ := T.atPart hin (j := 0) (x := x) rfl
        exact leastR_sum p0 off xs.length cap x w (by simpa using q0) (by simpa using q1) hxin (fun w1 h1 => hih 0 x rfl w1 h1)
    · simp [fitsT, h0, h1, h2, h3] at hf

end Go.Proofs.YtbiljalhabnhlaaGreatDoor

/-
  Least, THE PROGRAM's AND THE SPECIFICATION's, AT ANY TYPE.
-/
namespace Go.Proofs.YtbiljalhabnhlaaGreatDoor
open Go.RowKit

/-- What Least makes: the least value, or none. -/
def lstV (t : T) : V := if t.valid then t.lst else .mk 0 0 ⟨#[]⟩ none 0 []

set_option maxRecDepth 100000 in
set_option maxHeartbeats 4000000 in
theorem leastTopP_no (k : Int) (a : Option Addr) (cap : Nat) (l : List T) (w : World) (hin : (T.mk k a cap l).In w w.heap.size) (hv : (T.mk k a cap l).valid = false) :
    Calls Tryz.prog 15 #[.agg #[.int .i64 k, .slice a l.length cap]] w (Makes2 w (lstV (T.mk k a cap l)) 1) := by
  have C := fun (w1 : World) (h : Kp w w1) => typeV k a cap l w1 (hin.keep h.size h)
  rw [badT_arg, hv] at C
  have y0 : lstV (T.mk k a cap l) = .mk 0 0 ⟨#[]⟩ none 0 [] := by simp [lstV, hv]
  rw [y0]
  have HC := Lib.hid C
  clear C hin hv y0
  go_enter Tryz.func15, Tryz.ntmps15
  go_wp2_with fail
  refine (HC.out _ (kk (ka _ _) (ka _ _))).mono ?_
  rintro e w1 ⟨rfl, hk1⟩
  have hz1 := hk1.size
  simp at hz1
  have hblk : w1.heap[w.heap.size + 1]? = some (.cells zero4 24 (0, 0)) := (hk1.block _ (by simp)).trans (blockHere (by simp))
  have hbox : w1.heap[w.heap.size]? = some (.cells #[.int .i64 k, .slice a l.length cap] 27 (0, 0)) := (hk1.block _ (by simp; omega)).trans (blockPast (blockHere rfl))
  have b0 : w1.cell? ⟨w.heap.size, 0, none⟩ = some (.int .i64 k) := cellOf hbox rfl
  have b1 : w1.cell? ⟨w.heap.size, 1, none⟩ = some (.slice a l.length cap) := cellOf hbox rfl
  obtain ⟨c0, c1, c2, c3, f0, f1, f2, f3⟩ := cell4 hblk
  have HB := Lib.hid hblk
  have HK1 := Lib.hid (kk (kk (ka _ _) (ka _ _)) hk1)
  have HZ1 := Lib.hid hz1
  clear hk1 hblk hbox
  go_wp2_with fail
  obtain ⟨e0, e1, e2, e3, -⟩ := cell4 (put4_block (v0 := .int .i64 0) (v1 := .int .i64 0) (v2 := .string ⟨#[]⟩) (v3 := .slice none 0 0) HB.out)
  refine bodyPost_ret (v := .tuple #[.agg #[.int .i64 0, .int .i64 0, .string ⟨#[]⟩, .slice none 0 0], .int .i64 1]) (by simp [results, Tryz.results15, go_sem, e0, e1, e2, e3, argI]) rfl ?_
  exact ⟨.mk 0 0 ⟨#[]⟩ none 0 [], rfl, inLeaf _ _ _ (by unfold I64; omega) (by unfold I64; omega) (by decide), V.foot_leaf _ _ _ _ _, V.same_refl _, put4_kp HK1.out (by omega)⟩

set_option maxRecDepth 100000 in
set_option maxHeartbeats 4000000 in
theorem leastTopP_yes (k : Int) (a : Option Addr) (cap : Nat) (l : List T) (w : World) (hin : (T.mk k a cap l).In w w.heap.size) (hv : (T.mk k a cap l).valid = true) :
    Calls Tryz.prog 15 #[.agg #[.int .i64 k, .slice a l.length cap]] w (Makes2 w (lstV (T.mk k a cap l)) 0) := by
  have C := fun (w1 : World) (h : Kp w w1) => typeV k a cap l w1 (hin.keep h.size h)
  rw [badT_arg, hv] at C
  have y0 : lstV (T.mk k a cap l) = (T.mk k a cap l).lst := by simp [lstV, hv]
  rw [y0]
  have hsh : (T.mk k a cap l).sh 6 = true := by simp [T.valid] at hv; exact hv.1
  have D := fun (w1 : World) (h : Kp w w1) => leastP _ (T.mk k a cap l) 6 w1 (Nat.le_refl _) hsh (hin.keep h.size h)
  dsimp only [T.k, T.a, T.l, T.cap] at D
  generalize (T.mk k a cap l).lst = y at D ⊢
  have HC := Lib.hid C
  have HD := Lib.hid D
  clear C D hin hv y0 hsh
  go_enter Tryz.func15, Tryz.ntmps15
  go_wp2_with fail
  refine (HC.out _ (kk (ka _ _) (ka _ _))).mono ?_
  rintro e w1 ⟨rfl, hk1⟩
  have hz1 := hk1.size
  simp at hz1
  have hblk : w1.heap[w.heap.size + 1]? = some (.cells zero4 24 (0, 0)) := (hk1.block _ (by simp)).trans (blockHere (by simp))
  have hbox : w1.heap[w.heap.size]? = some (.cells #[.int .i64 k, .slice a l.length cap] 27 (0, 0)) := (hk1.block _ (by simp; omega)).trans (blockPast (blockHere rfl))
  have b0 : w1.cell? ⟨w.heap.size, 0, none⟩ = some (.int .i64 k) := cellOf hbox rfl
  have b1 : w1.cell? ⟨w.heap.size, 1, none⟩ = some (.slice a l.length cap) := cellOf hbox rfl
  obtain ⟨c0, c1, c2, c3, f0, f1, f2, f3⟩ := cell4 hblk
  have HB := Lib.hid hblk
  have HK1 := Lib.hid (kk (kk (ka _ _) (ka _ _)) hk1)
  have HZ1 := Lib.hid hz1
  clear hk1 hblk hbox
  go_wp2_with fail
  refine (HD.out _ HK1.out).mono ?_
  rintro e w2 ⟨z, rfl, hzi, hzf, hzs, hk2⟩
  have hblk := (hk2.block _ (lt_of_block HB.out)).trans HB.out
  obtain ⟨d0, d1, d2, d3, g0, g1, g2, g3⟩ := cell4 hblk
  have HB2 := Lib.hid hblk
  have HK2 := Lib.hid (kk HK1.out hk2)
  have hzf2 : z.foot (fun b => w.heap.size + 2 ≤ b) := V.foot.mono (fun b hb => by have := HZ1.out; omega) z hzf
  have HZI := Lib.hid hzi
  have HZF := Lib.hid hzf2
  have HZS := Lib.hid hzs
  clear hk2 hblk hzi hzf hzf2 hzs c0 c1 c2 c3 f0 f1 f2 f3
  cases z with
  | mk zk zn zs za zc zl =>
  simp only [V.val_mk]
  go_wp2_with fail
  obtain ⟨e0, e1, e2, e3, -⟩ := cell4 (put4_block (v0 := .int .i64 zk) (v1 := .int .i64 zn) (v2 := .string zs) (v3 := .slice za zl.length zc) HB2.out)
  refine bodyPost_ret (v := .tuple #[.agg #[.int .i64 zk, .int .i64 zn, .string zs, .slice za zl.length zc], .int .i64 0]) (by simp [results, Tryz.results15, go_sem, e0, e1, e2, e3]) rfl ?_
  have hS : (put4 w2 (w.heap.size + 1) (.int .i64 zk) (.int .i64 zn) (.string zs) (.slice za zl.length zc)).heap.size = w2.heap.size := by simp [World.setCell]
  refine ⟨.mk zk zn zs za zc zl, rfl, ?_, V.foot.mono (fun b hb => by omega) _ HZF.out, HZS.out, put4_kp HK2.out (by omega)⟩
  rw [hS]
  exact V.In.move (Nat.le_refl _) (fun b _ hb => put4_other (by omega)) _ HZI.out HZF.out

theorem leastTopP (k : Int) (a : Option Addr) (cap : Nat) (l : List T) (w : World) (hin : (T.mk k a cap l).In w w.heap.size) :
    Calls Tryz.prog 15 #[.agg #[.int .i64 k, .slice a l.length cap]] w (Makes2 w (lstV (T.mk k a cap l)) (argI (T.mk k a cap l).valid)) := by
  cases hv : (T.mk k a cap l).valid with
  | false => exact leastTopP_no k a cap l w hin hv
  | true => exact leastTopP_yes k a cap l w hin hv

set_option maxRecDepth 100000 in
set_option maxHeartbeats 4000000 in
theorem leastTopR_no (k : Int) (a : Option Addr) (cap : Nat) (l : List T) (w : World) (hin : (T.mk k a cap l).In w w.heap.size) (hv : (T.mk k a cap l).valid = false) :
    Calls Tryz.prog 16 #[.agg #[.int .i64 k, .slice a l.length cap]] w (Makes2 w (lstV (T.mk k a cap l)) 1) := by
  have C := fun (w1 : World) (h : Kp w w1) => validT_ref k a cap l w1 (hin.keep h.size h)
  rw [hv] at C
  have y0 : lstV (T.mk k a cap l) = .mk 0 0 ⟨#[]⟩ none 0 [] := by simp [lstV, hv]
  rw [y0]
  have HC := Lib.hid C
  clear C hin hv y0
  go_enter Tryz.func16, Tryz.ntmps16
  go_wp2_with fail
  refine (HC.out _ (kk (ka _ _) (ka _ _))).mono ?_
  rintro e w1 ⟨rfl, hk1⟩
  have hz1 := hk1.size
  simp at hz1
  have hblk : w1.heap[w.heap.size + 1]? = some (.cells zero4 24 (0, 0)) := (hk1.block _ (by simp)).trans (blockHere (by simp))
  have hbox : w1.heap[w.heap.size]? = some (.cells #[.int .i64 k, .slice a l.length cap] 27 (0, 0)) := (hk1.block _ (by simp; omega)).trans (blockPast (blockHere rfl))
  have b0 : w1.cell? ⟨w.heap.size, 0, none⟩ = some (.int .i64 k) := cellOf hbox rfl
  have b1 : w1.cell? ⟨w.heap.size, 1, none⟩ = some (.slice a l.length cap) := cellOf hbox rfl
  obtain ⟨c0, c1, c2, c3, f0, f1, f2, f3⟩ := cell4 hblk
  have HB := Lib.hid hblk
  have HK1 := Lib.hid (kk (kk (ka _ _) (ka _ _)) hk1)
  have HZ1 := Lib.hid hz1
  clear hk1 hblk hbox
  go_wp2_with fail
  obtain ⟨e0, e1, e2, e3, -⟩ := cell4 (put4_block (v0 := .int .i64 0) (v1 := .int .i64 0) (v2 := .string ⟨#[]⟩) (v3 := .slice none 0 0) HB.out)
  refine bodyPost_ret (v := .tuple #[.agg #[.int .i64 0, .int .i64 0, .string ⟨#[]⟩, .slice none 0 0], .int .i64 1]) (by simp [results, Tryz.results16, go_sem, e0, e1, e2, e3]) rfl ?_
  exact ⟨.mk 0 0 ⟨#[]⟩ none 0 [], rfl, inLeaf _ _ _ (by unfold I64; omega) (by unfold I64; omega) (by decide), V.foot_leaf _ _ _ _ _, V.same_refl _, put4_kp HK1.out (by omega)⟩

set_option maxRecDepth 100000 in
set_option maxHeartbeats 4000000 in
theorem leastTopR_yes (k : Int) (a : Option Addr) (cap : Nat) (l : List T) (w : World) (hin : (T.mk k a cap l).In w w.heap.size) (hv : (T.mk k a cap l).valid = true) :
    Calls Tryz.prog 16 #[.agg #[.int .i64 k, .slice a l.length cap]] w (Makes2 w (lstV (T.mk k a cap l)) 0) := by
  have C := fun (w1 : World) (h : Kp w w1) => validT_ref k a cap l w1 (hin.keep h.size h)
  rw [hv] at C
  have y0 : lstV (T.mk k a cap l) = (T.mk k a cap l).lst := by simp [lstV, hv]
  rw [y0]
  have hsh : (T.mk k a cap l).sh 6 = true := by simp [T.valid] at hv; exact hv.1
  have D := fun (w1 : World) (h : Kp w w1) => leastR _ (T.mk k a cap l) 6 w1 (Nat.le_refl _) hsh (hin.keep h.size h)
  dsimp only [T.k, T.a, T.l, T.cap] at D
  generalize (T.mk k a cap l).lst = y at D ⊢
  have HC := Lib.hid C
  have HD := Lib.hid D
  clear C D hin hv y0 hsh
  go_enter Tryz.func16, Tryz.ntmps16
  go_wp2_with fail
  refine (HC.out _ (kk (ka _ _) (ka _ _))).mono ?_
  rintro e w1 ⟨rfl, hk1⟩
  have hz1 := hk1.size
  simp at hz1
  have hblk : w1.heap[w.heap.size + 1]? = some (.cells zero4 24 (0, 0)) := (hk1.block _ (by simp)).trans (blockHere (by simp))
  have hbox : w1.heap[w.heap.size]? = some (.cells #[.int .i64 k, .slice a l.length cap] 27 (0, 0)) := (hk1.block _ (by simp; omega)).trans (blockPast (blockHere rfl))
  have b0 : w1.cell? ⟨w.heap.size, 0, none⟩ = some (.int .i64 k) := cellOf hbox rfl
  have b1 : w1.cell? ⟨w.heap.size, 1, none⟩ = some (.slice a l.length cap) := cellOf hbox rfl
  obtain ⟨c0, c1, c2, c3, f0, f1, f2, f3⟩ := cell4 hblk
  have HB := Lib.hid hblk
  have HK1 := Lib.hid (kk (kk (ka _ _) (ka _ _)) hk1)
  have HZ1 := Lib.hid hz1
  clear hk1 hblk hbox
  go_wp2_with fail
  refine (HD.out _ HK1.out).mono ?_
  rintro e w2 ⟨z, rfl, hzi, hzf, hzs, hk2⟩
  have hblk := (hk2.block _ (lt_of_block HB.out)).trans HB.out
  obtain ⟨d0, d1, d2, d3, g0, g1, g2, g3⟩ := cell4 hblk
  have HB2 := Lib.hid hblk
  have HK2 := Lib.hid (kk HK1.out hk2)
  have hzf2 : z.foot (fun b => w.heap.size + 2 ≤ b) := V.foot.mono (fun b hb => by have := HZ1.out; omega) z hzf
  have HZI := Lib.hid hzi
  have HZF := Lib.hid hzf2
  have HZS := Lib.hid hzs
  clear hk2 hblk hzi hzf hzf2 hzs c0 c1 c2 c3 f0 f1 f2 f3
  cases z with
  | mk zk zn zs za zc zl =>
  simp only [V.val_mk]
  go_wp2_with fail
  obtain ⟨e0, e1, e2, e3, -⟩ := cell4 (put4_block (v0 := .int .i64 zk) (v1 := .int .i64 zn) (v2 := .string zs) (v3 := .slice za zl.length zc) HB2.out)
  refine bodyPost_ret (v := .tuple #[.agg #[.int .i64 zk, .int .i64 zn, .string zs, .slice za zl.length zc], .int .i64 0]) (by simp [results, Tryz.results16, go_sem, e0, e1, e2, e3]) rfl ?_
  have hS : (put4 w2 (w.heap.size + 1) (.int .i64 zk) (.int .i64 zn) (.string zs) (.slice za zl.length zc)).heap.size = w2.heap.size := by simp [World.setCell]
  refine ⟨.mk zk zn zs za zc zl, rfl, ?_, V.foot.mono (fun b hb => by omega) _ HZF.out, HZS.out, put4_kp HK2.out (by omega)⟩
  rw [hS]
  exact V.In.move (Nat.le_refl _) (fun b _ hb => put4_other (by omega)) _ HZI.out HZF.out

theorem leastTopR (k : Int) (a : Option Addr) (cap : Nat) (l : List T) (w : World) (hin : (T.mk k a cap l).In w w.heap.size) :
    Calls Tryz.prog 16 #[.agg #[.int .i64 k, .slice a l.length cap]] w (Makes2 w (lstV (T.mk k a cap l)) (argI (T.mk k a cap l).valid)) := by
  cases hv : (T.mk k a cap l).valid with
  | false => exact leastTopR_no k a cap l w hin hv
  | true => exact leastTopR_yes k a cap l w hin hv

end Go.Proofs.YtbiljalhabnhlaaGreatDoor

/-
  THE WALKS OF THE TEXT OF A TYPE.
-/
namespace Go.Proofs.YtbiljalhabnhlaaGreatDoor
open Go.RowKit

/-- The texts of a list, with others between. -/
def joinT (f : T → List UInt8) (sep : List UInt8) : List T → List UInt8
  | [] => []
  | [x] => f x
  | x :: y :: ys => f x ++ sep ++ joinT f sep (y :: ys)

theorem joinT_snoc (f : T → List UInt8) (sep : List UInt8) : ∀ (l : List T) (x : T), joinT f sep (l ++ [x]) = if l = [] then f x else joinT f sep l ++ sep ++ f x
  | [], x => by simp [joinT]
  | [y], x => by simp [joinT]
  | y :: z :: zs, x => by
    have ih := joinT_snoc f sep (z :: zs) x
    simp only [List.cons_append, joinT] at ih ⊢
    simp at ih ⊢
    rw [ih]
theorem joinT_pre (f : T → List UInt8) (sep : List UInt8) : ∀ (a b : List T), ∃ r, joinT f sep (a ++ b) = joinT f sep a ++ r
  | [], b => ⟨_, rfl⟩
  | [x], [] => ⟨[], by simp [joinT]⟩
  | [x], y :: ys => ⟨sep ++ joinT f sep (y :: ys), by simp [joinT]⟩
  | x :: y :: ys, b => by
    obtain ⟨r, hr⟩ := joinT_pre f sep (y :: ys) b
    refine ⟨r, ?_⟩
    simp only [List.cons_append, joinT] at hr ⊢
    rw [hr]; simp
theorem joinT_len (f : T → List UInt8) (sep : List UInt8) (l : List T) (j : Nat) : (joinT f sep (l.take j)).length ≤ (joinT f sep l).length := by
  obtain ⟨r, hr⟩ := joinT_pre f sep (l.take j) (l.drop j)
  rw [List.take_append_drop] at hr
  rw [hr]; simp

set_option maxHeartbeats 2000000 in
theorem listTextT (f : T → List UInt8) (w : World) (S b0 off : Nat) (a : Option Addr) (cap : Nat) (l : List T) (xs : List UInt8) (op bt en : ByteArray) (ha : l ≠ [] → a = some ⟨b0, off, none⟩) (hl : l.length ≤ 9223372036854775807) (hs : Sink w S xs)
    (H : ∀ (j : Nat) (x : T), l[j]? = some x → ∀ (w1 : World) (xs1 : List UInt8), Sk S w w1 → Sink w1 S xs1 → xs1.length + (f x).length ≤ 1000000000000 →
      Calls Tryz.prog 70 #[.pointer (some ⟨b0, off + j * 2, none⟩), takeF S] w1 fun e w' => e = .returned (.tuple #[]) ∧ Sink w' S (xs1 ++ f x) ∧ Sk S w1 w')
    (hx : xs.length + op.size + (joinT f bt.data.toList l).length + en.size ≤ 1000000000000) :
    Calls Tryz.prog 111 #[takeF S, .string op, .string bt, .string en, .slice a l.length cap, .func (.func 70) #[] #[]] w fun e w' =>
      e = .returned (.tuple #[]) ∧ Sink w' S (xs ++ op.data.toList ++ joinT f bt.data.toList l ++ en.data.toList) ∧ Sk S w w' := by
  have HS := Lib.hid hs
  have HH := Lib.hid H
  have HX := Lib.hid hx
  have HA := Lib.hid ha
  have zop : op.data.toList.length = op.size := by simp
  have ZOP := Lib.hid zop
  have zbt : bt.data.toList.length = bt.size := by simp
  have ZBT := Lib.hid zbt
  clear hs H hx ha zop zbt
  go_enter Tryz.func111, Tryz.ntmps111
  go_wp2_with fail
  refine (puts_any w S xs op HS.out (by have := HX.out; omega)).mono ?_
  rintro e w1 ⟨rfl, hs1, hk1⟩
  have HS1 := Lib.hid hs1
  have HK1 := Lib.hid hk1
  clear hs1 hk1
  go_wp2_with fail
  go_loopw [18] (fun i wr => ∃ j : Nat, j ≤ l.length ∧ i = .int .i64 j ∧ Sink wr S (xs ++ op.data.toList ++ joinT f bt.data.toList (l.take j)) ∧ Sk S w wr) (fun i _ => l.length - (intOf i).toNat)
  case atStart => exact ⟨0, Nat.zero_le _, rfl, by simpa [joinT] using HS1.out, HK1.out⟩
  case round =>
    obtain ⟨j, hj, rfl, hsk, hk⟩ := hrel
    have HSK := Lib.hid hsk
    have HK := Lib.hid hk
    clear hsk hk
    by_cases hlt : j < l.length
    · obtain ⟨x, hxj⟩ : ∃ x, l[j]? = some x := ⟨l[j], by simp [hlt]⟩
      have HXJ := Lib.hid hxj
      obtain rfl := HA.out (by rintro rfl; simp at hlt)
      have hb := joinT_len f bt.data.toList l (j + 1)
      have hts := take_snocT hxj
      have hjn := joinT_snoc f bt.data.toList (l.take j) x
      rw [← hts] at hjn
      have HB := Lib.hid hb
      have HJ := Lib.hid hjn
      clear hxj hb hts hjn
      by_cases h0 : j = 0
      · subst h0
        have hj1 : joinT f bt.data.toList (l.take (0 + 1)) = f x := by rw [HJ.out]; simp
        have HJ1 := Lib.hid hj1
        clear hj1
        go_wp2_with fail
        refine (HH.out 0 x HXJ.out _ _ HK.out HSK.out (by have := HX.out; have := HB.out; rw [HJ1.out] at this; simp [joinT]; have := ZOP.out; simp at this; omega)).mono ?_
        rintro e w2 ⟨rfl, hs2, hk2⟩
        have HS2 := Lib.hid hs2
        have HK2 := Lib.hid (HK.out.trans hk2)
        clear hs2 hk2
        go_wp2_with fail
        go_roundw
        case rel => exact ⟨1, by omega, by go_num, by have := HS2.out; rw [HJ1.out]; simpa [joinT] using this, HK2.out⟩
        case measure => simp [intOf]; omega
      · have hne : ¬ l.take j = [] := by
          intro h; have := congrArg List.length h; simp at this; rcases this with h | h; omega; subst h; simp at hlt
        have hj1 : joinT f bt.data.toList (l.take (j + 1)) = joinT f bt.data.toList (l.take j) ++ bt.data.toList ++ f x := by rw [HJ.out, if_neg hne]
        have HJ1 := Lib.hid hj1
        have hlen : (xs ++ op.data.toList ++ joinT f bt.data.toList (l.take j)).length + bt.size + (f x).length ≤ 1000000000000 := by
          have h1 := HX.out; have h2 := HB.out; rw [hj1] at h2; have h3 := ZOP.out; have h4 := ZBT.out
          simp only [List.length_append] at h2 ⊢; omega
        have HLEN := Lib.hid hlen
        have hpos : (0 : Int) < (j : Int) := by omega
        clear hj1 hne hlen
        generalize joinT f bt.data.toList (l.take j) = J at *
        go_wp2_with fail
        refine (puts_any _ S _ bt HSK.out (by have := HLEN.out; omega)).mono ?_
        rintro e w2 ⟨rfl, hs2, hk2⟩
        have HS2 := Lib.hid hs2
        have HK2 := Lib.hid (HK.out.trans hk2)
        clear hs2 hk2
        go_wp2_with fail
        refine (HH.out j x HXJ.out _ _ HK2.out HS2.out (by have := HLEN.out; have := ZBT.out; simp only [List.length_append] at *; omega)).mono ?_
        rintro e w3 ⟨rfl, hs3, hk3⟩
        have HS3 := Lib.hid hs3
        have HK3 := Lib.hid (HK2.out.trans hk3)
        clear hs3 hk3
        go_wp2_with fail
        go_roundw
        case rel => exact ⟨j + 1, by omega, by go_num, by have := HS3.out; rw [HJ1.out]; simpa using this, HK3.out⟩
        case measure => simp [intOf]; omega
    · have hjl : j = l.length := by omega
      subst hjl
      rw [List.take_length] at HSK
      generalize hJ : joinT f bt.data.toList l = J at *
      go_wp2_with fail
      refine (puts_any _ S _ en HSK.out (by have := HX.out; have := ZOP.out; simp only [List.length_append] at *; omega)).mono ?_
      rintro e w2 ⟨rfl, hs2, hk2⟩
      have HS2 := Lib.hid hs2
      have HK2 := Lib.hid (HK.out.trans hk2)
      clear hs2 hk2
      go_wp2_with fail
      go_end0
      exact ⟨rfl, by subst hJ; exact HS2.out, HK2.out⟩


mutual
/-- The text of a type. -/
def T.txt : T → List UInt8
  | .mk k _ _ l => if k = 0 then [105, 110, 116] else if k = 1 then [116, 101, 120, 116] else if k = 2 then 40 :: T.txtL [44, 32] l ++ [41] else if k = 3 then 91 :: T.txtL [32, 43, 32] l ++ [93] else []
def T.txtL : List UInt8 → List T → List UInt8
  | _, [] => []
  | sep, x :: xs => match xs with
    | [] => x.txt
    | y :: ys => x.txt ++ sep ++ T.txtL sep (y :: ys)
end
theorem T.txtL_join (sep : List UInt8) : ∀ (l : List T), T.txtL sep l = joinT T.txt sep l
  | [] => by simp [T.txtL, joinT]
  | [x] => by simp [T.txtL, joinT]
  | x :: y :: ys => by
    have := T.txtL_join sep (y :: ys)
    simp only [joinT]
    rw [← this]
    conv => lhs; unfold T.txtL

/-- A type's two cells lie at an address. -/
structure PtrAtT (w : World) (b off : Nat) (k : Int) (sl : Value) : Prop where
  c0 : w.cell? ⟨b, off, none⟩ = some (.int .i64 k)
  c1 : w.cell? ⟨b, off + 1, none⟩ = some sl
theorem PtrAtT.keep {w w' : World} {b off B : Nat} {k : Int} {sl : Value} (h : PtrAtT w b off k sl) (hb : b < B) (hk : Below B w w') : PtrAtT w' b off k sl :=
  ⟨(hk.cell (p := ⟨b, _, none⟩) hb).trans h.c0, (hk.cell (p := ⟨b, _, none⟩) hb).trans h.c1⟩

theorem T.ptrPart {w : World} {B : Nat} {k : Int} {a : Option Addr} {cap : Nat} {l : List T} (hin : (T.mk k a cap l).In w B) (hl : l ≠ []) :
    ∃ b0 off, a = some ⟨b0, off, none⟩ ∧ b0 < B ∧ ∀ (j : Nat) (x : T), l[j]? = some x → PtrAtT w b0 (off + j * 2) x.k (.slice x.a x.l.length x.cap) ∧ x.In w B := by
  rw [T.In_def] at hin
  obtain ⟨_, _, _, hat, hparts⟩ := hin
  simp only [T.l, T.a] at hat hparts
  rcases hat with h | ⟨b0, off, h, hb0, hat⟩
  · exact absurd h hl
  · exact ⟨b0, off, h, hb0, fun j x hx => ⟨⟨(hat j x hx).1, (hat j x hx).2⟩, T.InL_iff.1 hparts j x hx⟩⟩

set_option maxHeartbeats 1000000 in
theorem writeType_int (w : World) (S b off : Nat) (xs : List UInt8) (sl : Value) (hs : Sink w S xs) (hp : PtrAtT w b off 0 sl) (hx : xs.length + 3 ≤ 1000000000000) :
    Calls Tryz.prog 70 #[.pointer (some ⟨b, off, none⟩), takeF S] w fun e w' => e = .returned (.tuple #[]) ∧ Sink w' S (xs ++ [105, 110, 116]) ∧ Sk S w w' := by
  have h0 := hp.c0
  have CC := Lib.hid (puts_any w S xs ⟨#[105, 110, 116]⟩ hs (by simp [ByteArray.size]; omega))
  clear hs hp hx
  go_enter Tryz.func70, Tryz.ntmps70
  go_wp2_with fail
  refine CC.out.mono ?_
  rintro e w2 ⟨rfl, hs2, hk2⟩
  have HK2 := Lib.hid hk2
  have HS2 := Lib.hid hs2
  clear hs2 hk2
  go_wp2_with fail
  go_end0
  exact ⟨rfl, HS2.out, HK2.out⟩

set_option maxHeartbeats 1000000 in
theorem writeType_text (w : World) (S b off : Nat) (xs : List UInt8) (sl : Value) (hs : Sink w S xs) (hp : PtrAtT w b off 1 sl) (hx : xs.length + 4 ≤ 1000000000000) :
    Calls Tryz.prog 70 #[.pointer (some ⟨b, off, none⟩), takeF S] w fun e w' => e = .returned (.tuple #[]) ∧ Sink w' S (xs ++ [116, 101, 120, 116]) ∧ Sk S w w' := by
  have h0 := hp.c0
  have CC := Lib.hid (puts_any w S xs ⟨#[116, 101, 120, 116]⟩ hs (by simp [ByteArray.size]; omega))
  clear hs hp hx
  go_enter Tryz.func70, Tryz.ntmps70
  go_wp2_with fail
  refine CC.out.mono ?_
  rintro e w2 ⟨rfl, hs2, hk2⟩
  have HK2 := Lib.hid hk2
  have HS2 := Lib.hid hs2
  clear hs2 hk2
  go_wp2_with fail
  go_end0
  exact ⟨rfl, HS2.out, HK2.out⟩

set_option maxHeartbeats 1000000 in
theorem writeType_tuple (w : World) (S b off : Nat) (xs E : List UInt8) (a : Option Addr) (len cap : Nat) (hp : PtrAtT w b off 2 (.slice a len cap))
    (C : Calls Tryz.prog 111 #[takeF S, .string ⟨#[40]⟩, .string ⟨#[44, 32]⟩, .string ⟨#[41]⟩, .slice a len cap, .func (.func 70) #[] #[]] w fun e w' => e = .returned (.tuple #[]) ∧ Sink w' S (xs ++ E) ∧ Sk S w w') :
    Calls Tryz.prog 70 #[.pointer (some ⟨b, off, none⟩), takeF S] w fun e w' => e = .returned (.tuple #[]) ∧ Sink w' S (xs ++ E) ∧ Sk S w w' := by
  have h0 := hp.c0
  have h1 := hp.c1
  have CC := Lib.hid C
  clear C hp
  go_enter Tryz.func70, Tryz.ntmps70
  go_wp2_with fail
  refine CC.out.mono ?_
  rintro e w2 ⟨rfl, hs2, hk2⟩
  have HK2 := Lib.hid hk2
  have HS2 := Lib.hid hs2
  clear hs2 hk2
  go_wp2_with fail
  go_end0
  exact ⟨rfl, HS2.out, HK2.out⟩

set_option maxHeartbeats 1000000 in
theorem writeType_sum (w : World) (S b off : Nat) (xs E : List UInt8) (a : Option Addr) (len cap : Nat) (hp : PtrAtT w b off 3 (.slice a len cap))
    (C : Calls Tryz.prog 111 #[takeF S, .string ⟨#[91]⟩, .string ⟨#[32, 43, 32]⟩, .string ⟨#[93]⟩, .slice a len cap, .func (.func 70) #[] #[]] w fun e w' => e = .returned (.tuple #[]) ∧ Sink w' S (xs ++ E) ∧ Sk S w w') :
    Calls Tryz.prog 70 #[.pointer (some ⟨b, off, none⟩), takeF S] w fun e w' => e = .returned (.tuple #[]) ∧ Sink w' S (xs ++ E) ∧ Sk S w w' := by
  have h0 := hp.c0
  have h1 := hp.c1
  have CC := Lib.hid C
  clear C hp
  go_enter Tryz.func70, Tryz.ntmps70
  go_wp2_with fail
  refine CC.out.mono ?_
  rintro e w2 ⟨rfl, hs2, hk2⟩
  have HK2 := Lib.hid hk2
  have HS2 := Lib.hid hs2
  clear hs2 hk2
  go_wp2_with fail
  go_end0
  exact ⟨rfl, HS2.out, HK2.out⟩

set_option maxHeartbeats 1000000 in
theorem writeType_none (w : World) (S b off : Nat) (xs : List UInt8) (k : Int) (sl : Value) (hs : Sink w S xs) (hp : PtrAtT w b off k sl) (h : ¬ k = 0 ∧ ¬ k = 1 ∧ ¬ k = 2 ∧ ¬ k = 3) :
    Calls Tryz.prog 70 #[.pointer (some ⟨b, off, none⟩), takeF S] w fun e w' => e = .returned (.tuple #[]) ∧ Sink w' S (xs ++ []) ∧ Sk S w w' := by
  have h0 := hp.c0
  have HS := Lib.hid hs
  have g0 : (k == 0) = false := by simpa using h.1
  have g1 : (k == 1) = false := by simpa using h.2.1
  have g2 : (k == 2) = false := by simpa using h.2.2.1
  have g3 : (k == 3) = false := by simpa using h.2.2.2
  clear hs hp h
  go_enter Tryz.func70, Tryz.ntmps70
  go_wp2_with fail
  go_end0
  exact ⟨rfl, by simpa using HS.out, Sk.refl _ _⟩

theorem textT : ∀ (N : Nat) (v : T) (w : World) (S b off : Nat) (xs : List UInt8), v.rank ≤ N → v.In w S → PtrAtT w b off v.k (.slice v.a v.l.length v.cap) → b < S → Sink w S xs → xs.length + v.txt.length ≤ 1000000000000 →
    Calls Tryz.prog 70 #[.pointer (some ⟨b, off, none⟩), takeF S] w fun e w' => e = .returned (.tuple #[]) ∧ Sink w' S (xs ++ v.txt) ∧ Sk S w w' := by
  intro N
  induction N with
  | zero => intro v w S b off xs h; have := v.rank_pos; omega
  | succ N ih =>
    intro v w S b off xs hN hin hp hb hs hx
    cases v with
    | mk k a cap l =>
    simp only [T.k, T.a, T.l, T.cap] at hp
    have hll := T.lenLe hin
    have part : ∀ (b0 off0 : Nat), (∀ (j : Nat) (x : T), l[j]? = some x → PtrAtT w b0 (off0 + j * 2) x.k (.slice x.a x.l.length x.cap) ∧ x.In w S) → b0 < S →
        ∀ (j : Nat) (x : T), l[j]? = some x → ∀ (w1 : World) (xs1 : List UInt8), Sk S w w1 → Sink w1 S xs1 → xs1.length + x.txt.length ≤ 1000000000000 →
          Calls Tryz.prog 70 #[.pointer (some ⟨b0, off0 + j * 2, none⟩), takeF S] w1 fun e w' => e = .returned (.tuple #[]) ∧ Sink w' S (xs1 ++ x.txt) ∧ Sk S w1 w' := by
      intro b0 off0 hpt hb0 j x hj w1 xs1 hk1 hs1 hx1
      have hrk := T.rank_part (v := .mk k a cap l) (j := j) (x := x) hj
      have hbl := hk1.below hs
      exact ih x w1 S b0 (off0 + j * 2) xs1 (by omega) ((hpt j x hj).2.keep (Nat.le_refl _) hbl) ((hpt j x hj).1.keep hb0 hbl) hb0 hs1 hx1
    by_cases h0 : k = 0
    · subst h0
      have e : (T.mk 0 a cap l).txt = [105, 110, 116] := by simp [T.txt]
      rw [e] at hx ⊢
      exact writeType_int w S b off xs _ hs hp (by simpa using hx)
    by_cases h1 : k = 1
    · subst h1
      have e : (T.mk 1 a cap l).txt = [116, 101, 120, 116] := by simp [T.txt]
      rw [e] at hx ⊢
      exact writeType_text w S b off xs _ hs hp (by simpa using hx)
    by_cases h2 : k = 2
    · subst h2
      have e : (T.mk 2 a cap l).txt = 40 :: joinT T.txt [44, 32] l ++ [41] := by simp [T.txt, T.txtL_join]
      rw [e] at hx ⊢
      refine writeType_tuple w S b off xs _ a l.length cap hp ?_
      by_cases hl : l = []
      · simpa using listTextT T.txt w S 0 0 a cap l xs ⟨#[40]⟩ ⟨#[44, 32]⟩ ⟨#[41]⟩ (fun h => absurd hl h) hll hs (fun j x hj => by subst hl; simp at hj) (by simp at hx; simp [ByteArray.size]; omega)
      · obtain ⟨b0, off0, ha, hb0, hpt⟩ := T.ptrPart hin hl
        simpa using listTextT T.txt w S b0 off0 a cap l xs ⟨#[40]⟩ ⟨#[44, 32]⟩ ⟨#[41]⟩ (fun _ => ha) hll hs (part b0 off0 hpt hb0) (by simp at hx; simp [ByteArray.size]; omega)
    by_cases h3 : k = 3
    · subst h3
      have e : (T.mk 3 a cap l).txt = 91 :: joinT T.txt [32, 43, 32] l ++ [93] := by simp [T.txt, T.txtL_join]
      rw [e] at hx ⊢
      refine writeType_sum w S b off xs _ a l.length cap hp ?_
      by_cases hl : l = []
      · simpa using listTextT T.txt w S 0 0 a cap l xs ⟨#[91]⟩ ⟨#[32, 43, 32]⟩ ⟨#[93]⟩ (fun h => absurd hl h) hll hs (fun j x hj => by subst hl; simp at hj) (by simp at hx; simp [ByteArray.size]; omega)
      · obtain ⟨b0, off0, ha, hb0, hpt⟩ := T.ptrPart hin hl
        simpa using listTextT T.txt w S b0 off0 a cap l xs ⟨#[91]⟩ ⟨#[32, 43, 32]⟩ ⟨#[93]⟩ (fun _ => ha) hll hs (part b0 off0 hpt hb0) (by simp at hx; simp [ByteArray.size]; omega)
    have e : (T.mk k a cap l).txt = [] := by simp [T.txt, h0, h1, h2, h3]
    rw [e]
    exact writeType_none w S b off xs k _ hs hp ⟨h0, h1, h2, h3⟩

set_option maxHeartbeats 1000000 in
theorem typeText (k : Int) (a : Option Addr) (cap : Nat) (l : List T) (w : World) (hin : (T.mk k a cap l).In w w.heap.size) (hc : ¬ (T.mk k a cap l).cnt = 0) (hne : (T.mk k a cap l).txt ≠ [])
    (hx : (T.mk k a cap l).txt.length ≤ 1000000000000) :
    Calls Tryz.prog 29 #[.agg #[.int .i64 k, .slice a l.length cap]] w fun e w' =>
      e = .returned (.tuple #[.string ⟨(T.mk k a cap l).txt.toArray⟩, .int .i64 0]) ∧ Kp w w' := by
  have C := fun w1 (h : Kp w w1) => typeV k a cap l w1 (hin.keep h.size h)
  rw [bad1 hc] at C
  have CC := Lib.hid C
  have D : ∀ (w1 : World) (S b : Nat), Kp w w1 → w.heap.size ≤ S → PtrAtT w1 b 0 k (.slice a l.length cap) → b < S → Sink w1 S [] →
      Calls Tryz.prog 70 #[.pointer (some ⟨b, 0, none⟩), takeF S] w1 fun e w' => e = .returned (.tuple #[]) ∧ Sink w' S (T.mk k a cap l).txt ∧ Sk S w1 w' := by
    intro w1 S b hk hS hp hb hs
    simpa using textT _ (.mk k a cap l) w1 S b 0 [] (Nat.le_refl _) (hin.keep hS hk) hp hb hs (by simpa using hx)
  have DD := Lib.hid D
  have HNE := Lib.hid hne
  generalize (T.mk k a cap l).txt = E at *
  clear C D hin hc hx hne
  go_enter Tryz.func29, Tryz.ntmps29
  go_wp2_with fail
  refine (CC.out _ (ka _ _)).mono ?_
  rintro e w1 ⟨rfl, hk⟩
  obtain ⟨b0, b1, hz⟩ := box2 hk
  have HK := Lib.hid (kk (ka _ _) hk)
  have HP := Lib.hid (⟨b0, b1⟩ : PtrAtT w1 w.heap.size 0 k (.slice a l.length cap))
  clear hk b0 b1
  go_wp2_with fail
  refine (DD.out _ w1.heap.size w.heap.size (kk HK.out (ka _ _)) (by omega) (HP.out.keep hz (ka _ _)) hz ⟨.slice none 0 0, blockHere rfl, World.ownsRow_nil _ _ _ _⟩).mono ?_
  rintro e w3 ⟨rfl, hs3, hk3⟩
  obtain ⟨g, cap3, hc3, hcv⟩ := hs3.out HNE.out
  have HK3 := Lib.hid (HK.out.trans ((Below.alloc (Below.refl _ _) (by omega) _).trans ((hk3.below (S := w1.heap.size) (xs := []) ⟨.slice none 0 0, blockHere rfl, World.ownsRow_nil _ _ _ _⟩).mono (by omega))))
  clear hs3 hk3
  go_wp2_with fail
  go_ret2
  exact ⟨rfl, HK3.out⟩

end Go.Proofs.YtbiljalhabnhlaaGreatDoor
