/-
  Proved: the statement ValueKnown (what the chapter says of single values, types, texts and keys: valid ones are taken, each other one is refused with its error, and the chapter's examples hold), as its tied card says it, with no condition beyond the card's own.
  Part 1 of 6.
-/
import Derived.WalkKit
import Derived.Test.YtkfmgafgokpjhaaGreatDoorBc06
import Derived.Test.YtkfmgafgokpjhaaGreatDoorBc09
import Derived.Test.YtkfmgafgokpjhaaGreatDoorBc10
import Derived.Lib.ItoaLen
import Derived.Test.YtkfmgafgokpjhaaGreatDoorBc11
import Derived.Test.YtkfmgafgokpjhaaGreatDoorBc08
import Derived.Test.YtkfmgafgokpjhaaGreatDoorBc07
/-
  A REGION THAT DRAWS ITS ORDER, BY AN INVARIANT: what holds of each slot that is listed holds on.
-/
namespace Go.Proofs.YtkfmgafgokpjhaaGreatDoor
open Go.RowKit

theorem count_set_lt {l : Array Bool} {i : Nat} (hi : i < l.size) (h : l.getD i true = false) : (l.setIfInBounds i true).toList.count false < l.toList.count false := by
  have h1 : l.toList[i]'(by simpa using hi) = false := by simpa [Array.getD, hi] using h
  have h2 : 0 < l.toList.count false := List.count_pos_iff.2 (h1 ▸ List.getElem_mem _)
  rw [Array.toList_setIfInBounds, List.count_set (by simpa using hi), h1]
  show l.toList.count false - 1 + 0 < _
  omega

/-- THE LAW: what each ready operation keeps holds at the region's end. -/
theorem any_inv {P : Program} {md : Region.Mode} {ops : Array Oper} {Q : Exit → Act → World → Prop} (I : Array Bool → Act → World → Prop)
    (hstep : ∀ listed a w, listed.size = ops.size → I listed a w → ∀ i, i ∈ Region.ready md ops listed → wpOp P ops Q i (fun a' w' => I (listed.setIfInBounds i true) a' w') a w)
    (hend : ∀ listed a w, listed.size = ops.size → I listed a w → Region.ready md ops listed = [] → Q .normal a w) :
    ∀ (fuel : Nat) (listed : Array Bool) (a : Act) (w : World), listed.size = ops.size → I listed a w → listed.toList.count false ≤ fuel → wpAny P md ops Q fuel listed a w := by
  intro fuel
  induction fuel with
  | zero =>
    intro listed a w hs hi hc
    have hr : Region.ready md ops listed = [] := by
      rw [List.eq_nil_iff_forall_not_mem]
      intro i hm
      obtain ⟨h0, o, ho, -⟩ := mem_ready.1 hm
      have hlt : i < ops.size := (Array.getElem?_eq_some_iff.1 ho).1
      have := count_set_lt (hs ▸ hlt) h0
      omega
    exact ⟨hr, hend _ _ _ hs hi hr⟩
  | succ fuel ih =>
    intro listed a w hs hi hc
    refine ⟨fun hr => hend _ _ _ hs hi hr, fun i hm => wpOp_mono (fun a' w' h => ?_) (hstep _ _ _ hs hi i hm)⟩
    obtain ⟨h0, o, ho, -⟩ := mem_ready.1 hm
    have hlt : i < ops.size := (Array.getElem?_eq_some_iff.1 ho).1
    have := count_set_lt (hs ▸ hlt) h0
    exact ih _ _ _ (by simpa using hs) h (by omega)

/-- In a region that orders its operations by number, nothing is ready just where all is listed. -/
theorem ready_nil {md : Region.Mode} {ops : Array Oper} {listed : Array Bool} (hup : ∀ (i : Nat) (o : Oper), ops[i]? = some o → ∀ e ∈ o.after, Region.binds md e = true → e.on < i) (hs : listed.size = ops.size)
    (h : Region.ready md ops listed = []) : ∀ i, i < ops.size → listed.getD i false = true := by
  intro i
  induction i using Nat.strongRecOn with
  | _ i ih =>
    intro hi
    cases hl : listed.getD i false with
    | true => rfl
    | false =>
      have hm : i ∈ Region.ready md ops listed := by
        rw [mem_ready]
        refine ⟨?_, ops[i], by simp [hi], fun e he hb => ih e.on (hup i ops[i] (by simp [hi]) e he hb) (by have := hup i ops[i] (by simp [hi]) e he hb; omega)⟩
        have hi' : i < listed.size := hs ▸ hi
        simp [Array.getD, hi'] at hl ⊢
        exact hl
      rw [h] at hm
      simp at hm

theorem region_inv {P : Program} {id : Nat} {ops : Array Oper} {Q : Exit → Act → World → Prop} {a : Act} {w : World} (hm : P.follows .mixedOrders = true) (I : Array Bool → Act → World → Prop)
    (hup : (Array.range ops.size).all (fun i => ((ops[i]?).map fun o => o.after.all fun e => decide (e.on < i) || !Region.binds .any e).getD true) = true)
    (h0 : I (Array.replicate ops.size false) a { w with drawn := w.drawn + 1 })
    (hstep : ∀ listed a w, listed.size = ops.size → I listed a w → ∀ i o, ops[i]? = some o → listed.getD i true = false → (∀ e ∈ o.after, Region.binds .any e = true → listed.getD e.on false = true) →
      wpOp P ops Q i (fun a' w' => I (listed.setIfInBounds i true) a' w') a w)
    (hend : ∀ listed a w, I listed a w → (∀ i, i < ops.size → listed.getD i false = true) → Q .normal a w) : (Code.region id ops true).wp P Q a w := by
  refine wp_region_any hm (any_inv I (fun listed a w hs hi i hr => ?_) (fun listed a w hs hi hr => hend _ _ _ hi (ready_nil (fun i o ho e he hb => ?_) hs hr)) _ _ _ _ (by simp) h0 (by simp))
  · obtain ⟨h0, o, ho, he⟩ := mem_ready.1 hr
    exact hstep _ _ _ hs hi i o ho h0 he
  · have hlt : i < ops.size := (Array.getElem?_eq_some_iff.1 ho).1
    have := Array.all_eq_true_iff_forall_mem.1 hup i (by simp [hlt])
    rw [ho] at this
    have := Array.all_eq_true_iff_forall_mem.1 this e he
    simpa [hb] using this

end Go.Proofs.YtkfmgafgokpjhaaGreatDoor

/-
  A REGION THAT MAKES VALUES IN ANY ORDER: what each slot holds, and that it holds on.
-/
namespace Go.Proofs.YtkfmgafgokpjhaaGreatDoor
open Go.RowKit

def intV (n : Int) : V := .mk 0 n ⟨#[]⟩ none 0 []
def txtV (s : ByteArray) : V := .mk 1 0 s none 0 []
def tupV (l : List V) : V := .mk 2 0 ⟨#[]⟩ none 0 l
def tagV (n : Int) (x : V) : V := .mk 3 n ⟨#[]⟩ none 0 [x]

/-- A list of values. -/
def RowS (w : World) (s : Value) (ys : List V) : Prop := ∃ (a : Option Addr) (cap : Nat) (l : List V), s = .slice a l.length cap ∧ (V.mk 2 0 ⟨#[]⟩ a cap l).In w w.heap.size ∧ V.sameL l ys = true

/-- What a slot holds: a value, a list, a list of its own. -/
inductive Fact where
  | any
  | is (v : Value)
  | val (y : V)
  | out (y : V)
  | row (ys : List V)
  | outRow (ys : List V)
  | own (base : Nat) (ys : List V)

def Fact.holds (P : Nat → Prop) (v : Value) (w : World) : Fact → Prop
  | .any => True
  | .is u => v = u
  | .val y => ∃ x : V, v = x.val ∧ x.In w w.heap.size ∧ x.foot P ∧ x.same y = true
  | .out y => ∃ x : V, v = x.val ∧ x.In w w.heap.size ∧ x.same y = true
  | .row ys => ∃ (a : Option Addr) (cap : Nat) (l : List V), v = .slice a l.length cap ∧ (V.mk 2 0 ⟨#[]⟩ a cap l).In w w.heap.size ∧ (V.mk 2 0 ⟨#[]⟩ a cap l).foot P ∧ V.sameL l ys = true
  | .outRow ys => RowS w v ys
  | .own base ys => ∃ xs, w.ownsRow base 24 4 v xs.length (cellsL xs) ∧ V.InL w w.heap.size xs ∧ V.footL P xs ∧ V.sameL xs ys = true

def Fact.tame : Fact → Bool
  | .out _ | .outRow _ | .own _ _ => false
  | _ => true

theorem Fact.move {F : Fact} {P : Nat → Prop} {v : Value} {w w' : World} (ht : F.tame = true) (hs : w.heap.size ≤ w'.heap.size) (hm : ∀ b, b < w.heap.size → P b → w'.heap[b]? = w.heap[b]?) (h : F.holds P v w) : F.holds P v w' := by
  cases F <;> simp only [Fact.tame, Bool.false_eq_true] at ht <;> simp only [Fact.holds] at h ⊢
  · exact h
  · obtain ⟨x, h0, h1, h2, h3⟩ := h
    exact ⟨x, h0, V.In.move hs hm x h1 h2, h2, h3⟩
  · obtain ⟨a, c, l, h0, h1, h2, h3⟩ := h
    exact ⟨a, c, l, h0, V.In.move hs hm _ h1 h2, h2, h3⟩

theorem Fact.kp {F : Fact} {P : Nat → Prop} {v : Value} {w w' : World} (hk : Kp w w') (h : F.holds P v w) : F.holds P v w' := by
  cases F <;> simp only [Fact.holds, RowS] at h ⊢
  · exact h
  · obtain ⟨x, h0, h1, h2⟩ := h
    exact ⟨x, h0, h1.keep hk.size hk, h2⟩
  · obtain ⟨x, h0, h1, h2⟩ := h
    exact ⟨x, h0, h1.keep hk.size hk, h2⟩
  · obtain ⟨a, c, l, h0, h1, h2⟩ := h
    exact ⟨a, c, l, h0, h1.keep hk.size hk, h2⟩
  · obtain ⟨a, c, l, h0, h1, h2⟩ := h
    exact ⟨a, c, l, h0, h1.keep hk.size hk, h2⟩
  · obtain ⟨xs, h0, h1, h2⟩ := h
    exact ⟨xs, ownsRow_kp h0 hk, h1.keep hk.size hk, h2⟩

theorem Fact.narrow {F : Fact} {P Q : Nat → Prop} {v : Value} {w : World} (hq : ∀ b, P b → b < w.heap.size → Q b) (h : F.holds P v w) : F.holds Q v w := by
  cases F <;> simp only [Fact.holds] at h ⊢
  · exact h
  · obtain ⟨x, h0, h1, h2, h3⟩ := h
    exact ⟨x, h0, h1, V.foot.mono (fun b hb => hq b hb.1 hb.2) x (V.In.foot_lt x h1 h2), h3⟩
  · exact h
  · obtain ⟨a, c, l, h0, h1, h2, h3⟩ := h
    exact ⟨a, c, l, h0, h1, V.foot.mono (fun b hb => hq b hb.1 hb.2) _ (V.In.foot_lt _ h1 h2), h3⟩
  · exact h
  · obtain ⟨xs, h0, h1, h2, h3⟩ := h
    exact ⟨xs, h0, h1, V.footL.mono (fun b hb => hq b hb.1 hb.2) xs (V.InL.foot_lt xs h1 h2), h3⟩

theorem node_in {w : World} {q cap t : Nat} {fr : Nat × Nat} {cs : Array Value} {k n : Int} {s : ByteArray} {xs : List V} (hq : w.heap[q]? = some (.cells cs t fr)) (hc : cs.toList = cellsL xs) (hxs : V.InL w w.heap.size xs)
    (hk : I64 k) (hn : I64 n) (hs : s.size ≤ maxLen) (hl : xs.length ≤ cap) (hm : cap ≤ maxLen) : (V.mk k n s (some ⟨q, 0, none⟩) cap xs).In w w.heap.size := by
  simp only [V.In]
  exact ⟨hk, hn, hs, hl, hm, .inr ⟨q, 0, rfl, lt_of_block hq, At.of_block hq hc⟩, hxs⟩
theorem node_foot {P : Nat → Prop} {q cap : Nat} {k n : Int} {s : ByteArray} {xs : List V} (hq : P q) (hxs : V.footL P xs) : (V.mk k n s (some ⟨q, 0, none⟩) cap xs).foot P := by
  simp only [V.foot]
  exact ⟨.inr ⟨q, 0, rfl, hq⟩, hxs⟩
theorem i64c (n : Int) (h : -9223372036854775808 ≤ n ∧ n ≤ 9223372036854775807) : I64 n := h
theorem z0 : (⟨#[]⟩ : ByteArray).size ≤ maxLen := by unfold maxLen; decide

theorem fact_int (P : Nat → Prop) (w : World) (n : Int) (hn : I64 n) : Fact.holds P (.agg #[.int .i64 0, .int .i64 n, .string ⟨#[]⟩, .slice none 0 0]) w (.val (intV n)) :=
  ⟨intV n, rfl, inLeaf _ _ _ (by unfold I64; omega) hn z0, V.foot_leaf _ _ _ _ _, V.same_refl _⟩
theorem fact_text (P : Nat → Prop) (w : World) (s : ByteArray) (hs : s.size ≤ maxLen) : Fact.holds P (.agg #[.int .i64 1, .int .i64 0, .string s, .slice none 0 0]) w (.val (txtV s)) :=
  ⟨txtV s, rfl, inLeaf _ _ _ (by unfold I64; omega) (by unfold I64; omega) hs, V.foot_leaf _ _ _ _ _, V.same_refl _⟩
/-- A list's tuple. -/
theorem fact_tuple {P : Nat → Prop} {w w2 : World} {a : Option Addr} {n cap : Nat} {ys : List V} (hk : Kp w w2) (h : Fact.holds P (.slice a n cap) w (.row ys)) : Fact.holds P (.agg #[.int .i64 2, .int .i64 0, .string ⟨#[]⟩, .slice a n cap]) w2 (.val (tupV ys)) := by
  obtain ⟨a', c', l, he, hi, hf, hs⟩ := h
  simp only [Value.slice.injEq] at he
  obtain ⟨rfl, rfl, rfl⟩ := he
  exact ⟨.mk 2 0 ⟨#[]⟩ a cap l, rfl, hi.keep hk.size hk, hf, V.same_node hs⟩
theorem fact_tag {P : Nat → Prop} {w w2 : World} {q : Nat} {i : Int} {x y : V} (hi : I64 i) (hk : Kp w w2) (hx : x.In w w.heap.size) (hf : x.foot P) (hs : x.same y = true) (hP : P q)
    (hq : w2.heap[q]? = some (.cells #[.int .i64 x.k, .int .i64 x.n, .string x.s, .slice x.a x.l.length x.cap] 24 (0, 0))) : Fact.holds P (.agg #[.int .i64 3, .int .i64 i, .string ⟨#[]⟩, .slice (some ⟨q, 0, none⟩) 1 1]) w2 (.val (tagV i y)) :=
  ⟨.mk 3 i ⟨#[]⟩ (some ⟨q, 0, none⟩) 1 [x], rfl, node_in hq (by simp [cellsL, V.cells4]) ⟨hx.keep hk.size hk, trivial⟩ (by unfold I64; omega) hi z0 (Nat.le_refl _) (by unfold maxLen; omega), node_foot hP ⟨hf, trivial⟩, V.same_node (V.sameL_one hs)⟩
theorem sameL_cons {x y : V} {xs ys : List V} (h : x.same y = true) (hs : V.sameL xs ys = true) : V.sameL (x :: xs) (y :: ys) = true := by simp [V.sameL, h, hs]

/-- A list laid out. -/
theorem fact_row {P : Nat → Prop} {w : World} {xs ys : List V} {n : Nat} {cs : Array Value} (hc : cs.toList = cellsL xs) (hn : xs.length = n) (hm : n ≤ maxLen) (hx : V.InL w w.heap.size xs) (hf : V.footL P xs) (hP : P w.heap.size) (hs : V.sameL xs ys = true) :
    Fact.holds P (.slice (some ⟨w.heap.size, 0, none⟩) n n) (w.alloc (.cells cs 24)) (.row ys) := by
  subst hn
  have hk := ka w (.cells cs 24)
  exact ⟨_, _, xs, rfl, node_in (blockHere rfl) hc (hx.keep hk.size hk) (by unfold I64; omega) (by unfold I64; omega) z0 (Nat.le_refl _) hm, node_foot hP hf, hs⟩

theorem relabel {w : World} {B : Nat} {a : Option Addr} {c : Nat} {l : List V} (k n : Int) (s : ByteArray) (h : (V.mk 2 0 ⟨#[]⟩ a c l).In w B) (hk : I64 k) (hn : I64 n) (hs : s.size ≤ maxLen) : (V.mk k n s a c l).In w B := by
  simp only [V.In] at h ⊢
  exact ⟨hk, hn, hs, h.2.2.2⟩
theorem refoot {P : Nat → Prop} {a : Option Addr} {c : Nat} {l : List V} (k n : Int) (s : ByteArray) (h : (V.mk 2 0 ⟨#[]⟩ a c l).foot P) : (V.mk k n s a c l).foot P := by
  simp only [V.foot] at h ⊢
  exact h
/-- A value of a list, whatever it says besides. -/
theorem fact_node {P : Nat → Prop} {w : World} {a : Option Addr} {m c : Nat} {ys : List V} (k n : Int) (s : ByteArray) (hk : I64 k) (hn : I64 n) (hz : s.size ≤ maxLen) (h : Fact.holds P (.slice a m c) w (.row ys)) : Fact.holds P (.agg #[.int .i64 k, .int .i64 n, .string s, .slice a m c]) w (.val (.mk k n s none 0 ys)) := by
  obtain ⟨a', c', l, he, hi, hf, hs⟩ := h
  simp only [Value.slice.injEq] at he
  obtain ⟨rfl, rfl, rfl⟩ := he
  exact ⟨.mk k n s a c l, rfl, relabel k n s hi hk hn hz, refoot k n s hf, V.same_node hs⟩
theorem fact_leaf (P : Nat → Prop) (w : World) (k n : Int) (s : ByteArray) (hk : I64 k) (hn : I64 n) (hz : s.size ≤ maxLen) : Fact.holds P (.agg #[.int .i64 k, .int .i64 n, .string s, .slice none 0 0]) w (.val (.mk k n s none 0 [])) :=
  ⟨.mk k n s none 0 [], rfl, inLeaf _ _ _ hk hn hz, V.foot_leaf _ _ _ _ _, V.same_refl _⟩
theorem fact_outTuple {P : Nat → Prop} {w w2 : World} {a : Option Addr} {n cap : Nat} {ys : List V} (hk : Kp w w2) (h : Fact.holds P (.slice a n cap) w (.outRow ys)) : Fact.holds P (.agg #[.int .i64 2, .int .i64 0, .string ⟨#[]⟩, .slice a n cap]) w2 (.out (tupV ys)) := by
  obtain ⟨a', c', l, he, hi, hs⟩ := h
  simp only [Value.slice.injEq] at he
  obtain ⟨rfl, rfl, rfl⟩ := he
  exact ⟨.mk 2 0 ⟨#[]⟩ a cap l, rfl, hi.keep hk.size hk, V.same_node hs⟩
theorem fact_outRow {P : Nat → Prop} {w : World} {xs ys : List V} {n : Nat} {cs : Array Value} (hc : cs.toList = cellsL xs) (hn : xs.length = n) (hm : n ≤ maxLen) (hx : V.InL w w.heap.size xs) (hs : V.sameL xs ys = true) :
    Fact.holds P (.slice (some ⟨w.heap.size, 0, none⟩) n n) (w.alloc (.cells cs 24)) (.outRow ys) := by
  subst hn
  have hk := ka w (.cells cs 24)
  exact ⟨_, _, xs, rfl, node_in (blockHere rfl) hc (hx.keep hk.size hk) (by unfold I64; omega) (by unfold I64; omega) z0 (Nat.le_refl _) hm, hs⟩

theorem At.cells {w : World} {b : Nat} : ∀ {l : List V} {off : Nat}, At w b off l → ∀ (j : Nat) (u : Value), (cellsL l)[j]? = some u → w.cell? ⟨b, off + j, none⟩ = some u
  | [], off, _, j, u, h => by simp [cellsL] at h
  | x :: xs, off, hA, j, u, h => by
    have hA2 : At w b (off + 4) xs := fun i y hi => by
      have := hA (i + 1) y (by simpa using hi)
      rw [show off + (i + 1) * 4 = off + 4 + i * 4 from by omega] at this
      exact this
    obtain ⟨h0, h1, h2, h3⟩ := hA 0 x rfl
    have hsp : cellsL (x :: xs) = x.cells4 ++ cellsL xs := by simp [cellsL]
    rw [hsp] at h
    match j, h with
    | 0, h => simp [V.cells4] at h; subst h; simpa using h0
    | 1, h => simp [V.cells4] at h; subst h; simpa using h1
    | 2, h => simp [V.cells4] at h; subst h; simpa using h2
    | 3, h => simp [V.cells4] at h; subst h; simpa using h3
    | j + 4, h =>
      have := At.cells hA2 j u (by simpa [V.cells4] using h)
      rw [show off + (j + 4) = off + 4 + j from by omega]
      exact this

/-- A list that holds something: where its cells lie. -/
theorem row_cells {w : World} {B : Nat} {a : Option Addr} {c : Nat} {l : List V} (h : (V.mk 2 0 ⟨#[]⟩ a c l).In w B) (hl : 0 < l.length) : ∃ ad : Addr, a = some ad ∧ ∀ j u, (cellsL l)[j]? = some u → w.cell? (ad.add j) = some u := by
  simp only [V.In] at h
  obtain ⟨-, -, -, -, -, h, -⟩ := h
  rcases h with h | ⟨b, off, rfl, -, hA⟩
  · subst h; simp at hl
  · exact ⟨⟨b, off, none⟩, rfl, fun j u hu => by
      rw [show (⟨b, off, none⟩ : Addr).add j = ⟨b, off + j, none⟩ from by unfold Addr.add; split <;> simp_all]
      exact hA.cells j u hu⟩
theorem cellsL_oneK (l : List V) : ∀ u ∈ cellsL l, u.oneCell' = true := by
  intro u hu
  simp only [cellsL, List.mem_flatMap] at hu
  obtain ⟨x, -, hu⟩ := hu
  simp only [V.cells4, List.mem_cons, List.not_mem_nil, or_false] at hu
  rcases hu with rfl | rfl | rfl | rfl <;> rfl
theorem row_parts {w : World} {B : Nat} {a : Option Addr} {c : Nat} {l : List V} (h : (V.mk 2 0 ⟨#[]⟩ a c l).In w B) : V.InL w B l := by
  simp only [V.In] at h
  exact h.2.2.2.2.2.2
theorem foot_parts {P : Nat → Prop} {a : Option Addr} {c : Nat} {l : List V} (h : (V.mk 2 0 ⟨#[]⟩ a c l).foot P) : V.footL P l := by
  simp only [V.foot] at h
  exact h.2

theorem own_row {w : World} {base g n cap : Nat} {l : List V} (h : w.ownsRow base 24 4 (.slice (some ⟨g, 0, none⟩) n cap) n (cellsL l)) (hl : V.InL w w.heap.size l) (hn : l.length = n) : (V.mk 2 0 ⟨#[]⟩ (some ⟨g, 0, none⟩) cap l).In w w.heap.size := by
  subst hn
  rcases h.2 with ⟨h0, -⟩ | ⟨g', cap', cur, h0, hb, hg, hnc, hcm, -, -⟩
  · cases h0
  · simp only [Value.slice.injEq, Option.some.injEq, Addr.mk.injEq] at h0
    obtain ⟨⟨rfl, -⟩, -, rfl⟩ := h0
    simp only [V.In]
    exact ⟨by unfold I64; omega, by unfold I64; omega, z0, hnc, hcm, .inr ⟨g, 0, rfl, lt_of_block hg, At.of_row h⟩, hl⟩

/-- The blocks that no slot of these owns. -/
def Av (av : List Nat) (a : Act) (b : Nat) : Prop := ∀ d ∈ av, (a.tmps.getD d undef).ownBlock ≠ some b

theorem getD_put {a : Act} {d d' : Nat} {v : Value} (hd : d < a.tmps.size) : (a.put (some d) v).tmps.getD d' undef = if d = d' then v else a.tmps.getD d' undef := by
  simp only [Act.put, Array.getD_eq_getD_getElem?, Array.getElem?_setIfInBounds]
  by_cases h : d = d'
  · subst h; simp [hd]
  · simp [h]

structure RI (ops : Array Oper) (S : List Nat) (a0 : Array Value) (W0 : World) (fs : List (Nat × Option Nat × Fact)) (av : List Nat) (listed : Array Bool) (a : Act) (w : World) : Prop where
  dfr : a.defers = []
  size : a.tmps.size = a0.size
  rest : ∀ d, d ∉ S → a.tmps[d]? = a0[d]?
  kp : Kp W0 w
  closed : ∀ (j : Nat) (o : Oper), ops[j]? = some o → listed.getD j false = true → ∀ e ∈ o.after, Region.binds .any e = true → listed.getD e.on false = true
  avlt : ∀ d ∈ av, ∀ b, (a.tmps.getD d undef).ownBlock = some b → W0.heap.size ≤ b ∧ b < w.heap.size
  holds : ∀ (j d : Nat) till F, fs[j]? = some (d, till, F) → listed.getD j false = true → (∀ t, till = some t → listed.getD t false = false) → F.holds (Av av a) (a.tmps.getD d undef) w

theorem getD_set {l : Array Bool} {i j : Nat} (h : (l.setIfInBounds i true).getD j false = true) : j = i ∨ l.getD j false = true := by
  by_cases e : i = j
  · exact .inl e.symm
  · rw [getD_set_ne _ e] at h
    exact .inr h

theorem getD_set_false {l : Array Bool} {i j : Nat} (h : (l.setIfInBounds i true).getD j false = false) : l.getD j false = false := by
  cases hl : l.getD j false with
  | false => rfl
  | true => rw [getD_set_true hl] at h; cases h

theorem RI.step {ops : Array Oper} {S : List Nat} {a0 : Array Value} {W0 : World} {fs : List (Nat × Option Nat × Fact)} {av : List Nat} {listed : Array Bool} {a : Act} {w w' : World} {i d : Nat} {o : Oper} {till : Option Nat} {F : Fact} {v : Value}
    (h : RI ops S a0 W0 fs av listed a w) (ho : ops[i]? = some o) (hdeps : ∀ e ∈ o.after, Region.binds .any e = true → listed.getD e.on false = true) (hf : fs[i]? = some (d, till, F)) (hdS : d ∈ S) (hdn : d < a0.size)
    (hnd : ∀ (j d' : Nat) t' F', fs[j]? = some (d', t', F') → j ≠ i → d ≠ d') (hsz : w.heap.size ≤ w'.heap.size) (hkp : Kp W0 w')
    (hmove : Kp w w' ∨ ((∀ b, b < w.heap.size → Av av a b → w'.heap[b]? = w.heap[b]?) ∧ ∀ (j d' : Nat) t' F', fs[j]? = some (d', t', F') → j ≠ i → F'.tame = true ∨ (∃ t, t' = some t ∧ (t = i ∨ listed.getD t false = true)) ∨ listed.getD j false = false))
    (hav : d ∈ av → ∀ b, v.ownBlock = some b → (w.heap.size ≤ b ∨ ¬ Av av a b) ∧ b < w'.heap.size) (hin : i < listed.size)
    (hF : (∀ b, Av av a b → b < w.heap.size → Av av (a.put (some d) v) b) → F.holds (Av av (a.put (some d) v)) v w') : RI ops S a0 W0 fs av (listed.setIfInBounds i true) (a.put (some d) v) w' := by
  have hds : d < a.tmps.size := h.size ▸ hdn
  have hnar : ∀ b, Av av a b → b < w.heap.size → Av av (a.put (some d) v) b := fun b hb hlt e he => by
    rw [getD_put hds]
    by_cases hde : d = e
    · subst hde
      simp only [if_true]
      exact fun hv => (hav he b hv).1.elim (fun h1 => by omega) (fun h1 => h1 hb)
    · simp only [hde, if_false]
      exact hb e he
  refine ⟨h.dfr, by simp [Act.put, h.size], fun e he => ?_, hkp, fun j oj hoj hl e he hb => ?_, fun e he b hb => ?_, fun j e tl G hj hl ht => ?_⟩
  · have : d ≠ e := fun hde => he (hde ▸ hdS)
    simp only [Act.put]
    rw [Array.getElem?_setIfInBounds, if_neg this]
    exact h.rest e he
  · rcases getD_set hl with rfl | hl'
    · rw [ho] at hoj
      simp only [Option.some.injEq] at hoj
      subst hoj
      exact getD_set_true (hdeps e he hb)
    · exact getD_set_true (h.closed j oj hoj hl' e he hb)
  · rw [getD_put hds] at hb
    by_cases hde : d = e
    · subst hde
      simp only [if_true] at hb
      refine ⟨?_, (hav he b hb).2⟩
      rcases (hav he b hb).1 with h1 | h1
      · have := h.kp.size; omega
      · exact Classical.byContradiction fun h2 => h1 fun e2 he2 hb2 => h2 (h.avlt e2 he2 b hb2).1
    · simp only [hde, if_false] at hb
      have := h.avlt e he b hb
      omega
  · rw [getD_put hds]
    by_cases hji : j = i
    · subst hji
      rw [hf] at hj
      simp only [Option.some.injEq, Prod.mk.injEq] at hj
      obtain ⟨rfl, rfl, rfl⟩ := hj
      simpa using hF hnar
    · have hde := hnd j e tl G hj hji
      simp only [hde, if_false]
      have hl' : listed.getD j false = true := (getD_set hl).resolve_left hji
      have hG := h.holds j e tl G hj hl' (fun t ht' => getD_set_false (ht t ht'))
      rcases hmove with hk | ⟨hm, hot⟩
      · exact Fact.kp hk (Fact.narrow hnar hG)
      · refine Fact.narrow (P := fun b => Av av a b ∧ Av av (a.put (some d) v) b) (fun b hb _ => hb.2) ?_
        have hG2 := Fact.narrow (Q := fun b => Av av a b ∧ Av av (a.put (some d) v) b) (fun b hb hlt => ⟨hb, hnar b hb hlt⟩) hG
        rcases hot j e tl G hj hji with h1 | h1 | h1
        · exact Fact.move h1 hsz (fun b hb hp => hm b hb hp.1) hG2
        · obtain ⟨t, rfl, h1⟩ := h1
          have h2 := ht t rfl
          have h3 : (listed.setIfInBounds i true).getD t false = true := by
            rcases h1 with rfl | h1
            · simp [Array.getD, hin]
            · exact getD_set_true h1
          rw [h3] at h2
          cases h2
        · rw [h1] at hl'
          cases hl'

/-- The plain step: all older blocks lie as they lay, and the slot owns nothing. -/
theorem RI.plain {ops : Array Oper} {S : List Nat} {a0 : Array Value} {W0 : World} {fs : List (Nat × Option Nat × Fact)} {av : List Nat} {listed : Array Bool} {a : Act} {w w' : World} {i d : Nat} {o : Oper} {till : Option Nat} {F : Fact} {v : Value}
    (h : RI ops S a0 W0 fs av listed a w) (ho : ops[i]? = some o) (hdeps : ∀ e ∈ o.after, Region.binds .any e = true → listed.getD e.on false = true) (hin : i < listed.size) (hf : fs[i]? = some (d, till, F)) (hdS : d ∈ S) (hdn : d < a0.size)
    (hnd : ∀ (j d' : Nat) t' F', fs[j]? = some (d', t', F') → j ≠ i → d ≠ d') (hk : Kp w w') (hav : d ∉ av) (hF : F.holds (Av av a) v w') : RI ops S a0 W0 fs av (listed.setIfInBounds i true) (a.put (some d) v) w' := by
  refine h.step ho hdeps hf hdS hdn hnd hk.size (kk h.kp hk) (.inl hk) (fun hd => absurd hd hav) hin (fun _ => Fact.narrow (fun b hb _ e he => ?_) hF)
  rw [getD_put (h.size ▸ hdn)]
  have : d ≠ e := fun hde => hav (hde ▸ he)
  simp only [this, if_false]
  exact hb e he

/-- New blocks are no slot's own. -/
theorem RI.fresh {ops : Array Oper} {S : List Nat} {a0 : Array Value} {W0 : World} {fs : List (Nat × Option Nat × Fact)} {av : List Nat} {listed : Array Bool} {a : Act} {w : World} (h : RI ops S a0 W0 fs av listed a w) {b : Nat} (hb : w.heap.size ≤ b) : Av av a b := fun d hd e => by
  have := h.avlt d hd b e
  omega

theorem RI.old {ops : Array Oper} {S : List Nat} {a0 : Array Value} {W0 : World} {fs : List (Nat × Option Nat × Fact)} {av : List Nat} {listed : Array Bool} {a : Act} {w : World} (h : RI ops S a0 W0 fs av listed a w) {b : Nat} (hb : b < W0.heap.size) : Av av a b := fun d hd e => by
  have := h.avlt d hd b e
  omega
theorem RI.unl {ops : Array Oper} {S : List Nat} {a0 : Array Value} {W0 : World} {fs : List (Nat × Option Nat × Fact)} {av : List Nat} {listed : Array Bool} {a : Act} {w : World} (h : RI ops S a0 W0 fs av listed a w) (j k : Nat)
    (hc : ((ops[j]?).map fun o => o.after.toList.any fun e => e.on == k && Region.binds .any e) = some true) (hk : listed.getD k false = false) : listed.getD j false = false := by
  cases hl : listed.getD j false with
  | false => rfl
  | true =>
    cases ho : ops[j]? with
    | none => rw [ho] at hc; cases hc
    | some o =>
      rw [ho] at hc
      simp only [Option.map_some, Option.some.injEq, List.any_eq_true, Bool.and_eq_true, beq_iff_eq] at hc
      obtain ⟨e, he, rfl, hb⟩ := hc
      rw [h.closed j o ho hl e (Array.mem_toList_iff.1 he) hb] at hk
      cases hk

/-- The facts that a store into a slot's own block leaves. -/
def hotOk (i : Nat) (fs : List (Nat × Option Nat × Fact)) (ended unl : List Nat) : Bool :=
  (List.range fs.length).all fun j => match fs[j]? with
    | some (_, t, F) => F.tame || (match t with | some t => t == i || ended.contains t | none => false) || unl.contains j || j == i
    | none => true
theorem hot_of {i : Nat} {fs : List (Nat × Option Nat × Fact)} {ended unl : List Nat} {listed : Array Bool} (h : hotOk i fs ended unl = true) (he : ∀ t ∈ ended, listed.getD t false = true) (hu : ∀ j ∈ unl, listed.getD j false = false) :
    ∀ (j d' : Nat) t' F', fs[j]? = some (d', t', F') → j ≠ i → F'.tame = true ∨ (∃ t, t' = some t ∧ (t = i ∨ listed.getD t false = true)) ∨ listed.getD j false = false := by
  intro j d' t' F' hj hne
  have hlt : j < fs.length := (List.getElem?_eq_some_iff.1 hj).1
  have := List.all_eq_true.1 h j (List.mem_range.2 hlt)
  rw [hj] at this
  simp only [Bool.or_eq_true, beq_iff_eq] at this
  rcases this with ((h1 | h1) | h1) | h1
  · exact .inl h1
  · cases t' with
    | none => cases h1
    | some t =>
      simp only [Bool.or_eq_true, beq_iff_eq] at h1
      rcases h1 with h1 | h1
      · exact .inr (.inl ⟨t, rfl, .inl h1⟩)
      · exact .inr (.inl ⟨t, rfl, .inr (he t (by simpa using h1))⟩)
  · exact .inr (.inr (hu j (by simpa using h1)))
  · exact absurd h1 hne

theorem unlisted {l : Array Bool} {i : Nat} (h : l.getD i true = false) : l.getD i false = false := by
  by_cases hi : i < l.size
  · simpa [Array.getD, hi] using h
  · simp [Array.getD, hi] at h

/-- The start. -/
theorem RI.start {ops : Array Oper} {S : List Nat} {a0 : Array Value} {w : World} {fs : List (Nat × Option Nat × Fact)} {av : List Nat} {a : Act} {n : Nat} (hd : a.defers = []) (ha : a.tmps = a0) (hav : av.all (fun d => (a0.getD d undef).ownBlock.isNone) = true) :
    RI ops S a0 w fs av (Array.replicate n false) a w := by
  have hl : ∀ j, (Array.replicate n false).getD j false = false := fun j => by
    by_cases h : j < n <;> simp [Array.getD, h]
  refine ⟨hd, by rw [ha], fun d _ => by rw [ha], Below.refl _ _, fun j o _ h => ?_, fun d hd b hb => ?_, fun j d t F _ h => ?_⟩
  · rw [hl] at h; cases h
  · rw [ha] at hb
    have := List.all_eq_true.1 hav d hd
    rw [hb] at this
    cases this
  · rw [hl] at h; cases h

/-- The end: the frame is the first one with these slots put in. -/
theorem RI.frame {ops : Array Oper} {S : List Nat} {a0 : Array Value} {W0 w : World} {fs : List (Nat × Option Nat × Fact)} {av : List Nat} {listed : Array Bool} {a : Act} (h : RI ops S a0 W0 fs av listed a w) :
    ∃ T : Nat → Value, (∀ d, a.tmps.getD d undef = T d) ∧ a = ⟨S.foldl (fun t d => t.setIfInBounds d (T d)) a0, []⟩ := by
  refine ⟨fun d => a.tmps.getD d undef, fun _ => rfl, ?_⟩
  have hgen : ∀ (S' : List Nat) (t : Array Value), t.size = a.tmps.size → (∀ d, t[d]? = a.tmps[d]? ∨ d ∈ S') → S'.foldl (fun t d => t.setIfInBounds d (a.tmps.getD d undef)) t = a.tmps := by
    intro S'
    induction S' with
    | nil =>
      intro t _ ht
      apply Array.ext_getElem?
      intro d
      rcases ht d with h1 | h1
      · exact h1
      · cases h1
    | cons x xs ih =>
      intro t hs ht
      refine ih _ (by simpa using hs) (fun d => ?_)
      rw [Array.getElem?_setIfInBounds]
      by_cases hx : x = d
      · subst hx
        left
        by_cases hlt : x < t.size
        · simp [hlt, Array.getD, hs ▸ hlt]
        · simp [hlt, hs ▸ hlt]
      · rw [if_neg hx]
        rcases ht d with h1 | h1
        · exact .inl h1
        · exact (List.mem_cons.1 h1).elim (fun h2 => absurd h2.symm hx) .inr
  have hall := hgen S a0 h.size.symm (fun d => by
    by_cases hd : d ∈ S
    · exact .inr hd
    · exact .inl (h.rest d hd).symm)
  dsimp only
  rw [hall]
  cases a
  have := h.dfr
  simp only at this
  subst this
  rfl

/-- Each operation of a list, by its number. -/
def Each (M : Nat → Oper → Prop) : Nat → List Oper → Prop
  | _, [] => True
  | k, o :: os => M k o ∧ Each M (k + 1) os
theorem each_nil {M : Nat → Oper → Prop} {k : Nat} : Each M k [] := trivial
theorem each_cons {M : Nat → Oper → Prop} {k : Nat} {o : Oper} {os : List Oper} (h : M k o) (hs : Each M (k + 1) os) : Each M k (o :: os) := ⟨h, hs⟩
theorem each_at {M : Nat → Oper → Prop} : ∀ (os : List Oper) (k : Nat), Each M k os → ∀ (i : Nat) (o : Oper), os[i]? = some o → M (k + i) o
  | [], _, _, i, o, h => by simp at h
  | x :: xs, k, hE, 0, o, h => by simp at h; exact h ▸ hE.1
  | x :: xs, k, hE, i + 1, o, h => by
    have := each_at xs (k + 1) hE.2 i o (by simpa using h)
    rw [show k + 1 + i = k + (i + 1) from by omega] at this
    exact this

/-- The slots, each with one operation, all of the frame. -/
def slotsOk (fs : List (Nat × Option Nat × Fact)) (n : Nat) : Bool := decide (fs.map (·.1)).Nodup && fs.all fun x => decide (x.1 < n)

theorem slots_ne {fs : List (Nat × Option Nat × Fact)} {n : Nat} (h : slotsOk fs n = true) {i j d d' : Nat} {t t' : Option Nat} {F F' : Fact} (hi : fs[i]? = some (d, t, F)) (hj : fs[j]? = some (d', t', F')) (hne : j ≠ i) : d ≠ d' := by
  intro he
  simp only [slotsOk, Bool.and_eq_true, decide_eq_true_eq] at h
  have h1 : (fs.map (·.1))[i]? = some d := by simp [hi]
  have h2 : (fs.map (·.1))[j]? = some d := by simp [hj, he]
  have hli : i < (fs.map (·.1)).length := (List.getElem?_eq_some_iff.1 h1).1
  exact hne ((List.getElem?_inj hli h.1).1 (h1.trans h2.symm)).symm

theorem slots_lt {fs : List (Nat × Option Nat × Fact)} {n : Nat} (h : slotsOk fs n = true) {i d : Nat} {t : Option Nat} {F : Fact} (hi : fs[i]? = some (d, t, F)) : d < n := by
  simp only [slotsOk, Bool.and_eq_true, List.all_eq_true, decide_eq_true_eq] at h
  exact h.2 _ (List.mem_of_getElem? hi)

theorem ri_steps {P : Program} {os : List Oper} {Q : Exit → Act → World → Prop} {a : Act} {W0 : World} (fs : List (Nat × Option Nat × Fact)) (av : List Nat) (hfs : slotsOk fs a.tmps.size = true)
    (hsteps : Each (fun i o => ∀ (listed : Array Bool) (a' : Act) (w' : World) (K : Act → World → Prop), i < listed.size → RI os.toArray (fs.map (·.1)) a.tmps W0 fs av listed a' w' → os.toArray[i]? = some o → listed.getD i true = false →
      (∀ e ∈ o.after, Region.binds .any e = true → listed.getD e.on false = true) → (∀ a2 w2, RI os.toArray (fs.map (·.1)) a.tmps W0 fs av (listed.setIfInBounds i true) a2 w2 → K a2 w2) →
      (∀ d, (fs.map (·.1)).contains d = false → a'.tmps.getD d undef = a.tmps.getD d undef) →
      (∀ j d F, fs[j]? = some (d, none, F) → (o.after.toList.any fun e => e.on == j && Region.binds .any e) = true → F.holds (Av av a') (a'.tmps.getD d undef) w') →
      (∀ d till F v w2, fs[i]? = some (d, till, F) → Kp w' w2 → av.contains d = false → F.holds (Av av a') v w2 → K (a'.put (some d) v) w2) →
      (∀ d till F v w2, fs[i]? = some (d, till, F) → w'.heap.size ≤ w2.heap.size → Kp W0 w2 →
        (Kp w' w2 ∨ ((∀ b, b < w'.heap.size → Av av a' b → w2.heap[b]? = w'.heap[b]?) ∧ ∀ (j d' : Nat) t' F', fs[j]? = some (d', t', F') → j ≠ i → F'.tame = true ∨ (∃ t, t' = some t ∧ (t = i ∨ listed.getD t false = true)) ∨ listed.getD j false = false)) →
        (d ∈ av → ∀ b, v.ownBlock = some b → (w'.heap.size ≤ b ∨ ¬ Av av a' b) ∧ b < w2.heap.size) →
        ((∀ b, Av av a' b → b < w'.heap.size → Av av (a'.put (some d) v) b) → F.holds (Av av (a'.put (some d) v)) v w2) → K (a'.put (some d) v) w2) →
      if Region.wanted o (yielded os.toArray a'.tmps) = true then Oper.wp P o a' w' K Q else K (a'.put o.dst undef) w') 0 os)
    (listed : Array Bool) (a' : Act) (w' : World) (hs : listed.size = os.toArray.size) (h : RI os.toArray (fs.map (·.1)) a.tmps W0 fs av listed a' w') (i : Nat) (o : Oper) (ho : os.toArray[i]? = some o) (hun : listed.getD i true = false)
    (hdeps : ∀ e ∈ o.after, Region.binds .any e = true → listed.getD e.on false = true) : wpOp P os.toArray Q i (fun a2 w2 => RI os.toArray (fs.map (·.1)) a.tmps W0 fs av (listed.setIfInBounds i true) a2 w2) a' w' := by
  refine wpOp_step ho fun K hK => ?_
  have hlt : i < os.toArray.size := (Array.getElem?_eq_some_iff.1 ho).1
  have hst := each_at os 0 hsteps i o (by simpa using ho)
  rw [Nat.zero_add] at hst
  refine hst listed a' w' K (hs ▸ hlt) h ho hun hdeps hK (fun d hd => ?_) (fun j d F hj he => ?_) (fun d till F v w2 hf hk hav hF => ?_) (fun d till F v w2 hf hs2 hk hm hav hF => ?_)
  · have := h.rest d (by simpa using hd)
    simp only [Array.getD_eq_getD_getElem?, this]
  · obtain ⟨e, he, hb⟩ := List.any_eq_true.1 he
    have he := Array.mem_toList_iff.1 he
    simp only [Bool.and_eq_true, beq_iff_eq] at hb
    exact h.holds j d none F hj (hb.1 ▸ hdeps e he hb.2) (fun t ht => by cases ht)
  · refine hK _ _ (h.plain ho hdeps (hs ▸ hlt) hf ?_ (slots_lt hfs hf) (fun j d' t' F' hj hne => slots_ne hfs hf hj hne) hk (by simpa using hav) hF)
    exact List.mem_map.2 ⟨_, List.mem_of_getElem? hf, rfl⟩
  · exact hK _ _ (h.step ho hdeps hf (List.mem_map.2 ⟨_, List.mem_of_getElem? hf, rfl⟩) (slots_lt hfs hf) (fun j d' t' F' hj hne => slots_ne hfs hf hj hne) hs2 hk hm hav (hs ▸ hlt) hF)

/-- THE LAW, with the steps in a row. -/
theorem region_ri {P : Program} {id : Nat} {os : List Oper} {Q : Exit → Act → World → Prop} {a : Act} {w : World} (hm : P.follows .mixedOrders = true) (fs : List (Nat × Option Nat × Fact)) (av : List Nat)
    (hup : (Array.range os.toArray.size).all (fun i => ((os.toArray[i]?).map fun o => o.after.all fun e => decide (e.on < i) || !Region.binds .any e).getD true) = true) (hfs : slotsOk fs a.tmps.size = true) (hd : a.defers = []) (hav : av.all (fun d => (a.tmps.getD d undef).ownBlock.isNone) = true)
    (hsteps : Each (fun i o => ∀ (listed : Array Bool) (a' : Act) (w' : World) (K : Act → World → Prop), i < listed.size → RI os.toArray (fs.map (·.1)) a.tmps w.drew fs av listed a' w' → os.toArray[i]? = some o → listed.getD i true = false →
      (∀ e ∈ o.after, Region.binds .any e = true → listed.getD e.on false = true) → (∀ a2 w2, RI os.toArray (fs.map (·.1)) a.tmps w.drew fs av (listed.setIfInBounds i true) a2 w2 → K a2 w2) →
      (∀ d, (fs.map (·.1)).contains d = false → a'.tmps.getD d undef = a.tmps.getD d undef) →
      (∀ j d F, fs[j]? = some (d, none, F) → (o.after.toList.any fun e => e.on == j && Region.binds .any e) = true → F.holds (Av av a') (a'.tmps.getD d undef) w') →
      (∀ d till F v w2, fs[i]? = some (d, till, F) → Kp w' w2 → av.contains d = false → F.holds (Av av a') v w2 → K (a'.put (some d) v) w2) →
      (∀ d till F v w2, fs[i]? = some (d, till, F) → w'.heap.size ≤ w2.heap.size → Kp w.drew w2 →
        (Kp w' w2 ∨ ((∀ b, b < w'.heap.size → Av av a' b → w2.heap[b]? = w'.heap[b]?) ∧ ∀ (j d' : Nat) t' F', fs[j]? = some (d', t', F') → j ≠ i → F'.tame = true ∨ (∃ t, t' = some t ∧ (t = i ∨ listed.getD t false = true)) ∨ listed.getD j false = false)) →
        (d ∈ av → ∀ b, v.ownBlock = some b → (w'.heap.size ≤ b ∨ ¬ Av av a' b) ∧ b < w2.heap.size) →
        ((∀ b, Av av a' b → b < w'.heap.size → Av av (a'.put (some d) v) b) → F.holds (Av av (a'.put (some d) v)) v w2) → K (a'.put (some d) v) w2) →
      if Region.wanted o (yielded os.toArray a'.tmps) = true then Oper.wp P o a' w' K Q else K (a'.put o.dst undef) w') 0 os)
    (hend : ∀ (listed : Array Bool) (a' : Act) (w' : World), RI os.toArray (fs.map (·.1)) a.tmps w.drew fs av listed a' w' → (∀ i, i < os.toArray.size → listed.getD i false = true) → Q .normal a' w') : (Code.region id os.toArray true).wp P Q a w := by
  exact region_inv hm (fun l a' w' => RI os.toArray (fs.map (·.1)) a.tmps w.drew fs av l a' w') hup (RI.start hd rfl hav) (fun listed a' w' hs h i o ho hun hdeps => ri_steps fs av hfs hsteps listed a' w' hs h i o ho hun hdeps) hend

/-- The same of a region that goes through its operations in their order. -/
theorem region_seq {P : Program} {id : Nat} {os : List Oper} {Q : Exit → Act → World → Prop} {a : Act} {w : World} (fs : List (Nat × Option Nat × Fact)) (av : List Nat)
    (hup : (Array.range os.toArray.size).all (fun i => ((os.toArray[i]?).map fun o => o.after.all fun e => decide (e.on < i) || !Region.binds .any e).getD true) = true) (hfs : slotsOk fs a.tmps.size = true) (hd : a.defers = []) (hav : av.all (fun d => (a.tmps.getD d undef).ownBlock.isNone) = true)
    (hsteps : Each (fun i o => ∀ (listed : Array Bool) (a' : Act) (w' : World) (K : Act → World → Prop), i < listed.size → RI os.toArray (fs.map (·.1)) a.tmps w fs av listed a' w' → os.toArray[i]? = some o → listed.getD i true = false →
      (∀ e ∈ o.after, Region.binds .any e = true → listed.getD e.on false = true) → (∀ a2 w2, RI os.toArray (fs.map (·.1)) a.tmps w fs av (listed.setIfInBounds i true) a2 w2 → K a2 w2) →
      (∀ d, (fs.map (·.1)).contains d = false → a'.tmps.getD d undef = a.tmps.getD d undef) →
      (∀ j d F, fs[j]? = some (d, none, F) → (o.after.toList.any fun e => e.on == j && Region.binds .any e) = true → F.holds (Av av a') (a'.tmps.getD d undef) w') →
      (∀ d till F v w2, fs[i]? = some (d, till, F) → Kp w' w2 → av.contains d = false → F.holds (Av av a') v w2 → K (a'.put (some d) v) w2) →
      (∀ d till F v w2, fs[i]? = some (d, till, F) → w'.heap.size ≤ w2.heap.size → Kp w w2 →
        (Kp w' w2 ∨ ((∀ b, b < w'.heap.size → Av av a' b → w2.heap[b]? = w'.heap[b]?) ∧ ∀ (j d' : Nat) t' F', fs[j]? = some (d', t', F') → j ≠ i → F'.tame = true ∨ (∃ t, t' = some t ∧ (t = i ∨ listed.getD t false = true)) ∨ listed.getD j false = false)) →
        (d ∈ av → ∀ b, v.ownBlock = some b → (w'.heap.size ≤ b ∨ ¬ Av av a' b) ∧ b < w2.heap.size) →
        ((∀ b, Av av a' b → b < w'.heap.size → Av av (a'.put (some d) v) b) → F.holds (Av av (a'.put (some d) v)) v w2) → K (a'.put (some d) v) w2) →
      if Region.wanted o (yielded os.toArray a'.tmps) = true then Oper.wp P o a' w' K Q else K (a'.put o.dst undef) w') 0 os)
    (hend : ∀ (listed : Array Bool) (a' : Act) (w' : World), RI os.toArray (fs.map (·.1)) a.tmps w fs av listed a' w' → (∀ i, i < os.toArray.size → listed.getD i false = true) → Q .normal a' w') : (Code.region id os.toArray false).wp P Q a w := by
  have main : ∀ (m k : Nat) (listed : Array Bool) (a' : Act) (w' : World), k + m = os.toArray.size → listed.size = os.toArray.size → RI os.toArray (fs.map (·.1)) a.tmps w fs av listed a' w' → (∀ i, i < k → listed.getD i false = true) → (∀ i, k ≤ i → i < os.toArray.size → listed.getD i true = false) →
      wpOps P os.toArray Q (List.range' k m) a' w' := by
    intro m
    induction m with
    | zero => exact fun k listed a' w' hk hs h hl _ => hend listed a' w' h (fun i hi => hl i (by omega))
    | succ m ih =>
      intro k listed a' w' hk hs h hl hu
      have hlt : k < os.toArray.size := by omega
      rw [List.range'_succ, wpOps_cons]
      have ho : os.toArray[k]? = some os.toArray[k] := by simp
      have hb := Array.all_eq_true_iff_forall_mem.1 hup k (by simp; simpa using hlt)
      rw [ho] at hb
      have hb := Array.all_eq_true_iff_forall_mem.1 hb
      refine wpOp_mono (fun a2 w2 h2 => ih (k + 1) (listed.setIfInBounds k true) a2 w2 (by omega) (by simpa using hs) h2 (fun i hi => ?_) (fun i hi hin => ?_)) (ri_steps fs av hfs hsteps listed a' w' hs h k _ ho (hu k (Nat.le_refl _) hlt) (fun e he hbd => hl e.on (by simpa [hbd] using hb e he)))
      · by_cases he : k = i
        · subst he; simp [Array.getD, hs ▸ hlt]
        · rw [getD_set_ne _ he]; exact hl i (by omega)
      · rw [getD_set_ne _ (show k ≠ i from by omega)]; exact hu i (by omega) hin
  refine wp_region ?_
  rw [List.range_eq_range']
  refine main os.toArray.size 0 (Array.replicate os.toArray.size false) a w (by omega) (by simp) (RI.start hd rfl hav) (fun i hi => by omega) (fun i _ hi => ?_)
  rw [Array.getD, dif_pos (by simpa using hi)]
  simp

end Go.Proofs.YtkfmgafgokpjhaaGreatDoor

/-
  Text OF ANY VALUE, THE PROGRAM's.
-/
namespace Go.Proofs.YtkfmgafgokpjhaaGreatDoor
open Go.RowKit

set_option maxRecDepth 100000 in
set_option maxHeartbeats 2000000 in
theorem writtenText_word (n : Int) (s : ByteArray) (a : Option Addr) (cap : Nat) (l : List V) (w : World) (E : List UInt8) (hin : (V.mk 0 n s a cap l).In w w.heap.size) (hc : ¬ (V.mk 0 n s a cap l).cnt = 0) (hne : E ≠ [])
    (D : ∀ (w1 : World) (S b : Nat), Kp w w1 → w.heap.size ≤ S → PtrAt w1 b 0 0 n s (.slice a l.length cap) → b < S → Sink w1 S [] →
      Calls Tryz.prog 186 #[.agg #[.pointer (some ⟨b, 0, none⟩)], takeF S] w1 fun e w' => e = .returned (.tuple #[]) ∧ Sink w' S E ∧ Sk S w1 w') :
    Calls Tryz.prog 68 #[.agg #[.int .i64 0, .int .i64 n, .string s, .slice a l.length cap], .func (.methodOf 93 "deltaworks/value.text") #[] #[]] w fun e w' =>
      e = .returned (.tuple #[.string ⟨E.toArray⟩, .int .i64 0]) ∧ Kp w w' := by
  have C := fun w1 (h : Kp w w1) => checkV 0 n s a cap l w1 (hin.keep h.size h)
  rw [bad1 hc] at C
  have CC := Lib.hid C
  have DD := Lib.hid D
  have HNE := Lib.hid hne
  clear C D hin hc hne
  have hm := mWordText
  go_enter Tryz.func68, Tryz.ntmps68
  go_wp2_with fail
  refine (CC.out _ (ka _ _)).mono ?_
  rintro e w1 ⟨rfl, hk⟩
  obtain ⟨b0, b1, b2, b3, hz⟩ := box4 hk
  have HK := Lib.hid (kk (ka _ _) hk)
  have HP := Lib.hid (⟨b0, b1, b2, b3⟩ : PtrAt w1 w.heap.size 0 0 n s (.slice a l.length cap))
  clear hk b0 b1 b2 b3
  go_wp2_with fail
  refine (shapeOf_any _ w.heap.size 0 0 n s (.slice a l.length cap) (HP.out.keep hz (ka _ _))).mono ?_
  rintro e w2 ⟨rfl, rfl⟩
  rw [show shapeT 0 = 147 from rfl]
  go_wp2_with fail
  refine (DD.out _ w1.heap.size w.heap.size (kk HK.out (ka _ _)) (by omega) (HP.out.keep hz (ka _ _)) hz ⟨.slice none 0 0, blockHere rfl, World.ownsRow_nil _ _ _ _⟩).mono ?_
  rintro e w3 ⟨rfl, hs3, hk3⟩
  obtain ⟨g, cap3, hc3, hcv⟩ := hs3.out HNE.out
  have HK3 := Lib.hid (HK.out.trans ((Below.alloc (Below.refl _ _) (by omega) _).trans ((hk3.below (S := w1.heap.size) (xs := []) ⟨.slice none 0 0, blockHere rfl, World.ownsRow_nil _ _ _ _⟩).mono (by omega))))
  clear hs3 hk3
  go_wp2_with fail
  go_ret2
  exact ⟨rfl, HK3.out⟩

set_option maxRecDepth 100000 in
set_option maxHeartbeats 2000000 in
theorem writtenText_let (n : Int) (s : ByteArray) (a : Option Addr) (cap : Nat) (l : List V) (w : World) (E : List UInt8) (hin : (V.mk 1 n s a cap l).In w w.heap.size) (hc : ¬ (V.mk 1 n s a cap l).cnt = 0) (hne : E ≠ [])
    (D : ∀ (w1 : World) (S b : Nat), Kp w w1 → w.heap.size ≤ S → PtrAt w1 b 0 1 n s (.slice a l.length cap) → b < S → Sink w1 S [] →
      Calls Tryz.prog 178 #[.agg #[.pointer (some ⟨b, 0, none⟩)], takeF S] w1 fun e w' => e = .returned (.tuple #[]) ∧ Sink w' S E ∧ Sk S w1 w') :
    Calls Tryz.prog 68 #[.agg #[.int .i64 1, .int .i64 n, .string s, .slice a l.length cap], .func (.methodOf 93 "deltaworks/value.text") #[] #[]] w fun e w' =>
      e = .returned (.tuple #[.string ⟨E.toArray⟩, .int .i64 0]) ∧ Kp w w' := by
  have C := fun w1 (h : Kp w w1) => checkV 1 n s a cap l w1 (hin.keep h.size h)
  rw [bad1 hc] at C
  have CC := Lib.hid C
  have DD := Lib.hid D
  have HNE := Lib.hid hne
  clear C D hin hc hne
  have hm := mLettersText
  go_enter Tryz.func68, Tryz.ntmps68
  go_wp2_with fail
  refine (CC.out _ (ka _ _)).mono ?_
  rintro e w1 ⟨rfl, hk⟩
  obtain ⟨b0, b1, b2, b3, hz⟩ := box4 hk
  have HK := Lib.hid (kk (ka _ _) hk)
  have HP := Lib.hid (⟨b0, b1, b2, b3⟩ : PtrAt w1 w.heap.size 0 1 n s (.slice a l.length cap))
  clear hk b0 b1 b2 b3
  go_wp2_with fail
  refine (shapeOf_any _ w.heap.size 0 1 n s (.slice a l.length cap) (HP.out.keep hz (ka _ _))).mono ?_
  rintro e w2 ⟨rfl, rfl⟩
  rw [show shapeT 1 = 145 from rfl]
  go_wp2_with fail
  refine (DD.out _ w1.heap.size w.heap.size (kk HK.out (ka _ _)) (by omega) (HP.out.keep hz (ka _ _)) hz ⟨.slice none 0 0, blockHere rfl, World.ownsRow_nil _ _ _ _⟩).mono ?_
  rintro e w3 ⟨rfl, hs3, hk3⟩
  obtain ⟨g, cap3, hc3, hcv⟩ := hs3.out HNE.out
  have HK3 := Lib.hid (HK.out.trans ((Below.alloc (Below.refl _ _) (by omega) _).trans ((hk3.below (S := w1.heap.size) (xs := []) ⟨.slice none 0 0, blockHere rfl, World.ownsRow_nil _ _ _ _⟩).mono (by omega))))
  clear hs3 hk3
  go_wp2_with fail
  go_ret2
  exact ⟨rfl, HK3.out⟩

set_option maxRecDepth 100000 in
set_option maxHeartbeats 2000000 in
theorem writtenText_tup (n : Int) (s : ByteArray) (a : Option Addr) (cap : Nat) (l : List V) (w : World) (E : List UInt8) (hin : (V.mk 2 n s a cap l).In w w.heap.size) (hc : ¬ (V.mk 2 n s a cap l).cnt = 0) (hne : E ≠ [])
    (D : ∀ (w1 : World) (S b : Nat), Kp w w1 → w.heap.size ≤ S → PtrAt w1 b 0 2 n s (.slice a l.length cap) → b < S → Sink w1 S [] →
      Calls Tryz.prog 180 #[.agg #[.pointer (some ⟨b, 0, none⟩)], takeF S] w1 fun e w' => e = .returned (.tuple #[]) ∧ Sink w' S E ∧ Sk S w1 w') :
    Calls Tryz.prog 68 #[.agg #[.int .i64 2, .int .i64 n, .string s, .slice a l.length cap], .func (.methodOf 93 "deltaworks/value.text") #[] #[]] w fun e w' =>
      e = .returned (.tuple #[.string ⟨E.toArray⟩, .int .i64 0]) ∧ Kp w w' := by
  have C := fun w1 (h : Kp w w1) => checkV 2 n s a cap l w1 (hin.keep h.size h)
  rw [bad1 hc] at C
  have CC := Lib.hid C
  have DD := Lib.hid D
  have HNE := Lib.hid hne
  clear C D hin hc hne
  have hm := mTupleText
  go_enter Tryz.func68, Tryz.ntmps68
  go_wp2_with fail
  refine (CC.out _ (ka _ _)).mono ?_
  rintro e w1 ⟨rfl, hk⟩
  obtain ⟨b0, b1, b2, b3, hz⟩ := box4 hk
  have HK := Lib.hid (kk (ka _ _) hk)
  have HP := Lib.hid (⟨b0, b1, b2, b3⟩ : PtrAt w1 w.heap.size 0 2 n s (.slice a l.length cap))
  clear hk b0 b1 b2 b3
  go_wp2_with fail
  refine (shapeOf_any _ w.heap.size 0 2 n s (.slice a l.length cap) (HP.out.keep hz (ka _ _))).mono ?_
  rintro e w2 ⟨rfl, rfl⟩
  rw [show shapeT 2 = 146 from rfl]
  go_wp2_with fail
  refine (DD.out _ w1.heap.size w.heap.size (kk HK.out (ka _ _)) (by omega) (HP.out.keep hz (ka _ _)) hz ⟨.slice none 0 0, blockHere rfl, World.ownsRow_nil _ _ _ _⟩).mono ?_
  rintro e w3 ⟨rfl, hs3, hk3⟩
  obtain ⟨g, cap3, hc3, hcv⟩ := hs3.out HNE.out
  have HK3 := Lib.hid (HK.out.trans ((Below.alloc (Below.refl _ _) (by omega) _).trans ((hk3.below (S := w1.heap.size) (xs := []) ⟨.slice none 0 0, blockHere rfl, World.ownsRow_nil _ _ _ _⟩).mono (by omega))))
  clear hs3 hk3
  go_wp2_with fail
  go_ret2
  exact ⟨rfl, HK3.out⟩

set_option maxRecDepth 100000 in
set_option maxHeartbeats 2000000 in
theorem writtenText_tagg (n : Int) (s : ByteArray) (a : Option Addr) (cap : Nat) (l : List V) (w : World) (E : List UInt8) (hin : (V.mk 3 n s a cap l).In w w.heap.size) (hc : ¬ (V.mk 3 n s a cap l).cnt = 0) (hne : E ≠ [])
    (D : ∀ (w1 : World) (S b : Nat), Kp w w1 → w.heap.size ≤ S → PtrAt w1 b 0 3 n s (.slice a l.length cap) → b < S → Sink w1 S [] →
      Calls Tryz.prog 188 #[.agg #[.pointer (some ⟨b, 0, none⟩)], takeF S] w1 fun e w' => e = .returned (.tuple #[]) ∧ Sink w' S E ∧ Sk S w1 w') :
    Calls Tryz.prog 68 #[.agg #[.int .i64 3, .int .i64 n, .string s, .slice a l.length cap], .func (.methodOf 93 "deltaworks/value.text") #[] #[]] w fun e w' =>
      e = .returned (.tuple #[.string ⟨E.toArray⟩, .int .i64 0]) ∧ Kp w w' := by
  have C := fun w1 (h : Kp w w1) => checkV 3 n s a cap l w1 (hin.keep h.size h)
  rw [bad1 hc] at C
  have CC := Lib.hid C
  have DD := Lib.hid D
  have HNE := Lib.hid hne
  clear C D hin hc hne
  have hm := mTaggedText
  go_enter Tryz.func68, Tryz.ntmps68
  go_wp2_with fail
  refine (CC.out _ (ka _ _)).mono ?_
  rintro e w1 ⟨rfl, hk⟩
  obtain ⟨b0, b1, b2, b3, hz⟩ := box4 hk
  have HK := Lib.hid (kk (ka _ _) hk)
  have HP := Lib.hid (⟨b0, b1, b2, b3⟩ : PtrAt w1 w.heap.size 0 3 n s (.slice a l.length cap))
  clear hk b0 b1 b2 b3
  go_wp2_with fail
  refine (shapeOf_any _ w.heap.size 0 3 n s (.slice a l.length cap) (HP.out.keep hz (ka _ _))).mono ?_
  rintro e w2 ⟨rfl, rfl⟩
  rw [show shapeT 3 = 149 from rfl]
  go_wp2_with fail
  refine (DD.out _ w1.heap.size w.heap.size (kk HK.out (ka _ _)) (by omega) (HP.out.keep hz (ka _ _)) hz ⟨.slice none 0 0, blockHere rfl, World.ownsRow_nil _ _ _ _⟩).mono ?_
  rintro e w3 ⟨rfl, hs3, hk3⟩
  obtain ⟨g, cap3, hc3, hcv⟩ := hs3.out HNE.out
  have HK3 := Lib.hid (HK.out.trans ((Below.alloc (Below.refl _ _) (by omega) _).trans ((hk3.below (S := w1.heap.size) (xs := []) ⟨.slice none 0 0, blockHere rfl, World.ownsRow_nil _ _ _ _⟩).mono (by omega))))
  clear hs3 hk3
  go_wp2_with fail
  go_ret2
  exact ⟨rfl, HK3.out⟩


theorem itoa_short (n : Int) (h : -2147483648 ≤ n ∧ n ≤ 2147483647) : (Lib.itoa n).length ≤ 21 := Lib.itoa_length_le n (by omega) (by omega)

mutual
theorem V.txt_len : ∀ (v : V) (d : Nat), v.sh d = true → v.txt.length ≤ 208 * v.rank
  | .mk k n s a c l, d, h => by
    cases d with
    | zero => simp [V.sh] at h
    | succ d =>
    simp [V.sh] at h
    obtain ⟨hf, hl⟩ := h
    have ih := V.txtL_len l d hl
    have ih2 := V.txtH_len l
    by_cases k1 : k = 1
    · subst k1
      simp [fitsB, textB] at hf
      obtain ⟨-, -, h3, -⟩ := hf
      have := esc_len s.data.toList
      have e : s.data.toList.length = s.size := rfl
      simp [V.txt, V.rank]; omega
    by_cases k2 : k = 2
    · subst k2
      simp [fitsB, tupleB] at hf
      simp [V.txt, V.rank]; omega
    by_cases k3 : k = 3
    · subst k3
      simp [fitsB, taggedB] at hf
      have := itoa_short n (by omega)
      simp [V.txt, V.rank]; omega
    · have : -2147483648 ≤ n ∧ n ≤ 2147483647 := by
        by_cases k0 : k = 0
        · subst k0; simp [fitsB, wordB] at hf; omega
        · simp [fitsB, k0, k1, k2, k3] at hf
      have := itoa_short n (by omega)
      simp [V.txt, V.rank, k1, k2, k3]; omega
theorem V.txtL_len : ∀ (l : List V) (d : Nat), V.shL l d = true → (V.txtL l).length ≤ 208 * V.rank.ranks l + 2 * l.length
  | [], _, _ => by simp [V.txtL]
  | [x], d, h => by
    simp [V.shL] at h
    have h1 := V.txt_len x d h
    simp [V.txtL, V.rank.ranks]; omega
  | x :: y :: ys, d, h => by
    have h' := h
    simp only [V.shL, Bool.and_eq_true] at h
    have h1 := V.txt_len x d h.1
    have h2 := V.txtL_len (y :: ys) d (by simp only [V.shL, Bool.and_eq_true]; exact h.2)
    rw [V.txtL, V.rank.ranks]
    simp only [List.length_append, List.length_cons, List.length_nil] at h2 ⊢
    omega
theorem V.txtH_len : ∀ (l : List V), (V.txtH l).length ≤ (V.txtL l).length
  | [] => by simp [V.txtH]
  | [x] => by simp [V.txtH, V.txtL]
  | x :: y :: ys => by simp [V.txtH, V.txtL]
end

end Go.Proofs.YtkfmgafgokpjhaaGreatDoor

/-
  PLAIN MATHEMATICS: WHAT IS READ OF THE TEXT OF A VALUE.
-/
namespace Go.Proofs.YtkfmgafgokpjhaaGreatDoor
open Go.RowKit

/-- No byte of a number comes next. -/
def StopL (r : List UInt8) : Prop := ∀ c, r.head? = some c → numC c = false

theorem stop_cons {c : UInt8} {r : List UInt8} (h : numC c = false) : StopL (c :: r) := by
  intro d hd
  simp at hd
  subst hd
  exact h
theorem stop_nil : StopL [] := by intro c h; simp at h

theorem takeWhile_stop : ∀ (a r : List UInt8), (∀ c ∈ a, numC c = true) → StopL r → (a ++ r).takeWhile numC = a ∧ (a ++ r).dropWhile numC = r
  | [], r, _, h => by
    cases r with
    | nil => simp
    | cons c r =>
      have := h c rfl
      simp [this]
  | c :: a, r, ha, h => by
    have hc := ha c (by simp)
    have := takeWhile_stop a r (fun d hd => ha d (by simp [hd])) h
    simp [hc, this]

theorem pN_itoa (n : Int) (r : List UInt8) (h : -2147483648 ≤ n ∧ n ≤ 2147483647) (hr : StopL r) : pN (Lib.itoa n ++ r) = some (n, r) := by
  obtain ⟨h1, h2⟩ := takeWhile_stop (Lib.itoa n) r (itoa_num n) hr
  unfold pN
  rw [h1, h2, atoi_itoa n h]
  simp

theorem pQ_text : ∀ (l r : List UInt8), pQ (esc l ++ 34 :: r) = some (l, r)
  | [], r => rfl
  | c :: l, r => by
    have ih := pQ_text l r
    have e : esc (c :: l) = escB c ++ esc l := by simp [esc]
    rw [e]
    unfold escB
    by_cases h : c = 34 ∨ c = 92
    · rw [if_pos h]
      simp only [List.cons_append, List.nil_append]
      rw [pQ_esc h, ih]; rfl
    · rw [if_neg h]
      simp only [List.cons_append, List.nil_append]
      rw [pQ_go (fun e => h (.inl e)) (fun e => h (.inr e)), ih]; rfl

theorem pl_inv {j : Nat} {l : List UInt8} {o : Option (List V × List UInt8)} (h : PL j l o) :
    (∃ r, l = 41 :: r ∧ o = some ([], r)) ∨ (l.head? ≠ some 41 ∧ j = 8 ∧ o = none) ∨
    (l.head? ≠ some 41 ∧ j = 0 ∧ ((PV l none ∧ o = none) ∨ ∃ x r o', PV l (some (x, r)) ∧ PL 1 r o' ∧ o = o'.map fun y => (x :: y.1, y.2))) ∨
    (l.head? ≠ some 41 ∧ 0 < j ∧ j < 8 ∧ ¬ [44, 32] <+: l ∧ o = none) ∨
    (∃ r, l = 44 :: 32 :: r ∧ 0 < j ∧ j < 8 ∧ ((PV r none ∧ o = none) ∨ ∃ x r1 o', PV r (some (x, r1)) ∧ PL (j + 1) r1 o' ∧ o = o'.map fun y => (x :: y.1, y.2))) := by
  cases h with
  | done => exact .inl ⟨_, rfl, rfl⟩
  | wide h1 h2 => exact .inr (.inl ⟨h1, h2, rfl⟩)
  | first0 h1 h2 => exact .inr (.inr (.inl ⟨h1, rfl, .inl ⟨h2, rfl⟩⟩))
  | first1 h1 h2 h3 => exact .inr (.inr (.inl ⟨h1, rfl, .inr ⟨_, _, _, h2, h3, rfl⟩⟩))
  | next0 h1 h2 h3 h4 => exact .inr (.inr (.inr (.inl ⟨h1, h2, h3, h4, rfl⟩)))
  | next1 h1 h2 h3 => exact .inr (.inr (.inr (.inr ⟨_, rfl, h1, h2, .inl ⟨h3, rfl⟩⟩)))
  | next2 h1 h2 h3 h4 => exact .inr (.inr (.inr (.inr ⟨_, rfl, h1, h2, .inr ⟨_, _, _, h3, h4, rfl⟩⟩)))

theorem pv_inv {l : List UInt8} {o : Option (V × List UInt8)} (h : PV l o) :
    (∃ r, l = 34 :: r ∧ o = (pQ r).map fun x => (.mk 1 0 ⟨x.1.toArray⟩ none 0 [], x.2)) ∨
    (∃ r o', l = 40 :: r ∧ PL 0 r o' ∧ o = o'.map fun x => (.mk 2 0 ⟨#[]⟩ none 0 x.1, x.2)) ∨
    (∃ r, l = 35 :: r ∧ ((pN r = none ∧ o = none) ∨ (∃ n r1, pN r = some (n, r1) ∧ r1.head? ≠ some 32 ∧ o = none) ∨ ∃ n r2 o', pN r = some (n, 32 :: r2) ∧ PV r2 o' ∧ o = o'.map fun x => (.mk 3 n ⟨#[]⟩ none 0 [x.1], x.2))) ∨
    (l.head? ≠ some 34 ∧ l.head? ≠ some 40 ∧ l.head? ≠ some 35 ∧ o = (pN l).map fun x => (.mk 0 x.1 ⟨#[]⟩ none 0 [], x.2)) := by
  cases h with
  | quoted => exact .inl ⟨_, rfl, rfl⟩
  | tuple h => exact .inr (.inl ⟨_, _, rfl, h, rfl⟩)
  | tag0 h => exact .inr (.inr (.inl ⟨_, rfl, .inl ⟨h, rfl⟩⟩))
  | tag1 h h2 => exact .inr (.inr (.inl ⟨_, rfl, .inr (.inl ⟨_, _, h, h2, rfl⟩)⟩))
  | tag2 h h2 => exact .inr (.inr (.inl ⟨_, rfl, .inr (.inr ⟨_, _, _, h, h2, rfl⟩)⟩))
  | word h1 h2 h3 => exact .inr (.inr (.inr ⟨h1, h2, h3, rfl⟩))

/-- The texts of parts, each with a comma ahead. -/
def tailL : List V → List UInt8
  | [] => []
  | x :: xs => 44 :: 32 :: (x.txt ++ tailL xs)

theorem txtL_tail : ∀ (x : V) (xs : List V), V.txtL (x :: xs) = x.txt ++ tailL xs
  | x, [] => by simp [V.txtL, tailL]
  | x, y :: ys => by
    have := txtL_tail y ys
    rw [V.txtL, this, tailL]
    simp

/-- Its text is read as a value that is the same. -/
def Txt (y : V) : Prop := ∀ (r : List UInt8), StopL r → ∀ o, PV (y.txt ++ r) o → ∃ y', o = some (y', r) ∧ y'.same y = true

theorem pl_tail : ∀ (ys : List V) (j : Nat), 0 < j → j + ys.length ≤ 8 → (∀ y ∈ ys, Txt y) → ∀ (r : List UInt8) o, PL j (tailL ys ++ 41 :: r) o → ∃ ys', o = some (ys', r) ∧ V.sameL ys' ys = true
  | [], j, hj, _, _, r, o, h => by
    rcases pl_inv h with ⟨r', h1, rfl⟩ | ⟨h1, -⟩ | ⟨h1, -⟩ | ⟨h1, -⟩ | ⟨r', h1, -⟩
    · simp only [tailL, List.nil_append, List.cons.injEq, true_and] at h1
      exact ⟨[], by rw [h1], by simp [V.sameL]⟩
    · exact absurd rfl h1
    · exact absurd rfl h1
    · exact absurd rfl h1
    · simp [tailL] at h1
  | y :: ys, j, hj, hl, hy, r, o, h => by
    have hl' : j + (ys.length + 1) ≤ 8 := hl
    rcases pl_inv h with ⟨r', h1, rfl⟩ | ⟨h1, h2, -⟩ | ⟨h1, h2, -⟩ | ⟨h1, h2, h3, h4, -⟩ | ⟨r', h1, -, -, h2⟩
    · simp [tailL] at h1
    · omega
    · omega
    · exact absurd (by simp [tailL]) h4
    · simp only [tailL, List.cons_append, List.cons.injEq, true_and, List.append_assoc] at h1
      subst h1
      have hst : StopL (tailL ys ++ 41 :: r) := by
        cases ys with
        | nil => exact stop_cons rfl
        | cons z zs => exact stop_cons rfl
      rcases h2 with ⟨h2, -⟩ | ⟨x, r1, o', h2, h3, rfl⟩
      · obtain ⟨y', h, -⟩ := hy y (by simp) _ hst _ h2
        cases h
      · obtain ⟨y', h, hs⟩ := hy y (by simp) _ hst _ h2
        injection h with h
        injection h with h4 h5
        subst h4 h5
        obtain ⟨ys', rfl, hs'⟩ := pl_tail ys (j + 1) (by omega) (by omega) (fun z hz => hy z (by simp [hz])) r o' h3
        exact ⟨x :: ys', rfl, by simp [V.sameL, hs, hs']⟩

theorem pl_first (ys : List V) (hl : ys.length ≤ 8) (hh : ∀ y ∈ ys, ∃ c t, y.txt = c :: t ∧ c ≠ 41) (hy : ∀ y ∈ ys, Txt y) (r : List UInt8) (o : Option (List V × List UInt8)) (h : PL 0 (V.txtL ys ++ 41 :: r) o) : ∃ ys', o = some (ys', r) ∧ V.sameL ys' ys = true := by
  cases ys with
  | nil =>
    rcases pl_inv h with ⟨r', h1, rfl⟩ | ⟨h1, -⟩ | ⟨h1, -⟩ | ⟨h1, -⟩ | ⟨r', h1, -⟩
    · simp only [V.txtL, List.nil_append, List.cons.injEq, true_and] at h1
      exact ⟨[], by rw [h1], by simp [V.sameL]⟩
    · exact absurd rfl h1
    · exact absurd rfl h1
    · exact absurd rfl h1
    · simp [V.txtL] at h1
  | cons y ys =>
    have hl' : ys.length + 1 ≤ 8 := hl
    obtain ⟨c, t, hc, hc41⟩ := hh y (by simp)
    rw [txtL_tail, List.append_assoc] at h
    rcases pl_inv h with ⟨r', h1, rfl⟩ | ⟨h1, h2, -⟩ | ⟨h1, h2, h3⟩ | ⟨h1, h2, h3, h4, -⟩ | ⟨r', h1, h2, -⟩
    · rw [hc] at h1
      simp only [List.cons_append, List.cons.injEq] at h1
      exact absurd h1.1 hc41
    · omega
    · have hst : StopL (tailL ys ++ 41 :: r) := by
        cases ys with
        | nil => exact stop_cons rfl
        | cons z zs => exact stop_cons rfl
      rcases h3 with ⟨h2, -⟩ | ⟨x, r1, o', h2, h3, rfl⟩
      · obtain ⟨y', h, -⟩ := hy y (by simp) _ hst _ h2
        cases h
      · obtain ⟨y', h, hs⟩ := hy y (by simp) _ hst _ h2
        injection h with h
        injection h with h4 h5
        subst h4 h5
        obtain ⟨ys', rfl, hs'⟩ := pl_tail ys 1 (by omega) (by omega) (fun z hz => hy z (by simp [hz])) r o' h3
        exact ⟨x :: ys', rfl, by simp [V.sameL, hs, hs']⟩
    · omega
    · omega

theorem num_ne {c d : UInt8} (h : numC c = true) (hd : numC d = false) : c ≠ d := by
  intro e
  subst e
  rw [h] at hd
  cases hd

theorem txt_head (y : V) (d : Nat) (h : y.sh d = true) : ∃ c t, y.txt = c :: t ∧ c ≠ 41 := by
  cases y with
  | mk k n s a cap l =>
  by_cases k1 : k = 1
  · exact ⟨34, _, by simp [V.txt, k1]; rfl, by decide⟩
  by_cases k2 : k = 2
  · exact ⟨40, _, by simp [V.txt, k2]; rfl, by decide⟩
  by_cases k3 : k = 3
  · exact ⟨35, _, by simp [V.txt, k3]; rfl, by decide⟩
  · obtain ⟨c, t, hc, hn⟩ := itoa_cons n
    exact ⟨c, t, by simp [V.txt, k1, k2, k3, hc], num_ne hn rfl⟩

theorem bare_of {s : ByteArray} (h : s.toList = []) : s.data = #[] := by
  rw [ByteArray.toList_eq] at h
  exact Array.toList_eq_nil_iff.1 h

/-- The text of each value is read as a value that is the same. -/
theorem txt_all : ∀ (N : Nat) (y : V) (d : Nat), y.rank ≤ N → y.sh d = true → Txt y := by
  intro N
  induction N with
  | zero => intro y d h; have := y.rank_pos; omega
  | succ N IH =>
    intro y d hN hsh r hr o h
    cases y with
    | mk k n s a cap l =>
    cases d with
    | zero => simp [V.sh] at hsh
    | succ d =>
    simp [V.sh] at hsh
    obtain ⟨hf, hl⟩ := hsh
    have part : ∀ x ∈ l, Txt x := fun x hx => by
      obtain ⟨j, hj⟩ := List.getElem?_of_mem hx
      have := V.rank_part (v := .mk k n s a cap l) (j := j) (x := x) hj
      exact IH x d (by omega) (shLK_at hl hj)
    by_cases k1 : k = 1
    · subst k1
      simp [fitsB, textB] at hf
      obtain ⟨rfl, rfl, -⟩ := hf
      have e : (V.mk 1 0 s a cap []).txt ++ r = 34 :: (esc s.data.toList ++ 34 :: r) := by simp [V.txt]
      rw [e] at h
      rcases pv_inv h with ⟨r', h1, rfl⟩ | ⟨r', o', h1, -⟩ | ⟨r', h1, -⟩ | ⟨h1, -⟩
      · simp only [List.cons.injEq, true_and] at h1
        subst h1
        rw [pQ_text]
        exact ⟨_, rfl, by simp [V.same, V.sameL, ByteArray.toList_eq]⟩
      · simp at h1
      · simp at h1
      · exact absurd rfl h1
    by_cases k2 : k = 2
    · subst k2
      simp [fitsB, tupleB] at hf
      obtain ⟨rfl, hs, h8⟩ := hf
      have e : (V.mk 2 0 s a cap l).txt ++ r = 40 :: (V.txtL l ++ 41 :: r) := by simp [V.txt]
      rw [e] at h
      rcases pv_inv h with ⟨r', h1, rfl⟩ | ⟨r', o', h1, h2, rfl⟩ | ⟨r', h1, -⟩ | ⟨-, h1, -⟩
      · simp at h1
      · simp only [List.cons.injEq, true_and] at h1
        subst h1
        obtain ⟨ys', rfl, hs'⟩ := pl_first l h8 (fun x hx => by
          obtain ⟨j, hj⟩ := List.getElem?_of_mem hx
          exact txt_head x d (shLK_at hl hj)) part r o' h2
        exact ⟨_, rfl, by simp [V.same, hs', hs, ByteArray.toList_eq]⟩
      · simp at h1
      · exact absurd rfl h1
    by_cases k3 : k = 3
    · subst k3
      simp [fitsB, taggedB] at hf
      obtain ⟨h1, h2, hs, h4⟩ := hf
      match l, h4 with
      | [x], _ =>
      have e : (V.mk 3 n s a cap [x]).txt ++ r = 35 :: (Lib.itoa n ++ (32 :: (x.txt ++ r))) := by simp [V.txt, V.txtH]
      rw [e] at h
      have hpn := pN_itoa n (32 :: (x.txt ++ r)) (by omega) (stop_cons rfl)
      rcases pv_inv h with ⟨r', h1, rfl⟩ | ⟨r', o', h1, -⟩ | ⟨r', h1, h2⟩ | ⟨-, -, h1, -⟩
      · simp at h1
      · simp at h1
      · simp only [List.cons.injEq, true_and] at h1
        subst h1
        rw [hpn] at h2
        rcases h2 with ⟨h2, -⟩ | ⟨n', r1, h2, h3, -⟩ | ⟨n', r2, o', h2, h3, rfl⟩
        · cases h2
        · injection h2 with h2
          injection h2 with h4 h5
          subst h5
          exact absurd rfl h3
        · injection h2 with h2
          injection h2 with h4 h5
          injection h5 with h6 h7
          subst h4 h7
          obtain ⟨y', rfl, hs'⟩ := part x (by simp) r hr o' h3
          exact ⟨_, rfl, by simp [V.same, V.sameL, hs', ByteArray.toList_eq, bare_of hs]⟩
      · exact absurd rfl h1
    · by_cases k0 : k = 0
      · subst k0
        simp [fitsB, wordB] at hf
        obtain ⟨h1, h2, hs, rfl⟩ := hf
        have e : (V.mk 0 n s a cap []).txt = Lib.itoa n := by simp [V.txt]
        rw [e] at h
        obtain ⟨c, t, hc, hnc⟩ := itoa_cons n
        have hpn := pN_itoa n r ⟨h1, h2⟩ hr
        rcases pv_inv h with ⟨r', h3, -⟩ | ⟨r', o', h3, -⟩ | ⟨r', h3, -⟩ | ⟨-, -, -, rfl⟩
        · rw [hc] at h3; simp only [List.cons_append, List.cons.injEq] at h3; exact absurd h3.1 (num_ne hnc rfl)
        · rw [hc] at h3; simp only [List.cons_append, List.cons.injEq] at h3; exact absurd h3.1 (num_ne hnc rfl)
        · rw [hc] at h3; simp only [List.cons_append, List.cons.injEq] at h3; exact absurd h3.1 (num_ne hnc rfl)
        · rw [hpn]
          exact ⟨_, rfl, by simp [V.same, V.sameL, ByteArray.toList_eq, bare_of hs]⟩
      · simp [fitsB, k0, k1, k2, k3] at hf

end Go.Proofs.YtkfmgafgokpjhaaGreatDoor

/-
  Text OF ANY VALID VALUE, THE PROGRAM's; TypeText OF ANY VALID TYPE.
-/
namespace Go.Proofs.YtkfmgafgokpjhaaGreatDoor
open Go.RowKit

theorem fits_num {k n : Int} {s : ByteArray} {m : Nat} (h : fitsB k n s m = true) : -2147483648 ≤ n ∧ n ≤ 2147483647 := by
  by_cases k0 : k = 0
  · subst k0; simp [fitsB, wordB] at h; omega
  by_cases k1 : k = 1
  · subst k1; simp [fitsB, textB] at h; omega
  by_cases k2 : k = 2
  · subst k2; simp [fitsB, tupleB] at h; omega
  by_cases k3 : k = 3
  · subst k3; simp [fitsB, taggedB] at h; omega
  · simp [fitsB, k0, k1, k2, k3] at h

mutual
theorem V.sh_ok : ∀ (x : V) (d : Nat), x.sh d = true → x.ok
  | .mk k n s a c l, d, h => by
    cases d with
    | zero => simp [V.sh] at h
    | succ d =>
      simp [V.sh] at h
      have hn := fits_num h.1
      refine ⟨?_, by unfold I64; omega, ?_, V.shL_ok l d h.2⟩
      · by_cases k0 : k = 0
        · exact .inl k0
        by_cases k1 : k = 1
        · exact .inr (.inl k1)
        by_cases k2 : k = 2
        · exact .inr (.inr (.inl k2))
        by_cases k3 : k = 3
        · exact .inr (.inr (.inr k3))
        · have := h.1; simp [fitsB, k0, k1, k2, k3] at this
      · rintro rfl rfl
        have := h.1
        simp [fitsB, taggedB] at this
theorem V.shL_ok : ∀ (l : List V) (d : Nat), V.shL l d = true → V.okL l
  | [], _, _ => trivial
  | x :: xs, d, h => by
    simp [V.shL] at h
    exact ⟨V.sh_ok x d h.1, V.shL_ok xs d h.2⟩
end

theorem V.txt_ne (v : V) : v.txt ≠ [] := by
  cases v with
  | mk k n s a c l =>
  obtain ⟨b, t, h, -⟩ := itoa_cons n
  simp only [V.txt]
  split
  · simp
  · split
    · simp
    · split
      · simp
      · rw [h]; simp

set_option maxHeartbeats 1000000 in
theorem writtenTextV (k n : Int) (s : ByteArray) (a : Option Addr) (cap : Nat) (l : List V) (w : World) (hin : (V.mk k n s a cap l).In w w.heap.size) (hv : (V.mk k n s a cap l).valid = true) (ht : Tb w w.heap.size) :
    Calls Tryz.prog 68 #[.agg #[.int .i64 k, .int .i64 n, .string s, .slice a l.length cap], .func (.methodOf 93 "deltaworks/value.text") #[] #[]] w fun e w' =>
      e = .returned (.tuple #[.string ⟨(V.mk k n s a cap l).txt.toArray⟩, .int .i64 0]) ∧ Kp w w' := by
  have hc : ¬ (V.mk k n s a cap l).cnt = 0 := fun h => by
    have := (cnt_valid (V.mk k n s a cap l)).1 h
    rw [hv] at this; cases this
  have hsh : (V.mk k n s a cap l).sh 6 = true := by simp [V.valid] at hv; exact hv.1
  have hrk : (V.mk k n s a cap l).rank ≤ 60 := by simp [V.valid] at hv; exact hv.2
  have hlen := V.txt_len _ 6 hsh
  have hb6 : (V.mk k n s a cap l).txt.length ≤ 1000000000000 := by omega
  have K : ∀ (w1 : World) (S b : Nat), Kp w w1 → w.heap.size ≤ S → PtrAt w1 b 0 k n s (.slice a l.length cap) → b < S → Sink w1 S [] → (V.mk k n s a cap l).In w1 S ∧ Tb w1 S := fun w1 S b hk hS hp hb hs => ⟨hin.keep hS hk, ht.keep hk hS⟩
  have hsh2 := hsh
  simp [V.sh] at hsh2
  obtain ⟨hf, hpl⟩ := hsh2
  have hn := fits_num hf
  have part : ∀ (w1 : World) (S b0 off0 : Nat), Tb w1 S → (∀ (j : Nat) (x : V), l[j]? = some x → PtrAt w1 b0 (off0 + j * 4) x.k x.n x.s (.slice x.a x.l.length x.cap) ∧ x.In w1 S) → b0 < S → Sink w1 S [] →
      ∀ (j : Nat) (x : V), l[j]? = some x → ∀ (w2 : World) (xs1 : List UInt8), Sk S w1 w2 → Sink w2 S xs1 → xs1.length + x.txt.length ≤ 1000000000000 →
        Calls Tryz.prog 183 #[.pointer (some ⟨b0, off0 + j * 4, none⟩), takeF S] w2 fun e w' => e = .returned (.tuple #[]) ∧ Sink w' S (xs1 ++ x.txt) ∧ Sk S w2 w' := by
    intro w1 S b0 off0 ht1 hpt hb0 hs j x hj w2 xs1 hk2 hs2 hx1
    have hbl := hk2.below hs
    exact textV _ x w2 S b0 (off0 + j * 4) xs1 (Nat.le_refl _) ((hpt j x hj).2.keep (Nat.le_refl _) hbl) ((hpt j x hj).1.keep hb0 hbl) hb0 (ht1.keep hbl (Nat.le_refl _)) (V.sh_ok _ _ (shLK_at hpl hj)) hs2 hx1
  by_cases k0 : k = 0
  · subst k0
    have e : (V.mk 0 n s a cap l).txt = Lib.itoa n := by simp [V.txt]
    have hne : Lib.itoa n ≠ [] := by obtain ⟨b, t, h, -⟩ := itoa_cons n; rw [h]; simp
    rw [e] at hb6 ⊢
    exact writtenText_word n s a cap l w _ hin hc hne (fun w1 S b hk hS hp hb hs => by simpa using wordText_any w1 S b 0 [] 0 n s _ hs hp (by unfold I64; omega) (K w1 S b hk hS hp hb hs).2 (by simpa using hb6))
  by_cases k1 : k = 1
  · subst k1
    have e : (V.mk 1 n s a cap l).txt = 34 :: esc s.data.toList ++ [34] := by simp [V.txt]
    rw [e] at hb6 ⊢
    exact writtenText_let n s a cap l w _ hin hc (by simp) (fun w1 S b hk hS hp hb hs => by simpa using lettersText_any w1 S b 0 [] 1 n s _ hs hp hb (by simp at hb6 ⊢; omega))
  by_cases k2 : k = 2
  · subst k2
    have e : (V.mk 2 n s a cap l).txt = 40 :: joinF V.txt [44, 32] l ++ [41] := by simp [V.txt, V.txtL_join]
    rw [e] at hb6 ⊢
    refine writtenText_tup n s a cap l w _ hin hc (by simp) (fun w1 S b hk hS hp hb hs => ?_)
    obtain ⟨hin1, ht1⟩ := K w1 S b hk hS hp hb hs
    have hll := V.lenLe hin1
    by_cases hl : l = []
    · simpa using tupleText_any V.txt w1 S b 0 0 0 [] n s a cap l hs hp (fun h => absurd hl h) hll (fun j x hj => by subst hl; simp at hj) (by simp at hb6 ⊢; omega)
    · obtain ⟨b0, off0, ha, hb0, hpt⟩ := V.ptrPart hin1 hl
      simpa using tupleText_any V.txt w1 S b 0 b0 off0 [] n s a cap l hs hp (fun _ => ha) hll (part w1 S b0 off0 ht1 hpt hb0 hs) (by simp at hb6 ⊢; omega)
  by_cases k3 : k = 3
  · subst k3
    simp [fitsB, taggedB] at hf
    obtain ⟨h1, h2, -, h4⟩ := hf
    match l, h4 with
    | [x], _ =>
    have e : (V.mk 3 n s a cap [x]).txt = 35 :: Lib.itoa n ++ 32 :: x.txt := by simp [V.txt, V.txtH]
    rw [e] at hb6 ⊢
    refine writtenText_tagg n s a cap [x] w _ hin hc (by simp) (fun w1 S b hk hS hp hb hs => ?_)
    obtain ⟨hin1, ht1⟩ := K w1 S b hk hS hp hb hs
    obtain ⟨b0, off0, rfl, hb0, hpt⟩ := V.ptrPart hin1 (by simp)
    simpa using taggedText_any w1 S b 0 b0 off0 [] n s _ cap x.txt hs hb hp (by simp) (V.lenLe hin1) (by unfold I64; omega) ht1 (by simpa using part w1 S b0 off0 ht1 hpt hb0 hs 0 x (by simp)) (by simp at hb6 ⊢; omega)
  · simp [fitsB, k0, k1, k2, k3] at hf

set_option maxHeartbeats 1000000 in
/-- Text of a valid value. -/
theorem textOk (x : V) (w : World) (hin : x.In w w.heap.size) (hv : x.valid = true) (ht : Tb w w.heap.size) :
    Calls Tryz.prog 27 #[x.val] w fun e w' => e = .returned (.tuple #[.string ⟨x.txt.toArray⟩, .int .i64 0]) ∧ Kp w w' := by
  cases x with
  | mk k n s a cap l =>
  have C : ∀ w1, Kp w w1 → _ := fun w1 h => writtenTextV k n s a cap l w1 (hin.keep h.size h) hv (ht.keep h h.size)
  rw [V.val_mk]
  generalize (V.mk k n s a cap l).txt = E at C ⊢
  have CC := Lib.hid C
  clear C hin hv ht
  go_enter Tryz.func27, Tryz.ntmps27
  go_wp2_with fail
  refine (CC.out _ (ka _ _)).mono ?_
  rintro e w1 ⟨rfl, hk⟩
  have HK := Lib.hid (kk (ka _ _) hk)
  clear hk
  go_wp2_with fail
  go_ret2
  exact ⟨rfl, HK.out⟩

mutual
theorem T.txt_len : ∀ (v : T) (d : Nat), v.sh d = true → v.txt.length ≤ 30 * v.rank
  | .mk k a c l, d, h => by
    cases d with
    | zero => simp [T.sh] at h
    | succ d =>
    simp [T.sh] at h
    obtain ⟨hf, hl⟩ := h
    have i1 := T.txtL_len [44, 32] (by simp) l d hl
    have i2 := T.txtL_len [32, 43, 32] (by simp) l d hl
    by_cases k0 : k = 0
    · simp [T.txt, T.rank, k0]; omega
    by_cases k1 : k = 1
    · simp [T.txt, T.rank, k1]; omega
    by_cases k2 : k = 2
    · subst k2
      have h8 : l.length ≤ 8 := by simpa [fitsT] using hf
      simp [T.txt, T.rank]; omega
    by_cases k3 : k = 3
    · subst k3
      have h8 : 0 < l.length ∧ l.length ≤ 8 := by simpa [fitsT] using hf
      simp [T.txt, T.rank]; omega
    · simp [fitsT, k0, k1, k2, k3] at hf
theorem T.txtL_len (bt : List UInt8) (hb : bt.length ≤ 3) : ∀ (l : List T) (d : Nat), T.shL l d = true → (T.txtL bt l).length ≤ 30 * T.rank.ranks l + 3 * l.length
  | [], _, _ => by simp [T.txtL]
  | [x], d, h => by
    simp [T.shL] at h
    have h1 := T.txt_len x d h
    simp [T.txtL, T.rank.ranks]; omega
  | x :: y :: ys, d, h => by
    simp only [T.shL, Bool.and_eq_true] at h
    have h1 := T.txt_len x d h.1
    have h2 := T.txtL_len bt hb (y :: ys) d (by simp only [T.shL, Bool.and_eq_true]; exact h.2)
    rw [T.txtL, T.rank.ranks]
    simp only [List.length_append, List.length_cons] at h2 ⊢
    omega
end

/-- TypeText of a valid type. -/
theorem typeTextOk (t : T) (w : World) (hin : t.In w w.heap.size) (hv : t.valid = true) (hne : t.txt ≠ []) :
    Calls Tryz.prog 29 #[t.val] w fun e w' => e = .returned (.tuple #[.string ⟨t.txt.toArray⟩, .int .i64 0]) ∧ Kp w w' := by
  cases t with
  | mk k a c l =>
  have hsh : (T.mk k a c l).sh 6 = true := by simp [T.valid] at hv; exact hv.1
  have hrk : (T.mk k a c l).rank ≤ 40 := by simp [T.valid] at hv; exact hv.2
  have hlen := T.txt_len _ 6 hsh
  have hc : ¬ (T.mk k a c l).cnt = 0 := fun h => by
    have := badT_valid (.mk k a c l)
    rw [hv] at this
    simp [bad, h] at this
  exact typeText k a c l w hin hc hne (by omega)

end Go.Proofs.YtkfmgafgokpjhaaGreatDoor

/-
  THE WALKS OF SameType AND SameTypes, by recursion.
-/
namespace Go.Proofs.YtkfmgafgokpjhaaGreatDoor
open Go.RowKit

mutual
/-- Are two types the same? -/
def T.same : T → T → Bool
  | .mk k _ _ l, .mk k' _ _ l' => decide (k = k') && T.sameL l l'
def T.sameL : List T → List T → Bool
  | [], [] => true
  | x :: xs, y :: ys => x.same y && T.sameL xs ys
  | _, _ => false
end

theorem T.sameL_len : ∀ {l m : List T}, T.sameL l m = true → l.length = m.length
  | [], [], _ => rfl
  | x :: xs, y :: ys, h => by simp [T.sameL] at h; simp [T.sameL_len h.2]
  | [], _ :: _, h => by simp [T.sameL] at h
  | _ :: _, [], h => by simp [T.sameL] at h

/-- Two lists are the same up to a place. -/
def SameUptoT (l m : List T) (j : Nat) : Prop := ∀ i x y, i < j → l[i]? = some x → m[i]? = some y → x.same y = true
theorem SameUptoT.succ {l m : List T} {j : Nat} {x y : T} (h : SameUptoT l m j) (hx : l[j]? = some x) (hy : m[j]? = some y) (h0 : x.same y = true) : SameUptoT l m (j + 1) := by
  intro i a b hi ha hb
  rcases Nat.lt_succ_iff_lt_or_eq.1 hi with h1 | rfl
  · exact h i a b h1 ha hb
  · rw [hx] at ha; rw [hy] at hb; cases ha; cases hb; exact h0
theorem SameUptoT.all : ∀ {l m : List T}, l.length = m.length → SameUptoT l m l.length → T.sameL l m = true
  | [], [], _, _ => rfl
  | x :: xs, y :: ys, hl, h => by
    simp only [T.sameL, h 0 x y (by simp) (by simp) (by simp), Bool.true_and]
    exact SameUptoT.all (by simpa using hl) fun i a b hi ha hb => h (i + 1) a b (by simpa using hi) (by simpa using ha) (by simpa using hb)
  | [], _ :: _, hl, _ => by simp at hl
  | _ :: _, [], hl, _ => by simp at hl
theorem T.sameL_not : ∀ {l m : List T} {j : Nat} {x y : T}, l[j]? = some x → m[j]? = some y → x.same y = false → T.sameL l m = false
  | [], _, _, _, _, h, _, _ => by simp at h
  | _, [], _, _, _, _, h, _ => by simp at h
  | x :: xs, y :: ys, 0, a, b, h, h', h0 => by simp at h h'; subst h; subst h'; simp [T.sameL, h0]
  | x :: xs, y :: ys, j + 1, a, b, h, h', h0 => by
    simp only [T.sameL]
    rw [T.sameL_not (l := xs) (m := ys) (j := j) (by simpa using h) (by simpa using h') h0]; simp

set_option maxRecDepth 100000 in
set_option maxHeartbeats 4000000 in
theorem samesT (N : Nat) (ih : ∀ (x y : T) (w : World), x.rank ≤ N → x.In w w.heap.size → y.In w w.heap.size → Calls Tryz.prog 35 #[x.val, y.val] w fun e w' => e = .returned (.bool (x.same y)) ∧ Kp w w')
    (k : Int) (a : Option Addr) (cap : Nat) (l : List T) (k' : Int) (a' : Option Addr) (cap' : Nat) (m : List T) (w : World) (hr : (T.mk k a cap l).rank ≤ N + 1)
    (hin : (T.mk k a cap l).In w w.heap.size) (hin' : (T.mk k' a' cap' m).In w w.heap.size) :
    Calls Tryz.prog 79 #[.slice a l.length cap, .slice a' m.length cap'] w fun e w' => e = .returned (.bool (T.sameL l m)) ∧ Kp w w' := by
  have hl := T.lenLe hin
  have hm := T.lenLe hin'
  have IH := Lib.hid ih
  have HIN := Lib.hid hin
  have HIN' := Lib.hid hin'
  have HR := Lib.hid hr
  clear ih hin hin' hr
  by_cases hlen : l.length = m.length
  · have g1 : (((l.length : Nat) : Int) != ((m.length : Nat) : Int)) = false := by simp [hlen]
    have HLEN := Lib.hid hlen
    clear hlen
    go_enter Tryz.func79, Tryz.ntmps79
    go_wp2_with fail
    go_loopw [5] (fun i wr => ∃ j : Nat, j ≤ l.length ∧ i = .int .i64 j ∧ SameUptoT l m j ∧ Kp w wr) (fun i _ => l.length - (intOf i).toNat)
    case atStart => exact ⟨0, Nat.zero_le _, rfl, fun i _ _ h => absurd h (by omega), Below.refl _ _⟩
    case round =>
      obtain ⟨j, hj, rfl, heq, hk⟩ := hrel
      by_cases hlt : j < l.length
      · obtain ⟨x, hx⟩ : ∃ x, l[j]? = some x := ⟨l[j], by simp [hlt]⟩
        have hlt' : j < m.length := by rw [← HLEN.out]; exact hlt
        obtain ⟨y, hy⟩ : ∃ y, m[j]? = some y := ⟨m[j], by simp [hlt']⟩
        obtain ⟨b0, off, rfl, hb0, q0, q1, hxin⟩ := T.atPart HIN.out hx
        have r0 := kc hk q0
        have r1 := kc hk q1
        have HX := Lib.hid hx
        have HXI := Lib.hid hxin
        clear q0 q1 hx hxin
        obtain ⟨b1, off', rfl, hb1, q0, q1, hyin⟩ := T.atPart HIN'.out hy
        have t0 := kc hk q0
        have t1 := kc hk q1
        have HY := Lib.hid hy
        have HYI := Lib.hid hyin
        have HK := Lib.hid hk
        have hz := hk.size
        have C := fun w1 (h : Kp w w1) => IH.out x y w1 (by have := T.rank_part (v := .mk k (some ⟨b0, off, none⟩) cap l) HX.out; have := HR.out; omega) (HXI.out.keep h.size h) (HYI.out.keep h.size h)
        generalize hc : x.same y = c at C
        have CC := Lib.hid C
        have HC := Lib.hid hc
        clear q0 q1 hy hyin hk C hc
        have gi0 : (0 : Int) ≤ (j : Int) := by omega
        have gi1 : (j : Int) < (l.length : Int) := by omega
        have gi2 : (j : Int) < (m.length : Int) := by omega
        go_wp2_with fail
        go_region_held3 (fun w' => w'.cell? ⟨b0, off + j * 2, none⟩ = some (.int .i64 x.k) ∧ w'.cell? ⟨b0, off + j * 2 + 1, none⟩ = some (.slice x.a x.l.length x.cap) ∧
          w'.cell? ⟨b1, off' + j * 2, none⟩ = some (.int .i64 y.k) ∧ w'.cell? ⟨b1, off' + j * 2 + 1, none⟩ = some (.slice y.a y.l.length y.cap) ∧ Kp wr w')
          (first
            | (refine ⟨?_, ?_, ?_, ?_, ?_⟩ <;> first | exact (Below.refl _ _).drew | (go_keep; done))
            | (go_split_ands; exact ⟨‹_›, ‹_›, ‹_›, ‹_›, ‹_›⟩)
            | (go_split_ands; exact ⟨kc hk1 ‹_›, kc hk1 ‹_›, kc hk1 ‹_›, kc hk1 ‹_›, kk ‹_› hk1⟩))
          (first
            | (go_split_ands; go_at_call 35; refine (CC.out _ (kk HK.out ‹_›)).mono ?_; rintro e w1 ⟨rfl, hk1⟩))
        go_split_ands
        have HK1 := Lib.hid (kk HK.out ‹Kp wr _›)
        cases c
        · have hr : T.sameL l m = false := T.sameL_not HX.out HY.out HC.out
          have HRR := Lib.hid hr
          clear hr
          go_wp2_with fail
          go_ret
          exact ⟨by rw [HRR.out] <;> rfl, HK1.out⟩
        · go_wp2_with fail
          go_roundw
          case rel => exact ⟨j + 1, by omega, by go_num, heq.succ HX.out HY.out HC.out, HK1.out⟩
          case measure => simp [intOf]; omega
      · have hjl : j = l.length := by omega
        subst hjl
        have hr : T.sameL l m = true := SameUptoT.all HLEN.out heq
        have HRR := Lib.hid hr
        have HK := Lib.hid hk
        clear hr hk
        go_wp2_with fail
        go_ret
        exact ⟨by rw [HRR.out] <;> rfl, HK.out⟩
  · have hr : T.sameL l m = false := by
      cases h : T.sameL l m with
      | false => rfl
      | true => exact absurd (T.sameL_len h) hlen
    have HRR := Lib.hid hr
    have g1 : (((l.length : Nat) : Int) != ((m.length : Nat) : Int)) = true := by simp; omega
    clear hr hlen
    go_enter Tryz.func79, Tryz.ntmps79
    go_wp2_with fail
    go_ret
    exact ⟨by rw [HRR.out] <;> rfl, Below.refl _ _⟩

set_option maxHeartbeats 2000000 in
theorem sameT : ∀ (N : Nat) (x y : T) (w : World), x.rank ≤ N → x.In w w.heap.size → y.In w w.heap.size →
    Calls Tryz.prog 35 #[x.val, y.val] w fun e w' => e = .returned (.bool (x.same y)) ∧ Kp w w' := by
  intro N
  induction N with
  | zero => intro x y w h; have := x.rank_pos; omega
  | succ N ih =>
    intro x y w hN hx hy
    cases x with
    | mk k a cap l =>
    cases y with
    | mk k' a' cap' l' =>
    rw [T.val_mk, T.val_mk]
    have C := fun w1 (h : Kp w w1) => samesT N ih k a cap l k' a' cap' l' w1 hN (hx.keep h.size h) (hy.keep h.size h)
    have hr : (T.mk k a cap l).same (T.mk k' a' cap' l') = (decide (k = k') && T.sameL l l') := by simp only [T.same]
    rw [hr]
    generalize T.sameL l l' = q at C ⊢
    have CC := Lib.hid C
    clear C ih hx hy hN hr
    by_cases h1 : k = k'
    · have hr : (decide (k = k') && q) = q := by simp [h1]
      rw [hr]
      subst h1
      clear hr
      go_enter Tryz.func35, Tryz.ntmps35
      go_wp2_with fail
      refine (CC.out _ (kk (ka _ _) (ka _ _))).mono ?_
      rintro e w1 ⟨rfl, hk⟩
      have HK := Lib.hid (kk (kk (ka _ _) (ka _ _)) hk)
      clear hk
      go_wp2_with fail
      go_ret
      exact ⟨rfl, HK.out⟩
    · have hr : (decide (k = k') && q) = false := by simp [h1]
      rw [hr]
      have g1 : (k == k') = false := by simpa using h1
      clear hr CC h1
      go_enter Tryz.func35, Tryz.ntmps35
      go_wp2_with fail
      go_ret
      exact ⟨rfl, kk (ka _ _) (ka _ _)⟩

mutual
theorem T.same_refl : ∀ (v : T), v.same v = true
  | .mk k a cap l => by simp [T.same, T.sameL_refl l]
theorem T.sameL_refl : ∀ (l : List T), T.sameL l l = true
  | [] => by simp [T.sameL]
  | x :: xs => by simp [T.sameL, T.same_refl x, T.sameL_refl xs]
end
mutual
theorem T.same_symm : ∀ (v w : T), v.same w = true → w.same v = true
  | .mk k a cap l, .mk k' a' cap' l', h => by
    simp [T.same] at h ⊢
    exact ⟨h.1.symm, T.sameL_symm l l' h.2⟩
theorem T.sameL_symm : ∀ (l m : List T), T.sameL l m = true → T.sameL m l = true
  | [], [], _ => by simp [T.sameL]
  | [], _ :: _, h => by simp [T.sameL] at h
  | _ :: _, [], h => by simp [T.sameL] at h
  | x :: xs, y :: ys, h => by
    simp [T.sameL] at h ⊢
    exact ⟨T.same_symm x y h.1, T.sameL_symm xs ys h.2⟩
end
mutual
theorem T.same_trans : ∀ (u v w : T), u.same v = true → v.same w = true → u.same w = true
  | .mk k a cap l, .mk k' a' cap' l', .mk k2 a2 cap2 l2, h, h' => by
    simp [T.same] at h h' ⊢
    exact ⟨h.1.trans h'.1, T.sameL_trans l l' l2 h.2 h'.2⟩
theorem T.sameL_trans : ∀ (k l m : List T), T.sameL k l = true → T.sameL l m = true → T.sameL k m = true
  | [], [], m, _, h => h
  | [], _ :: _, _, h, _ => by simp [T.sameL] at h
  | _ :: _, [], _, h, _ => by simp [T.sameL] at h
  | _ :: _, _ :: _, [], _, h => by simp [T.sameL] at h
  | x :: xs, y :: ys, z :: zs, h, h' => by
    simp [T.sameL] at h h' ⊢
    exact ⟨T.same_trans x y z h.1 h'.1, T.sameL_trans xs ys zs h.2 h'.2⟩
end
theorem T.sameL_snoc : ∀ {l m : List T} {x y : T}, T.sameL l m = true → x.same y = true → T.sameL (l ++ [x]) (m ++ [y]) = true
  | [], [], _, _, _, hx => by simp [T.sameL, hx]
  | [], _ :: _, _, _, h, _ => by simp [T.sameL] at h
  | _ :: _, [], _, _, h, _ => by simp [T.sameL] at h
  | a :: l, b :: m, _, _, h, hx => by
    simp [T.sameL] at h ⊢
    exact ⟨h.1, T.sameL_snoc h.2 hx⟩
theorem T.same_node {k : Int} {a a' : Option Addr} {cap cap' : Nat} {l m : List T} (h : T.sameL l m = true) : (T.mk k a cap l).same (.mk k a' cap' m) = true := by
  simp only [T.same, h]; simp

end Go.Proofs.YtkfmgafgokpjhaaGreatDoor
