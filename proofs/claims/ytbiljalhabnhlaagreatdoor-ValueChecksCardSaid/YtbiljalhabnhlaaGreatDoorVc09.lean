/-
  Proved: the statement ValueChecks (value.Type, Check, Is, Size and Least answer as the specification's do, and the chapter's examples hold, for every value and type), as its tied card says it, with no condition beyond the card's own.
  Part 9 of 9.
-/
import Derived.Test.YtbiljalhabnhlaaGreatDoorVc08
import Derived.Test.YtbiljalhabnhlaaGreatDoorVc03
import Derived.Test.YtbiljalhabnhlaaGreatDoorVc07
import Derived.Deep.Slices
import Derived.Test.YtbiljalhabnhlaaGreatDoorCards
import Derived.Test.YtbiljalhabnhlaaGreatDoorTie
import Derived.ProofKit
import Derived.OpenShut
import Derived.ReadAgain
import Derived.Deep.Onto
import Derived.Deep.DeepHandedRow
import Derived.Lib.LaidTab
import Derived.Lib.LaidIn
import Derived.Deep.DeepWitnessRowRef
/-
  THE CALLS OF THE CHAPTER's EXAMPLES, each with its answer written out.
-/
namespace Go.Proofs.YtbiljalhabnhlaaGreatDoor
open Go.RowKit

abbrev sampleV (q r : Nat) : V := .mk 2 0 ⟨#[]⟩ (some ⟨q, 0, none⟩) 4 [.mk 0 (-3) ⟨#[]⟩ none 0 [], .mk 1 0 ⟨#[97, 34, 98]⟩ none 0 [], .mk 2 0 ⟨#[]⟩ none 0 [], .mk 3 2 ⟨#[]⟩ (some ⟨r, 0, none⟩) 1 [.mk 0 0 ⟨#[]⟩ none 0 []]]

theorem sampleV_in {w : World} {q r B t u : Nat} (hq : w.heap[q]? = some (.cells (sampleCells r) t (0, 0))) (hr : w.heap[r]? = some (.cells sampleTag u (0, 0))) (hB : q < B) (hB2 : r < B) : (sampleV q r).In w B := by
  have i64 : ∀ n : Int, -10 ≤ n → n ≤ 10 → I64 n := fun n h1 h2 => by unfold I64; omega
  refine in_node 2 0 ⟨#[]⟩ [.mk 0 (-3) ⟨#[]⟩ none 0 [], .mk 1 0 ⟨#[97, 34, 98]⟩ none 0 [], .mk 2 0 ⟨#[]⟩ none 0 [], .mk 3 2 ⟨#[]⟩ (some ⟨r, 0, none⟩) 1 [.mk 0 0 ⟨#[]⟩ none 0 []]] (i64 2 (by omega) (by omega)) (i64 0 (by omega) (by omega)) (by decide) (by show 4 ≤ maxLen; decide) hB ?_ ⟨in_leaf _ _ _ (i64 _ (by omega) (by omega)) (i64 _ (by omega) (by omega)) (by decide), in_leaf _ _ _ (i64 _ (by omega) (by omega)) (i64 _ (by omega) (by omega)) (by decide), in_leaf _ _ _ (i64 _ (by omega) (by omega)) (i64 _ (by omega) (by omega)) (by decide), ?_, trivial⟩
  · intro j x hj
    match j, hj with
    | 0, hj => simp at hj; subst hj; exact ⟨cellOf hq rfl, cellOf hq rfl, cellOf hq rfl, cellOf hq rfl⟩
    | 1, hj => simp at hj; subst hj; exact ⟨cellOf hq rfl, cellOf hq rfl, cellOf hq rfl, cellOf hq rfl⟩
    | 2, hj => simp at hj; subst hj; exact ⟨cellOf hq rfl, cellOf hq rfl, cellOf hq rfl, cellOf hq rfl⟩
    | 3, hj => simp at hj; subst hj; exact ⟨cellOf hq rfl, cellOf hq rfl, cellOf hq rfl, cellOf hq rfl⟩
    | j + 4, hj => simp at hj
  · refine in_node 3 2 ⟨#[]⟩ [.mk 0 0 ⟨#[]⟩ none 0 []] (i64 _ (by omega) (by omega)) (i64 _ (by omega) (by omega)) (by decide) (by decide) hB2 ?_ ⟨in_leaf _ _ _ (i64 _ (by omega) (by omega)) (i64 _ (by omega) (by omega)) (by decide), trivial⟩
    intro j x hj
    match j, hj with
    | 0, hj => simp at hj; subst hj; exact ⟨cellOf hr rfl, cellOf hr rfl, cellOf hr rfl, cellOf hr rfl⟩
    | j + 1, hj => simp at hj

theorem sampleV_cnt (q r : Nat) : (sampleV q r).cnt = 6 := by
  have h3 : (⟨#[97, 34, 98]⟩ : ByteArray).size = 3 := rfl
  simp [V.cnt, V.wk, V.wkL, fitsB, wordB, textB, tupleB, taggedB, charsB, byteB, h3]
theorem sampleV_ok (q r : Nat) : (sampleV q r).ok := by simp [V.ok, V.okL, I64]
theorem sampleV_txt (q r : Nat) : (sampleV q r).txt = [40, 45, 51, 44, 32, 34, 97, 92, 34, 98, 34, 44, 32, 40, 41, 44, 32, 35, 50, 32, 48, 41] := by
  have i1 : Lib.itoa (-3) = [45, 51] := by kernel_rfl
  have i2 : Lib.itoa 2 = [50] := by kernel_rfl
  have i3 : Lib.itoa 0 = [48] := by kernel_rfl
  simp [V.txt, V.txtL, V.txtH, esc, escB, i1, i2, i3]
theorem sampleV_is (q r g h : Nat) : (sampleV q r).is (kindT g h) = true := by
  simp [V.is, V.isL, okB, kindI, T.k, T.l]
theorem sampleV_isnt (q r : Nat) : (sampleV q r).is (.mk 0 none 0 []) = false := by
  simp [V.is, okB, kindI, T.k, T.l]
theorem kindT_txt (g h : Nat) : (kindT g h).txt = [40, 105, 110, 116, 44, 32, 116, 101, 120, 116, 44, 32, 40, 41, 44, 32, 91, 116, 101, 120, 116, 32, 43, 32, 40, 41, 32, 43, 32, 105, 110, 116, 93, 41] := by
  simp [T.txt, T.txtL]

end Go.Proofs.YtbiljalhabnhlaaGreatDoor

/-
  THE CALLS OF THE CHAPTER's EXAMPLES: their contracts, closed.
-/
namespace Go.Proofs.YtbiljalhabnhlaaGreatDoor
open Go.RowKit

/-- The sample lies in blocks q and r. -/
def Smp (w : World) (q r : Nat) : Prop := w.heap[q]? = some (.cells (sampleCells r) 24 (0, 0)) ∧ w.heap[r]? = some (.cells sampleTag 24 (0, 0))
theorem Smp.kp {w w' : World} {q r : Nat} (h : Smp w q r) (k : Kp w w') : Smp w' q r := ⟨(k.block _ (lt_of_block h.1)).trans h.1, (k.block _ (lt_of_block h.2)).trans h.2⟩
theorem Smp.in_ {w : World} {q r : Nat} (h : Smp w q r) : (sampleV q r).In w w.heap.size := sampleV_in h.1 h.2 (lt_of_block h.1) (lt_of_block h.2)
/-- The type of the sample lies in blocks g and h. -/
def Knd (w : World) (g h : Nat) : Prop := w.heap[g]? = some (.cells (kindCells h) 27 (0, 0)) ∧ w.heap[h]? = some (.cells sumCells 27 (0, 0))
theorem Knd.kp {w w' : World} {g h : Nat} (i : Knd w g h) (k : Kp w w') : Knd w' g h := ⟨(k.block _ (lt_of_block i.1)).trans i.1, (k.block _ (lt_of_block i.2)).trans i.2⟩
theorem Knd.in_ {w : World} {g h : Nat} (i : Knd w g h) : (kindT g h).In w w.heap.size := kindT_in i.1 i.2 (lt_of_block i.1) (lt_of_block i.2)

abbrev smpVal (q : Nat) : Value := .agg #[.int .i64 2, .int .i64 0, .string ⟨#[]⟩, .slice (some ⟨q, 0, none⟩) 4 4]
abbrev kndVal (g : Nat) : Value := .agg #[.int .i64 2, .slice (some ⟨g, 0, none⟩) 4 4]

theorem ex_sample (w : World) : Calls Tryz.prog 64 #[] w fun e w' => ∃ q r, e = .returned (smpVal q) ∧ Smp w' q r ∧ Kp w w' :=
  (sample_any w).mono fun _ _ ⟨q, r, he, h1, h2, _, _, hk⟩ => ⟨q, r, he, ⟨h1, h2⟩, hk⟩
theorem ex_kind (w : World) : Calls Tryz.prog 65 #[] w fun e w' => ∃ g h, e = .returned (kndVal g) ∧ Knd w' g h ∧ Kp w w' :=
  (kind_any w).mono fun _ _ ⟨q, r, he, h1, h2, _, _, hk⟩ => ⟨q, r, he, ⟨h1, h2⟩, hk⟩

theorem ex_text (w : World) (q r : Nat) (h : Smp w q r) (ht : Tb w w.heap.size) : Calls Tryz.prog 27 #[smpVal q] w fun e w' => e = .returned (.tuple #[.string ⟨#[40, 45, 51, 44, 32, 34, 97, 92, 34, 98, 34, 44, 32, 40, 41, 44, 32, 35, 50, 32, 48, 41]⟩, .int .i64 0]) ∧ Kp w w' := by
  have := text_tuple 0 ⟨#[]⟩ (some ⟨q, 0, none⟩) 4 _ w h.in_ (by rw [sampleV_cnt]; decide) (sampleV_ok q r) ht (by rw [sampleV_txt]; decide)
  rw [sampleV_txt] at this
  exact this
theorem ex_typeText (w : World) (g h : Nat) (i : Knd w g h) : Calls Tryz.prog 29 #[kndVal g] w fun e w' => e = .returned (.tuple #[.string ⟨#[40, 105, 110, 116, 44, 32, 116, 101, 120, 116, 44, 32, 40, 41, 44, 32, 91, 116, 101, 120, 116, 32, 43, 32, 40, 41, 32, 43, 32, 105, 110, 116, 93, 41]⟩, .int .i64 0]) ∧ Kp w w' := by
  have hc : ¬ (kindT g h).cnt = 0 := fun hh => by have := kindT_cnt g h; rw [bad0 hh] at this; cases this
  have := typeText 2 (some ⟨g, 0, none⟩) 4 _ w i.in_ hc (by rw [kindT_txt]; simp) (by rw [kindT_txt]; decide)
  rw [kindT_txt] at this
  exact this
theorem ex_size (w : World) (q r : Nat) (h : Smp w q r) : Calls Tryz.prog 13 #[smpVal q] w fun e w' => e = .returned (.tuple #[.int .i64 6, .int .i64 0]) ∧ Kp w w' := by
  have := sizeV 2 0 ⟨#[]⟩ (some ⟨q, 0, none⟩) 4 _ w h.in_
  rw [sampleV_cnt] at this
  exact this
theorem leafV_in (w : World) (B : Nat) (k n : Int) (s : ByteArray) (hk : I64 k) (hn : I64 n) (hs : s.size ≤ maxLen) : (V.mk k n s none 0 []).In w B := in_leaf k n s hk hn hs
theorem ex_ints (w : World) : Calls Tryz.prog 25 #[.agg #[.int .i64 0, .int .i64 2, .string ⟨#[]⟩, .slice none 0 0], .agg #[.int .i64 0, .int .i64 10, .string ⟨#[]⟩, .slice none 0 0]] w fun e w' => e = .returned (.tuple #[.int .i64 (-1), .int .i64 0]) ∧ Kp w w' := by
  have := compare_prog (.mk 0 2 ⟨#[]⟩ none 0 []) (.mk 0 10 ⟨#[]⟩ none 0 []) w (in_leaf _ _ _ (by unfold I64; omega) (by unfold I64; omega) (by decide)) (in_leaf _ _ _ (by unfold I64; omega) (by unfold I64; omega) (by decide))
  have hv : cmpV (.mk 0 2 ⟨#[]⟩ none 0 []) (.mk 0 10 ⟨#[]⟩ none 0 []) = .tuple #[.int .i64 (-1), .int .i64 0] := by
    simp [cmpV, V.valid, V.sh, V.shL, V.rank, V.rank.ranks, fitsB, wordB, V.ord, V.ordL, cmpI, orI]
  rw [hv] at this
  exact this
theorem ex_texts (w : World) : Calls Tryz.prog 25 #[.agg #[.int .i64 1, .int .i64 0, .string ⟨#[98]⟩, .slice none 0 0], .agg #[.int .i64 1, .int .i64 0, .string ⟨#[97, 97]⟩, .slice none 0 0]] w fun e w' => e = .returned (.tuple #[.int .i64 1, .int .i64 0]) ∧ Kp w w' := by
  have := compare_prog (.mk 1 0 ⟨#[98]⟩ none 0 []) (.mk 1 0 ⟨#[97, 97]⟩ none 0 []) w (in_leaf _ _ _ (by unfold I64; omega) (by unfold I64; omega) (by decide)) (in_leaf _ _ _ (by unfold I64; omega) (by unfold I64; omega) (by decide))
  have h1 : (⟨#[98]⟩ : ByteArray).size = 1 := rfl
  have h2 : (⟨#[97, 97]⟩ : ByteArray).size = 2 := rfl
  have hv : cmpV (.mk 1 0 ⟨#[98]⟩ none 0 []) (.mk 1 0 ⟨#[97, 97]⟩ none 0 []) = .tuple #[.int .i64 1, .int .i64 0] := by
    simp [cmpV, V.valid, V.sh, V.shL, V.rank, V.rank.ranks, fitsB, textB, charsB, byteB, V.ord, V.ordL, cmpI, orI, Lib.compareBytes, h1, h2]
  rw [hv] at this
  exact this
theorem ex_is (w : World) (q r g h : Nat) (i : Smp w q r) (j : Knd w g h) : Calls Tryz.prog 21 #[smpVal q, kndVal g] w fun e w' => e = .returned (.bool true) ∧ Kp w w' := by
  have := is_valid 2 0 ⟨#[]⟩ (some ⟨q, 0, none⟩) 4 _ 2 (some ⟨g, 0, none⟩) 4 _ w i.in_ j.in_ (by rw [sampleV_cnt]; rfl) (kindT_cnt g h)
  rw [sampleV_is] at this
  exact this
theorem ex_isnt (w : World) (q r : Nat) (i : Smp w q r) : Calls Tryz.prog 21 #[smpVal q, .agg #[.int .i64 0, .slice none 0 0]] w fun e w' => e = .returned (.bool false) ∧ Kp w w' := by
  have := is_valid 2 0 ⟨#[]⟩ (some ⟨q, 0, none⟩) 4 _ 0 none 0 [] w i.in_ (inT_leaf 0 (by unfold I64; omega)) (by rw [sampleV_cnt]; rfl) (by simp [bad, T.cnt, T.wk, T.wkL, fitsT])
  rw [sampleV_isnt] at this
  exact this
theorem ex_type (w : World) : Calls Tryz.prog 17 #[.agg #[.int .i64 3, .slice none 0 0]] w fun e w' => e = .returned (.int .i64 1) ∧ Kp w w' := by
  have := typeV 3 none 0 [] w (inT_leaf 3 (by unfold I64; omega))
  have hb : bad (T.mk 3 none 0 []).cnt = 1 := by simp [bad, T.cnt, T.wk, T.wkL, fitsT]
  rw [hb] at this
  exact this

/-- A tuple of one text. -/
abbrev keyV (q : Nat) : V := .mk 2 0 ⟨#[]⟩ (some ⟨q, 0, none⟩) 1 [.mk 1 0 ⟨#[97]⟩ none 0 []]
theorem keyV_in {w : World} {q B t : Nat} (h : w.heap[q]? = some (.cells #[.int .i64 1, .int .i64 0, .string ⟨#[97]⟩, .slice none 0 0] t (0, 0))) (hB : q < B) : (keyV q).In w B := by
  refine in_node 2 0 ⟨#[]⟩ [.mk 1 0 ⟨#[97]⟩ none 0 []] (by unfold I64; omega) (by unfold I64; omega) (by decide) (by decide) hB ?_ ⟨in_leaf _ _ _ (by unfold I64; omega) (by unfold I64; omega) (by decide), trivial⟩
  intro j x hj
  match j, hj with
  | 0, hj => simp at hj; subst hj; exact ⟨cellOf h rfl, cellOf h rfl, cellOf h rfl, cellOf h rfl⟩
  | j + 1, hj => simp at hj
theorem ex_key (w : World) (q : Nat) (h : w.heap[q]? = some (.cells #[.int .i64 1, .int .i64 0, .string ⟨#[97]⟩, .slice none 0 0] 24 (0, 0))) (ht : Tb w w.heap.size) :
    Calls Tryz.prog 36 #[.agg #[.int .i64 2, .int .i64 0, .string ⟨#[]⟩, .slice (some ⟨q, 0, none⟩) 1 1]] w fun e w' => e = .returned (.tuple #[.string ⟨#[3, 2, 97, 0, 0]⟩, .int .i64 0]) ∧ Kp w w' := by
  have h3 : (⟨#[97]⟩ : ByteArray).size = 1 := rfl
  have hc : (keyV q).cnt = 2 := by simp [V.cnt, V.wk, V.wkL, fitsB, textB, tupleB, charsB, byteB, h3]
  have := key_tuple 0 ⟨#[]⟩ (some ⟨q, 0, none⟩) 1 [.mk 1 0 ⟨#[97]⟩ none 0 []] w (keyV_in h (lt_of_block h)) (by rw [hc]; decide) (fun j x hj => by
    match j, hj with
    | 0, hj => simp at hj; subst hj; rfl
    | j + 1, hj => simp at hj) ht (by decide)
  exact this

/-- What Least makes, and what it is held against. -/
abbrev leastV (q r : Nat) (b : Option Addr) : V := .mk 2 0 ⟨#[]⟩ (some ⟨q, 0, none⟩) 4 [.mk 0 (-2147483648) ⟨#[]⟩ none 0 [], .mk 1 0 ⟨#[]⟩ none 0 [], .mk 2 0 ⟨#[]⟩ b 0 [], .mk 3 0 ⟨#[]⟩ (some ⟨r, 0, none⟩) 1 [.mk 1 0 ⟨#[]⟩ none 0 []]]
theorem leastV_in {w : World} {q r B t u : Nat} {b : Option Addr} (hq : w.heap[q]? = some (.cells (leastCells r b) t (0, 0))) (hr : w.heap[r]? = some (.cells #[.int .i64 1, .int .i64 0, .string ⟨#[]⟩, .slice none 0 0] u (0, 0))) (hB : q < B) (hB2 : r < B) : (leastV q r b).In w B := by
  have i64 : ∀ n : Int, -2147483648 ≤ n → n ≤ 10 → I64 n := fun n h1 h2 => by unfold I64; omega
  refine in_node 2 0 ⟨#[]⟩ [.mk 0 (-2147483648) ⟨#[]⟩ none 0 [], .mk 1 0 ⟨#[]⟩ none 0 [], .mk 2 0 ⟨#[]⟩ b 0 [], .mk 3 0 ⟨#[]⟩ (some ⟨r, 0, none⟩) 1 [.mk 1 0 ⟨#[]⟩ none 0 []]] (i64 2 (by omega) (by omega)) (i64 0 (by omega) (by omega)) (by decide) (by show 4 ≤ maxLen; decide) hB ?_ ⟨in_leaf _ _ _ (i64 _ (by omega) (by omega)) (i64 _ (by omega) (by omega)) (by decide), in_leaf _ _ _ (i64 _ (by omega) (by omega)) (i64 _ (by omega) (by omega)) (by decide), ?_, ?_, trivial⟩
  · intro j x hj
    match j, hj with
    | 0, hj => simp at hj; subst hj; exact ⟨cellOf hq rfl, cellOf hq rfl, cellOf hq rfl, cellOf hq rfl⟩
    | 1, hj => simp at hj; subst hj; exact ⟨cellOf hq rfl, cellOf hq rfl, cellOf hq rfl, cellOf hq rfl⟩
    | 2, hj => simp at hj; subst hj; exact ⟨cellOf hq rfl, cellOf hq rfl, cellOf hq rfl, cellOf hq rfl⟩
    | 3, hj => simp at hj; subst hj; exact ⟨cellOf hq rfl, cellOf hq rfl, cellOf hq rfl, cellOf hq rfl⟩
    | j + 4, hj => simp at hj
  · simp [V.In, V.InL, i64 2 (by omega) (by omega), i64 0 (by omega) (by omega)]
    decide
  · refine in_node 3 0 ⟨#[]⟩ [.mk 1 0 ⟨#[]⟩ none 0 []] (i64 _ (by omega) (by omega)) (i64 _ (by omega) (by omega)) (by decide) (by decide) hB2 ?_ ⟨in_leaf _ _ _ (i64 _ (by omega) (by omega)) (i64 _ (by omega) (by omega)) (by decide), trivial⟩
    intro j x hj
    match j, hj with
    | 0, hj => simp at hj; subst hj; exact ⟨cellOf hr rfl, cellOf hr rfl, cellOf hr rfl, cellOf hr rfl⟩
    | j + 1, hj => simp at hj
theorem leastV_same (q r : Nat) (b : Option Addr) (q' r' : Nat) (b' : Option Addr) : (leastV q r b).same (leastV q' r' b') = true := by simp [V.same, V.sameL]
theorem oneV_same (q q' : Nat) : (oneV q).same (oneV q') = true := by simp [V.same, V.sameL]

end Go.Proofs.YtbiljalhabnhlaaGreatDoor

/-
  valued: the chapter's examples (written by wip/gen_valued.py).
-/
namespace Go.Proofs.YtbiljalhabnhlaaGreatDoor
open Go.RowKit

theorem keepB {w w' : World} {b : Nat} {o : Obj} (k : Kp w w') (h : w.heap[b]? = some o) : w'.heap[b]? = some o := (k.block _ (lt_of_block' h)).trans h
theorem ex_same (w : World) (q r : Nat) (b : Option Addr) (q' r' : Nat) (b' : Option Addr) (hq : w.heap[q]? = some (.cells (leastCells r b) 24 (0, 0))) (hr : w.heap[r]? = some (.cells #[.int .i64 1, .int .i64 0, .string ⟨#[]⟩, .slice none 0 0] 24 (0, 0)))
    (hq' : w.heap[q']? = some (.cells (leastCells r' b') 24 (0, 0))) (hr' : w.heap[r']? = some (.cells #[.int .i64 1, .int .i64 0, .string ⟨#[]⟩, .slice none 0 0] 24 (0, 0))) :
    Calls Tryz.prog 23 #[.agg #[.int .i64 2, .int .i64 0, .string ⟨#[]⟩, .slice (some ⟨q, 0, none⟩) 4 4], .agg #[.int .i64 2, .int .i64 0, .string ⟨#[]⟩, .slice (some ⟨q', 0, none⟩) 4 4]] w fun e w' => e = .returned (.bool true) ∧ Kp w w' := by
  have := sameV _ (leastV q r b) (leastV q' r' b') w (Nat.le_refl _) (leastV_in hq hr (lt_of_block hq) (lt_of_block hr)) (leastV_in hq' hr' (lt_of_block hq') (lt_of_block hr'))
  rw [leastV_same] at this
  exact this
theorem ex_sameOne (w : World) (q q' : Nat) (hq : w.heap[q]? = some (.cells one4 24 (0, 0))) (hq' : w.heap[q']? = some (.cells one4 24 (0, 0))) :
    Calls Tryz.prog 23 #[.agg #[.int .i64 2, .int .i64 0, .string ⟨#[]⟩, .slice (some ⟨q, 0, none⟩) 1 1], .agg #[.int .i64 2, .int .i64 0, .string ⟨#[]⟩, .slice (some ⟨q', 0, none⟩) 1 1]] w fun e w' => e = .returned (.bool true) ∧ Kp w w' := by
  have := sameV _ (oneV q) (oneV q') w (Nat.le_refl _) (oneV_in hq (lt_of_block hq)) (oneV_in hq' (lt_of_block hq'))
  rw [oneV_same] at this
  exact this

set_option maxRecDepth 100000 in
set_option maxHeartbeats 8000000 in
theorem valued_any (w : World) (ht : Tb w w.heap.size) : Calls Tryz.prog 24 #[] w fun e w' => e = .returned (.bool true) ∧ Kp w w' := by
  have HT := Lib.hid ht
  clear ht
  go_enter Tryz.func24, Tryz.ntmps24
  go_wp2_with fail
  refine (ex_sample _).mono ?_
  rintro e w1 ⟨q1, r1, rfl, hs, hk⟩
  have HK1 := Lib.hid (kk (Below.refl _ w) hk)
  have S1 := Lib.hid hs
  clear hs
  clear hk
  go_wp2_with fail
  refine (ex_text _ _ _ S1.out (HT.out.keep (HK1.out) (HK1.out).size)).mono ?_
  rintro e w2 ⟨rfl, hk⟩
  have HK2 := Lib.hid (kk (HK1.out) hk)
  clear hk
  go_wp2_with fail
  refine (ex_kind _).mono ?_
  rintro e w3 ⟨g3, h3, rfl, hs, hk⟩
  have HK3 := Lib.hid (kk (HK2.out) hk)
  have D3 := Lib.hid hs
  clear hs
  clear hk
  go_wp2_with fail
  refine (ex_typeText _ _ _ D3.out).mono ?_
  rintro e w4 ⟨rfl, hk⟩
  have HK4 := Lib.hid (kk (HK3.out) hk)
  clear hk
  go_wp2_with fail
  refine (ex_sample _).mono ?_
  rintro e w5 ⟨q5, r5, rfl, hs, hk⟩
  have HK5 := Lib.hid (kk (HK4.out) hk)
  have S5 := Lib.hid hs
  clear hs
  clear hk
  go_wp2_with fail
  refine (ex_size _ _ _ S5.out).mono ?_
  rintro e w6 ⟨rfl, hk⟩
  have HK6 := Lib.hid (kk (HK5.out) hk)
  clear hk
  go_wp2_with fail
  refine (int_any _ _).mono ?_
  rintro e w7 ⟨rfl, hk⟩
  have HK7 := Lib.hid (kk (HK6.out) hk)
  clear hk
  go_wp2_with fail
  refine (int_any _ _).mono ?_
  rintro e w8 ⟨rfl, hk⟩
  have HK8 := Lib.hid (kk (HK7.out) hk)
  clear hk
  go_wp2_with fail
  refine (ex_ints _).mono ?_
  rintro e w9 ⟨rfl, hk⟩
  have HK9 := Lib.hid (kk (HK8.out) hk)
  clear hk
  go_wp2_with fail
  refine (text_any _ _).mono ?_
  rintro e w10 ⟨rfl, hk⟩
  have HK10 := Lib.hid (kk (HK9.out) hk)
  clear hk
  go_wp2_with fail
  refine (text_any _ _).mono ?_
  rintro e w11 ⟨rfl, hk⟩
  have HK11 := Lib.hid (kk (HK10.out) hk)
  clear hk
  go_wp2_with fail
  refine (ex_texts _).mono ?_
  rintro e w12 ⟨rfl, hk⟩
  have HK12 := Lib.hid (kk (HK11.out) hk)
  clear hk
  go_wp2_with fail
  refine (ex_kind _).mono ?_
  rintro e w13 ⟨g13, h13, rfl, hs, hk⟩
  have HK13 := Lib.hid (kk (HK12.out) hk)
  have D13 := Lib.hid hs
  clear hs
  clear hk
  go_wp2_with fail
  refine (least_top _ g13 h13 _ _ D13.out.1 D13.out.2).mono ?_
  rintro e w14 ⟨ql, rl, bl, rfl, hq, hr, hqz, hrz, hk⟩
  have HK14 := Lib.hid (kk (HK13.out) hk)
  have QL := Lib.hid hq
  have RL := Lib.hid hr
  clear hq hr hqz hrz
  clear hk
  go_wp2_with fail
  have lb : (w14.alloc (.cells #[.int .i64 2, .int .i64 0, .string ⟨#[]⟩, .slice (some ⟨ql, 0, none⟩) 4 4] 24)).heap[w14.heap.size]? = some (.cells #[.int .i64 2, .int .i64 0, .string ⟨#[]⟩, .slice (some ⟨ql, 0, none⟩) 4 4] 24 (0, 0)) := blockHere rfl
  have LB14 := Lib.hid lb
  clear lb
  refine (text_any _ _).mono ?_
  rintro e w15 ⟨rfl, hk⟩
  have HK15 := Lib.hid (kk (kk (HK14.out) (ka _ (.cells #[.int .i64 2, .int .i64 0, .string ⟨#[]⟩, .slice (some ⟨ql, 0, none⟩) 4 4] 24))) hk)
  have LB := Lib.hid ((hk.block _ (lt_of_block LB14.out)).trans LB14.out)
  have HJ15 := Lib.hid hk
  clear hk
  go_wp2_with fail
  have kb : (w15.alloc (.cells #[.int .i64 1, .int .i64 0, .string ⟨#[97]⟩, .slice none 0 0] 24)).heap[w15.heap.size]? = some (.cells #[.int .i64 1, .int .i64 0, .string ⟨#[97]⟩, .slice none 0 0] 24 (0, 0)) := blockHere rfl
  have KB15 := Lib.hid kb
  clear kb
  refine (tuple_any _ _ _ _).mono ?_
  rintro e w16 ⟨rfl, hk⟩
  have HK16 := Lib.hid (kk (kk (HK15.out) (ka _ (.cells #[.int .i64 1, .int .i64 0, .string ⟨#[97]⟩, .slice none 0 0] 24))) hk)
  have KB := Lib.hid ((hk.block _ (lt_of_block KB15.out)).trans KB15.out)
  have HJ16 := Lib.hid hk
  clear hk
  go_wp2_with fail
  refine (ex_key _ _ KB.out (HT.out.keep (HK16.out) (HK16.out).size)).mono ?_
  rintro e w17 ⟨rfl, hk⟩
  have HK17 := Lib.hid (kk (HK16.out) hk)
  have HJ17 := Lib.hid hk
  clear hk
  go_wp2_with fail
  refine (ofKey_three _).mono ?_
  rintro e w18 ⟨rfl, hk⟩
  have HK18 := Lib.hid (kk (HK17.out) hk)
  have HJ18 := Lib.hid hk
  clear hk
  go_wp2_with fail
  refine (parse_one _ (HT.out.keep (kk (HK18.out) (ka _ (.cells zero4 24))) (kk (HK18.out) (ka _ (.cells zero4 24))).size)).mono ?_
  rintro e w19 ⟨qp, rfl, hq, hqz, hk⟩
  have HK19 := Lib.hid (kk (kk (HK18.out) (ka _ (.cells zero4 24))) hk)
  have QP := Lib.hid hq
  clear hq hqz
  have HJ19 := Lib.hid hk
  clear hk
  go_wp2_with fail
  have pb : (w19.alloc (.cells #[.int .i64 2, .int .i64 0, .string ⟨#[]⟩, .slice (some ⟨qp, 0, none⟩) 1 1] 24)).heap[w19.heap.size]? = some (.cells #[.int .i64 2, .int .i64 0, .string ⟨#[]⟩, .slice (some ⟨qp, 0, none⟩) 1 1] 24 (0, 0)) := blockHere rfl
  have PB19 := Lib.hid pb
  clear pb
  refine (parse_bad _ (HT.out.keep (kk (HK19.out) (ka _ (.cells #[.int .i64 2, .int .i64 0, .string ⟨#[]⟩, .slice (some ⟨qp, 0, none⟩) 1 1] 24))) (kk (HK19.out) (ka _ (.cells #[.int .i64 2, .int .i64 0, .string ⟨#[]⟩, .slice (some ⟨qp, 0, none⟩) 1 1] 24))).size)).mono ?_
  rintro e w20 ⟨rfl, hk⟩
  have HK20 := Lib.hid (kk (kk (HK19.out) (ka _ (.cells #[.int .i64 2, .int .i64 0, .string ⟨#[]⟩, .slice (some ⟨qp, 0, none⟩) 1 1] 24))) hk)
  have PB := Lib.hid ((hk.block _ (lt_of_block PB19.out)).trans PB19.out)
  have HJ20 := Lib.hid hk
  clear hk
  go_wp2_with fail
  have hkr : Kp w20 (w20.alloc (.cells zero4 24)) := ka _ _
  have k15 := kk (kk (ka w14 (.cells #[.int .i64 2, .int .i64 0, .string ⟨#[]⟩, .slice (some ⟨ql, 0, none⟩) 4 4] 24)) HJ15.out) (kk (kk (ka w15 (.cells #[.int .i64 1, .int .i64 0, .string ⟨#[97]⟩, .slice none 0 0] 24)) HJ16.out) (kk HJ17.out (kk HJ18.out (kk (kk (ka w18 (.cells zero4 24)) HJ19.out) (kk (kk (ka w19 (.cells #[.int .i64 2, .int .i64 0, .string ⟨#[]⟩, .slice (some ⟨qp, 0, none⟩) 1 1] 24)) HJ20.out) hkr)))))
  have k19 := kk (kk (ka w19 (.cells #[.int .i64 2, .int .i64 0, .string ⟨#[]⟩, .slice (some ⟨qp, 0, none⟩) 1 1] 24)) HJ20.out) hkr
  have hQ := keepB k15 QL.out
  have hR := keepB k15 RL.out
  have hqp := keepB k19 QP.out
  have hL := keepB (kk (kk (kk (ka w15 (.cells #[.int .i64 1, .int .i64 0, .string ⟨#[97]⟩, .slice none 0 0] 24)) HJ16.out) (kk HJ17.out (kk HJ18.out (kk (kk (ka w18 (.cells zero4 24)) HJ19.out) (kk (ka w19 (.cells #[.int .i64 2, .int .i64 0, .string ⟨#[]⟩, .slice (some ⟨qp, 0, none⟩) 1 1] 24)) HJ20.out))))) hkr) LB.out
  have hPb := keepB hkr PB.out
  have hkW := kk HK20.out hkr
  have HKW := Lib.hid hkW
  clear hkW
  generalize hW : w20.alloc (.cells zero4 24) = W at hkr hQ hR hqp hL hPb HKW ⊢
  have hl0 : W.cell? ⟨w14.heap.size, 0, none⟩ = some (.int .i64 2) := cellOf hL rfl
  have hl1 : W.cell? ⟨w14.heap.size, 1, none⟩ = some (.int .i64 0) := cellOf hL rfl
  have hl2 : W.cell? ⟨w14.heap.size, 2, none⟩ = some (.string ⟨#[]⟩) := cellOf hL rfl
  have hl3 : W.cell? ⟨w14.heap.size, 3, none⟩ = some (.slice (some ⟨ql, 0, none⟩) 4 4) := cellOf hL rfl
  have hp0 : W.cell? ⟨w19.heap.size, 0, none⟩ = some (.int .i64 2) := cellOf hPb rfl
  have hp1 : W.cell? ⟨w19.heap.size, 1, none⟩ = some (.int .i64 0) := cellOf hPb rfl
  have hp2 : W.cell? ⟨w19.heap.size, 2, none⟩ = some (.string ⟨#[]⟩) := cellOf hPb rfl
  have hp3 : W.cell? ⟨w19.heap.size, 3, none⟩ = some (.slice (some ⟨qp, 0, none⟩) 1 1) := cellOf hPb rfl
  clear hkr hW k15 k19 hL hPb HJ15 HJ16 HJ17 HJ18 HJ19 HJ20 QL RL QP HT HK1 HK2 HK3 HK4 HK5 HK6 HK7 HK8 HK9 HK10 HK11 HK12 HK13 HK14 HK15 HK16 HK17 HK18 HK19 HK20 S1 D3 S5 D13 LB14 LB KB15 KB PB19 PB
  go_region_held3 (fun w' => w'.cell? ⟨w14.heap.size, 0, none⟩ = some (.int .i64 2) ∧ w'.cell? ⟨w14.heap.size, 1, none⟩ = some (.int .i64 0) ∧ w'.cell? ⟨w14.heap.size, 2, none⟩ = some (.string ⟨#[]⟩) ∧ w'.cell? ⟨w14.heap.size, 3, none⟩ = some (.slice (some ⟨ql, 0, none⟩) 4 4) ∧ w'.cell? ⟨w19.heap.size, 0, none⟩ = some (.int .i64 2) ∧ w'.cell? ⟨w19.heap.size, 1, none⟩ = some (.int .i64 0) ∧ w'.cell? ⟨w19.heap.size, 2, none⟩ = some (.string ⟨#[]⟩) ∧ w'.cell? ⟨w19.heap.size, 3, none⟩ = some (.slice (some ⟨qp, 0, none⟩) 1 1) ∧ Kp W w')
    (first
      | exact ⟨hl0, hl1, hl2, hl3, hp0, hp1, hp2, hp3, kpD⟩
      | (go_split_ands; exact ⟨kc hk ‹_›, kc hk ‹_›, kc hk ‹_›, kc hk ‹_›, kc hk ‹_›, kc hk ‹_›, kc hk ‹_›, kc hk ‹_›, kk ‹_› hk⟩)
      | (go_split_ands; exact ⟨kc (ka _ _) ‹_›, kc (ka _ _) ‹_›, kc (ka _ _) ‹_›, kc (ka _ _) ‹_›, kc (ka _ _) ‹_›, kc (ka _ _) ‹_›, kc (ka _ _) ‹_›, kc (ka _ _) ‹_›, kk ‹_› (ka _ _)⟩))
    (first
    | (go_at_call 64; refine (ex_sample _).mono ?_; rintro e wa ⟨qa, ra, rfl, hs, hk⟩)
    | (go_at_call 65; refine (ex_kind _).mono ?_; rintro e wb ⟨ga, ha, rfl, hd, hk⟩; replace hs := hs.kp hk)
    | (go_at_call 21; refine (ex_is _ _ _ _ _ hs hd).mono ?_; rintro e wc ⟨rfl, hk⟩; clear hs hd)
    | (go_at_call 21; refine (ex_isnt _ _ _ hs).mono ?_; rintro e wd ⟨rfl, hk⟩; clear hs)
    | (go_at_call 46; refine (int_any _ _).mono ?_; rintro e wf ⟨rfl, hk⟩)
    | (go_at_call 47; refine (text_any _ _).mono ?_; rintro e wg ⟨rfl, hk⟩)
    | (go_at_call 44; refine (tag_any _ _ _ _ _ _ _ _).mono ?_; rintro e wh ⟨rt, rfl, hrt, _, hk⟩)
    | (go_at_call 41; refine (tuple_any _ _ _ _).mono ?_; rintro e wi ⟨rfl, hk⟩; first | (have hqt := keepB hk (blockHere (o := .cells (leastCells rt none) 24 (0, 0)) rfl); replace hrt := keepB (kk (ka _ _) hk) hrt) | (have hqo := keepB hk (blockHere (o := .cells one4 24 (0, 0)) rfl)) | skip)
    | (go_at_call 23; refine (ex_same _ ql rl bl _ rt none (keepB (by assumption) hQ) (keepB (by assumption) hR) hqt hrt).mono ?_; rintro e wj ⟨rfl, hk⟩; clear hqt hrt)
    | (go_at_call 23; go_split_ands; refine (ex_same _ ql rl bl _ rt none (keepB (by assumption) hQ) (keepB (by assumption) hR) hqt hrt).mono ?_; rintro e wj ⟨rfl, hk⟩; clear hqt hrt)
    | (go_at_call 23; refine (ex_sameOne _ qp _ (keepB (by assumption) hqp) hqo).mono ?_; rintro e wj ⟨rfl, hk⟩; clear hqo)
    | (go_at_call 23; go_split_ands; refine (ex_sameOne _ qp _ (keepB (by assumption) hqp) hqo).mono ?_; rintro e wj ⟨rfl, hk⟩; clear hqo)
    | (go_at_call 17; refine (ex_type _).mono ?_; rintro e wk ⟨rfl, hk⟩))
  go_split_ands
  go_wp2_with fail
  go_ret
  exact ⟨rfl, kk HKW.out (by assumption)⟩

end Go.Proofs.YtbiljalhabnhlaaGreatDoor

/-
  ValueChecks: the statement's function, at any value and any type that lie in memory.
-/
namespace Go.Proofs.YtbiljalhabnhlaaGreatDoor
open Go.RowKit

theorem keep8 {w w' : World} {b c0 : Nat} {v0 v1 v2 v3 v4 v5 : Value} (hk : Kp w w') (h : w.cell? ⟨b, 0, none⟩ = some v0 ∧ w.cell? ⟨b, 1, none⟩ = some v1 ∧ w.cell? ⟨b, 2, none⟩ = some v2 ∧ w.cell? ⟨b, 3, none⟩ = some v3 ∧ w.cell? ⟨c0, 0, none⟩ = some v4 ∧ w.cell? ⟨c0, 1, none⟩ = some v5) :
    w'.cell? ⟨b, 0, none⟩ = some v0 ∧ w'.cell? ⟨b, 1, none⟩ = some v1 ∧ w'.cell? ⟨b, 2, none⟩ = some v2 ∧ w'.cell? ⟨b, 3, none⟩ = some v3 ∧ w'.cell? ⟨c0, 0, none⟩ = some v4 ∧ w'.cell? ⟨c0, 1, none⟩ = some v5 :=
  ⟨kc hk h.1, kc hk h.2.1, kc hk h.2.2.1, kc hk h.2.2.2.1, kc hk h.2.2.2.2.1, kc hk h.2.2.2.2.2⟩

set_option maxRecDepth 100000 in
set_option maxHeartbeats 4000000 in
theorem checks_any (x : V) (t : T) (w : World) (hx : x.In w w.heap.size) (ht : t.In w w.heap.size) (tb : Tb w w.heap.size) :
    Calls Tryz.prog 3 #[x.val, t.val] w fun e w' => e = .returned (.bool true) ∧ Kp w w' := by
  cases x with
  | mk k n s a cap l =>
  cases t with
  | mk tk ta tcap tl =>
  rw [V.val_mk, T.val_mk]
  have C1 := fun (w1 : World) (h : Kp w w1) => sizeV k n s a cap l w1 (hx.keep h.size h)
  have C2 := fun (w1 : World) (h : Kp w w1) => sizeR k n s a cap l w1 (hx.keep h.size h)
  have C3 := fun (w1 : World) (h : Kp w w1) => leastTopP tk ta tcap tl w1 (ht.keep h.size h)
  have C4 := fun (w1 : World) (h : Kp w w1) => leastTopR tk ta tcap tl w1 (ht.keep h.size h)
  have C5 := fun (w1 : World) (h : Kp w w1) => typeV tk ta tcap tl w1 (ht.keep h.size h)
  have C6 := fun (w1 : World) (h : Kp w w1) => typeR tk ta tcap tl w1 (ht.keep h.size h)
  have C7 := fun (w1 : World) (h : Kp w w1) => checkV k n s a cap l w1 (hx.keep h.size h)
  have C8 := fun (w1 : World) (h : Kp w w1) => checkR k n s a cap l w1 (hx.keep h.size h)
  have C9 := fun (w1 : World) (h : Kp w w1) => isP k n s a cap l tk ta tcap tl w1 (hx.keep h.size h) (ht.keep h.size h)
  have C10 := fun (w1 : World) (h : Kp w w1) => isR k n s a cap l tk ta tcap tl w1 (hx.keep h.size h) (ht.keep h.size h)
  have E := fun w1 (h : Kp w w1) => valued_any w1 (tb.keep h h.size)
  rw [cnt_size, bad_arg] at C1
  rw [badT_arg] at C5
  rw [bad_arg] at C7
  generalize sizeI (V.mk k n s a cap l) = z at C1 C2
  generalize argI (V.mk k n s a cap l).valid = c at C1 C2 C7 C8
  generalize argI (T.mk tk ta tcap tl).valid = d at C3 C4 C5 C6
  generalize isV (V.mk k n s a cap l) (T.mk tk ta tcap tl) = i at C9 C10
  generalize lstV (T.mk tk ta tcap tl) = y at C3 C4
  have HC1 := Lib.hid C1
  have HC2 := Lib.hid C2
  have HC3 := Lib.hid C3
  have HC4 := Lib.hid C4
  have HC5 := Lib.hid C5
  have HC6 := Lib.hid C6
  have HC7 := Lib.hid C7
  have HC8 := Lib.hid C8
  have HC9 := Lib.hid C9
  have HC10 := Lib.hid C10
  have HE := Lib.hid E
  clear C1 C2 C3 C4 C5 C6 C7 C8 C9 C10 E hx ht tb
  go_enter Tryz.func3, Tryz.ntmps3
  go_wp2_with fail
  refine (HC1.out _ (kk (ka _ _) (ka _ _))).mono ?_
  rintro e w1 ⟨rfl, hk⟩
  obtain ⟨b0, b1, b2, b3, d0, d1⟩ := twoBoxVT hk
  have HK1 := Lib.hid (kk (kk (ka _ _) (ka _ _)) hk)
  clear hk
  go_wp2_with fail
  refine (HC2.out _ HK1.out).mono ?_
  rintro e w2 ⟨rfl, hk⟩
  replace b0 := kc hk b0
  replace b1 := kc hk b1
  replace b2 := kc hk b2
  replace b3 := kc hk b3
  replace d0 := kc hk d0
  replace d1 := kc hk d1
  have HK2 := Lib.hid (kk HK1.out hk)
  clear hk
  go_wp2_with fail
  refine (HC3.out _ HK2.out).mono ?_
  rintro e w3 ⟨⟨yk, yn, ys, ya, yc, yl⟩, rfl, hx3, hf3, hs3, hk⟩
  rw [V.val_mk]
  replace b0 := kc hk b0
  replace b1 := kc hk b1
  replace b2 := kc hk b2
  replace b3 := kc hk b3
  replace d0 := kc hk d0
  replace d1 := kc hk d1
  have HK3 := Lib.hid (kk HK2.out hk)
  have HX3 := Lib.hid hx3
  have HS3 := Lib.hid hs3
  clear hk hf3 hx3 hs3
  have hz0 : w.heap.size < w3.heap.size := World.block_lt_of_cell? w3 _ b0
  have hz1 : w.heap.size + 1 < w3.heap.size := World.block_lt_of_cell? w3 _ d0
  go_wp2_with fail
  refine (HC4.out _ (kk HK3.out (ka _ _))).mono ?_
  rintro e w4 ⟨⟨zk, zn, zs, za, zc, zl⟩, rfl, hx4, hf4, hs4, hk⟩
  rw [V.val_mk]
  have hk34 := kk (ka w3 (.cells #[.int .i64 yk, .int .i64 yn, .string ys, .slice ya yl.length yc] 24)) hk
  replace b0 := kc hk34 b0
  replace b1 := kc hk34 b1
  replace b2 := kc hk34 b2
  replace b3 := kc hk34 b3
  replace d0 := kc hk34 d0
  replace d1 := kc hk34 d1
  have hy := (hk.block w3.heap.size (by simp)).trans (blockHere (w := w3) (o := .cells #[.int .i64 yk, .int .i64 yn, .string ys, .slice ya yl.length yc] 24 (0, 0)) rfl)
  have HX4 := Lib.hid (HX3.out.keep hk34.size hk34)
  have HS4 := Lib.hid hs4
  have HY := Lib.hid hy
  have HK4 := Lib.hid (kk HK3.out hk34)
  have HX5 := Lib.hid hx4
  clear hk hk34 hf4 hx4 hs4 hy HX3 hz0 hz1
  have hz0 : w.heap.size < w4.heap.size := World.block_lt_of_cell? w4 _ b0
  have hz1 : w.heap.size + 1 < w4.heap.size := World.block_lt_of_cell? w4 _ d0
  go_wp2_with fail
  have hka := ka w4 (.cells #[.int .i64 zk, .int .i64 zn, .string zs, .slice za zl.length zc] 24)
  have hkW := kk HK4.out hka
  have hY : (w4.alloc (.cells #[.int .i64 zk, .int .i64 zn, .string zs, .slice za zl.length zc] 24)).heap[w3.heap.size]? = some (.cells #[.int .i64 yk, .int .i64 yn, .string ys, .slice ya yl.length yc] 24 (0, 0)) := blockPast HY.out
  have hZ : (w4.alloc (.cells #[.int .i64 zk, .int .i64 zn, .string zs, .slice za zl.length zc] 24)).heap[w4.heap.size]? = some (.cells #[.int .i64 zk, .int .i64 zn, .string zs, .slice za zl.length zc] 24 (0, 0)) := blockHere rfl
  have hXY := HX4.out.keep hka.size hka
  have hXZ := HX5.out.keep hka.size hka
  replace b0 := past (o := .cells #[.int .i64 zk, .int .i64 zn, .string zs, .slice za zl.length zc] 24) b0
  replace b1 := past (o := .cells #[.int .i64 zk, .int .i64 zn, .string zs, .slice za zl.length zc] 24) b1
  replace b2 := past (o := .cells #[.int .i64 zk, .int .i64 zn, .string zs, .slice za zl.length zc] 24) b2
  replace b3 := past (o := .cells #[.int .i64 zk, .int .i64 zn, .string zs, .slice za zl.length zc] 24) b3
  replace d0 := past (o := .cells #[.int .i64 zk, .int .i64 zn, .string zs, .slice za zl.length zc] 24) d0
  replace d1 := past (o := .cells #[.int .i64 zk, .int .i64 zn, .string zs, .slice za zl.length zc] 24) d1
  generalize w4.alloc (.cells #[.int .i64 zk, .int .i64 zn, .string zs, .slice za zl.length zc] 24) = W at *
  generalize w3.heap.size = q3 at *
  generalize w4.heap.size = q4 at *
  have HKW := Lib.hid hkW
  have HYW := Lib.hid hY
  have HZW := Lib.hid hZ
  have HXY := Lib.hid hXY
  have HXZ := Lib.hid hXZ
  clear hka hkW hY hZ hXY hXZ HK1 HK2 HK3 HK4 HX4 HX5 HY
  go_region_held3 (fun w' => w'.cell? ⟨w.heap.size, 0, none⟩ = some (.int .i64 k) ∧ w'.cell? ⟨w.heap.size, 1, none⟩ = some (.int .i64 n) ∧ w'.cell? ⟨w.heap.size, 2, none⟩ = some (.string s) ∧ w'.cell? ⟨w.heap.size, 3, none⟩ = some (.slice a l.length cap) ∧ w'.cell? ⟨w.heap.size + 1, 0, none⟩ = some (.int .i64 tk) ∧ w'.cell? ⟨w.heap.size + 1, 1, none⟩ = some (.slice ta tl.length tcap) ∧ Kp W w')
    (first
      | exact ⟨b0, b1, b2, b3, d0, d1, kpD⟩
      | (go_split_ands; exact ⟨kc hk ‹_›, kc hk ‹_›, kc hk ‹_›, kc hk ‹_›, kc hk ‹_›, kc hk ‹_›, kk ‹_› hk⟩))
    (first
      | (go_at_call 17; refine (HC5.out _ (kk HKW.out (by first | assumption | exact kpD | (go_split_ands; assumption)))).mono ?_; rintro e wa ⟨rfl, hk⟩)
      | (go_at_call 18; refine (HC6.out _ (kk HKW.out (by first | assumption | exact kpD | (go_split_ands; assumption)))).mono ?_; rintro e wa ⟨rfl, hk⟩)
      | (go_at_call 19; refine (HC7.out _ (kk HKW.out (by first | assumption | exact kpD | (go_split_ands; assumption)))).mono ?_; rintro e wa ⟨rfl, hk⟩)
      | (go_at_call 20; refine (HC8.out _ (kk HKW.out (by first | assumption | exact kpD | (go_split_ands; assumption)))).mono ?_; rintro e wa ⟨rfl, hk⟩)
      | (go_at_call 21; refine (HC9.out _ (kk HKW.out (by first | assumption | exact kpD | (go_split_ands; assumption)))).mono ?_; rintro e wa ⟨rfl, hk⟩)
      | (go_at_call 22; refine (HC10.out _ (kk HKW.out (by first | assumption | exact kpD | (go_split_ands; assumption)))).mono ?_; rintro e wa ⟨rfl, hk⟩))
  go_split_ands
  rename_i hKf
  have hsm : (V.mk yk yn ys ya yc yl).same (V.mk zk zn zs za zc zl) = true := V.same_trans _ _ _ HS3.out (V.same_symm _ _ HS4.out)
  obtain ⟨c0, c1, c2, c3, -⟩ := cell4 ((hKf.block _ (lt_of_block HYW.out)).trans HYW.out)
  obtain ⟨e0, e1, e2, e3, -⟩ := cell4 ((hKf.block _ (lt_of_block HZW.out)).trans HZW.out)
  have S := sameV (V.mk yk yn ys ya yc yl).rank (V.mk yk yn ys ya yc yl) (V.mk zk zn zs za zc zl) _ (Nat.le_refl _) (HXY.out.keep hKf.size hKf) (HXZ.out.keep hKf.size hKf)
  rw [hsm, V.val_mk, V.val_mk] at S
  have HS := Lib.hid S
  have HKf := Lib.hid (kk HKW.out hKf)
  clear S hsm hKf HXY HXZ HYW HZW HKW HS3 HS4
  go_wp2_with fail
  refine HS.out.mono ?_
  rintro e w6 ⟨rfl, hk⟩
  have HK6 := Lib.hid (kk HKf.out hk)
  clear hk
  go_wp2_with fail
  refine (HE.out _ HK6.out).mono ?_
  rintro e w7 ⟨rfl, hk⟩
  have HK7 := Lib.hid (kk HK6.out hk)
  clear hk
  go_wp2_with fail
  go_ret
  exact ⟨rfl, HK7.out⟩

end Go.Proofs.YtbiljalhabnhlaaGreatDoor

/-
  ValueOrders: the statement's function, at any two values that lie in memory.
-/
namespace Go.Proofs.YtbiljalhabnhlaaGreatDoor
open Go.RowKit

theorem cmpV_two (x y : V) : ∃ a b : Int, cmpV x y = .tuple #[.int .i64 a, .int .i64 b] := by
  unfold cmpV; split <;> exact ⟨_, _, rfl⟩

set_option maxRecDepth 100000 in
set_option maxHeartbeats 4000000 in
theorem orders_any (x y : V) (w : World) (hx : x.In w w.heap.size) (hy : y.In w w.heap.size) (ht : Tb w w.heap.size) :
    Calls Tryz.prog 4 #[x.val, y.val] w fun e w' => e = .returned (.bool true) ∧ Kp w w' := by
  have C := fun w1 (h : Kp w w1) => compare_prog x y w1 (hx.keep h.size h) (hy.keep h.size h)
  have D := fun w1 (h : Kp w w1) => compare_spec x y w1 (hx.keep h.size h) (hy.keep h.size h)
  have E := fun w1 (h : Kp w w1) => valued_any w1 (ht.keep h h.size)
  obtain ⟨ca, cb, hc⟩ := cmpV_two x y
  rw [hc] at C D
  cases x with
  | mk k n s a cap l =>
  cases y with
  | mk k' n' s' a' cap' l' =>
  rw [V.val_mk, V.val_mk] at *
  have HC := Lib.hid C
  have HD := Lib.hid D
  have HE := Lib.hid E
  clear C D E hc hx hy ht
  go_enter Tryz.func4, Tryz.ntmps4
  go_wp2_with fail
  refine (HC.out _ (kk (ka _ _) (ka _ _))).mono ?_
  rintro e w1 ⟨rfl, hk⟩
  obtain ⟨b0, b1, b2, b3, d0, d1, d2, d3, hz⟩ := box44 hk
  have HK := Lib.hid (kk (kk (ka _ _) (ka _ _)) hk)
  clear hk
  go_wp2_with fail
  refine (HD.out _ HK.out).mono ?_
  rintro e w2 ⟨rfl, hk⟩
  have HK2 := Lib.hid (kk HK.out hk)
  clear hk b0 b1 b2 b3 d0 d1 d2 d3
  go_wp2_with fail
  refine (HE.out _ HK2.out).mono ?_
  rintro e w3 ⟨rfl, hk⟩
  have HK3 := Lib.hid (kk HK2.out hk)
  clear hk
  go_wp2_with fail
  go_ret
  exact ⟨rfl, HK3.out⟩

end Go.Proofs.YtbiljalhabnhlaaGreatDoor

/-
  AN ARGUMENT OF THE TYPE api.Value, FROM ITS READING.
-/
namespace Go.Proofs.YtbiljalhabnhlaaGreatDoor
open Go.RowKit

theorem list_of {α : Type} {p : Nat → α → Prop} : ∀ (n : Nat), (∀ i, i < n → ∃ v, p i v) → ∃ l : List α, l.length = n ∧ ∀ j x, l[j]? = some x → p j x
  | 0, _ => ⟨[], rfl, fun j x h => by simp at h⟩
  | n + 1, h => by
    obtain ⟨l, hl, hp⟩ := list_of n (fun i hi => h i (by omega))
    obtain ⟨v, hv⟩ := h n (by omega)
    refine ⟨l ++ [v], by simp [hl], fun j x hx => ?_⟩
    by_cases hj : j < l.length
    · rw [List.getElem?_append_left hj] at hx; exact hp j x hx
    · rw [List.getElem?_append_right (by omega)] at hx
      have : j = l.length := by
        have := (List.getElem?_eq_some_iff.1 hx).1
        simp at this; omega
      subst this
      simp at hx; subst hx; rw [hl]; exact hv

theorem i64_of_wf {n : Int} (h : (Lit.int .i64 n).wf = true) : I64 n := by
  simp [Lit.wf] at h
  have hm : IntKind.i64.min = -9223372036854775808 := by decide
  unfold I64
  omega

theorem addr_add (a : Addr) (i j : Nat) : (a.add i).add j = a.add (i + j) := by
  unfold Addr.add
  by_cases hi : i = 0 <;> by_cases hj : j = 0 <;> simp [hi, hj, Nat.add_assoc]

theorem cells24v : Tryz.prog.cellsOf 24 = 4 := by kernel_rfl
theorem cells3v : Tryz.prog.cellsOf 3 = 1 := by kernel_rfl
theorem cells9v : Tryz.prog.cellsOf 9 = 1 := by kernel_rfl
theorem cells22v : Tryz.prog.cellsOf 22 = 1 := by kernel_rfl

set_option maxRecDepth 100000 in
set_option maxHeartbeats 2000000 in
theorem open_value {H : Type} {enc : TypeId × Value → H} {w : World} {base : Nat} {spare : Nat → Bool} {held : Bool} : ∀ (fuel : Nat) (cs : List Value) (x : DataW H × List MemPlace),
    DataW.trod enc Tryz.prog w base spare held fuel 24 cs = some x → ∃ v : V, cs = [.int .i64 v.k, .int .i64 v.n, .string v.s, .slice v.a v.l.length v.cap] ∧ v.In w w.heap.size := by
  intro fuel
  induction fuel using Nat.strongRecOn with
  | ind fuel ih =>
    intro cs x h
    obtain ⟨xs, n, rfl, -, hl, hlen, hf⟩ := DataW.trod_struct Tryz.underlying24 h
    rw [cells24v] at hl
    match cs, hl, xs, hlen with
    | [c0, c1, c2, c3], _, [x0, x1, x2, x3], _ =>
      have g0 := hf 0 _ rfl
      have g1 := hf 1 _ rfl
      have g2 := hf 2 _ rfl
      have g3 := hf 3 _ rfl
      simp [cells3v, cells9v, cells22v] at g0 g1 g2 g3
      obtain ⟨k, e0, -, w0⟩ := DataW.trod_int Tryz.underlying3 g0
      obtain ⟨m, e1, -, w1⟩ := DataW.trod_int Tryz.underlying3 g1
      obtain ⟨s, e2, -, hs⟩ := DataW.trod_string Tryz.underlying9 g2
      simp at e0 e1 e2
      subst e0 e1 e2
      rcases DataW.trod_slice Tryz.underlying22 g3 with ⟨e3, -⟩ | ⟨a, len, cap, elems, rest, n', rfl, e3, -, hb, hlc, hcm, hel, hread, -, -⟩
      · simp at e3
        subst e3
        exact ⟨.mk k m s none 0 [], rfl, in_leaf k m s (i64_of_wf w0) (i64_of_wf w1) hs⟩
      · simp at e3
        subst e3
        obtain ⟨l, hll, hp⟩ := list_of (p := fun i (v : V) => w.cell? ⟨a.block, a.off + i * 4, none⟩ = some (.int .i64 v.k) ∧ w.cell? ⟨a.block, a.off + i * 4 + 1, none⟩ = some (.int .i64 v.n) ∧ w.cell? ⟨a.block, a.off + i * 4 + 2, none⟩ = some (.string v.s) ∧ w.cell? ⟨a.block, a.off + i * 4 + 3, none⟩ = some (.slice v.a v.l.length v.cap) ∧ (i = 0 → a.spot = none) ∧ a.block < w.heap.size ∧ v.In w w.heap.size) len (fun i hi => by
          have hr := hread i hi
          rw [cells24v] at hr
          have he : ∃ y, elems[i]? = some y := ⟨elems[i], by simp [hel, hi]⟩
          obtain ⟨y, hy⟩ := he
          rw [hy] at hr
          cases hc : w.cells? base (a.add (i * 4)) 4 with
          | none => rw [hc] at hr; cases hr
          | some cs' =>
            rw [hc] at hr
            obtain ⟨v, rfl, hv⟩ := ih n' (by omega) cs' y hr
            obtain ⟨_, _, hcell⟩ := World.cells?_some hc
            have k0 := hcell 0 (by omega)
            have k1 := hcell 1 (by omega)
            have k2 := hcell 2 (by omega)
            have k3 := hcell 3 (by omega)
            simp only [addr_add] at k0 k1 k2 k3
            have hspot : i = 0 → a.spot = none := fun hi0 => by
              subst hi0
              have : w.cell? a = some (.int .i64 v.k) := by simpa [Addr.add] using k0
              unfold World.cell? at this
              split at this
              · split at this
                · cases this
                · rename_i hs; simpa using hs
              · cases this
            have hblk : a.block < w.heap.size := by
              have := World.block_lt_of_cell? w _ (k1.trans (by rfl : _ = some (Value.int .i64 v.n)))
              simpa [Addr.add] using this
            refine ⟨v, ?_, ?_, ?_, ?_, hspot, hblk, hv⟩
            · by_cases hi0 : i = 0
              · subst hi0
                have hs := hspot rfl
                have : w.cell? a = some (.int .i64 v.k) := by simpa [Addr.add] using k0
                obtain ⟨ab, ao, asp⟩ := a
                simp at hs
                subst hs
                simpa using this
              · have h4 : ¬ i * 4 = 0 := by omega
                simpa [Addr.add, h4] using k0
            · simpa [Addr.add, Nat.add_assoc] using k1
            · simpa [Addr.add, Nat.add_assoc] using k2
            · simpa [Addr.add, Nat.add_assoc] using k3)
        obtain ⟨ab, ao, asp⟩ := a
        by_cases h0 : l = []
        · subst h0
          simp at hll
          subst hll
          refine ⟨.mk k m s (some ⟨ab, ao, asp⟩) cap [], rfl, ?_⟩
          simp [V.In, V.InL, i64_of_wf w0, i64_of_wf w1, hs, hcm]
        · have hpos : 0 < l.length := by cases l with
            | nil => exact absurd rfl h0
            | cons _ _ => simp
          have hsp : asp = none := (hp 0 l[0] (by simp)).2.2.2.2.1 rfl
          have hbl := (hp 0 l[0] (by simp)).2.2.2.2.2.1
          subst hsp
          refine ⟨.mk k m s (some ⟨ab, ao, none⟩) cap l, by subst hll; rfl, ?_⟩
          simp only [V.In]
          refine ⟨i64_of_wf w0, i64_of_wf w1, hs, by omega, hcm, .inr ⟨ab, ao, rfl, hbl, fun j x hx => ?_⟩, V.InL_iff.2 fun j x hx => (hp j x hx).2.2.2.2.2.2⟩
          obtain ⟨r0, r1, r2, r3, -⟩ := hp j x hx
          exact ⟨r0, r1, r2, r3⟩

end Go.Proofs.YtbiljalhabnhlaaGreatDoor

/-
  ValueOrders: WHAT THE WALKS GIVE, for every two arguments that read.
-/
namespace Go.Proofs.YtbiljalhabnhlaaGreatDoor
open Go.ChangeShapes Go.WideShapes Go.ChangeAt Go.RowKit

theorem kidsP : Kids Tryz.prog (· < Tryz.prog.types.size) := kids_rows (by kernel_rfl) (by kernel_rfl)
theorem fullP : ∀ t e, t < Tryz.prog.types.size → Tryz.prog.underlying t = some (.slice e) → 0 < Tryz.prog.cellsOf e := slices_full_of Tryz.prog (by kernel_rfl)

theorem kp_kept {W W' : World} (h : Kp W W') (may : MemPlace → Prop) : W.keptBut W' may := (World.keptBut_refl W may).congr h.os h.output h.block

/-- A place that lay in W lies the same in W'. -/
theorem kp_same {W W' : World} (h : Kp W W') {p : MemPlace} (hp : p.block < W.heap.size) : W.sameAt W' p := by
  cases p with
  | cell b o =>
    show W'.cell? ⟨b, o, none⟩ = W.cell? ⟨b, o, none⟩
    unfold World.cell?
    rw [show W'.heap[b]? = W.heap[b]? from h.block b hp]
  | map b => exact h.block b hp

theorem trod_kp {H : Type} {enc : TypeId × Value → H} {W W' : World} {base : Nat} {spare : Nat → Bool} {held : Bool} {t : TypeId} {v : Value} {d : DataW H} {ps : List MemPlace} (h : DataW.Trod enc Tryz.prog W base spare held t v d ps) (hk : Kp W W') (hlt : ∀ p ∈ ps, p.block < W.heap.size) :
    DataW.Trod enc Tryz.prog W' base spare held t v d ps := by
  obtain ⟨n, hn⟩ := h
  exact ⟨n, DataW.trod_carry n _ _ _ hn (fun p hp => kp_same hk (hlt p hp))⟩

set_option maxRecDepth 100000 in
/-- A law that answers true and leaves all that was there as it was. -/
theorem post_of_kp {H : Type} {enc : TypeId × Value → H} {f : Func} {s : ChangeSpec} {apart fresh handsOn again : Bool} {W W' : World} {args : Array Value} {v : Value} {ds gs : List (DataW H)} {before pa pv : List MemPlace}
    (hW : DataW.Whole enc Tryz.prog f.params.toList s.vars apart W args.toList ds gs before) (hk : Kp W W')
    (hres : ∀ (b : Nat) (sp : Nat → Bool) (hd : Bool), DataW.TrodAll enc Tryz.prog W' b sp hd f.resultTypes.toList (v.resultList f.resultTypes.size) (s.fn H (ds ++ gs)).results [])
    (hargs : ∀ sp : Nat → Bool, (∀ p ∈ before, sp p.block = true) → DataW.TrodAll enc Tryz.prog W' 0 sp true f.params.toList args.toList (s.fn H (ds ++ gs)).args pa)
    (hvars : ∀ sp : Nat → Bool, (∀ p ∈ before, sp p.block = true) → DataW.TrodVars enc Tryz.prog W' sp s.vars (s.fn H (ds ++ gs)).vars pv)
    (hps : before = pa ++ pv)
    (hok : ∀ (j : Nat) (t : TypeId) (r : Value), f.resultTypes[j]? = some t → (v.resultList f.resultTypes.size)[j]? = some r → Value.okWide Tryz.prog W' .any 0 t r) :
    s.post enc Tryz.prog f apart fresh handsOn again W args v W' := by
  have hold : ∀ p ∈ before, p.block < W.heap.size := fun p hp => hW.lt p hp
  have hsp : ∀ p ∈ before, (fun b => decide (b < W.heap.size)) p.block = true := fun p hp => by simpa using hold p hp
  refine ⟨ds, gs, before, [], pa, pv, hW, hres _ _ _, hargs _ hsp, hvars _ hsp, kp_kept hk _, fun _ => ?_⟩
  obtain ⟨_, _, _, _, _, hz, hn⟩ := hW
  refine ⟨hok, _, _, ([] ++ pa) ++ pv, ⟨[] ++ pa, pv, trodAll_append (hargs _ (fun _ _ => rfl)) (hres _ _ _), hvars _ (fun _ _ => rfl), rfl, fun b off hp => ?_, fun ha => ?_⟩, fun p hp _ => by rw [hps]; simpa using hp⟩
  · have hb : MemPlace.cell b off ∈ before := by rw [hps]; simpa using hp
    have hfr : W'.frozen? ⟨b, off, none⟩ = W.frozen? ⟨b, off, none⟩ := by
      unfold World.frozen?
      rw [show W'.heap[b]? = W.heap[b]? from hk.block b (hold _ hb)]
    rw [hfr]
    exact hz b off hb
  · have := hn ha
    rw [hps] at this
    simpa using this

set_option maxRecDepth 100000 in
/-- What reads as a value is one. -/
theorem open_arg {H : Type} {enc : TypeId × Value → H} {W : World} {base : Nat} {spare : Nat → Bool} {held : Bool} {b0 : Nat} {v : Value} {d : DataW H} {ps : List MemPlace}
    (hval : Value.okWide Tryz.prog W .any b0 24 v) (h : DataW.Trod enc Tryz.prog W base spare held 24 v d ps) : ∃ x : V, v = x.val ∧ x.In W W.heap.size := by
  obtain ⟨cs, rfl, -⟩ := okWide_struct Tryz.underlying24 hval
  obtain ⟨fuel, hf⟩ := h
  obtain ⟨x, hx, hin⟩ := open_value fuel _ _ hf
  refine ⟨x, ?_, hin⟩
  have : cs = #[.int .i64 x.k, .int .i64 x.n, .string x.s, .slice x.a x.l.length x.cap] := by
    apply Array.ext'
    simpa [Value.cells] using hx
  rw [this]; rfl

set_option maxRecDepth 100000 in
theorem orders_contract (H : Type) (enc : TypeId × Value → H) (W : World) (base : Nat) (args : Array Value) (ds gs : List (DataW H)) (before : List MemPlace)
    (hval : ∀ (j : Nat) t v, Tryz.f4.params[j]? = some t → args[j]? = some v → Value.okWide Tryz.prog W .any base t v)
    (hW : DataW.Whole enc Tryz.prog Tryz.f4.params.toList Rows.valueOrdersSpec.vars false W args.toList ds gs before) (ht : Tb W W.heap.size) :
    Calls Tryz.prog 4 args W fun e W' => ∃ v, e = .returned v ∧ Rows.valueOrdersSpec.post enc Tryz.prog Tryz.f4 false true false false W args v W' := by
  have hW' := hW
  obtain ⟨p, q, hA0, hV, rfl, hfz, hnd⟩ := hW
  have hA : DataW.TrodAll enc Tryz.prog W 0 (fun _ => true) true Tryz.f4.params.toList args.toList ds p := hA0
  rw [Tryz.params4] at hA hval
  obtain ⟨v0, vs0, d0, ds0, p0, q0, hargs, rfl, rfl, h0, r0⟩ := trodAll_cons hA
  obtain ⟨v1, vs1, d1, ds1, p1, q1, rfl, rfl, rfl, h1, r1⟩ := trodAll_cons r0
  obtain ⟨rfl, rfl, rfl⟩ := trodAll_nil r1
  obtain rfl : args = #[v0, v1] := by cases args; simp_all
  obtain ⟨rfl, rfl⟩ := trodVars_none hV
  obtain ⟨x, rfl, hx⟩ := open_arg (hval 0 24 v0 rfl rfl) h0
  obtain ⟨y, rfl, hy⟩ := open_arg (hval 1 24 v1 rfl rfl) h1
  refine (orders_any x y W hx hy ht).mono fun e W' ⟨he, hk⟩ => ?_
  subst he
  refine ⟨_, rfl, ?_⟩
  have hlt : ∀ p ∈ p0 ++ (p1 ++ []) ++ [], p.block < W.heap.size := fun p hp => hW'.lt p hp
  have hT : 24 < Tryz.prog.types.size := of_decide_eq_true (by kernel_rfl)
  refine post_of_kp (pa := p0 ++ (p1 ++ [])) (pv := []) hW' hk (fun _ _ _ => trodAll_cons_mk (shut_bool Tryz.underlying4 _) trodAll_mk0) (fun sp hsp => ?_) (fun _ _ => rfl) rfl (ok_one (by kernel_rfl) rfl (okWide_bool_mk Tryz.underlying4 _))
  rw [Tryz.params4]
  exact trodAll_cons_mk (trod_kp (DataW.Trod.respare kidsP fullP hT h0 (fun p hp => hsp p (by simp [hp]))) hk (fun p hp => hlt p (by simp [hp])))
    (trodAll_cons_mk (trod_kp (DataW.Trod.respare kidsP fullP hT h1 (fun p hp => hsp p (by simp [hp]))) hk (fun p hp => hlt p (by simp [hp]))) trodAll_mk0)

end Go.Proofs.YtbiljalhabnhlaaGreatDoor

/-
  PLAIN MATHEMATICS: WHERE A TYPE's PARTS LIE; A TYPE IN THE MAKING.
-/
namespace Go.Proofs.YtbiljalhabnhlaaGreatDoor
open Go.RowKit

mutual
/-- Each list of a type lies in a block of which P holds. -/
def T.foot (P : Nat → Prop) : T → Prop
  | .mk _ a _ l => (l = [] ∨ ∃ b off, a = some ⟨b, off, none⟩ ∧ P b) ∧ T.footL P l
def T.footL (P : Nat → Prop) : List T → Prop
  | [] => True
  | x :: xs => x.foot P ∧ T.footL P xs
end

mutual
theorem T.foot.mono {P Q : Nat → Prop} (h : ∀ b, P b → Q b) : ∀ (v : T), v.foot P → v.foot Q
  | .mk k a cap l, hv => by
    simp only [T.foot] at hv ⊢
    refine ⟨?_, T.footL.mono h l hv.2⟩
    rcases hv.1 with h1 | ⟨b, off, ha, hb⟩
    · exact .inl h1
    · exact .inr ⟨b, off, ha, h b hb⟩
theorem T.footL.mono {P Q : Nat → Prop} (h : ∀ b, P b → Q b) : ∀ (l : List T), T.footL P l → T.footL Q l
  | [], _ => trivial
  | x :: xs, hv => ⟨T.foot.mono h x hv.1, T.footL.mono h xs hv.2⟩
end

theorem AtT.move {w w' : World} {b off : Nat} {l : List T} (h : AtT w b off l) (k : w'.heap[b]? = w.heap[b]?) : AtT w' b off l := fun j x hj => by
  obtain ⟨h0, h1⟩ := h j x hj
  exact ⟨(World.cell?_of_block k).trans h0, (World.cell?_of_block k).trans h1⟩

mutual
/-- What memory holds is still held where the blocks in which it lies are as they were. -/
theorem T.In.move {w w' : World} {B C : Nat} {P : Nat → Prop} (hC : B ≤ C) (k : ∀ b, b < B → P b → w'.heap[b]? = w.heap[b]?) : ∀ (v : T), v.In w B → v.foot P → v.In w' C
  | .mk c a cap l, hv, hf => by
    simp only [T.In, T.foot] at hv hf ⊢
    obtain ⟨h1, h4, h5, h6, h7⟩ := hv
    refine ⟨h1, h4, h5, ?_, T.InL.move hC k l h7 hf.2⟩
    rcases hf.1 with h8 | ⟨b', off', ha', hp⟩
    · exact .inl h8
    · rcases h6 with h6 | ⟨b, off, ha, hb, hat⟩
      · exact .inl h6
      · refine .inr ⟨b, off, ha, by omega, hat.move (k b hb ?_)⟩
        rw [ha] at ha'
        cases ha'
        exact hp
theorem T.InL.move {w w' : World} {B C : Nat} {P : Nat → Prop} (hC : B ≤ C) (k : ∀ b, b < B → P b → w'.heap[b]? = w.heap[b]?) : ∀ (l : List T), T.InL w B l → T.footL P l → T.InL w' C l
  | [], _, _ => trivial
  | x :: xs, hv, hf => ⟨T.In.move hC k x hv.1 hf.1, T.InL.move hC k xs hv.2 hf.2⟩
end

/-- A type without parts. -/
theorem T.foot_leaf {P : Nat → Prop} (k : Int) (a : Option Addr) (cap : Nat) : (T.mk k a cap []).foot P := by simp [T.foot, T.footL]

theorem T.InL_snoc {w : World} {B : Nat} {l : List T} {x : T} (h : T.InL w B l) (hx : x.In w B) : T.InL w B (l ++ [x]) := by
  induction l with
  | nil => exact ⟨hx, trivial⟩
  | cons z zs ih => exact ⟨h.1, ih h.2⟩
theorem T.footL_snoc {P : Nat → Prop} {l : List T} {x : T} (h : T.footL P l) (hx : x.foot P) : T.footL P (l ++ [x]) := by
  induction l with
  | nil => exact ⟨hx, trivial⟩
  | cons z zs ih => exact ⟨h.1, ih h.2⟩
theorem T.InL.keep {w w' : World} {B C : Nat} {l : List T} (h : T.InL w B l) (hC : B ≤ C) (k : Below B w w') : T.InL w' C l := by
  rw [T.InL_iff] at h ⊢
  exact fun j x hx => (h j x hx).keep hC k

/-- The two cells of a type, and those of a list. -/
def T.cells2 (x : T) : List Value := [.int .i64 x.k, .slice x.a x.l.length x.cap]
def cellsTL (l : List T) : List Value := l.flatMap T.cells2

theorem cellsTL_length (l : List T) : (cellsTL l).length = l.length * 2 := by
  induction l with
  | nil => rfl
  | cons x xs ih => simp [cellsTL, T.cells2] at ih ⊢; omega
theorem cellsTL_snoc (l : List T) (x : T) : cellsTL (l ++ [x]) = cellsTL l ++ x.cells2 := by simp [cellsTL]
theorem cellsTL_at : ∀ (l : List T) (j : Nat) (x : T), l[j]? = some x → (cellsTL l)[j * 2]? = some (.int .i64 x.k) ∧ (cellsTL l)[j * 2 + 1]? = some (.slice x.a x.l.length x.cap)
  | [], j, x, h => by simp at h
  | y :: ys, 0, x, h => by simp at h; subst h; simp [cellsTL, T.cells2]
  | y :: ys, j + 1, x, h => by
    have ih := cellsTL_at ys j x (by simpa using h)
    have hc : cellsTL (y :: ys) = .int .i64 y.k :: .slice y.a y.l.length y.cap :: cellsTL ys := by simp [cellsTL, T.cells2]
    rw [hc, show (j + 1) * 2 = j * 2 + 1 + 1 from by omega]
    simpa using ih

/-- A list of types that a row of the call's own holds. -/
theorem AtT.of_row {w : World} {base g n cap : Nat} {t : TypeId} {l : List T} (h : w.ownsRow base t 2 (.slice (some ⟨g, 0, none⟩) n cap) n (cellsTL l)) : AtT w g 0 l := fun j x hj => by
  have hc := h.cells (g := g) rfl
  obtain ⟨h0, h1⟩ := cellsTL_at l j x hj
  have ad : ∀ i, (⟨g, 0, none⟩ : Addr).add i = ⟨g, i, none⟩ := fun i => by unfold Addr.add; split <;> simp_all
  have c0 := hc _ _ h0
  have c1 := hc _ _ h1
  rw [ad] at c0 c1
  simpa using ⟨c0, c1⟩

mutual
theorem T.In.foot_lt {w : World} {B : Nat} {P : Nat → Prop} : ∀ (v : T), v.In w B → v.foot P → v.foot (fun b => P b ∧ b < B)
  | .mk c a cap l, hv, hf => by
    simp only [T.In, T.foot] at hv hf ⊢
    obtain ⟨h1, h4, h5, h6, h7⟩ := hv
    refine ⟨?_, T.InL.foot_lt l h7 hf.2⟩
    rcases hf.1 with h8 | ⟨b', off', ha', hp⟩
    · exact .inl h8
    · rcases h6 with h6 | ⟨b, off, ha, hb, hat⟩
      · exact .inl h6
      · rw [ha] at ha'
        cases ha'
        exact .inr ⟨_, _, ha, hp, hb⟩
theorem T.InL.foot_lt {w : World} {B : Nat} {P : Nat → Prop} : ∀ (l : List T), T.InL w B l → T.footL P l → T.footL (fun b => P b ∧ b < B) l
  | [], _, _ => trivial
  | x :: xs, hv, hf => ⟨T.In.foot_lt x hv.1 hf.1, T.InL.foot_lt xs hv.2 hf.2⟩
end

/-- A type in the making in block vb: its kind k; its parts vs lie in a row of the call's own. -/
structure TupAtT (w : World) (vb : Nat) (k : Int) (sl : Value) (vs : List T) : Prop where
  box : w.heap[vb]? = some (.cells #[.int .i64 k, sl] 27 (0, 0))
  own : w.ownsRow (vb + 1) 27 2 sl vs.length (cellsTL vs)
  hin : T.InL w w.heap.size vs
  foot : T.footL (fun b => vb < b ∧ sl.ownBlock ≠ some b) vs

theorem TupAtT.lt {w : World} {vb : Nat} {k : Int} {sl : Value} {vs : List T} (h : TupAtT w vb k sl vs) : vb < w.heap.size := (Array.getElem?_eq_some_iff.1 h.box).1

theorem TupAtT.kp {w w' : World} {vb : Nat} {k : Int} {sl : Value} {vs : List T} (h : TupAtT w vb k sl vs) (hk : Kp w w') : TupAtT w' vb k sl vs :=
  ⟨(hk.block _ h.lt).trans h.box, ownsRow_kp h.own hk, h.hin.keep hk.size hk, h.foot⟩

theorem TupAtT.step {wr wz wc w2 : World} {vb g cap : Nat} {k : Int} {sl : Value} {vs : List T} {z : T} (h : TupAtT wr vb k sl vs) (hkz : Kp wr wz) (hz : z.In wz wz.heap.size) (hf : z.foot (fun b => wr.heap.size ≤ b))
    (hkc : Kp wz wc) (hown : w2.ownsRow (vb + 1) 27 2 (.slice (some ⟨g, 0, none⟩) (vs.length + 1) cap) (vs.length + 1) (cellsTL vs ++ z.cells2)) (hg : wc.grownBy w2 sl.ownBlock) (hat : sl.ownBlock = some g ∨ g = wc.heap.size) :
    TupAtT (w2.setCell ⟨vb, 1, none⟩ (.slice (some ⟨g, 0, none⟩) (vs.length + 1) cap)) vb k (.slice (some ⟨g, 0, none⟩) (vs.length + 1) cap) (vs ++ [z]) := by
  have hvb := h.lt
  have hrow := h.own.lt
  have hkk := kk hkz hkc
  have hz1 := hkk.size
  have hz2 := hkc.size
  have hz3 : wc.heap.size ≤ w2.heap.size := by obtain ⟨_, _, _, h4, _⟩ := hg; exact h4
  have hz4 : w2.heap.size = (w2.setCell ⟨vb, 1, none⟩ (.slice (some ⟨g, 0, none⟩) (vs.length + 1) cap)).heap.size := by simp [World.setCell]
  have hvr : some vb ≠ sl.ownBlock := fun e => by have := (hrow vb e.symm).1; omega
  have hbox : w2.heap[vb]? = some (.cells #[.int .i64 k, sl] 27 (0, 0)) := (hg.block vb (by omega) hvr).trans ((hkk.block _ hvb).trans h.box)
  have mv : ∀ b, b < wc.heap.size → (vb < b ∧ sl.ownBlock ≠ some b) → (w2.setCell ⟨vb, 1, none⟩ (.slice (some ⟨g, 0, none⟩) (vs.length + 1) cap)).heap[b]? = wc.heap[b]? := fun b hb hp =>
    (Below.heap_setCell _ _ _ _ (by show b ≠ vb; omega)).trans (hg.block b hb (Ne.symm hp.2))
  have hfz : z.foot (fun b => (wr.heap.size ≤ b) ∧ b < wz.heap.size) := T.In.foot_lt z hz hf
  have hfv : T.footL (fun b => (vb < b ∧ sl.ownBlock ≠ some b) ∧ b < wr.heap.size) vs := T.InL.foot_lt vs h.hin h.foot
  have hzp : z.foot (fun b => vb < b ∧ sl.ownBlock ≠ some b) := T.foot.mono (fun b hb => ⟨by omega, fun e => by have := (hrow b e).2; omega⟩) z hfz
  refine ⟨?_, ?_, ?_, ?_⟩
  · have := heap_setCell_same w2 vb 1 _ _ (.slice (some ⟨g, 0, none⟩) (vs.length + 1) cap) hbox
    simpa using this
  · rw [cellsTL_snoc, List.length_append]
    exact ownsRow_set hown (by omega)
  · rw [← hz4]
    refine T.InL_snoc (T.InL.move hz3 mv vs (h.hin.keep hz1 hkk) h.foot) (T.In.move hz3 mv z (hz.keep hz2 hkc) hzp)
  · refine T.footL_snoc (T.footL.mono (fun b hb => ⟨hb.1.1, ?_⟩) vs hfv) (T.foot.mono (fun b hb => ⟨by omega, ?_⟩) z hfz)
    · intro e
      have e' : g = b := by simpa [Value.ownBlock] using e
      subst e'
      rcases hat with h1 | h1
      · exact hb.1.2 h1
      · omega
    · intro e
      have e' : g = b := by simpa [Value.ownBlock] using e
      subst e'
      rcases hat with h1 | h1
      · have := (hrow g h1).2; omega
      · omega

/-- What has been made is a type. -/
theorem TupAtT.value {w : World} {vb : Nat} {k : Int} {sl : Value} {vs : List T} (hk : I64 k) (h : TupAtT w vb k sl vs) : ∃ a cap, sl = .slice a vs.length cap ∧ (T.mk k a cap vs).In w w.heap.size ∧ (T.mk k a cap vs).foot (fun b => vb < b) := by
  have hft : T.footL (fun b => vb < b) vs := T.footL.mono (fun b hb => hb.1) vs h.foot
  rcases h.own.2 with ⟨hs, hn⟩ | ⟨g, cap, cur, hs, hb, hg, hnc, hcm, -, -⟩
  · have : vs = [] := List.length_eq_zero_iff.1 hn
    subst this
    refine ⟨none, 0, hs, ?_, T.foot_leaf _ _ _⟩
    simp [T.In, T.InL, hk]
  · refine ⟨some ⟨g, 0, none⟩, cap, hs, ?_, ?_⟩
    · simp only [T.In]
      have hrow := h.own
      rw [hs] at hrow
      exact ⟨hk, hnc, hcm, .inr ⟨g, 0, rfl, (Array.getElem?_eq_some_iff.1 hg).1, AtT.of_row hrow⟩, h.hin⟩
    · simp only [T.foot]
      exact ⟨.inr ⟨g, 0, rfl, by omega⟩, hft⟩

/-- A call has made a type such as P says, and another number. -/
def MakesT (w : World) (P : T → Int → Prop) (e : Ending) (w' : World) : Prop :=
  ∃ (x : T) (c : Int), e = .returned (.tuple #[x.val, .int .i64 c]) ∧ x.In w' w'.heap.size ∧ x.foot (fun b => w.heap.size ≤ b) ∧ P x c ∧ Kp w w'

/-- A call has made a value such as P says, and another number. -/
def MakesV (w : World) (P : V → Int → Prop) (e : Ending) (w' : World) : Prop :=
  ∃ (x : V) (c : Int), e = .returned (.tuple #[x.val, .int .i64 c]) ∧ x.In w' w'.heap.size ∧ x.foot (fun b => w.heap.size ≤ b) ∧ P x c ∧ Kp w w'

/-- A list of numbers in memory. -/
def Ints (w : World) (B : Nat) (a : Option Addr) (cap : Nat) (l : List Int) : Prop :=
  l.length ≤ cap ∧ cap ≤ maxLen ∧ (∀ n ∈ l, I64 n) ∧ (l = [] ∨ ∃ b off, a = some ⟨b, off, none⟩ ∧ b < B ∧ ∀ (j : Nat) (n : Int), l[j]? = some n → w.cell? ⟨b, off + j, none⟩ = some (.int .i64 n))

theorem Ints.keep {w w' : World} {B C : Nat} {a : Option Addr} {cap : Nat} {l : List Int} (h : Ints w B a cap l) (hC : B ≤ C) (k : Below B w w') : Ints w' C a cap l := by
  obtain ⟨h1, h2, h3, h4⟩ := h
  refine ⟨h1, h2, h3, ?_⟩
  rcases h4 with h4 | ⟨b, off, ha, hb, hc⟩
  · exact .inl h4
  · exact .inr ⟨b, off, ha, by omega, fun j n hj => (k.cell (p := ⟨b, _, none⟩) hb).trans (hc j n hj)⟩


theorem inTLeaf0 {w : World} {B : Nat} (k : Int) (hk : I64 k) : (T.mk k none 0 []).In w B := by
  simp [T.In, T.InL, hk]

end Go.Proofs.YtbiljalhabnhlaaGreatDoor

/-
  ARGUMENTS OF THE TYPES api.Type, []int, []byte, string AND bool, FROM THEIR READING.
-/
namespace Go.Proofs.YtbiljalhabnhlaaGreatDoor
open Go.ChangeShapes Go.WideShapes Go.ChangeAt Go.RowKit

theorem spot_none {w : World} {a : Addr} {v : Value} (h : w.cell? a = some v) : a.spot = none := by
  unfold World.cell? at h
  split at h
  · split at h
    · cases h
    · rename_i hs; simpa using hs
  · cases h

theorem cells27v : Tryz.prog.cellsOf 27 = 2 := by kernel_rfl
theorem cells25v : Tryz.prog.cellsOf 25 = 1 := by kernel_rfl
theorem cellsByte : Tryz.prog.cellsOf 5 = 1 := by kernel_rfl

set_option maxRecDepth 100000 in
set_option maxHeartbeats 2000000 in
theorem open_type {H : Type} {enc : TypeId × Value → H} {w : World} {base : Nat} {spare : Nat → Bool} {held : Bool} : ∀ (fuel : Nat) (cs : List Value) (x : DataW H × List MemPlace),
    DataW.trod enc Tryz.prog w base spare held fuel 27 cs = some x → ∃ v : T, cs = [.int .i64 v.k, .slice v.a v.l.length v.cap] ∧ v.In w w.heap.size := by
  intro fuel
  induction fuel using Nat.strongRecOn with
  | ind fuel ih =>
    intro cs x h
    obtain ⟨xs, n, rfl, -, hl, hlen, hf⟩ := DataW.trod_struct Tryz.underlying27 h
    rw [cells27v] at hl
    match cs, hl, xs, hlen with
    | [c0, c1], _, [x0, x1], _ =>
      have g0 := hf 0 _ rfl
      have g1 := hf 1 _ rfl
      simp [cells3v, cells25v] at g0 g1
      obtain ⟨k, e0, -, w0⟩ := DataW.trod_int Tryz.underlying3 g0
      simp at e0
      subst e0
      rcases DataW.trod_slice Tryz.underlying25 g1 with ⟨e3, -⟩ | ⟨a, len, cap, elems, rest, n', rfl, e3, -, hb, hlc, hcm, hel, hread, -, -⟩
      · simp at e3
        subst e3
        exact ⟨.mk k none 0 [], rfl, inTLeaf0 k (i64_of_wf w0)⟩
      · simp at e3
        subst e3
        obtain ⟨l, hll, hp⟩ := list_of (p := fun i (v : T) => w.cell? ⟨a.block, a.off + i * 2, none⟩ = some (.int .i64 v.k) ∧ w.cell? ⟨a.block, a.off + i * 2 + 1, none⟩ = some (.slice v.a v.l.length v.cap) ∧ (i = 0 → a.spot = none) ∧ a.block < w.heap.size ∧ v.In w w.heap.size) len (fun i hi => by
          have hr := hread i hi
          rw [cells27v] at hr
          have he : ∃ y, elems[i]? = some y := ⟨elems[i], by simp [hel, hi]⟩
          obtain ⟨y, hy⟩ := he
          rw [hy] at hr
          cases hc : w.cells? base (a.add (i * 2)) 2 with
          | none => rw [hc] at hr; cases hr
          | some cs' =>
            rw [hc] at hr
            obtain ⟨v, rfl, hv⟩ := ih n' (by omega) cs' y hr
            obtain ⟨_, _, hcell⟩ := World.cells?_some hc
            have k0 := hcell 0 (by omega)
            have k1 := hcell 1 (by omega)
            simp only [addr_add] at k0 k1
            have hspot : i = 0 → a.spot = none := fun hi0 => by
              subst hi0
              exact spot_none (v := .int .i64 v.k) (by simpa [Addr.add] using k0)
            have hblk : a.block < w.heap.size := by
              have := World.block_lt_of_cell? w _ (k1.trans (by rfl : _ = some (Value.slice v.a v.l.length v.cap)))
              simpa [Addr.add] using this
            refine ⟨v, ?_, ?_, hspot, hblk, hv⟩
            · by_cases hi0 : i = 0
              · subst hi0
                have hs := hspot rfl
                have : w.cell? a = some (.int .i64 v.k) := by simpa [Addr.add] using k0
                obtain ⟨ab, ao, asp⟩ := a
                simp at hs
                subst hs
                simpa using this
              · have h4 : ¬ i * 2 = 0 := by omega
                simpa [Addr.add, h4] using k0
            · simpa [Addr.add, Nat.add_assoc] using k1)
        obtain ⟨ab, ao, asp⟩ := a
        by_cases h0 : l = []
        · subst h0
          simp at hll
          subst hll
          refine ⟨.mk k (some ⟨ab, ao, asp⟩) cap [], rfl, ?_⟩
          simp [T.In, T.InL, i64_of_wf w0, hcm]
        · have hpos : 0 < l.length := by cases l with
            | nil => exact absurd rfl h0
            | cons _ _ => simp
          have hsp : asp = none := (hp 0 l[0] (by simp)).2.2.1 rfl
          have hbl := (hp 0 l[0] (by simp)).2.2.2.1
          subst hsp
          refine ⟨.mk k (some ⟨ab, ao, none⟩) cap l, by subst hll; rfl, ?_⟩
          simp only [T.In]
          refine ⟨i64_of_wf w0, by omega, hcm, .inr ⟨ab, ao, rfl, hbl, fun j x hx => ?_⟩, T.InL_iff.2 fun j x hx => (hp j x hx).2.2.2.2⟩
          obtain ⟨r0, r1, -⟩ := hp j x hx
          exact ⟨r0, r1⟩

set_option maxRecDepth 100000 in
theorem open_argT {H : Type} {enc : TypeId × Value → H} {W : World} {base : Nat} {spare : Nat → Bool} {held : Bool} {b0 : Nat} {v : Value} {d : DataW H} {ps : List MemPlace}
    (hval : Value.okWide Tryz.prog W .any b0 27 v) (h : DataW.Trod enc Tryz.prog W base spare held 27 v d ps) : ∃ x : T, v = x.val ∧ x.In W W.heap.size := by
  obtain ⟨cs, rfl, -⟩ := okWide_struct Tryz.underlying27 hval
  obtain ⟨fuel, hf⟩ := h
  obtain ⟨x, hx, hin⟩ := open_type fuel _ _ hf
  refine ⟨x, ?_, hin⟩
  have : cs = #[.int .i64 x.k, .slice x.a x.l.length x.cap] := by
    apply Array.ext'
    simpa [Value.cells] using hx
  rw [this]; rfl

set_option maxRecDepth 100000 in
theorem open_argI {H : Type} {enc : TypeId × Value → H} {W : World} {base : Nat} {spare : Nat → Bool} {held : Bool} {b0 : Nat} {v : Value} {d : DataW H} {ps : List MemPlace}
    (hval : Value.okWide Tryz.prog W .any b0 48 v) (h : DataW.Trod enc Tryz.prog W base spare held 48 v d ps) : ∃ a cap, ∃ l : List Int, v = .slice a l.length cap ∧ Ints W W.heap.size a cap l := by
  obtain ⟨a0, len0, cap0, rfl⟩ := okWide_slice Tryz.underlying48 hval
  obtain ⟨fuel, hf⟩ := h
  rcases open_ints Tryz.underlying48 Tryz.underlying3 cells3v hf with ⟨hc, -⟩ | ⟨a, len, cap, zs, hc, hb, hlc, hcm, hzl, -, hcell, hwf⟩
  · simp [Value.cells] at hc
    obtain ⟨rfl, rfl, rfl⟩ := hc
    exact ⟨none, 0, [], rfl, by simp [Ints]⟩
  · simp [Value.cells] at hc
    obtain ⟨rfl, rfl, rfl⟩ := hc
    have hle : len0 ≤ zs.length := by rw [hzl]; split <;> omega
    refine ⟨some a, cap0, zs.take len0, by simp [Nat.min_eq_left hle], by simp [Nat.min_eq_left hle]; omega, hcm, fun n hn => i64_of_wf (hwf n (List.mem_of_mem_take hn)), ?_⟩
    by_cases h0 : len0 = 0
    · left; simp [h0]
    · right
      have k0 := hcell 0 (by omega)
      have hs := spot_none (a := a) (by simpa [Addr.add] using k0)
      obtain ⟨ab, ao, asp⟩ := a
      simp at hs
      subst hs
      refine ⟨ab, ao, rfl, ?_, fun j n hj => ?_⟩
      · have := World.block_lt_of_cell? W _ k0
        simpa [Addr.add] using this
      · have hjl : j < len0 := by
          have := (List.getElem?_eq_some_iff.1 hj).1
          simp at this; omega
        rw [List.getElem?_take_of_lt hjl] at hj
        have := hcell j (by omega)
        rw [List.getD_eq_getElem?_getD, hj] at this
        by_cases hj0 : j = 0
        · subst hj0; simpa [Addr.add] using this
        · simpa [Addr.add, hj0] using this

set_option maxRecDepth 100000 in
theorem open_argS {H : Type} {enc : TypeId × Value → H} {W : World} {base : Nat} {spare : Nat → Bool} {held : Bool} {b0 : Nat} {v : Value} {d : DataW H} {ps : List MemPlace}
    (hval : Value.okWide Tryz.prog W .any b0 9 v) (h : DataW.Trod enc Tryz.prog W base spare held 9 v d ps) : ∃ s : ByteArray, v = .string s ∧ s.size ≤ maxLen := by
  obtain ⟨s0, rfl⟩ := okWide_string Tryz.underlying9 hval
  obtain ⟨fuel, hf⟩ := h
  obtain ⟨s, e2, -, hs⟩ := DataW.trod_string Tryz.underlying9 hf
  simp [Value.cells] at e2
  subst e2
  exact ⟨_, rfl, hs⟩

set_option maxRecDepth 100000 in
theorem open_argB {W : World} {b0 : Nat} {v : Value} (hval : Value.okWide Tryz.prog W .any b0 4 v) : ∃ b : Bool, v = .bool b := okWide_bool Tryz.underlying4 hval

end Go.Proofs.YtbiljalhabnhlaaGreatDoor

/-
  ValueOrders: THE TABLE OF TENS, FROM THE ROW's LIST.
-/
namespace Go.Proofs.YtbiljalhabnhlaaGreatDoor
open Go.ChangeShapes Go.WideShapes Go.ChangeAt Go.RowKit

theorem laid_tail {P : Program} {x : String × DataW Unit} {xs : List (String × DataW Unit)} {W : World} (h : laidMet P (x :: xs) W) : laidMet P xs W := by
  obtain ⟨ps, hl, hn, hc⟩ := h
  obtain ⟨g, t, cs, fuel, p, q, hg, ht, hv, hd, hr, rfl⟩ := hl
  exact ⟨q, hr, (List.nodup_append.1 hn).2.1, fun b off hp => hc b off (List.mem_append_right _ hp)⟩

theorem gTab : Tryz.prog.globalNamed "internal/strconv.uint64pow10" = some 3 := by kernel_rfl

theorem tens {W : World} (h : laidMetH Tryz.prog Rows.valueOrdersRow.laid W) : Tb W W.heap.size := by
  have h1 : laidMet Tryz.prog Rows.valueOrdersRow.laid W := h
  have h2 := laid_tail (laid_tail h1)
  refine Lib.tabBelow_of_tabIs ?_
  exact Lib.tabIs_of_head gTab (t := 179) (n := 20) (e := 167) (by kernel_rfl) (by kernel_rfl) (by kernel_rfl) (by kernel_rfl) (by kernel_rfl) h2

end Go.Proofs.YtbiljalhabnhlaaGreatDoor

/-
  ValueChecks: WHAT THE WALKS GIVE, for every arguments that read; THE STATEMENT, AND ITS CARD.
-/
namespace Go.Proofs.YtbiljalhabnhlaaGreatDoor.valueChecks
open Go.ChangeShapes Go.WideShapes Go.ChangeAt Go.RowKit Go.Lib

theorem tens {W : World} (h : laidMetH Tryz.prog Rows.valueChecksRow.laid W) : Tb W W.heap.size := by
  have h1 : laidMet Tryz.prog Rows.valueChecksRow.laid W := h
  have h2 := laid_tail (laid_tail h1)
  refine Lib.tabBelow_of_tabIs ?_
  exact Lib.tabIs_of_head gTab (t := 179) (n := 20) (e := 167) (by kernel_rfl) (by kernel_rfl) (by kernel_rfl) (by kernel_rfl) (by kernel_rfl) h2

set_option maxRecDepth 100000 in
theorem contract (H : Type) (enc : TypeId × Value → H) (W : World) (base : Nat) (args : Array Value) (ds gs : List (DataW H)) (before : List MemPlace)
    (hval : ∀ (j : Nat) t v, Tryz.f3.params[j]? = some t → args[j]? = some v → Value.okWide Tryz.prog W .any base t v)
    (hW : DataW.Whole enc Tryz.prog Tryz.f3.params.toList Rows.valueChecksSpec.vars false W args.toList ds gs before) (ht : Tb W W.heap.size) :
    Calls Tryz.prog 3 args W fun e W' => ∃ v, e = .returned v ∧ Rows.valueChecksSpec.post enc Tryz.prog Tryz.f3 false true false false W args v W' := by
  have hW' := hW
  obtain ⟨p, q, hA0, hV, rfl, hfz, hnd⟩ := hW
  have hA : DataW.TrodAll enc Tryz.prog W 0 (fun _ => true) true Tryz.f3.params.toList args.toList ds p := hA0
  rw [Tryz.params3] at hA hval
  obtain ⟨v0, vs0, d0, ds0, p0, q0, hargs, rfl, rfl, h0, r0⟩ := trodAll_cons hA
  obtain ⟨v1, vs1, d1, ds1, p1, q1, rfl, rfl, rfl, h1, r1⟩ := trodAll_cons r0
  obtain ⟨rfl, rfl, rfl⟩ := trodAll_nil r1
  obtain rfl : args = #[v0, v1] := by cases args; simp_all
  obtain ⟨rfl, rfl⟩ := trodVars_none hV
  obtain ⟨x0, rfl, hx0⟩ := open_arg (hval 0 24 v0 rfl rfl) h0
  obtain ⟨x1, rfl, hx1⟩ := open_argT (hval 1 27 v1 rfl rfl) h1
  refine (checks_any x0 x1 W hx0 hx1 ht).mono fun e W' ⟨he, hk⟩ => ?_
  subst he
  refine ⟨_, rfl, ?_⟩
  have hlt : ∀ p ∈ p0 ++ (p1 ++ []) ++ [], p.block < W.heap.size := fun p hp => hW'.lt p hp
  have hT0 : 27 < Tryz.prog.types.size := of_decide_eq_true (by kernel_rfl)
  have hT1 : 24 < Tryz.prog.types.size := of_decide_eq_true (by kernel_rfl)
  refine post_of_kp (pa := p0 ++ (p1 ++ [])) (pv := []) hW' hk (fun _ _ _ => trodAll_cons_mk (shut_bool Tryz.underlying4 _) trodAll_mk0) (fun sp hsp => ?_) (fun _ _ => rfl) rfl (ok_one (by kernel_rfl) rfl (okWide_bool_mk Tryz.underlying4 _))
  rw [Tryz.params3]
  exact trodAll_cons_mk (trod_kp (DataW.Trod.respare kidsP fullP hT1 h0 (fun p hp => hsp p (by simp [hp]))) hk (fun p hp => hlt p (by simp [hp])))
    (trodAll_cons_mk (trod_kp (DataW.Trod.respare kidsP fullP hT0 h1 (fun p hp => hsp p (by simp [hp]))) hk (fun p hp => hlt p (by simp [hp])))
    (trodAll_mk0))

theorem own : ownKnob Tryz.prog.godebug = none := by kernel_rfl

def intsOf (k : IntKind) : DataW Unit → Array Value
  | .agg l => (l.map fun d => match d with | .lit (.int _ n) => Value.int k n | _ => Value.int k 0).toArray
  | _ => #[]

/-- THE WITNESS: the settled world with two blocks more (the two errors), the five variables holding what their initialisers lay. -/
noncomputable def laidWorld (os : Os) : World :=
  let N := (World.settled Tryz.prog os).heap.size
  let w0 := World.holding Tryz.prog os ⟨#[.cells #[.string ⟨#[105, 110, 118, 97, 108, 105, 100, 32, 115, 121, 110, 116, 97, 120]⟩] 187 (0, 0), .cells #[.string ⟨#[118, 97, 108, 117, 101, 32, 111, 117, 116, 32, 111, 102, 32, 114, 97, 110, 103, 101]⟩] 187 (0, 0)], #[], []⟩
  let put (h : Array Obj) (g : Nat) (cs : Array Value) : Array Obj := h.modify g fun
    | .cells _ t frozen => .cells cs t frozen
    | o => o
  let h1 := put w0.heap 1 #[.iface 185 (.pointer (some ⟨N, 0, none⟩))]
  let h2 := put h1 2 #[.iface 185 (.pointer (some ⟨N + 1, 0, none⟩))]
  let h3 := put h2 3 (intsOf .u64 Rows.laid_internal_strconv_uint64pow10)
  let h4 := put h3 4 (intsOf .u8 Rows.laid_math_bits_deBruijn32tab)
  let h5 := put h4 5 (intsOf .u8 Rows.laid_math_bits_deBruijn64tab)
  { w0 with heap := h5 }

noncomputable abbrev N0 : Nat := (World.settled Tryz.prog default).heap.size
/-- The witness's arguments. -/
abbrev wArgs : Array Value := #[.agg #[.int .i64 0, .int .i64 0, .string ⟨#[]⟩, .slice none 0 0], .agg #[.int .i64 0, .slice none 0 0]]

set_option maxRecDepth 1000000 in
theorem laid_met (os : Os) (args : Array Value) : laidMet Tryz.prog Rows.valueChecksRow.laid ((laidWorld os).forCall (fun _ _ => 0) ⟨#[], args, []⟩).memory :=
  (LaidIn.of_run (l := Rows.valueChecksRow.laid) [4, 5, 3, 2, N0 + 1, 1, N0] 8 (by kernel_rfl) (by kernel_rfl) (by kernel_rfl) (by kernel_rfl)).met

theorem witness_row (os : Os) {H : Type} (enc : TypeId × Value → H) :
    (OpenSpec.ofChange Rows.valueChecksSpec).preRow enc Tryz.prog Tryz.f3 Rows.valueChecksRow.domain false Rows.valueChecksRow.laid ((laidWorld os).forCall (fun _ _ => 0) ⟨#[], wArgs, []⟩).memory wArgs := by
  have hw : (DataW.whole enc Tryz.prog ((laidWorld os).forCall (fun _ _ => 0) ⟨#[], wArgs, []⟩).memory Tryz.f3.params.toList Rows.valueChecksSpec.vars false wArgs.toList 8).map (fun x => (x.1, x.2.1)) =
      some ([.agg [.lit (.int .i64 0), .lit (.int .i64 0), .lit (.string []), .nil], .agg [.lit (.int .i64 0), .nil]], []) := by kernel_rfl
  obtain ⟨⟨x1, x2, x3⟩, hx, hx1⟩ := Option.map_eq_some_iff.1 hw
  simp only [Prod.mk.injEq] at hx1
  obtain ⟨rfl, rfl⟩ := hx1
  exact OpenSpec.preRow_of_cond 8 hx (by kernel_rfl) (fun k hk => by cases hk) (by kernel_rfl) (laid_met os _)

set_option maxRecDepth 100000 in
set_option maxHeartbeats 2000000 in
theorem lifted (os : Os) (started : os.Started) (H : Type) (enc : TypeId × Value → H) (F : Stop.Interp) :
    ReturnsInHanded {} Tryz.checked os 3 .any ((OpenSpec.ofChange Rows.valueChecksSpec).preRow enc Tryz.prog Tryz.f3 Rows.valueChecksRow.domain false Rows.valueChecksRow.laid) (((OpenSpec.ofChange Rows.valueChecksSpec).at F).post enc Tryz.prog Tryz.f3 false true false false) := by
  refine returnsInHanded_of_row (C := Tryz.checked) (s := OpenSpec.ofChange Rows.valueChecksSpec) own started (by kernel_rfl) Tryz.func3
    (witness_row_atRef (enc := enc) (C := Tryz.checked) false (laidWorld os) wArgs rfl (by kernel_rfl) (by kernel_rfl) (by kernel_rfl) (witness_row os enc)) ?_
  intro W base args ds gs before hval hW _ _ _ hL _ _
  exact contract H enc W base args ds gs before hval hW (tens hL)

theorem said : Rows.ValueChecksSaid :=
  OpenClaim.holds_of_cond 3 Tryz.f3 rfl rfl rfl rfl rfl rfl rfl ⟨rfl, rfl, rfl, rfl, rfl⟩ rfl rfl rfl rfl rfl (by kernel_rfl) Tryz.func3 (by kernel_rfl)
    (of_decide_eq_true (by kernel_rfl)) (by unfold Func.isWrapper; first | (rw [if_pos (by decide +kernel)]; kernel_rfl) | (rw [if_neg (by decide +kernel)]; exact ⟨rfl, rfl⟩))
    (fun os started H enc _ F => by rw [OpenClaim.pre_eq_preRow]; exact lifted os started H enc F)

/-- No parameter wants a stand-in; the program's own looks are off: what the card asks. -/
theorem plain (f : FuncId) (fn : Func) (hf : Tryz.pinned.checked.prog.funcNamed "deltaworks/deltaworkslaw01.ValueChecks" = some f) (hfn : Tryz.pinned.checked.prog.funcs[f]? = some fn) :
    true = Tryz.pinned.checked.prog.looks [] ∧ ∀ (j : Nat) t, fn.params[j]? = some t → Tryz.pinned.checked.prog.wantsStandIn t = false := by
  obtain rfl : f = 3 := Option.some.inj ((show Tryz.prog.funcNamed "deltaworks/deltaworkslaw01.ValueChecks" = some 3 by kernel_rfl).symm.trans hf) |>.symm
  obtain rfl : fn = Tryz.f3 := (Option.some.inj (Tryz.func3.symm.trans hfn)).symm
  refine ⟨by kernel_rfl, fun j t ht => ?_⟩
  rw [Tryz.params3] at ht
  obtain rfl | rfl : t = 24 ∨ t = 27 := by simpa using Array.mem_of_getElem? ht
  · exact (show Tryz.prog.wantsStandIn 24 = false by kernel_rfl)
  · exact (show Tryz.prog.wantsStandIn 27 = false by kernel_rfl)

/-- ████ THE CARD ████ -/
theorem card : Rows.ValueChecksCardSaid :=
  Claim7.holds_tied_plain_at .later [] _ _ _ _ said (fun _ h => by cases h) (by kernel_rfl) (fun _ h => by cases h) valueChecks_row_tie rfl ⟨rfl, rfl⟩ (by kernel_rfl) rfl plain (by kernel_rfl)

end Go.Proofs.YtbiljalhabnhlaaGreatDoor.valueChecks
