/-
  Contracts of the functions of package value, of its specification and of what the statements of layer 1 share (values and types made of numbers, the chapter's examples), each for every argument: used by the proofs of layer 1's statements.
  Part 1 of 12.
-/
import Derived.WalkKit
import Derived.Test.YtkfmgafgokpjhaaGreatDoorProg
import Derived.WalkSpells
import Derived.WalkLawsBesides
import Derived.Laws.EntriesVeiled
import Derived.Lib.Hide
import Derived.BigQuiet
import Derived.Deep.QuietTactic
import Derived.Deep.RegionHeld3
import Derived.OneCell
import Derived.Deep.DeepFit
import Derived.Deep.AppendLies
/-
  PLAIN MATHEMATICS, no Go: a value as a tree (V) with the places where its parts lie, what memory holds of it (In), and the plain functions that the walks' contracts name.
-/
namespace Go.Proofs.YtkfmgafgokpjhaaGreatDoor
open Go.RowKit

/-- A value: kind, number, text; its parts, and where they lie (a, cap). -/
inductive V where
  | mk (k n : Int) (s : ByteArray) (a : Option Addr) (cap : Nat) (l : List V)
deriving Inhabited

def V.k : V → Int | .mk k _ _ _ _ _ => k
def V.n : V → Int | .mk _ n _ _ _ _ => n
def V.s : V → ByteArray | .mk _ _ s _ _ _ => s
def V.a : V → Option Addr | .mk _ _ _ a _ _ => a
def V.cap : V → Nat | .mk _ _ _ _ c _ => c
def V.l : V → List V | .mk _ _ _ _ _ l => l

/-- The Go value. -/
def V.val (v : V) : Value := .agg #[.int .i64 v.k, .int .i64 v.n, .string v.s, .slice v.a v.l.length v.cap]

/-- What is at a place of memory: the parts of a list, four cells each. -/
def At (w : World) (b off : Nat) (l : List V) : Prop :=
  ∀ (j : Nat) (x : V), l[j]? = some x → w.cell? ⟨b, off + j * 4, none⟩ = some (.int .i64 x.k) ∧ w.cell? ⟨b, off + j * 4 + 1, none⟩ = some (.int .i64 x.n) ∧
    w.cell? ⟨b, off + j * 4 + 2, none⟩ = some (.string x.s) ∧ w.cell? ⟨b, off + j * 4 + 3, none⟩ = some (.slice x.a x.l.length x.cap)

def I64 (n : Int) : Prop := -9223372036854775808 ≤ n ∧ n ≤ 9223372036854775807

mutual
/-- Memory holds a value, all of it below block B. -/
def V.In (w : World) (B : Nat) : V → Prop
  | .mk k n s a cap l => I64 k ∧ I64 n ∧ s.size ≤ maxLen ∧ l.length ≤ cap ∧ cap ≤ maxLen ∧ (l = [] ∨ ∃ b off, a = some ⟨b, off, none⟩ ∧ b < B ∧ At w b off l) ∧ V.InL w B l
def V.InL (w : World) (B : Nat) : List V → Prop
  | [] => True
  | x :: xs => x.In w B ∧ V.InL w B xs
end

theorem V.In_def (w : World) (B : Nat) (v : V) : v.In w B ↔ I64 v.k ∧ I64 v.n ∧ v.s.size ≤ maxLen ∧ v.l.length ≤ v.cap ∧ v.cap ≤ maxLen ∧ (v.l = [] ∨ ∃ b off, v.a = some ⟨b, off, none⟩ ∧ b < B ∧ At w b off v.l) ∧ V.InL w B v.l := by
  cases v; simp [V.In, V.k, V.n, V.s, V.a, V.cap, V.l]

theorem V.InL_iff {w : World} {B : Nat} {l : List V} : V.InL w B l ↔ ∀ (j : Nat) (x : V), l[j]? = some x → x.In w B := by
  induction l with
  | nil => simp [V.InL]
  | cons y ys ih =>
    simp only [V.InL, ih]
    constructor
    · rintro ⟨h1, h2⟩ j x hj
      cases j with
      | zero => simp at hj; exact hj ▸ h1
      | succ j => exact h2 j x (by simpa using hj)
    · intro h
      exact ⟨h 0 y (by simp), fun j x hj => h (j + 1) x (by simpa using hj)⟩

/-- How many nodes: for inductions. -/
def V.rank : V → Nat
  | .mk _ _ _ _ _ l => 1 + ranks l
where ranks : List V → Nat
  | [] => 0
  | x :: xs => x.rank + ranks xs

theorem V.rank_pos (v : V) : 0 < v.rank := by cases v; simp [V.rank]; omega
theorem V.ranks_mem {l : List V} {j : Nat} {x : V} (h : l[j]? = some x) : x.rank ≤ V.rank.ranks l := by
  induction l generalizing j with
  | nil => simp at h
  | cons y ys ih =>
    cases j with
    | zero => simp at h; subst h; simp [V.rank.ranks]
    | succ j => have := ih (j := j) (by simpa using h); simp [V.rank.ranks]; omega
theorem V.rank_part {v : V} {j : Nat} {x : V} (h : v.l[j]? = some x) : x.rank < v.rank := by
  have := V.ranks_mem h
  cases v; simp [V.rank, V.l] at *; omega

/-- What memory holds is still held where the blocks below B are as they were. -/
theorem At.below {w w' : World} {B b off : Nat} {l : List V} (h : At w b off l) (hb : b < B) (k : Below B w w') : At w' b off l := fun j x hj => by
  obtain ⟨h0, h1, h2, h3⟩ := h j x hj
  exact ⟨(k.cell (p := ⟨b, _, none⟩) hb).trans h0, (k.cell (p := ⟨b, _, none⟩) hb).trans h1, (k.cell (p := ⟨b, _, none⟩) hb).trans h2, (k.cell (p := ⟨b, _, none⟩) hb).trans h3⟩

theorem V.In.below {w w' : World} {B C : Nat} (hC : B ≤ C) (k : Below B w w') : ∀ (N : Nat) (v : V), v.rank ≤ N → v.In w B → v.In w' C := by
  intro N
  induction N with
  | zero => intro v hv; have := v.rank_pos; omega
  | succ N ih =>
    intro v hv h
    rw [V.In_def] at h ⊢
    obtain ⟨h1, h2, h3, h4, h5, h6, h7⟩ := h
    refine ⟨h1, h2, h3, h4, h5, ?_, ?_⟩
    · rcases h6 with h6 | ⟨b, off, ha, hb, hat⟩
      · exact .inl h6
      · exact .inr ⟨b, off, ha, by omega, hat.below hb k⟩
    · rw [V.InL_iff] at h7 ⊢
      intro j x hj
      exact ih x (by have := V.rank_part hj; omega) (h7 j x hj)

theorem V.In.keep {w w' : World} {B C : Nat} {v : V} (h : v.In w B) (hC : B ≤ C) (k : Below B w w') : v.In w' C := V.In.below hC k v.rank v (Nat.le_refl _) h

theorem Below.up {A B : Nat} {w w' w'' : World} (h : Below A w w') (k : Below B w' w'') (hB : A ≤ B) : Below A w w'' := h.trans (k.mono hB)

/-- The world behind a call that has only made memory. -/
abbrev Kp (w w' : World) : Prop := Below w.heap.size w w'
/-- A cell that is there reads behind such a call as it did. -/
theorem kc {w w1 : World} {p : Addr} {v : Value} (hk : Kp w w1) (h : w.cell? p = some v) : w1.cell? p = some v :=
  (hk.cell (World.block_lt_of_cell? w p h)).trans h
theorem kk {w w1 w2 : World} (h : Kp w w1) (k : Kp w1 w2) : Kp w w2 := h.trans (k.mono h.size)
theorem kb {B : Nat} {w w1 w2 : World} (h : Below B w w1) (k : Kp w1 w2) (hB : B ≤ w1.heap.size) : Below B w w2 := h.trans (k.mono hB)
theorem ka (w : World) (o : Obj) : Kp w (w.alloc o) := (Below.refl _ _).alloc (Nat.le_refl _) _

end Go.Proofs.YtkfmgafgokpjhaaGreatDoor

/-
  THE WALKS OF THE KINDS' OWN LOOKS: (node).isWord, isText, isTuple, isTagged; kinds; valueParts. For every value.
-/
namespace Go.Proofs.YtkfmgafgokpjhaaGreatDoor
open Go.RowKit

set_option maxHeartbeats 400000 in
theorem kinds_any (w : World) :
    Calls Tryz.prog 48 #[] w fun e w' => e = .returned (.agg #[.func (.func 85) #[] #[], .func (.func 86) #[] #[], .func (.func 87) #[] #[], .func (.func 88) #[] #[], .func (.func 89) #[] #[], .func (.func 90) #[] #[], .func (.func 91) #[] #[], .func (.func 92) #[] #[]]) ∧ Kp w w' := by
  go_enter Tryz.func48, Tryz.ntmps48
  go_wp2
  refine bodyPost_ret (v := .agg #[.func (.func 85) #[] #[], .func (.func 86) #[] #[], .func (.func 87) #[] #[], .func (.func 88) #[] #[], .func (.func 89) #[] #[], .func (.func 90) #[] #[], .func (.func 91) #[] #[], .func (.func 92) #[] #[]]) (by simp [results, Tryz.results48, go_sem]) rfl ⟨rfl, ?_⟩
  exact (Below.refl _ _).alloc (Nat.le_refl _) _

def tupleB (n : Int) (s : ByteArray) (len : Nat) : Bool := decide (n = 0) && (s.toList.isEmpty && decide (len ≤ 8))
def wordB (n : Int) (s : ByteArray) (len : Nat) : Bool := decide (-2147483648 ≤ n) && (decide (n ≤ 2147483647) && (s.toList.isEmpty && decide (len = 0)))
def taggedB (n : Int) (s : ByteArray) (len : Nat) : Bool := decide (0 ≤ n) && (decide (n < 8) && (s.toList.isEmpty && decide (len = 1)))

set_option maxHeartbeats 400000 in
theorem isTuple_any (k n : Int) (s : ByteArray) (a : Option Addr) (l c : Nat) (hl : l ≤ 9223372036854775807) (w : World) :
    Calls Tryz.prog 89 #[.agg #[.int .i64 k, .int .i64 n, .string s, .slice a l c]] w fun e w' => e = .returned (.bool (tupleB n s l)) ∧ Kp w w' := by
  go_enter Tryz.func89, Tryz.ntmps89
  go_wp2
  all_goals go_ret
  all_goals refine ⟨?_, (Below.refl _ _).alloc (Nat.le_refl _) _⟩
  all_goals first
    | (simp [tupleB, *]; done)
    | (simp [tupleB, *]; omega)
    | (simp [tupleB, *]; intros; omega)
    | (simp [tupleB, *]; rw [Bool.eq_iff_iff]; simp; try omega)

set_option maxHeartbeats 400000 in
theorem isWord_any (k n : Int) (s : ByteArray) (a : Option Addr) (l c : Nat) (_hl : l ≤ 9223372036854775807) (w : World) :
    Calls Tryz.prog 85 #[.agg #[.int .i64 k, .int .i64 n, .string s, .slice a l c]] w fun e w' => e = .returned (.bool (wordB n s l)) ∧ Kp w w' := by
  go_enter Tryz.func85, Tryz.ntmps85
  go_wp2
  all_goals go_ret
  all_goals refine ⟨?_, (Below.refl _ _).alloc (Nat.le_refl _) _⟩
  all_goals first
    | (simp [wordB, *]; done)
    | (simp [wordB, *]; omega)
    | (simp [wordB, *]; intros; omega)
    | (simp [wordB, *]; rw [Bool.eq_iff_iff]; simp; try omega)

set_option maxHeartbeats 400000 in
theorem isTagged_any (k n : Int) (s : ByteArray) (a : Option Addr) (l c : Nat) (_hl : l ≤ 9223372036854775807) (w : World) :
    Calls Tryz.prog 91 #[.agg #[.int .i64 k, .int .i64 n, .string s, .slice a l c]] w fun e w' => e = .returned (.bool (taggedB n s l)) ∧ Kp w w' := by
  go_enter Tryz.func91, Tryz.ntmps91
  go_wp2
  all_goals go_ret
  all_goals refine ⟨?_, (Below.refl _ _).alloc (Nat.le_refl _) _⟩
  all_goals first
    | (simp [taggedB, *]; done)
    | (simp [taggedB, *]; omega)
    | (simp [taggedB, *]; intros; omega)
    | (simp [taggedB, *]; rw [Bool.eq_iff_iff]; simp; try omega)

set_option maxHeartbeats 400000 in
theorem valueParts_any (k n : Int) (s : ByteArray) (a : Option Addr) (l c : Nat) (w : World) :
    Calls Tryz.prog 51 #[.agg #[.int .i64 k, .int .i64 n, .string s, .slice a l c]] w fun e w' => e = .returned (.slice a l c) ∧ Kp w w' := by
  go_enter Tryz.func51, Tryz.ntmps51
  go_wp2
  all_goals go_ret
  all_goals exact ⟨rfl, (Below.refl _ _).alloc (Nat.le_refl _) _⟩

/-- Which texts are valid: at most 100 bytes, each from 32 to 126. -/
def byteB (c : UInt8) : Bool := decide (32 ≤ c.toNat) && decide (c.toNat ≤ 126)
def charsB (s : ByteArray) : Bool := s.data.toList.all byteB
def textB (n : Int) (s : ByteArray) (len : Nat) : Bool := decide (n = 0) && (decide (len = 0) && (decide (s.size ≤ 100) && charsB s))

theorem take_all (s : ByteArray) (k : Nat) (h : k < s.size) : (s.data.toList.take (k + 1)).all byteB = ((s.data.toList.take k).all byteB && byteB s[k]) := by
  have : s.data.toList.take (k + 1) = s.data.toList.take k ++ [s[k]] := by
    rw [List.take_succ_eq_append_getElem (by simpa using h)]; rfl
  rw [this]; simp

theorem all_of_take (s : ByteArray) (k : Nat) (h : k < s.size) (hb : byteB s[k] = false) : charsB s = false := by
  unfold charsB
  rw [List.all_eq_false]
  refine ⟨s[k], ?_, by simp [hb]⟩
  have : s[k] = s.data.toList[k]'(by simpa using h) := rfl
  rw [this]; exact List.getElem_mem _

theorem charAt (s : ByteArray) (i : Nat) (h : i < s.size) : byteB s[i] = true ↔ 32 ≤ (s[i].toNat : Int) ∧ (s[i].toNat : Int) ≤ 126 := by
  simp [byteB]; omega

set_option maxHeartbeats 1000000 in
theorem isText_any (k n : Int) (s : ByteArray) (a : Option Addr) (l c : Nat) (hl : l ≤ 9223372036854775807) (hs : s.size ≤ 9223372036854775807) (w : World) :
    Calls Tryz.prog 87 #[.agg #[.int .i64 k, .int .i64 n, .string s, .slice a l c]] w fun e w' => e = .returned (.bool (textB n s l)) ∧ Kp w w' := by
  by_cases h1 : n = 0
  · by_cases h2 : l = 0
    · by_cases h3 : s.size ≤ 100
      · subst h1; subst h2
        have g3 : decide ((100 : Int) < (s.size : Int)) = false := by simp; omega
        go_enter Tryz.func87, Tryz.ntmps87
        go_wp2
        go_loop [22] (fun i => ∃ j : Nat, j ≤ s.size ∧ i = .int .i64 j ∧ (s.data.toList.take j).all byteB = true) (fun i => s.size - (intOf i).toNat)
        case atStart => exact ⟨0, Nat.zero_le _, rfl, rfl⟩
        case round =>
          obtain ⟨j, hj, rfl, hall⟩ := hrel
          by_cases hlt : j < s.size
          · have ht := take_all s j hlt
            have hc := charAt s j hlt
            have hn := all_of_take s j hlt
            have HT := Lib.hid ht; have HC := Lib.hid hc; have HN := Lib.hid hn; have HA := Lib.hid hall
            clear ht hc hn hall
            by_cases hb : byteB s[j] = true
            · have hb2 := HC.out.1 hb
              obtain ⟨hb3, hb4⟩ := hb2
              have HB := Lib.hid hb
              clear hb
              go_wp2
              go_round
              case rel => exact ⟨j + 1, by omega, by go_num, by rw [HT.out, HA.out, HB.out]; rfl⟩
              case measure => simp [intOf]; omega
            · have hb0 : byteB s[j] = false := by simpa using hb
              have hr : textB 0 s 0 = false := by simp [textB, HN.out hb0]
              have HR := Lib.hid hr
              clear hb hr
              have hz : ¬ (32 ≤ (s[j].toNat : Int) ∧ (s[j].toNat : Int) ≤ 126) := fun h => by rw [HC.out.2 h] at hb0; cases hb0
              clear hb0
              go_wp2
              all_goals first
                | (exfalso; apply hz; constructor <;> omega)
                | (go_ret; exact ⟨by rw [HR.out] <;> rfl, (Below.refl _ _).alloc (Nat.le_refl _) _⟩)
          · have hjj : j = s.size := by omega
            subst hjj
            have hr : textB 0 s 0 = true := by
              have : charsB s = true := by
                unfold charsB; rw [List.take_of_length_le (by simp)] at hall; exact hall
              simp [textB, this]; omega
            have HR := Lib.hid hr
            clear hr hall
            go_wp2
            go_ret
            exact ⟨by rw [HR.out] <;> rfl, (Below.refl _ _).alloc (Nat.le_refl _) _⟩
      · have hr : textB n s l = false := by simp [textB, h3]
        have HR := Lib.hid hr
        clear hr
        subst h1; subst h2
        go_enter Tryz.func87, Tryz.ntmps87
        go_wp2
        all_goals go_ret
        all_goals exact ⟨by rw [HR.out] <;> rfl, (Below.refl _ _).alloc (Nat.le_refl _) _⟩
    · have hr : textB n s l = false := by simp [textB, h2]
      have HR := Lib.hid hr
      clear hr
      subst h1
      go_enter Tryz.func87, Tryz.ntmps87
      go_wp2
      all_goals go_ret
      all_goals exact ⟨by rw [HR.out] <;> rfl, (Below.refl _ _).alloc (Nat.le_refl _) _⟩
  · have hr : textB n s l = false := by simp [textB, h1]
    have HR := Lib.hid hr
    clear hr
    go_enter Tryz.func87, Tryz.ntmps87
    go_wp2
    all_goals go_ret
    all_goals exact ⟨by rw [HR.out] <;> rfl, (Below.refl _ _).alloc (Nat.le_refl _) _⟩

end Go.Proofs.YtkfmgafgokpjhaaGreatDoor

/-
  THE WALKS OF Size's CLOSURE (does a value's own fields fit its kind?), and of count's closure, by recursion over the value.
-/
namespace Go.Proofs.YtkfmgafgokpjhaaGreatDoor
open Go.RowKit

/-- The table of the kinds lies in a block. -/
structure Table (w : World) (b : Nat) : Prop where
  c0 : w.cell? ⟨b, 0, none⟩ = some (.func (.func 85) #[] #[])
  c1 : w.cell? ⟨b, 1, none⟩ = some (.func (.func 86) #[] #[])
  c2 : w.cell? ⟨b, 2, none⟩ = some (.func (.func 87) #[] #[])
  c3 : w.cell? ⟨b, 3, none⟩ = some (.func (.func 88) #[] #[])
  c4 : w.cell? ⟨b, 4, none⟩ = some (.func (.func 89) #[] #[])
  c5 : w.cell? ⟨b, 5, none⟩ = some (.func (.func 90) #[] #[])
  c6 : w.cell? ⟨b, 6, none⟩ = some (.func (.func 91) #[] #[])
  c7 : w.cell? ⟨b, 7, none⟩ = some (.func (.func 92) #[] #[])

theorem Table.keep {w w' : World} {b B : Nat} (h : Table w b) (hb : b < B) (k : Below B w w') : Table w' b :=
  ⟨(k.cell (p := ⟨b, _, none⟩) hb).trans h.c0, (k.cell (p := ⟨b, _, none⟩) hb).trans h.c1, (k.cell (p := ⟨b, _, none⟩) hb).trans h.c2, (k.cell (p := ⟨b, _, none⟩) hb).trans h.c3,
   (k.cell (p := ⟨b, _, none⟩) hb).trans h.c4, (k.cell (p := ⟨b, _, none⟩) hb).trans h.c5, (k.cell (p := ⟨b, _, none⟩) hb).trans h.c6, (k.cell (p := ⟨b, _, none⟩) hb).trans h.c7⟩

/-- Do a value's own fields fit its kind? -/
def fitsB (k n : Int) (s : ByteArray) (len : Nat) : Bool :=
  if k = 0 then wordB n s len else if k = 1 then textB n s len else if k = 2 then tupleB n s len else if k = 3 then taggedB n s len else false

set_option maxHeartbeats 1000000 in
theorem fits0 (n : Int) (s : ByteArray) (a : Option Addr) (l c : Nat) (hl : l ≤ 9223372036854775807) (_hs : s.size ≤ 9223372036854775807) (b : Nat) (w : World) (hT : Table w b) :
    Calls Tryz.prog 49 #[.agg #[.int .i64 0, .int .i64 n, .string s, .slice a l c], .pointer (some ⟨b, 0, none⟩)] w fun e w' => e = .returned (.bool (wordB n s l)) ∧ Kp w w' := by
  have h0 := hT.c0
  have hb := World.block_lt_of_cell? w _ h0
  go_enter Tryz.func49, Tryz.ntmps49
  go_wp2_with fail
  go_region_held3 (fun w' => w'.cell? ⟨w.heap.size, 0, none⟩ = some (.int .i64 0) ∧ w'.cell? ⟨w.heap.size, 1, none⟩ = some (.int .i64 n) ∧ w'.cell? ⟨w.heap.size, 2, none⟩ = some (.string s) ∧ w'.cell? ⟨w.heap.size, 3, none⟩ = some (.slice a l c) ∧ w'.cell? ⟨b, 0, none⟩ = some (.func (.func 85) #[] #[]) ∧ Kp w w')
    (first
      | (refine ⟨?_, ?_, ?_, ?_, ?_, ?_⟩ <;> first | exact ((Below.refl _ _).alloc (Nat.le_refl _) _).drew | (go_keep; done))
      | (go_split_ands; exact ⟨kc hk ‹_›, kc hk ‹_›, kc hk ‹_›, kc hk ‹_›, kc hk ‹_›, kk ‹_› hk⟩))
    (first
      | (go_at_call 85; refine (isWord_any 0 n s a l c hl _).mono ?_; rintro e w1 ⟨rfl, hk⟩))
  go_split_ands
  go_wp2_with fail
  go_ret
  exact ⟨rfl, ‹_›⟩

set_option maxHeartbeats 1000000 in
theorem fits1 (n : Int) (s : ByteArray) (a : Option Addr) (l c : Nat) (hl : l ≤ 9223372036854775807) (_hs : s.size ≤ 9223372036854775807) (b : Nat) (w : World) (hT : Table w b) :
    Calls Tryz.prog 49 #[.agg #[.int .i64 1, .int .i64 n, .string s, .slice a l c], .pointer (some ⟨b, 0, none⟩)] w fun e w' => e = .returned (.bool (textB n s l)) ∧ Kp w w' := by
  have h0 := hT.c2
  have hb := World.block_lt_of_cell? w _ h0
  go_enter Tryz.func49, Tryz.ntmps49
  go_wp2_with fail
  go_region_held3 (fun w' => w'.cell? ⟨w.heap.size, 0, none⟩ = some (.int .i64 1) ∧ w'.cell? ⟨w.heap.size, 1, none⟩ = some (.int .i64 n) ∧ w'.cell? ⟨w.heap.size, 2, none⟩ = some (.string s) ∧ w'.cell? ⟨w.heap.size, 3, none⟩ = some (.slice a l c) ∧ w'.cell? ⟨b, 2, none⟩ = some (.func (.func 87) #[] #[]) ∧ Kp w w')
    (first
      | (refine ⟨?_, ?_, ?_, ?_, ?_, ?_⟩ <;> first | exact ((Below.refl _ _).alloc (Nat.le_refl _) _).drew | (go_keep; done))
      | (go_split_ands; exact ⟨kc hk ‹_›, kc hk ‹_›, kc hk ‹_›, kc hk ‹_›, kc hk ‹_›, kk ‹_› hk⟩))
    (first
      | (go_at_call 87; refine (isText_any 1 n s a l c hl _hs _).mono ?_; rintro e w1 ⟨rfl, hk⟩))
  go_split_ands
  go_wp2_with fail
  go_ret
  exact ⟨rfl, ‹_›⟩

set_option maxHeartbeats 1000000 in
theorem fits2 (n : Int) (s : ByteArray) (a : Option Addr) (l c : Nat) (hl : l ≤ 9223372036854775807) (_hs : s.size ≤ 9223372036854775807) (b : Nat) (w : World) (hT : Table w b) :
    Calls Tryz.prog 49 #[.agg #[.int .i64 2, .int .i64 n, .string s, .slice a l c], .pointer (some ⟨b, 0, none⟩)] w fun e w' => e = .returned (.bool (tupleB n s l)) ∧ Kp w w' := by
  have h0 := hT.c4
  have hb := World.block_lt_of_cell? w _ h0
  go_enter Tryz.func49, Tryz.ntmps49
  go_wp2_with fail
  go_region_held3 (fun w' => w'.cell? ⟨w.heap.size, 0, none⟩ = some (.int .i64 2) ∧ w'.cell? ⟨w.heap.size, 1, none⟩ = some (.int .i64 n) ∧ w'.cell? ⟨w.heap.size, 2, none⟩ = some (.string s) ∧ w'.cell? ⟨w.heap.size, 3, none⟩ = some (.slice a l c) ∧ w'.cell? ⟨b, 4, none⟩ = some (.func (.func 89) #[] #[]) ∧ Kp w w')
    (first
      | (refine ⟨?_, ?_, ?_, ?_, ?_, ?_⟩ <;> first | exact ((Below.refl _ _).alloc (Nat.le_refl _) _).drew | (go_keep; done))
      | (go_split_ands; exact ⟨kc hk ‹_›, kc hk ‹_›, kc hk ‹_›, kc hk ‹_›, kc hk ‹_›, kk ‹_› hk⟩))
    (first
      | (go_at_call 89; refine (isTuple_any 2 n s a l c hl _).mono ?_; rintro e w1 ⟨rfl, hk⟩))
  go_split_ands
  go_wp2_with fail
  go_ret
  exact ⟨rfl, ‹_›⟩

set_option maxHeartbeats 1000000 in
theorem fits3 (n : Int) (s : ByteArray) (a : Option Addr) (l c : Nat) (hl : l ≤ 9223372036854775807) (_hs : s.size ≤ 9223372036854775807) (b : Nat) (w : World) (hT : Table w b) :
    Calls Tryz.prog 49 #[.agg #[.int .i64 3, .int .i64 n, .string s, .slice a l c], .pointer (some ⟨b, 0, none⟩)] w fun e w' => e = .returned (.bool (taggedB n s l)) ∧ Kp w w' := by
  have h0 := hT.c6
  have hb := World.block_lt_of_cell? w _ h0
  go_enter Tryz.func49, Tryz.ntmps49
  go_wp2_with fail
  go_region_held3 (fun w' => w'.cell? ⟨w.heap.size, 0, none⟩ = some (.int .i64 3) ∧ w'.cell? ⟨w.heap.size, 1, none⟩ = some (.int .i64 n) ∧ w'.cell? ⟨w.heap.size, 2, none⟩ = some (.string s) ∧ w'.cell? ⟨w.heap.size, 3, none⟩ = some (.slice a l c) ∧ w'.cell? ⟨b, 6, none⟩ = some (.func (.func 91) #[] #[]) ∧ Kp w w')
    (first
      | (refine ⟨?_, ?_, ?_, ?_, ?_, ?_⟩ <;> first | exact ((Below.refl _ _).alloc (Nat.le_refl _) _).drew | (go_keep; done))
      | (go_split_ands; exact ⟨kc hk ‹_›, kc hk ‹_›, kc hk ‹_›, kc hk ‹_›, kc hk ‹_›, kk ‹_› hk⟩))
    (first
      | (go_at_call 91; refine (isTagged_any 3 n s a l c hl _).mono ?_; rintro e w1 ⟨rfl, hk⟩))
  go_split_ands
  go_wp2_with fail
  go_ret
  exact ⟨rfl, ‹_›⟩

set_option maxHeartbeats 1000000 in
theorem fitsLow (k n : Int) (s : ByteArray) (a : Option Addr) (l c : Nat) (b : Nat) (w : World) (hk : k < 0) :
    Calls Tryz.prog 49 #[.agg #[.int .i64 k, .int .i64 n, .string s, .slice a l c], .pointer (some ⟨b, 0, none⟩)] w fun e w' => e = .returned (.bool false) ∧ Kp w w' := by
  have hd : decide ((0 : Int) ≤ k) = false := by simp; omega
  go_enter Tryz.func49, Tryz.ntmps49
  go_wp2_with fail
  go_quiet (fail)
  go_wp2
  go_ret
  refine ⟨rfl, ?_⟩
  exact (ka _ _).trans ⟨rfl, rfl, rfl, Nat.le_refl _, fun _ _ => rfl⟩

set_option maxHeartbeats 1000000 in
theorem fitsHigh (k n : Int) (s : ByteArray) (a : Option Addr) (l c : Nat) (b : Nat) (w : World) (hk : 4 ≤ k) :
    Calls Tryz.prog 49 #[.agg #[.int .i64 k, .int .i64 n, .string s, .slice a l c], .pointer (some ⟨b, 0, none⟩)] w fun e w' => e = .returned (.bool false) ∧ Kp w w' := by
  have hd : decide ((0 : Int) ≤ k) = true := by simp; omega
  have hd2 : decide (k < (4 : Int)) = false := by simp; omega
  go_enter Tryz.func49, Tryz.ntmps49
  go_wp2_with fail
  go_quiet (fail)
  go_wp2
  go_ret
  refine ⟨rfl, ?_⟩
  exact (ka _ _).trans ⟨rfl, rfl, rfl, Nat.le_refl _, fun _ _ => rfl⟩

/-- Size's closure, at every value: do its own fields fit its kind? -/
theorem fits_any (k n : Int) (s : ByteArray) (a : Option Addr) (l c : Nat) (hl : l ≤ 9223372036854775807) (hs : s.size ≤ 9223372036854775807) (b : Nat) (w : World) (hT : Table w b) :
    Calls Tryz.prog 49 #[.agg #[.int .i64 k, .int .i64 n, .string s, .slice a l c], .pointer (some ⟨b, 0, none⟩)] w fun e w' => e = .returned (.bool (fitsB k n s l)) ∧ Kp w w' := by
  unfold fitsB
  by_cases h0 : k = 0
  · subst h0; exact fits0 n s a l c hl hs b w hT
  by_cases h1 : k = 1
  · subst h1; exact fits1 n s a l c hl hs b w hT
  by_cases h2 : k = 2
  · subst h2; exact fits2 n s a l c hl hs b w hT
  by_cases h3 : k = 3
  · subst h3; exact fits3 n s a l c hl hs b w hT
  simp only [if_neg h0, if_neg h1, if_neg h2, if_neg h3]
  by_cases hk : k < 0
  · exact fitsLow k n s a l c b w hk
  · exact fitsHigh k n s a l c b w (by omega)

end Go.Proofs.YtkfmgafgokpjhaaGreatDoor

/-
  THE WALK OF count's CLOSURE OVER A VALUE, by recursion; count, Size, Check.
-/
namespace Go.Proofs.YtkfmgafgokpjhaaGreatDoor
open Go.RowKit

/-- As it was, but for the one block c (and new ones). -/
structure Bt (c : Nat) (w w' : World) : Prop where
  os : w'.os = w.os
  tape : w'.tape = w.tape
  output : w'.output = w.output
  size : w.heap.size ≤ w'.heap.size
  block : ∀ k, k < w.heap.size → k ≠ c → w'.heap[k]? = w.heap[k]?

theorem Bt.refl (c : Nat) (w : World) : Bt c w w := ⟨rfl, rfl, rfl, Nat.le_refl _, fun _ _ _ => rfl⟩
theorem Bt.trans {c : Nat} {w w1 w2 : World} (h : Bt c w w1) (k : Bt c w1 w2) : Bt c w w2 :=
  ⟨k.os.trans h.os, k.tape.trans h.tape, k.output.trans h.output, Nat.le_trans h.size k.size, fun i hi hc => (k.block i (Nat.lt_of_lt_of_le hi h.size) hc).trans (h.block i hi hc)⟩
theorem Bt.kp {c : Nat} {w w1 : World} (h : Kp w w1) : Bt c w w1 := ⟨h.os, h.tape, h.output, h.size, fun k hk _ => h.block k hk⟩
theorem Bt.set (w : World) (a : Addr) (u : Value) : Bt a.block w (w.setCell a u) := ⟨rfl, rfl, rfl, by simp [World.setCell], fun k _ hc => Below.heap_setCell _ _ _ _ hc⟩
theorem Bt.below {c B : Nat} {w w1 : World} (h : Bt c w w1) (hB : B ≤ c) (hs : B ≤ w.heap.size) : Below B w w1 :=
  ⟨h.os, h.tape, h.output, h.size, fun k hk => h.block k (by omega) (by omega)⟩
theorem Bt.cell {c : Nat} {w w1 : World} (h : Bt c w w1) {p : Addr} {v : Value} (hp : w.cell? p = some v) (hc : p.block ≠ c) : w1.cell? p = some v :=
  (World.cell?_of_block (w := w) (h.block p.block (World.block_lt_of_cell? w p hp) hc)).trans hp

/-- The captured variables of count's closure, from block b on: the tree, most, deepest, fits, parts, n, walk. -/
structure Cnt (w : World) (b tb : Nat) (cn : Nat) : Prop where
  m : w.cell? ⟨b + 1, 0, none⟩ = some (.int .i64 60)
  d : w.cell? ⟨b + 2, 0, none⟩ = some (.int .i64 6)
  f : w.cell? ⟨b + 3, 0, none⟩ = some (.func (.func 49) #[] #[.pointer (some ⟨tb, 0, none⟩)])
  p : w.cell? ⟨b + 4, 0, none⟩ = some (.func (.func 51) #[] #[])
  n : w.heap[b + 5]? = some (.cells #[.int .i64 cn] 3 (0, 0))
  k : w.cell? ⟨b + 6, 0, none⟩ = some (.func (.func 93) #[] #[.pointer (some ⟨b + 5, 0, none⟩), .pointer (some ⟨b + 1, 0, none⟩), .pointer (some ⟨b + 2, 0, none⟩), .pointer (some ⟨b + 3, 0, none⟩), .pointer (some ⟨b + 4, 0, none⟩), .pointer (some ⟨b + 6, 0, none⟩)])
  t : Table w tb
  lt : tb < b

theorem Cnt.bt {w w' : World} {b t n n' : Nat} (h : Cnt w b t n) (k : Bt (b + 5) w w') (hn : w'.heap[b + 5]? = some (.cells #[.int .i64 n'] 3 (0, 0))) : Cnt w' b t n' :=
  have ht := h.lt
  ⟨k.cell h.m (by simp), k.cell h.d (by simp), k.cell h.f (by simp), k.cell h.p (by simp), hn, k.cell h.k (by simp),
   h.t.keep ht (k.below (by omega) (by have := World.block_lt_of_cell? w _ h.m; simp at this; omega)), ht⟩
theorem Cnt.kp {w w' : World} {b t n : Nat} (h : Cnt w b t n) (k : Kp w w') : Cnt w' b t n :=
  h.bt (.kp k) ((k.block _ (lt_of_block h.n)).trans h.n)

mutual
/-- What the closure computes: is the tree fine, and how many nodes have been counted? -/
def V.wk : V → Nat → Nat → Bool × Nat
  | .mk k n s _ _ l, deep, c => if 60 < c + 1 ∨ 6 < deep ∨ fitsB k n s l.length = false then (false, c + 1) else V.wkL l (deep + 1) (c + 1)
def V.wkL : List V → Nat → Nat → Bool × Nat
  | [], _, c => (true, c)
  | x :: xs, d, c => match x.wk d c with
    | (true, c') => V.wkL xs d c'
    | (false, c') => (false, c')
end

theorem V.wkL_snoc (l : List V) (x : V) (d c : Nat) : V.wkL (l ++ [x]) d c = match V.wkL l d c with | (true, c') => x.wk d c' | (false, c') => (false, c') := by
  induction l generalizing c with
  | nil => simp [V.wkL]; cases h : x.wk d c with | mk b c' => cases b <;> simp
  | cons y ys ih =>
    simp only [List.cons_append, V.wkL]
    cases h : y.wk d c with
    | mk b c' => cases b <;> simp [ih]
theorem V.wkL_stop (l m : List V) (d c c' : Nat) (h : V.wkL l d c = (false, c')) : V.wkL (l ++ m) d c = (false, c') := by
  induction l generalizing c with
  | nil => simp [V.wkL] at h
  | cons y ys ih =>
    simp only [List.cons_append, V.wkL] at h ⊢
    cases hy : y.wk d c with
    | mk b c1 => cases b <;> simp [hy] at h ⊢ <;> first | exact h | exact ih _ h
theorem take_snoc' {l : List V} {j : Nat} {x : V} (h : l[j]? = some x) : l.take (j + 1) = l.take j ++ [x] := by
  rw [List.take_add_one, h]; rfl

theorem wk_bound : ∀ (N : Nat) (v : V) (d c : Nat), v.rank ≤ N → c ≤ 60 → (v.wk d c).2 ≤ 61 ∧ ((v.wk d c).1 = true → (v.wk d c).2 ≤ 60) := by
  intro N
  induction N with
  | zero => intro v d c hv; have := v.rank_pos; omega
  | succ N ih =>
    intro v d c hv hc
    cases v with
    | mk k n s a cap l =>
      simp only [V.wk]
      split
      · exact ⟨by simp; omega, by simp⟩
      · rename_i hno
        have key : ∀ (m : List V) (c' : Nat), (∀ x ∈ m, x.rank ≤ N) → c' ≤ 60 → (V.wkL m (d + 1) c').2 ≤ 61 ∧ ((V.wkL m (d + 1) c').1 = true → (V.wkL m (d + 1) c').2 ≤ 60) := by
          intro m
          induction m with
          | nil => intro c' _ h; simp [V.wkL]; omega
          | cons y ys ihm =>
            intro c' hm h
            simp only [V.wkL]
            have h1 := ih y (d + 1) c' (hm y (by simp)) h
            cases hy : y.wk (d + 1) c' with
            | mk b c1 =>
              rw [hy] at h1
              cases b
              · simp at h1 ⊢; exact h1
              · exact ihm c1 (fun x hx => hm x (by simp [hx])) (h1.2 rfl)
        refine key l (c + 1) (fun x hx => ?_) (by omega)
        obtain ⟨j, hj⟩ := List.mem_iff_getElem?.1 hx
        have := V.rank_part (v := .mk k n s a cap l) (j := j) (x := x) hj
        omega

theorem cnt_set {w : World} {b t c : Nat} (h : Cnt w b t c) : Cnt (w.setCell ⟨b + 5, 0, none⟩ (.int .i64 ((c : Int) + 1))) b t (c + 1) ∧ Bt (b + 5) w (w.setCell ⟨b + 5, 0, none⟩ (.int .i64 ((c : Int) + 1))) := by
  have hb := Bt.set w ⟨b + 5, 0, none⟩ (.int .i64 ((c : Int) + 1))
  exact ⟨h.bt hb (by have := one_setCell (u := .int .i64 ((c : Int) + 1)) h.n; simpa using this), hb⟩

theorem cnt_start {w : World} {b t c : Nat} (h : Cnt w b t c) (o : Obj) :
    Cnt ((w.setCell ⟨b + 5, 0, none⟩ (.int .i64 ((c : Int) + 1))).alloc o) b t (c + 1) ∧ Bt (b + 5) w ((w.setCell ⟨b + 5, 0, none⟩ (.int .i64 ((c : Int) + 1))).alloc o) := by
  obtain ⟨h1, h2⟩ := cnt_set h
  exact ⟨h1.kp (ka _ _), h2.trans (.kp (ka _ _))⟩

set_option maxHeartbeats 1000000 in
theorem walkV : ∀ (N : Nat) (k n : Int) (s : ByteArray) (a : Option Addr) (cap : Nat) (l : List V) (deep c : Nat) (w : World) (b t : Nat),
    (V.mk k n s a cap l).rank ≤ N → (V.mk k n s a cap l).In w b → Cnt w b t c → c ≤ 60 → deep ≤ 7 →
    Calls Tryz.prog 93 #[.agg #[.int .i64 k, .int .i64 n, .string s, .slice a l.length cap], .int .i64 deep, .pointer (some ⟨b + 5, 0, none⟩), .pointer (some ⟨b + 1, 0, none⟩), .pointer (some ⟨b + 2, 0, none⟩), .pointer (some ⟨b + 3, 0, none⟩), .pointer (some ⟨b + 4, 0, none⟩), .pointer (some ⟨b + 6, 0, none⟩)] w fun e w' =>
      e = .returned (.bool ((V.mk k n s a cap l).wk deep c).1) ∧ Cnt w' b t ((V.mk k n s a cap l).wk deep c).2 ∧ Bt (b + 5) w w' := by
  intro N
  induction N with
  | zero => intro k n s a cap l deep c w b t h; have := V.rank_pos (V.mk k n s a cap l); omega
  | succ N ih =>
    intro k n s a cap l deep c w b t hN hin hcnt hc hdeep
    have h5 := cell_of_one hcnt.n
    have h5f := free_of_one hcnt.n
    have hm := hcnt.m
    have hd := hcnt.d
    have hf := hcnt.f
    have hp := hcnt.p
    have hk := hcnt.k
    have e5 : b + 5 < w.heap.size := World.block_lt_of_cell? w _ h5
    have em : b + 1 < w.heap.size := World.block_lt_of_cell? w _ hm
    have ed : b + 2 < w.heap.size := World.block_lt_of_cell? w _ hd
    have ef : b + 3 < w.heap.size := World.block_lt_of_cell? w _ hf
    have ep : b + 4 < w.heap.size := World.block_lt_of_cell? w _ hp
    have ek : b + 6 < w.heap.size := World.block_lt_of_cell? w _ hk
    have IH := Lib.hid ih
    clear ih
    have hst := cnt_start hcnt
    have HST := Lib.hid hst
    clear hst
    by_cases c1 : 60 < c + 1
    · have hr : (V.mk k n s a cap l).wk deep c = (false, c + 1) := by simp [V.wk, c1]
      rw [hr]
      clear hr
      have g1 : (60 : Int) < (c : Int) + 1 := by omega
      go_enter Tryz.func93, Tryz.ntmps93
      go_wp2_with fail
      go_ret
      exact ⟨rfl, HST.out _⟩
    by_cases c2 : 6 < deep
    · have hr : (V.mk k n s a cap l).wk deep c = (false, c + 1) := by simp [V.wk, c2]
      rw [hr]
      clear hr
      have g1 : ¬ (60 : Int) < (c : Int) + 1 := by omega
      have g2 : (6 : Int) < (deep : Int) := by omega
      go_enter Tryz.func93, Tryz.ntmps93
      go_wp2_with fail
      go_ret
      exact ⟨rfl, HST.out _⟩
    have hlen : l.length ≤ 9223372036854775807 := by
      rw [V.In_def] at hin; have := hin.2.2.2.1; have := hin.2.2.2.2.1; unfold maxLen at this; simp [V.l, V.cap] at *; omega
    have hsl : s.size ≤ 9223372036854775807 := by
      rw [V.In_def] at hin; have := hin.2.2.1; unfold maxLen at this; simpa [V.s] using this
    have g1 : ¬ (60 : Int) < (c : Int) + 1 := by omega
    have g2 : ¬ (6 : Int) < (deep : Int) := by omega
    by_cases c3 : fitsB k n s l.length = false
    · have hr : (V.mk k n s a cap l).wk deep c = (false, c + 1) := by simp [V.wk, c3]
      rw [hr]
      have fc := fun w1 (ht : Table w1 t) => (fits_any k n s a l.length cap hlen hsl t w1 ht)
      rw [c3] at fc
      have FC := Lib.hid fc
      clear hr fc c3
      go_enter Tryz.func93, Tryz.ntmps93
      go_wp2_with fail
      refine (FC.out _ ((HST.out _).1.t)).mono ?_
      rintro e w1 ⟨rfl, hk1⟩
      go_wp2_with fail
      go_ret
      exact ⟨rfl, (HST.out _).1.kp hk1, (HST.out _).2.trans (.kp hk1)⟩
    · have c3' : fitsB k n s l.length = true := by simpa using c3
      have hr : (V.mk k n s a cap l).wk deep c = V.wkL l (deep + 1) (c + 1) := by simp [V.wk, c1, c2, c3']
      rw [hr]
      have fc := fun w1 (ht : Table w1 t) => (fits_any k n s a l.length cap hlen hsl t w1 ht)
      rw [c3'] at fc
      have FC := Lib.hid fc
      clear hr fc c3 c3'
      go_enter Tryz.func93, Tryz.ntmps93
      go_wp2_with fail
      refine (FC.out _ ((HST.out _).1.t)).mono ?_
      rintro e w1 ⟨rfl, hk1⟩
      have hst1 := (HST.out (.cells #[.int .i64 k, .int .i64 n, .string s, .slice a l.length cap] 24))
      have hp1 := (hst1.1.kp hk1).p
      have hb0 := kc hk1 (p := ⟨w.heap.size, 0, none⟩) (v := .int .i64 k) (by rw [World.cell?_alloc_at _ _ _ _ (by simp)]; rfl)
      have hb1 := kc hk1 (p := ⟨w.heap.size, 1, none⟩) (v := .int .i64 n) (by rw [World.cell?_alloc_at _ _ _ _ (by simp)]; rfl)
      have hb2 := kc hk1 (p := ⟨w.heap.size, 2, none⟩) (v := .string s) (by rw [World.cell?_alloc_at _ _ _ _ (by simp)]; rfl)
      have hb3 := kc hk1 (p := ⟨w.heap.size, 3, none⟩) (v := .slice a l.length cap) (by rw [World.cell?_alloc_at _ _ _ _ (by simp)]; rfl)
      have HC1 := Lib.hid (hst1.1.kp hk1)
      have HB1 := Lib.hid (hst1.2.trans (.kp hk1))
      clear hst1
      go_wp2_with fail
      refine (valueParts_any k n s a l.length cap _).mono ?_
      rintro e w2 ⟨rfl, hk2⟩
      have HC2 := Lib.hid (HC1.out.kp hk2)
      have HB2 := Lib.hid (HB1.out.trans (.kp hk2))
      have hz1 := hk1.size
      have hz2 := hk2.size
      clear hk1 hk2 hb0 hb1 hb2 hb3 hp1
      go_wp2_with fail
      go_loopw [33] (fun i wr => ∃ (j c' : Nat), j ≤ l.length ∧ i = .int .i64 j ∧ V.wkL (l.take j) (deep + 1) (c + 1) = (true, c') ∧ c' ≤ 60 ∧ Cnt wr b t c' ∧ Bt (b + 5) w wr) (fun i _ => l.length - (intOf i).toNat)
      case atStart => exact ⟨0, c + 1, Nat.zero_le _, rfl, by simp [V.wkL], by omega, HC2.out, HB2.out⟩
      case round =>
        obtain ⟨j, c', hj, rfl, hwk, hc', hcr, hbr⟩ := hrel
        have HWK := Lib.hid hwk
        clear hwk
        by_cases hlt : j < l.length
        · obtain ⟨x, hx⟩ : ∃ x, l[j]? = some x := ⟨l[j], by simp [hlt]⟩
          rw [V.In_def] at hin
          obtain ⟨_, _, _, _, _, hat, hparts⟩ := hin
          simp only [V.l, V.a] at hat hparts
          have hrk := V.rank_part (v := .mk k n s a cap l) (j := j) (x := x) hx
          have hxin := V.InL_iff.1 hparts j x hx
          rcases hat with rfl | ⟨b0, off, rfl, hb0, hat⟩
          · simp at hlt
          obtain ⟨q0, q1, q2, q3⟩ := hat j x hx
          have hbl : Below b w wr := hbr.below (by omega) (by omega)
          have hxr := hxin.keep (Nat.le_refl _) hbl
          have r0 := (hbl.cell (p := ⟨b0, _, none⟩) hb0).trans q0
          have r1 := (hbl.cell (p := ⟨b0, _, none⟩) hb0).trans q1
          have r2 := (hbl.cell (p := ⟨b0, _, none⟩) hb0).trans q2
          have r3 := (hbl.cell (p := ⟨b0, _, none⟩) hb0).trans q3
          have hkr := hcr.k
          have ekr : b + 6 < wr.heap.size := World.block_lt_of_cell? wr _ hkr
          cases x with
          | mk k' n' s' a' cap' l' =>
          simp only [V.k, V.n, V.s, V.a, V.l, V.cap] at r0 r1 r2 r3
          have hih := IH.out k' n' s' a' cap' l' (deep + 1) c' (wr.alloc (.cells #[.int .i64 k', .int .i64 n', .string s', .slice a' l'.length cap'] 24)) b t (by omega) (hxr.keep (Nat.le_refl _) ((ka _ _).mono (by omega))) (hcr.kp (ka _ _)) hc' (by omega)
          have hwb := wk_bound N (.mk k' n' s' a' cap' l') (deep + 1) c' (by omega) hc'
          rw [show (((deep + 1 : Nat)) : Int) = (deep : Int) + 1 from by omega] at hih
          cases hw : (V.mk k' n' s' a' cap' l').wk (deep + 1) c' with
          | mk r c2 =>
          rw [hw] at hih hwb
          simp only at hih hwb
          have HW := Lib.hid hw
          have HWB := Lib.hid hwb
          clear hw hwb
          have HIH := Lib.hid hih
          have HCR := Lib.hid hcr
          have HBR := Lib.hid hbr
          have HX := Lib.hid hx
          clear hih hcr hbr hx hxin hxr hparts hat q0 q1 q2 q3 hbl
          go_wp2_with fail
          refine HIH.out.mono ?_
          rintro e w3 ⟨rfl, hc3, hb3⟩
          have HC3 := Lib.hid hc3
          have HB3 := Lib.hid (HBR.out.trans ((Bt.kp (ka _ _)).trans hb3))
          clear hc3 hb3
          cases r
          · go_wp2_with fail
            have hs2 : V.wkL l (deep + 1) (c + 1) = (false, c2) := by
              have e1 : V.wkL (l.take (j + 1)) (deep + 1) (c + 1) = (false, c2) := by rw [take_snoc' HX.out, V.wkL_snoc, HWK.out]; exact HW.out
              have := V.wkL_stop (l.take (j + 1)) (l.drop (j + 1)) _ _ _ e1
              rwa [List.take_append_drop] at this
            go_ret
            rw [hs2]
            exact ⟨rfl, HC3.out, HB3.out⟩
          · go_wp2_with fail
            go_roundw
            case rel => exact ⟨j + 1, c2, by omega, by go_num, by rw [take_snoc' HX.out, V.wkL_snoc, HWK.out]; exact HW.out, HWB.out.2 trivial, HC3.out, HB3.out⟩
            case measure => simp [intOf]; omega
        · have hjl : j = l.length := by omega
          subst hjl
          have hs2 : V.wkL l (deep + 1) (c + 1) = (true, c') := by have := HWK.out; rwa [List.take_length] at this
          have HS2 := Lib.hid hs2
          have HCR := Lib.hid hcr
          have HBR := Lib.hid hbr
          clear hs2 hcr hbr
          go_wp2_with fail
          go_ret
          rw [HS2.out]
          exact ⟨rfl, HCR.out, HBR.out⟩

end Go.Proofs.YtkfmgafgokpjhaaGreatDoor

/-
  count, Size, Check OF A VALUE.
-/
namespace Go.Proofs.YtkfmgafgokpjhaaGreatDoor
open Go.RowKit

/-- How many nodes a value has; 0: it is not valid. -/
def V.cnt (v : V) : Nat := if (v.wk 1 0).1 then (v.wk 1 0).2 else 0

theorem V.cnt_le (v : V) : v.cnt ≤ 60 := by
  unfold V.cnt
  split
  · rename_i h; exact (wk_bound v.rank v 1 0 (Nat.le_refl _) (by omega)).2 h
  · omega

/-- The world in which count calls its closure first. -/
abbrev cntW (w : World) (cs : Array Value) (t : Nat) : World :=
  ((((((w.alloc (.cells cs 24)).alloc (.cells #[.int .i64 60] 3)).alloc (.cells #[.int .i64 6] 3)).alloc (.cells #[.func (.func 49) #[] #[.pointer (some ⟨t, 0, none⟩)]] 74)).alloc
    (.cells #[.func (.func 51) #[] #[]] 76)).alloc (.cells #[.int .i64 0] 3)).alloc
    (.cells #[.func (.func 93) #[] #[.pointer (some ⟨w.heap.size + 1 + 1 + 1 + 1 + 1, 0, none⟩), .pointer (some ⟨w.heap.size + 1, 0, none⟩), .pointer (some ⟨w.heap.size + 1 + 1, 0, none⟩), .pointer (some ⟨w.heap.size + 1 + 1 + 1, 0, none⟩), .pointer (some ⟨w.heap.size + 1 + 1 + 1 + 1, 0, none⟩), .pointer (some ⟨w.heap.size + 1 + 1 + 1 + 1 + 1 + 1, 0, none⟩)]] 116)

theorem cntW_kp (w : World) (cs : Array Value) (t : Nat) : Kp w (cntW w cs t) :=
  kk (kk (kk (kk (kk (kk (ka _ _) (ka _ _)) (ka _ _)) (ka _ _)) (ka _ _)) (ka _ _)) (ka _ _)

theorem past {w : World} {o : Obj} {b i : Nat} {v : Value} (h : w.cell? ⟨b, i, none⟩ = some v) : (w.alloc o).cell? ⟨b, i, none⟩ = some v :=
  (World.cell?_alloc_past _ _ _ (World.block_lt_of_cell? w _ h)).trans h
theorem here {w : World} {c : Array Value} {t b i : Nat} {v : Value} (hb : b = w.heap.size) (h : c[i]? = some v) : (w.alloc (.cells c t)).cell? ⟨b, i, none⟩ = some v :=
  (World.cell?_alloc_at _ _ _ _ hb).trans h

theorem blockPast {w : World} {o o' : Obj} {b : Nat} (h : w.heap[b]? = some o') : (w.alloc o).heap[b]? = some o' := (Below.heap_alloc _ _ _ (lt_of_block h)).trans h
theorem blockHere {w : World} {o : Obj} {b : Nat} (hb : b = w.heap.size) : (w.alloc o).heap[b]? = some o := by
  subst hb
  show (w.heap.push o)[w.heap.size]? = _
  simp

theorem cntW_cnt {w : World} {cs : Array Value} {t : Nat} (ht : Table w t) : Cnt (cntW w cs t) w.heap.size t 0 where
  m := past (past (past (past (past (here (by simp) rfl)))))
  d := past (past (past (past (here (by simp) rfl))))
  f := past (past (past (here (by simp) rfl)))
  p := past (past (here (by simp) rfl))
  n := blockPast (blockHere (by simp))
  k := here (by simp) rfl
  t := ht.keep (World.block_lt_of_cell? w _ ht.c0) (cntW_kp w cs t)
  lt := World.block_lt_of_cell? w _ ht.c0

set_option maxHeartbeats 1000000 in
theorem countV (k n : Int) (s : ByteArray) (a : Option Addr) (cap : Nat) (l : List V) (w : World) (t : Nat) (hin : (V.mk k n s a cap l).In w w.heap.size) (ht : Table w t) :
    Calls Tryz.prog 50 #[.agg #[.int .i64 k, .int .i64 n, .string s, .slice a l.length cap], .int .i64 60, .int .i64 6, .func (.func 49) #[] #[.pointer (some ⟨t, 0, none⟩)], .func (.func 51) #[] #[]] w fun e w' =>
      e = .returned (.int .i64 (V.mk k n s a cap l).cnt) ∧ Kp w w' := by
  have htl : t < w.heap.size := World.block_lt_of_cell? w _ ht.c0
  have hW := cntW_kp w #[.int .i64 k, .int .i64 n, .string s, .slice a l.length cap] t
  have H := walkV _ k n s a cap l 1 0 (cntW w #[.int .i64 k, .int .i64 n, .string s, .slice a l.length cap] t) w.heap.size t (Nat.le_refl _) (hin.keep (Nat.le_refl _) hW) (cntW_cnt ht) (by omega) (by omega)
  unfold V.cnt
  cases hw : (V.mk k n s a cap l).wk 1 0 with
  | mk r c =>
  rw [hw] at H
  have HH := Lib.hid H
  have HK := Lib.hid hW
  clear H hw hW hin
  go_enter Tryz.func50, Tryz.ntmps50
  go_wp2_with fail
  refine HH.out.mono ?_
  rintro e w1 ⟨rfl, hc, hb⟩
  have HB := Lib.hid (HK.out.trans (hb.below (by omega) (by simp; omega)))
  have h5 := cell_of_one hc.n
  clear hc hb
  cases r
  · go_wp2_with fail
    go_ret
    exact ⟨rfl, HB.out⟩
  · go_wp2_with fail
    go_ret
    exact ⟨rfl, HB.out⟩

theorem box4 {w w1 : World} {c0 c1 c2 c3 : Value} {t : Nat} (hk : Kp (w.alloc (.cells #[c0, c1, c2, c3] t)) w1) :
    w1.cell? ⟨w.heap.size, 0, none⟩ = some c0 ∧ w1.cell? ⟨w.heap.size, 1, none⟩ = some c1 ∧ w1.cell? ⟨w.heap.size, 2, none⟩ = some c2 ∧ w1.cell? ⟨w.heap.size, 3, none⟩ = some c3 ∧ w.heap.size < w1.heap.size :=
  ⟨kc hk (here rfl rfl), kc hk (here rfl rfl), kc hk (here rfl rfl), kc hk (here rfl rfl), by have := hk.size; simp at this; omega⟩
theorem box2 {w w1 : World} {c0 c1 : Value} {t : Nat} (hk : Kp (w.alloc (.cells #[c0, c1] t)) w1) :
    w1.cell? ⟨w.heap.size, 0, none⟩ = some c0 ∧ w1.cell? ⟨w.heap.size, 1, none⟩ = some c1 ∧ w.heap.size < w1.heap.size :=
  ⟨kc hk (here rfl rfl), kc hk (here rfl rfl), by have := hk.size; simp at this; omega⟩

/-- The array of the kinds. -/
abbrev kindsA : Array Value := #[.func (.func 85) #[] #[], .func (.func 86) #[] #[], .func (.func 87) #[] #[], .func (.func 88) #[] #[], .func (.func 89) #[] #[], .func (.func 90) #[] #[], .func (.func 91) #[] #[], .func (.func 92) #[] #[]]
theorem tableHere (w : World) (t : Nat) : Table (w.alloc (.cells kindsA t)) w.heap.size :=
  ⟨here rfl rfl, here rfl rfl, here rfl rfl, here rfl rfl, here rfl rfl, here rfl rfl, here rfl rfl, here rfl rfl⟩

/-- The error of a count: ErrArg, or OK. -/
def bad (c : Nat) : Int := if c = 0 then 1 else 0

set_option maxHeartbeats 1000000 in
theorem sizeV (k n : Int) (s : ByteArray) (a : Option Addr) (cap : Nat) (l : List V) (w : World) (hin : (V.mk k n s a cap l).In w w.heap.size) :
    Calls Tryz.prog 13 #[.agg #[.int .i64 k, .int .i64 n, .string s, .slice a l.length cap]] w fun e w' =>
      e = .returned (.tuple #[.int .i64 (V.mk k n s a cap l).cnt, .int .i64 (bad (V.mk k n s a cap l).cnt)]) ∧ Kp w w' := by
  have C := fun w1 t hin ht => countV k n s a cap l w1 t hin ht
  generalize (V.mk k n s a cap l).cnt = c at C ⊢
  have CC := Lib.hid C
  have HIN := Lib.hid hin
  clear hin C
  rcases Nat.eq_zero_or_pos c with rfl | hpos
  · rw [show bad 0 = 1 from rfl]
    go_enter Tryz.func13, Tryz.ntmps13
    go_wp2_with fail
    refine (kinds_any _).mono ?_
    rintro e w1 ⟨rfl, hk⟩
    obtain ⟨b0, b1, b2, b3, hz⟩ := box4 hk
    have HK := Lib.hid (kk (ka _ _) hk)
    clear hk
    go_wp2_with fail
    refine (CC.out (w1.alloc (.cells kindsA 71)) w1.heap.size (HIN.out.keep (by simp; omega) (kk HK.out (ka _ _))) (tableHere _ _)).mono ?_
    rintro e w2 ⟨rfl, hk2⟩
    have HK2 := Lib.hid (kk HK.out (kk (ka _ _) hk2))
    clear hk2 b0 b1 b2 b3 hz
    go_wp2_with fail
    go_ret2
    exact ⟨rfl, HK2.out⟩
  · have h1 : ((c : Int) == 0) = false := by simp; omega
    have hb : bad c = 0 := if_neg (by omega)
    rw [hb]
    clear hb
    go_enter Tryz.func13, Tryz.ntmps13
    go_wp2_with fail
    refine (kinds_any _).mono ?_
    rintro e w1 ⟨rfl, hk⟩
    obtain ⟨b0, b1, b2, b3, hz⟩ := box4 hk
    have HK := Lib.hid (kk (ka _ _) hk)
    clear hk
    go_wp2_with fail
    refine (CC.out (w1.alloc (.cells kindsA 71)) w1.heap.size (HIN.out.keep (by simp; omega) (kk HK.out (ka _ _))) (tableHere _ _)).mono ?_
    rintro e w2 ⟨rfl, hk2⟩
    have HK2 := Lib.hid (kk HK.out (kk (ka _ _) hk2))
    clear hk2 b0 b1 b2 b3 hz
    go_wp2_with fail
    go_ret2
    exact ⟨rfl, HK2.out⟩

set_option maxHeartbeats 1000000 in
theorem checkV (k n : Int) (s : ByteArray) (a : Option Addr) (cap : Nat) (l : List V) (w : World) (hin : (V.mk k n s a cap l).In w w.heap.size) :
    Calls Tryz.prog 19 #[.agg #[.int .i64 k, .int .i64 n, .string s, .slice a l.length cap]] w fun e w' =>
      e = .returned (.int .i64 (bad (V.mk k n s a cap l).cnt)) ∧ Kp w w' := by
  have C := fun w1 hin => sizeV k n s a cap l w1 hin
  generalize (V.mk k n s a cap l).cnt = c at C ⊢
  generalize bad c = d at C ⊢
  have CC := Lib.hid C
  have HIN := Lib.hid hin
  clear hin C
  go_enter Tryz.func19, Tryz.ntmps19
  go_wp2_with fail
  refine (CC.out _ (HIN.out.keep (by simp) (ka _ _))).mono ?_
  rintro e w1 ⟨rfl, hk⟩
  have HK := Lib.hid (kk (ka _ _) hk)
  clear hk
  go_wp2_with fail
  go_ret
  exact ⟨rfl, HK.out⟩

end Go.Proofs.YtkfmgafgokpjhaaGreatDoor

/-
  PLAIN MATHEMATICS, no Go: a type as a tree (T), as Vals has it of a value.
-/
namespace Go.Proofs.YtkfmgafgokpjhaaGreatDoor
open Go.RowKit

/-- A type: kind; its parts, and where they lie (a, cap). -/
inductive T where
  | mk (k : Int) (a : Option Addr) (cap : Nat) (l : List T)
deriving Inhabited

def T.k : T → Int | .mk k _ _ _ => k
def T.a : T → Option Addr | .mk _ a _ _ => a
def T.cap : T → Nat | .mk _ _ c _ => c
def T.l : T → List T | .mk _ _ _ l => l

/-- The Go value. -/
def T.val (v : T) : Value := .agg #[.int .i64 v.k, .slice v.a v.l.length v.cap]

/-- What is at a place of memory: the parts of a list, two cells each. -/
def AtT (w : World) (b off : Nat) (l : List T) : Prop :=
  ∀ (j : Nat) (x : T), l[j]? = some x → w.cell? ⟨b, off + j * 2, none⟩ = some (.int .i64 x.k) ∧ w.cell? ⟨b, off + j * 2 + 1, none⟩ = some (.slice x.a x.l.length x.cap)

mutual
/-- Memory holds a value, all of it below block B. -/
def T.In (w : World) (B : Nat) : T → Prop
  | .mk k a cap l => I64 k ∧ l.length ≤ cap ∧ cap ≤ maxLen ∧ (l = [] ∨ ∃ b off, a = some ⟨b, off, none⟩ ∧ b < B ∧ AtT w b off l) ∧ T.InL w B l
def T.InL (w : World) (B : Nat) : List T → Prop
  | [] => True
  | x :: xs => x.In w B ∧ T.InL w B xs
end

theorem T.In_def (w : World) (B : Nat) (v : T) : v.In w B ↔ I64 v.k ∧ v.l.length ≤ v.cap ∧ v.cap ≤ maxLen ∧ (v.l = [] ∨ ∃ b off, v.a = some ⟨b, off, none⟩ ∧ b < B ∧ AtT w b off v.l) ∧ T.InL w B v.l := by
  cases v; simp [T.In, T.k, T.a, T.cap, T.l]

theorem T.InL_iff {w : World} {B : Nat} {l : List T} : T.InL w B l ↔ ∀ (j : Nat) (x : T), l[j]? = some x → x.In w B := by
  induction l with
  | nil => simp [T.InL]
  | cons y ys ih =>
    simp only [T.InL, ih]
    constructor
    · rintro ⟨h1, h2⟩ j x hj
      cases j with
      | zero => simp at hj; exact hj ▸ h1
      | succ j => exact h2 j x (by simpa using hj)
    · intro h
      exact ⟨h 0 y (by simp), fun j x hj => h (j + 1) x (by simpa using hj)⟩

/-- How many nodes: for inductions. -/
def T.rank : T → Nat
  | .mk _ _ _ l => 1 + ranks l
where ranks : List T → Nat
  | [] => 0
  | x :: xs => x.rank + ranks xs

theorem T.rank_pos (v : T) : 0 < v.rank := by cases v; simp [T.rank]; omega
theorem T.ranks_mem {l : List T} {j : Nat} {x : T} (h : l[j]? = some x) : x.rank ≤ T.rank.ranks l := by
  induction l generalizing j with
  | nil => simp at h
  | cons y ys ih =>
    cases j with
    | zero => simp at h; subst h; simp [T.rank.ranks]
    | succ j => have := ih (j := j) (by simpa using h); simp [T.rank.ranks]; omega
theorem T.rank_part {v : T} {j : Nat} {x : T} (h : v.l[j]? = some x) : x.rank < v.rank := by
  have := T.ranks_mem h
  cases v; simp [T.rank, T.l] at *; omega

/-- What memory holds is still held where the blocks below B are as they were. -/
theorem AtT.below {w w' : World} {B b off : Nat} {l : List T} (h : AtT w b off l) (hb : b < B) (k : Below B w w') : AtT w' b off l := fun j x hj => by
  obtain ⟨h0, h1⟩ := h j x hj
  exact ⟨(k.cell (p := ⟨b, _, none⟩) hb).trans h0, (k.cell (p := ⟨b, _, none⟩) hb).trans h1⟩

theorem T.In.below {w w' : World} {B C : Nat} (hC : B ≤ C) (k : Below B w w') : ∀ (N : Nat) (v : T), v.rank ≤ N → v.In w B → v.In w' C := by
  intro N
  induction N with
  | zero => intro v hv; have := v.rank_pos; omega
  | succ N ih =>
    intro v hv h
    rw [T.In_def] at h ⊢
    obtain ⟨h1, h4, h5, h6, h7⟩ := h
    refine ⟨h1, h4, h5, ?_, ?_⟩
    · rcases h6 with h6 | ⟨b, off, ha, hb, hat⟩
      · exact .inl h6
      · exact .inr ⟨b, off, ha, by omega, hat.below hb k⟩
    · rw [T.InL_iff] at h7 ⊢
      intro j x hj
      exact ih x (by have := T.rank_part hj; omega) (h7 j x hj)

theorem T.In.keep {w w' : World} {B C : Nat} {v : T} (h : v.In w B) (hC : B ≤ C) (k : Below B w w') : v.In w' C := T.In.below hC k v.rank v (Nat.le_refl _) h

theorem T.val_mk (k : Int) (a : Option Addr) (cap : Nat) (l : List T) : (T.mk k a cap l).val = .agg #[.int .i64 k, .slice a l.length cap] := rfl

/-- The parts of a list that lies in memory. -/
theorem T.atPart {w : World} {B : Nat} {k : Int} {a : Option Addr} {cap : Nat} {l : List T} (hin : (T.mk k a cap l).In w B) {j : Nat} {x : T} (hx : l[j]? = some x) :
    ∃ b0 off, a = some ⟨b0, off, none⟩ ∧ b0 < B ∧ w.cell? ⟨b0, off + j * 2, none⟩ = some (.int .i64 x.k) ∧ w.cell? ⟨b0, off + j * 2 + 1, none⟩ = some (.slice x.a x.l.length x.cap) ∧ x.In w B := by
  rw [T.In_def] at hin
  obtain ⟨_, _, _, hat, hparts⟩ := hin
  simp only [T.l, T.a] at hat hparts
  have hxin := T.InL_iff.1 hparts j x hx
  rcases hat with rfl | ⟨b0, off, rfl, hb0, hat⟩
  · simp at hx
  · obtain ⟨q0, q1⟩ := hat j x hx
    exact ⟨b0, off, rfl, hb0, q0, q1, hxin⟩

theorem T.lenLe {w : World} {B : Nat} {k : Int} {a : Option Addr} {cap : Nat} {l : List T} (hin : (T.mk k a cap l).In w B) : l.length ≤ 9223372036854775807 := by
  rw [T.In_def] at hin; have := hin.2.1; have := hin.2.2.1; unfold maxLen at this; simp [T.l, T.cap] at *; omega

end Go.Proofs.YtkfmgafgokpjhaaGreatDoor

/-
  THE WALK OF count's CLOSURE OVER A TYPE, by recursion.
-/
namespace Go.Proofs.YtkfmgafgokpjhaaGreatDoor
open Go.RowKit

/-- The captured variables of count's closure, from block b on: the tree, most, deepest, fits, parts, n, walk. -/
structure CntT (w : World) (b : Nat) (cn : Nat) : Prop where
  m : w.cell? ⟨b + 1, 0, none⟩ = some (.int .i64 40)
  d : w.cell? ⟨b + 2, 0, none⟩ = some (.int .i64 6)
  f : w.cell? ⟨b + 3, 0, none⟩ = some (.func (.func 58) #[] #[])
  p : w.cell? ⟨b + 4, 0, none⟩ = some (.func (.func 59) #[] #[])
  n : w.heap[b + 5]? = some (.cells #[.int .i64 cn] 3 (0, 0))
  k : w.cell? ⟨b + 6, 0, none⟩ = some (.func (.func 98) #[] #[.pointer (some ⟨b + 5, 0, none⟩), .pointer (some ⟨b + 1, 0, none⟩), .pointer (some ⟨b + 2, 0, none⟩), .pointer (some ⟨b + 3, 0, none⟩), .pointer (some ⟨b + 4, 0, none⟩), .pointer (some ⟨b + 6, 0, none⟩)])
  lt : b + 6 < w.heap.size

theorem CntT.bt {w w' : World} {b n n' : Nat} (h : CntT w b n) (k : Bt (b + 5) w w') (hn : w'.heap[b + 5]? = some (.cells #[.int .i64 n'] 3 (0, 0))) : CntT w' b n' :=
  have ht := h.lt
  ⟨k.cell h.m (by simp), k.cell h.d (by simp), k.cell h.f (by simp), k.cell h.p (by simp), hn, k.cell h.k (by simp), Nat.lt_of_lt_of_le ht k.size⟩
theorem CntT.kp {w w' : World} {b n : Nat} (h : CntT w b n) (k : Kp w w') : CntT w' b n :=
  h.bt (.kp k) ((k.block _ (lt_of_block h.n)).trans h.n)

/-- Do a type's own fields fit its kind? -/
def fitsT (k : Int) (len : Nat) : Bool :=
  if k = 0 ∨ k = 1 then decide (len = 0) else if k = 2 then decide (len ≤ 8) else if k = 3 then decide (0 < len ∧ len ≤ 8) else false

set_option maxHeartbeats 1000000 in
theorem typeFits_any (k : Int) (a : Option Addr) (l c : Nat) (hl : l ≤ 9223372036854775807) (w : World) :
    Calls Tryz.prog 58 #[.agg #[.int .i64 k, .slice a l c]] w fun e w' => e = .returned (.bool (fitsT k l)) ∧ Kp w w' := by
  by_cases h0 : k = 0
  · subst h0
    go_enter Tryz.func58, Tryz.ntmps58
    go_wp2
    all_goals go_ret
    all_goals refine ⟨?_, ka _ _⟩
    all_goals (simp [fitsT]; rw [Bool.eq_iff_iff]; simp; try omega)
  by_cases h1 : k = 1
  · subst h1
    go_enter Tryz.func58, Tryz.ntmps58
    go_wp2
    all_goals go_ret
    all_goals refine ⟨?_, ka _ _⟩
    all_goals (simp [fitsT]; rw [Bool.eq_iff_iff]; simp; try omega)
  by_cases h2 : k = 2
  · subst h2
    go_enter Tryz.func58, Tryz.ntmps58
    go_wp2
    all_goals go_ret
    all_goals refine ⟨?_, ka _ _⟩
    all_goals (simp [fitsT]; try omega)
  by_cases h3 : k = 3
  · subst h3
    by_cases hp : 0 < l
    · have hr : fitsT 3 l = decide (l ≤ 8) := by simp [fitsT, hp]
      rw [hr]
      clear hr
      have hp' : (0 : Int) < (l : Int) := by omega
      go_enter Tryz.func58, Tryz.ntmps58
      go_wp2
      all_goals go_ret
      all_goals refine ⟨?_, ka _ _⟩
      all_goals (simp; try omega)
    · have hr : fitsT 3 l = false := by simp [fitsT]; omega
      rw [hr]
      clear hr
      have hp' : ¬ (0 : Int) < (l : Int) := by omega
      go_enter Tryz.func58, Tryz.ntmps58
      go_wp2
      all_goals go_ret
      all_goals exact ⟨rfl, ka _ _⟩
  have hr : fitsT k l = false := by simp [fitsT, h0, h1, h2, h3]
  rw [hr]
  clear hr
  have g0 : (k == 0) = false := by simpa using h0
  have g1 : (k == 1) = false := by simpa using h1
  have g2 : (k == 2) = false := by simpa using h2
  have g3 : (k == 3) = false := by simpa using h3
  clear h0 h1 h2 h3
  go_enter Tryz.func58, Tryz.ntmps58
  go_wp2
  all_goals go_ret
  all_goals exact ⟨rfl, ka _ _⟩

set_option maxHeartbeats 400000 in
theorem typeParts_any (k : Int) (a : Option Addr) (l c : Nat) (w : World) :
    Calls Tryz.prog 59 #[.agg #[.int .i64 k, .slice a l c]] w fun e w' => e = .returned (.slice a l c) ∧ Kp w w' := by
  go_enter Tryz.func59, Tryz.ntmps59
  go_wp2
  all_goals go_ret
  all_goals exact ⟨rfl, ka _ _⟩

mutual
/-- What the closure computes: is the tree fine, and how many nodes have been counted? -/
def T.wk : T → Nat → Nat → Bool × Nat
  | .mk k _ _ l, deep, c => if 40 < c + 1 ∨ 6 < deep ∨ fitsT k l.length = false then (false, c + 1) else T.wkL l (deep + 1) (c + 1)
def T.wkL : List T → Nat → Nat → Bool × Nat
  | [], _, c => (true, c)
  | x :: xs, d, c => match x.wk d c with
    | (true, c') => T.wkL xs d c'
    | (false, c') => (false, c')
end

theorem T.wkL_snoc (l : List T) (x : T) (d c : Nat) : T.wkL (l ++ [x]) d c = match T.wkL l d c with | (true, c') => x.wk d c' | (false, c') => (false, c') := by
  induction l generalizing c with
  | nil => simp [T.wkL]; cases h : x.wk d c with | mk b c' => cases b <;> simp
  | cons y ys ih =>
    simp only [List.cons_append, T.wkL]
    cases h : y.wk d c with
    | mk b c' => cases b <;> simp [ih]
theorem T.wkL_stop (l m : List T) (d c c' : Nat) (h : T.wkL l d c = (false, c')) : T.wkL (l ++ m) d c = (false, c') := by
  induction l generalizing c with
  | nil => simp [T.wkL] at h
  | cons y ys ih =>
    simp only [List.cons_append, T.wkL] at h ⊢
    cases hy : y.wk d c with
    | mk b c1 => cases b <;> simp [hy] at h ⊢ <;> first | exact h | exact ih _ h
theorem take_snocT {l : List T} {j : Nat} {x : T} (h : l[j]? = some x) : l.take (j + 1) = l.take j ++ [x] := by
  rw [List.take_add_one, h]; rfl

theorem wk_boundT : ∀ (N : Nat) (v : T) (d c : Nat), v.rank ≤ N → c ≤ 40 → (v.wk d c).2 ≤ 41 ∧ ((v.wk d c).1 = true → (v.wk d c).2 ≤ 40) := by
  intro N
  induction N with
  | zero => intro v d c hv; have := v.rank_pos; omega
  | succ N ih =>
    intro v d c hv hc
    cases v with
    | mk k a cap l =>
      simp only [T.wk]
      split
      · exact ⟨by simp; omega, by simp⟩
      · rename_i hno
        have key : ∀ (m : List T) (c' : Nat), (∀ x ∈ m, x.rank ≤ N) → c' ≤ 40 → (T.wkL m (d + 1) c').2 ≤ 41 ∧ ((T.wkL m (d + 1) c').1 = true → (T.wkL m (d + 1) c').2 ≤ 40) := by
          intro m
          induction m with
          | nil => intro c' _ h; simp [T.wkL]; omega
          | cons y ys ihm =>
            intro c' hm h
            simp only [T.wkL]
            have h1 := ih y (d + 1) c' (hm y (by simp)) h
            cases hy : y.wk (d + 1) c' with
            | mk b c1 =>
              rw [hy] at h1
              cases b
              · simp at h1 ⊢; exact h1
              · exact ihm c1 (fun x hx => hm x (by simp [hx])) (h1.2 rfl)
        refine key l (c + 1) (fun x hx => ?_) (by omega)
        obtain ⟨j, hj⟩ := List.mem_iff_getElem?.1 hx
        have := T.rank_part (v := .mk k a cap l) (j := j) (x := x) hj
        omega

theorem cnt_setT {w : World} {b c : Nat} (h : CntT w b c) : CntT (w.setCell ⟨b + 5, 0, none⟩ (.int .i64 ((c : Int) + 1))) b (c + 1) ∧ Bt (b + 5) w (w.setCell ⟨b + 5, 0, none⟩ (.int .i64 ((c : Int) + 1))) := by
  have hb := Bt.set w ⟨b + 5, 0, none⟩ (.int .i64 ((c : Int) + 1))
  exact ⟨h.bt hb (by have := one_setCell (u := .int .i64 ((c : Int) + 1)) h.n; simpa using this), hb⟩

theorem cnt_startT {w : World} {b c : Nat} (h : CntT w b c) (o : Obj) :
    CntT ((w.setCell ⟨b + 5, 0, none⟩ (.int .i64 ((c : Int) + 1))).alloc o) b (c + 1) ∧ Bt (b + 5) w ((w.setCell ⟨b + 5, 0, none⟩ (.int .i64 ((c : Int) + 1))).alloc o) := by
  obtain ⟨h1, h2⟩ := cnt_setT h
  exact ⟨h1.kp (ka _ _), h2.trans (.kp (ka _ _))⟩

set_option maxHeartbeats 1000000 in
theorem walkT : ∀ (N : Nat) (k : Int) (a : Option Addr) (cap : Nat) (l : List T) (deep c : Nat) (w : World) (b : Nat),
    (T.mk k a cap l).rank ≤ N → (T.mk k a cap l).In w b → CntT w b c → c ≤ 40 → deep ≤ 7 →
    Calls Tryz.prog 98 #[.agg #[.int .i64 k, .slice a l.length cap], .int .i64 deep, .pointer (some ⟨b + 5, 0, none⟩), .pointer (some ⟨b + 1, 0, none⟩), .pointer (some ⟨b + 2, 0, none⟩), .pointer (some ⟨b + 3, 0, none⟩), .pointer (some ⟨b + 4, 0, none⟩), .pointer (some ⟨b + 6, 0, none⟩)] w fun e w' =>
      e = .returned (.bool ((T.mk k a cap l).wk deep c).1) ∧ CntT w' b ((T.mk k a cap l).wk deep c).2 ∧ Bt (b + 5) w w' := by
  intro N
  induction N with
  | zero => intro k a cap l deep c w b h; have := T.rank_pos (T.mk k a cap l); omega
  | succ N ih =>
    intro k a cap l deep c w b hN hin hcnt hc hdeep
    have h5 := cell_of_one hcnt.n
    have h5f := free_of_one hcnt.n
    have hm := hcnt.m
    have hd := hcnt.d
    have hf := hcnt.f
    have hp := hcnt.p
    have hk := hcnt.k
    have e5 : b + 5 < w.heap.size := World.block_lt_of_cell? w _ h5
    have em : b + 1 < w.heap.size := World.block_lt_of_cell? w _ hm
    have ed : b + 2 < w.heap.size := World.block_lt_of_cell? w _ hd
    have ef : b + 3 < w.heap.size := World.block_lt_of_cell? w _ hf
    have ep : b + 4 < w.heap.size := World.block_lt_of_cell? w _ hp
    have ek : b + 6 < w.heap.size := World.block_lt_of_cell? w _ hk
    have IH := Lib.hid ih
    clear ih
    have hst := cnt_startT hcnt
    have HST := Lib.hid hst
    clear hst
    by_cases c1 : 40 < c + 1
    · have hr : (T.mk k a cap l).wk deep c = (false, c + 1) := by simp [T.wk, c1]
      rw [hr]
      clear hr
      have g1 : (40 : Int) < (c : Int) + 1 := by omega
      go_enter Tryz.func98, Tryz.ntmps98
      go_wp2_with fail
      go_ret
      exact ⟨rfl, HST.out _⟩
    by_cases c2 : 6 < deep
    · have hr : (T.mk k a cap l).wk deep c = (false, c + 1) := by simp [T.wk, c2]
      rw [hr]
      clear hr
      have g1 : ¬ (40 : Int) < (c : Int) + 1 := by omega
      have g2 : (6 : Int) < (deep : Int) := by omega
      go_enter Tryz.func98, Tryz.ntmps98
      go_wp2_with fail
      go_ret
      exact ⟨rfl, HST.out _⟩
    have hlen := T.lenLe hin
    have g1 : ¬ (40 : Int) < (c : Int) + 1 := by omega
    have g2 : ¬ (6 : Int) < (deep : Int) := by omega
    by_cases c3 : fitsT k l.length = false
    · have hr : (T.mk k a cap l).wk deep c = (false, c + 1) := by simp [T.wk, c3]
      rw [hr]
      have fc := fun w1 => (typeFits_any k a l.length cap hlen w1)
      rw [c3] at fc
      have FC := Lib.hid fc
      clear hr fc c3
      go_enter Tryz.func98, Tryz.ntmps98
      go_wp2_with fail
      refine (FC.out _).mono ?_
      rintro e w1 ⟨rfl, hk1⟩
      go_wp2_with fail
      go_ret
      exact ⟨rfl, (HST.out _).1.kp hk1, (HST.out _).2.trans (.kp hk1)⟩
    · have c3' : fitsT k l.length = true := by simpa using c3
      have hr : (T.mk k a cap l).wk deep c = T.wkL l (deep + 1) (c + 1) := by simp [T.wk, c1, c2, c3']
      rw [hr]
      have fc := fun w1 => (typeFits_any k a l.length cap hlen w1)
      rw [c3'] at fc
      have FC := Lib.hid fc
      clear hr fc c3 c3'
      go_enter Tryz.func98, Tryz.ntmps98
      go_wp2_with fail
      refine (FC.out _).mono ?_
      rintro e w1 ⟨rfl, hk1⟩
      have hst1 := (HST.out (.cells #[.int .i64 k, .slice a l.length cap] 27))
      have hp1 := (hst1.1.kp hk1).p
      have hb0 := kc hk1 (p := ⟨w.heap.size, 0, none⟩) (v := .int .i64 k) (by rw [World.cell?_alloc_at _ _ _ _ (by simp)]; rfl)
      have hb1 := kc hk1 (p := ⟨w.heap.size, 1, none⟩) (v := .slice a l.length cap) (by rw [World.cell?_alloc_at _ _ _ _ (by simp)]; rfl)
      have HC1 := Lib.hid (hst1.1.kp hk1)
      have HB1 := Lib.hid (hst1.2.trans (.kp hk1))
      clear hst1
      go_wp2_with fail
      refine (typeParts_any k a l.length cap _).mono ?_
      rintro e w2 ⟨rfl, hk2⟩
      have HC2 := Lib.hid (HC1.out.kp hk2)
      have HB2 := Lib.hid (HB1.out.trans (.kp hk2))
      have hz1 := hk1.size
      have hz2 := hk2.size
      clear hk1 hk2 hb0 hb1 hp1
      go_wp2_with fail
      go_loopw [33] (fun i wr => ∃ (j c' : Nat), j ≤ l.length ∧ i = .int .i64 j ∧ T.wkL (l.take j) (deep + 1) (c + 1) = (true, c') ∧ c' ≤ 40 ∧ CntT wr b c' ∧ Bt (b + 5) w wr) (fun i _ => l.length - (intOf i).toNat)
      case atStart => exact ⟨0, c + 1, Nat.zero_le _, rfl, by simp [T.wkL], by omega, HC2.out, HB2.out⟩
      case round =>
        obtain ⟨j, c', hj, rfl, hwk, hc', hcr, hbr⟩ := hrel
        have HWK := Lib.hid hwk
        clear hwk
        by_cases hlt : j < l.length
        · obtain ⟨x, hx⟩ : ∃ x, l[j]? = some x := ⟨l[j], by simp [hlt]⟩
          have hrk := T.rank_part (v := .mk k a cap l) (j := j) (x := x) hx
          obtain ⟨b0, off, rfl, hb0, q0, q1, hxin⟩ := T.atPart hin hx
          have hbl : Below b w wr := hbr.below (by omega) (by omega)
          have hxr := hxin.keep (Nat.le_refl _) hbl
          have r0 := (hbl.cell (p := ⟨b0, _, none⟩) hb0).trans q0
          have r1 := (hbl.cell (p := ⟨b0, _, none⟩) hb0).trans q1
          have hkr := hcr.k
          have ekr : b + 6 < wr.heap.size := World.block_lt_of_cell? wr _ hkr
          cases x with
          | mk k' a' cap' l' =>
          simp only [T.k, T.a, T.l, T.cap] at r0 r1
          have hih := IH.out k' a' cap' l' (deep + 1) c' (wr.alloc (.cells #[.int .i64 k', .slice a' l'.length cap'] 27)) b (by omega) (hxr.keep (Nat.le_refl _) ((ka _ _).mono (by omega))) (hcr.kp (ka _ _)) hc' (by omega)
          have hwb := wk_boundT N (.mk k' a' cap' l') (deep + 1) c' (by omega) hc'
          rw [show (((deep + 1 : Nat)) : Int) = (deep : Int) + 1 from by omega] at hih
          cases hw : (T.mk k' a' cap' l').wk (deep + 1) c' with
          | mk r c2 =>
          rw [hw] at hih hwb
          simp only at hih hwb
          have HW := Lib.hid hw
          have HWB := Lib.hid hwb
          clear hw hwb
          have HIH := Lib.hid hih
          have HCR := Lib.hid hcr
          have HBR := Lib.hid hbr
          have HX := Lib.hid hx
          clear hih hcr hbr hx hxin hxr q0 q1 hbl
          go_wp2_with fail
          refine HIH.out.mono ?_
          rintro e w3 ⟨rfl, hc3, hb3⟩
          have HC3 := Lib.hid hc3
          have HB3 := Lib.hid (HBR.out.trans ((Bt.kp (ka _ _)).trans hb3))
          clear hc3 hb3
          cases r
          · go_wp2_with fail
            have hs2 : T.wkL l (deep + 1) (c + 1) = (false, c2) := by
              have e1 : T.wkL (l.take (j + 1)) (deep + 1) (c + 1) = (false, c2) := by rw [take_snocT HX.out, T.wkL_snoc, HWK.out]; exact HW.out
              have := T.wkL_stop (l.take (j + 1)) (l.drop (j + 1)) _ _ _ e1
              rwa [List.take_append_drop] at this
            go_ret
            rw [hs2]
            exact ⟨rfl, HC3.out, HB3.out⟩
          · go_wp2_with fail
            go_roundw
            case rel => exact ⟨j + 1, c2, by omega, by go_num, by rw [take_snocT HX.out, T.wkL_snoc, HWK.out]; exact HW.out, HWB.out.2 trivial, HC3.out, HB3.out⟩
            case measure => simp [intOf]; omega
        · have hjl : j = l.length := by omega
          subst hjl
          have hs2 : T.wkL l (deep + 1) (c + 1) = (true, c') := by have := HWK.out; rwa [List.take_length] at this
          have HS2 := Lib.hid hs2
          have HCR := Lib.hid hcr
          have HBR := Lib.hid hbr
          clear hs2 hcr hbr
          go_wp2_with fail
          go_ret
          rw [HS2.out]
          exact ⟨rfl, HCR.out, HBR.out⟩

end Go.Proofs.YtkfmgafgokpjhaaGreatDoor

/-
  count, Type OF A TYPE; kindOf.
-/
namespace Go.Proofs.YtkfmgafgokpjhaaGreatDoor
open Go.RowKit

/-- How many nodes a type has; 0: it is not valid. -/
def T.cnt (v : T) : Nat := if (v.wk 1 0).1 then (v.wk 1 0).2 else 0

theorem T.cnt_le (v : T) : v.cnt ≤ 40 := by
  unfold T.cnt
  split
  · rename_i h; exact (wk_boundT v.rank v 1 0 (Nat.le_refl _) (by omega)).2 h
  · omega

/-- The world in which count calls its closure first. -/
abbrev cntWT (w : World) (cs : Array Value) : World :=
  ((((((w.alloc (.cells cs 27)).alloc (.cells #[.int .i64 40] 3)).alloc (.cells #[.int .i64 6] 3)).alloc (.cells #[.func (.func 58) #[] #[]] 78)).alloc
    (.cells #[.func (.func 59) #[] #[]] 80)).alloc (.cells #[.int .i64 0] 3)).alloc
    (.cells #[.func (.func 98) #[] #[.pointer (some ⟨w.heap.size + 1 + 1 + 1 + 1 + 1, 0, none⟩), .pointer (some ⟨w.heap.size + 1, 0, none⟩), .pointer (some ⟨w.heap.size + 1 + 1, 0, none⟩), .pointer (some ⟨w.heap.size + 1 + 1 + 1, 0, none⟩), .pointer (some ⟨w.heap.size + 1 + 1 + 1 + 1, 0, none⟩), .pointer (some ⟨w.heap.size + 1 + 1 + 1 + 1 + 1 + 1, 0, none⟩)]] 118)

theorem cntWT_kp (w : World) (cs : Array Value) : Kp w (cntWT w cs) :=
  kk (kk (kk (kk (kk (kk (ka _ _) (ka _ _)) (ka _ _)) (ka _ _)) (ka _ _)) (ka _ _)) (ka _ _)

theorem cntWT_cnt {w : World} {cs : Array Value} : CntT (cntWT w cs) w.heap.size 0 where
  m := past (past (past (past (past (here (by simp) rfl)))))
  d := past (past (past (past (here (by simp) rfl))))
  f := past (past (past (here (by simp) rfl)))
  p := past (past (here (by simp) rfl))
  n := blockPast (blockHere (by simp))
  k := here (by simp) rfl
  lt := by simp

set_option maxHeartbeats 1000000 in
theorem countT (k : Int) (a : Option Addr) (cap : Nat) (l : List T) (w : World) (hin : (T.mk k a cap l).In w w.heap.size) :
    Calls Tryz.prog 57 #[.agg #[.int .i64 k, .slice a l.length cap], .int .i64 40, .int .i64 6, .func (.func 58) #[] #[], .func (.func 59) #[] #[]] w fun e w' =>
      e = .returned (.int .i64 (T.mk k a cap l).cnt) ∧ Kp w w' := by
  have hW := cntWT_kp w #[.int .i64 k, .slice a l.length cap]
  have H := walkT _ k a cap l 1 0 (cntWT w #[.int .i64 k, .slice a l.length cap]) w.heap.size (Nat.le_refl _) (hin.keep (Nat.le_refl _) hW) cntWT_cnt (by omega) (by omega)
  unfold T.cnt
  cases hw : (T.mk k a cap l).wk 1 0 with
  | mk r c =>
  rw [hw] at H
  have HH := Lib.hid H
  have HK := Lib.hid hW
  clear H hw hW hin
  go_enter Tryz.func57, Tryz.ntmps57
  go_wp2_with fail
  refine HH.out.mono ?_
  rintro e w1 ⟨rfl, hc, hb⟩
  have HB := Lib.hid (HK.out.trans (hb.below (by omega) (by simp; omega)))
  have h5 := cell_of_one hc.n
  clear hc hb
  cases r
  · go_wp2_with fail
    go_ret
    exact ⟨rfl, HB.out⟩
  · go_wp2_with fail
    go_ret
    exact ⟨rfl, HB.out⟩

set_option maxHeartbeats 1000000 in
theorem typeV (k : Int) (a : Option Addr) (cap : Nat) (l : List T) (w : World) (hin : (T.mk k a cap l).In w w.heap.size) :
    Calls Tryz.prog 17 #[.agg #[.int .i64 k, .slice a l.length cap]] w fun e w' =>
      e = .returned (.int .i64 (bad (T.mk k a cap l).cnt)) ∧ Kp w w' := by
  have C := fun w1 (h : Kp w w1) => countT k a cap l w1 (hin.keep h.size h)
  generalize (T.mk k a cap l).cnt = c at C ⊢
  have CC := Lib.hid C
  clear hin C
  rcases Nat.eq_zero_or_pos c with rfl | hpos
  · rw [show bad 0 = 1 from rfl]
    go_enter Tryz.func17, Tryz.ntmps17
    go_wp2_with fail
    refine (CC.out _ (ka _ _)).mono ?_
    rintro e w1 ⟨rfl, hk⟩
    have HK := Lib.hid (kk (ka _ _) hk)
    clear hk
    go_wp2_with fail
    go_ret
    exact ⟨rfl, HK.out⟩
  · have h1 : ((c : Int) == 0) = false := by simp; omega
    have hb : bad c = 0 := if_neg (by omega)
    rw [hb]
    clear hb
    go_enter Tryz.func17, Tryz.ntmps17
    go_wp2_with fail
    refine (CC.out _ (ka _ _)).mono ?_
    rintro e w1 ⟨rfl, hk⟩
    have HK := Lib.hid (kk (ka _ _) hk)
    clear hk
    go_wp2_with fail
    go_ret
    exact ⟨rfl, HK.out⟩

/-- The kind of the values of a type. -/
def kindI (k : Int) : Int := if k = 1 then 1 else if k = 2 then 2 else if k = 3 then 3 else 0

set_option maxHeartbeats 400000 in
theorem kindOf_any (k : Int) (a : Option Addr) (l c : Nat) (w : World) :
    Calls Tryz.prog 61 #[.agg #[.int .i64 k, .slice a l c]] w fun e w' => e = .returned (.int .i64 (kindI k)) ∧ Kp w w' := by
  by_cases h1 : k = 1
  · subst h1
    go_enter Tryz.func61, Tryz.ntmps61
    go_wp2
    all_goals go_ret
    all_goals exact ⟨rfl, ka _ _⟩
  by_cases h2 : k = 2
  · subst h2
    go_enter Tryz.func61, Tryz.ntmps61
    go_wp2
    all_goals go_ret
    all_goals exact ⟨rfl, ka _ _⟩
  by_cases h3 : k = 3
  · subst h3
    go_enter Tryz.func61, Tryz.ntmps61
    go_wp2
    all_goals go_ret
    all_goals exact ⟨rfl, ka _ _⟩
  have hr : kindI k = 0 := by simp [kindI, h1, h2, h3]
  rw [hr]
  have g1 : (k == 1) = false := by simpa using h1
  have g2 : (k == 2) = false := by simpa using h2
  have g3 : (k == 3) = false := by simpa using h3
  clear hr h1 h2 h3
  go_enter Tryz.func61, Tryz.ntmps61
  go_wp2
  all_goals go_ret
  all_goals exact ⟨rfl, ka _ _⟩

end Go.Proofs.YtkfmgafgokpjhaaGreatDoor

/-
  THE SINK: what take does to it; puts.
-/
namespace Go.Proofs.YtkfmgafgokpjhaaGreatDoor
open Go.RowKit

def bytesV (xs : List UInt8) : List Value := xs.map fun b => .int .u8 (b.toNat : Int)

/-- Which block the bytes of a sink lie in. -/
def sinkRow (w : World) (S : Nat) : Option Nat := (w.cell? ⟨S, 0, none⟩).bind Value.ownBlock

/-- A sink at block S holds these bytes; they lie in a block of their own, behind S. -/
def Sink (w : World) (S : Nat) (xs : List UInt8) : Prop :=
  ∃ v, w.heap[S]? = some (.cells #[v] 97 (0, 0)) ∧ w.ownsRow (S + 1) 5 1 v xs.length (bytesV xs)

/-- As it was, but for a sink at S, and the block of its bytes. -/
structure Sk (S : Nat) (w w' : World) : Prop where
  os : w'.os = w.os
  tape : w'.tape = w.tape
  output : w'.output = w.output
  size : w.heap.size ≤ w'.heap.size
  block : ∀ k, k < w.heap.size → k ≠ S → sinkRow w S ≠ some k → w'.heap[k]? = w.heap[k]?
  row : ∀ r, sinkRow w' S = some r → sinkRow w S = some r ∨ w.heap.size ≤ r

theorem Sk.refl (S : Nat) (w : World) : Sk S w w := ⟨rfl, rfl, rfl, Nat.le_refl _, fun _ _ _ _ => rfl, fun _ h => .inl h⟩
theorem Sk.trans {S : Nat} {w w1 w2 : World} (h : Sk S w w1) (k : Sk S w1 w2) : Sk S w w2 where
  os := k.os.trans h.os
  tape := k.tape.trans h.tape
  output := k.output.trans h.output
  size := Nat.le_trans h.size k.size
  block := fun i hi hS hr => (k.block i (Nat.lt_of_lt_of_le hi h.size) hS (fun e => by rcases h.row i e with h1 | h1; exact hr h1; omega)).trans (h.block i hi hS hr)
  row := fun r hr => by
    rcases k.row r hr with h1 | h1
    · exact h.row r h1
    · exact .inr (Nat.le_trans h.size h1)

theorem sinkRow_kp {w w1 : World} {S : Nat} (h : Kp w w1) (hS : S < w.heap.size) : sinkRow w1 S = sinkRow w S := by
  unfold sinkRow; rw [h.cell (p := ⟨S, 0, none⟩) hS]
theorem Sk.kp {w w1 : World} {S : Nat} (h : Kp w w1) (hS : S < w.heap.size) : Sk S w w1 :=
  ⟨h.os, h.tape, h.output, h.size, fun k hk _ _ => h.block k hk, fun r hr => .inl (by rw [← sinkRow_kp h hS]; exact hr)⟩
theorem Sk.cell {w w1 : World} {S : Nat} (h : Sk S w w1) {p : Addr} {v : Value} (hp : w.cell? p = some v) (hS : p.block ≠ S) (hr : sinkRow w S ≠ some p.block) : w1.cell? p = some v :=
  (World.cell?_of_block (w := w) (h.block p.block (World.block_lt_of_cell? w p hp) hS hr)).trans hp
theorem Sink.lt {w : World} {S : Nat} {xs : List UInt8} (h : Sink w S xs) : S < w.heap.size := by
  obtain ⟨v, h1, _⟩ := h; exact lt_of_block h1
theorem Sink.row {w : World} {S : Nat} {xs : List UInt8} (h : Sink w S xs) {r : Nat} (hr : sinkRow w S = some r) : S < r ∧ r < w.heap.size := by
  obtain ⟨v, h1, h2⟩ := h
  rw [sinkRow, cell_of_one h1] at hr
  have := h2.lt r hr
  omega
/-- What lies below the sink is as it was. -/
theorem Sk.below {w w1 : World} {S : Nat} {xs : List UInt8} (h : Sk S w w1) (hs : Sink w S xs) : Below S w w1 :=
  ⟨h.os, h.tape, h.output, h.size, fun k hk => h.block k (by have := hs.lt; omega) (by omega) (fun e => by have := (hs.row e).1; omega)⟩
theorem Sink.kp {w w1 : World} {S : Nat} {xs : List UInt8} (h : Sink w S xs) (k : Kp w w1) : Sink w1 S xs := by
  obtain ⟨v, h1, h2⟩ := h
  refine ⟨v, (k.block S (lt_of_block h1)).trans h1, h2.kept (row := none) ⟨k.os, k.tape, k.output, k.size, fun i hi _ => k.block i hi⟩ ?_⟩
  cases v.ownBlock <;> simp

theorem infoU8 : (Tryz.prog.info? 5).map (fun i => (i.zero, i.size, i.bytes)) = some (some (.int .u8 0), 1, 1) := by kernel_rfl

theorem bytesV_snoc (xs : List UInt8) (b : UInt8) : bytesV xs ++ [.int .u8 (b.toNat : Int)] = bytesV (xs ++ [b]) := by simp [bytesV]

theorem take_post {w w1 : World} {S : Nat} {xs : List UInt8} {b : UInt8} {v : Value} {g cap : Nat} {o : Obj} (hS : w.heap[S]? = some (.cells #[v] 97 (0, 0)))
    (hown : w.ownsRow (S + 1) 5 1 v xs.length (bytesV xs)) (hown' : w1.ownsRow (S + 1) 5 1 (.slice (some ⟨g, 0, none⟩) (xs.length + 1) cap) (xs.length + 1) (bytesV xs ++ [.int .u8 (b.toNat : Int)])) (hg : (w.alloc o).grownBy w1 v.ownBlock)
    (hat : v.ownBlock = some g ∨ g = w.heap.size + 1) :
    Sink (w1.setCell ⟨S, 0, none⟩ (.slice (some ⟨g, 0, none⟩) (xs.length + 1) cap)) S (xs ++ [b]) ∧ Sk S w (w1.setCell ⟨S, 0, none⟩ (.slice (some ⟨g, 0, none⟩) (xs.length + 1) cap)) := by
  have hlt := lt_of_block hS
  have hne : v.ownBlock ≠ some S := fun e => by have := (hown.lt S e).1; omega
  have h1 : w1.heap[S]? = some (.cells #[v] 97 (0, 0)) := (hg.block S (by simp; omega) (Ne.symm hne)).trans (blockPast hS)
  have hne' : (Value.slice (some ⟨g, 0, none⟩) (xs.length + 1) cap).ownBlock ≠ some S := fun e => by have := (hown'.lt S e).1; omega
  have h2 := one_setCell (u := .slice (some ⟨g, 0, none⟩) (xs.length + 1) cap) h1
  have hrow : sinkRow w S = v.ownBlock := by rw [sinkRow, cell_of_one hS]; rfl
  have hrow' : sinkRow (w1.setCell ⟨S, 0, none⟩ (.slice (some ⟨g, 0, none⟩) (xs.length + 1) cap)) S = some g := by rw [sinkRow, cell_of_one h2]; rfl
  refine ⟨⟨_, h2, ?_⟩, ?_⟩
  · rw [bytesV_snoc] at hown'
    have := ownsRow_setCell_other hown' (a := ⟨S, 0, none⟩) hne' (.slice (some ⟨g, 0, none⟩) (xs.length + 1) cap)
    simpa using this
  · have hsz : w.heap.size + 1 ≤ w1.heap.size := by have := hg.size; simpa using this
    refine ⟨hg.os, hg.tape, hg.output, by simp [World.setCell]; omega, fun k hk hkS hr => ?_, fun r hr => ?_⟩
    · rw [hrow] at hr
      rw [Below.heap_setCell _ _ _ _ hkS, hg.block k (by simp; omega) (Ne.symm hr), Below.heap_alloc _ _ _ hk]
    · rw [hrow'] at hr
      cases hr
      rw [hrow]
      rcases hat with h | h
      · exact .inl h
      · exact .inr (by omega)

set_option maxHeartbeats 1000000 in
theorem take_any (w : World) (S : Nat) (xs : List UInt8) (n : Int) (b : UInt8) (hn : n = (b.toNat : Int)) (hs : Sink w S xs) (hx : xs.length ≤ 1000000000000) :
    Calls Tryz.prog 71 #[.pointer (some ⟨S, 0, none⟩), .int .u8 n] w fun e w' => e = .returned (.tuple #[]) ∧ Sink w' S (xs ++ [b]) ∧ Sk S w w' := by
  obtain ⟨v, hS, hown⟩ := hs
  have hc := cell_of_one hS
  have hf := free_of_one hS
  have hlt := lt_of_block hS
  subst hn
  obtain ⟨i0, hi, hz0, hz1, hz2⟩ := info_parts infoU8
  have HS := Lib.hid hS
  have HO := Lib.hid hown
  clear hS hown
  go_enter Tryz.func71, Tryz.ntmps71
  go_wp2_with (at_builtin; refine wpList_append_lies _ rfl _ _ 57 rfl (S + 1) 5 i0 (.int .u8 0) 1 1 Tryz.underlying57 hi hz0 hz1 hz2 rfl (by decide) _ _ _ rfl (HO.out.alloc _) ⟨w.heap.size, 0, none⟩ 1 1 [.int .u8 (b.toNat : Int)] rfl rfl ?c1 ?c2 (by decide) ?c3 ?c4 ?c5 (w.heap.size + 1) (by simp) ?_)
  case c1 =>
    intro j u hj
    match j, hj with
    | 0, hj => simp at hj; subst hj; simp [Addr.add]
  case c2 => intro u hu; simp at hu; subst hu; rfl
  case c3 => unfold maxLen; omega
  case c4 => omega
  case c5 => simp; omega
  intro g cap w1 hown' hgrow hat hglt
  have HP := Lib.hid (take_post HS.out HO.out hown' hgrow hat)
  have hne : v.ownBlock ≠ some S := fun e => by have := (HO.out.lt S e).1; omega
  have h1 := cell_of_one ((hgrow.block S (by simp; omega) (Ne.symm hne)).trans (blockPast HS.out))
  have h1f := free_of_one ((hgrow.block S (by simp; omega) (Ne.symm hne)).trans (blockPast HS.out))
  clear hown' hgrow hat hc hf hne
  go_wp2
  go_end0
  exact ⟨rfl, HP.out⟩

/-- The method value s.take. -/
abbrev takeF (S : Nat) : Value := .func (.func 71) #[.pointer (some ⟨S, 0, none⟩)] #[]

theorem take_snocB (s : ByteArray) (k : Nat) (h : k < s.size) : s.data.toList.take (k + 1) = s.data.toList.take k ++ [s[k]] := by
  rw [List.take_succ_eq_append_getElem (by simpa using h)]; rfl

set_option maxHeartbeats 1000000 in
theorem puts_any (w : World) (S : Nat) (xs : List UInt8) (s : ByteArray) (hs : Sink w S xs) (hx : xs.length + s.size ≤ 1000000000000) :
    Calls Tryz.prog 110 #[takeF S, .string s] w fun e w' => e = .returned (.tuple #[]) ∧ Sink w' S (xs ++ s.data.toList) ∧ Sk S w w' := by
  have HS := Lib.hid hs
  clear hs
  go_enter Tryz.func110, Tryz.ntmps110
  go_wp2_with fail
  go_loopw [7] (fun i wr => ∃ j : Nat, j ≤ s.size ∧ i = .int .i64 j ∧ Sink wr S (xs ++ s.data.toList.take j) ∧ Sk S w wr) (fun i _ => s.size - (intOf i).toNat)
  case atStart => exact ⟨0, Nat.zero_le _, rfl, by simpa using HS.out, Sk.refl _ _⟩
  case round =>
    obtain ⟨j, hj, rfl, hsk, hk⟩ := hrel
    have HSK := Lib.hid hsk
    have HK := Lib.hid hk
    clear hsk hk
    by_cases hlt : j < s.size
    · go_wp2_with fail
      refine (take_any _ S (xs ++ s.data.toList.take j) _ s[j] rfl HSK.out (by simp; omega)).mono ?_
      rintro e w1 ⟨rfl, hs1, hk1⟩
      have HS1 := Lib.hid hs1
      have HK1 := Lib.hid (HK.out.trans hk1)
      clear hs1 hk1
      go_wp2_with fail
      go_roundw
      case rel => exact ⟨j + 1, by omega, by go_num, by rw [take_snocB s j hlt, ← List.append_assoc]; exact HS1.out, HK1.out⟩
      case measure => simp [intOf]; omega
    · have hjl : j = s.size := by omega
      subst hjl
      go_wp2_with fail
      go_end0
      refine ⟨rfl, ?_, HK.out⟩
      have := HSK.out
      rwa [List.take_of_length_le (by simp)] at this

end Go.Proofs.YtkfmgafgokpjhaaGreatDoor
