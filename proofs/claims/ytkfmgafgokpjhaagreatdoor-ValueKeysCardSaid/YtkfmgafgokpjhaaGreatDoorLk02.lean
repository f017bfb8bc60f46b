/-
  Proved: the statement ValueKeys (value.Key of any value, and value.OfKey of any text, answer as the specification's do, and the chapter's examples hold), as its tied card says it, with no condition beyond the card's own.
  Part 2 of 3.
-/
import Derived.Test.YtkfmgafgokpjhaaGreatDoorLk01
import Derived.Test.YtkfmgafgokpjhaaGreatDoorBc09
import Derived.Test.YtkfmgafgokpjhaaGreatDoorBc12
import Derived.Deep.QuietTactic
import Derived.BigQuiet
import Derived.Deep.RegionLaw
import Derived.IntWalk
import Derived.Test.YtkfmgafgokpjhaaGreatDoorBc01
import Derived.Test.YtkfmgafgokpjhaaGreatDoorBc06
import Derived.Lib.AppendStr
import Derived.Deep.AppendLies
import Derived.Deep.Onto
import Derived.Test.YtkfmgafgokpjhaaGreatDoorBc10
import Derived.Test.YtkfmgafgokpjhaaGreatDoorBc03
import Derived.Test.YtkfmgafgokpjhaaGreatDoorBc07
/-
  THE SPECIFICATION's keyed: the ways that end at once, words, texts.
-/
namespace Go.Proofs.YtkfmgafgokpjhaaGreatDoor
open Go.RowKit

/-- The value that was read, and what is behind it; or that there is none. -/
def Told (w w' : World) (d : Nat) (l : List UInt8) (k n : Int) (t : ByteArray) (a : Option Addr) (m c : Nat) (rs : ByteArray) (ok : Bool) : Prop :=
  (ok = true ∧ ∃ (y : V) (vl : List V), KD d l (some (y, rs.data.toList)) ∧ rs.size < l.length ∧ m = vl.length ∧ (V.mk k n t a c vl).In w' w'.heap.size ∧ (V.mk k n t a c vl).foot (fun b => w.heap.size ≤ b) ∧ (V.mk k n t a c vl).same y = true) ∨ (ok = false ∧ KD d l none)

/-- What keyed tells. -/
def OutD (w : World) (d : Nat) (l : List UInt8) (e : Ending) (w' : World) : Prop :=
  ∃ (k n : Int) (t : ByteArray) (a : Option Addr) (m c : Nat) (rs : ByteArray) (ok : Bool), e = .returned (.tuple #[.agg #[.int .i64 k, .int .i64 n, .string t, .slice a m c], .string rs, .bool ok]) ∧ Kp w w' ∧ Told w w' d l k n t a m c rs ok

theorem outD_none {w w' : World} {d : Nat} {l : List UInt8} {s : ByteArray} (h : KD d l none) (hk : Kp w w') : OutD w d l (.returned (.tuple #[.agg zero4, .string s, .bool false])) w' :=
  ⟨0, 0, ⟨#[]⟩, none, 0, 0, s, false, rfl, hk, .inr ⟨rfl, h⟩⟩

theorem cons_rest (s : ByteArray) (h : 0 < s.size) : s.data.toList = s[0] :: (s.extract 1 s.size).data.toList := by
  rw [ByteArray.data_extract, Array.toList_extract]
  simp only [List.extract]
  have h1 : 0 < s.data.toList.length := by simpa using h
  rw [List.take_of_length_le (by simp)]
  conv => lhs; rw [← List.drop_zero (l := s.data.toList), List.drop_eq_getElem_cons h1]
  rfl

set_option maxRecDepth 100000 in
set_option maxHeartbeats 1000000 in
theorem keyed_zero (w : World) (s : ByteArray) : Calls Tryz.prog 82 #[.string s, .int .i64 0] w (OutD w 0 s.data.toList) := by
  have hR : ∀ w', Kp w w' → OutD w 0 s.data.toList (.returned (.tuple #[.agg zero4, .string s, .bool false])) w' := fun w' hk => outD_none .zero hk
  have HR := Lib.hid hR
  clear hR
  go_enter Tryz.func82, Tryz.ntmps82
  go_wp2_with fail
  exact bodyPost_ret (v := .tuple #[.agg zero4, .string s, .bool false]) (by simp [results, Tryz.results82, go_sem]) rfl (HR.out _ (ka _ _))

set_option maxRecDepth 100000 in
set_option maxHeartbeats 1000000 in
theorem keyed_short (w : World) (s : ByteArray) (d : Nat) (m : Int) (_hm : 1 ≤ m ∧ m ≤ 100) (h2 : s.size < 2) : Calls Tryz.prog 82 #[.string s, .int .i64 m] w (OutD w d s.data.toList) := by
  have hR : ∀ w', Kp w w' → OutD w d s.data.toList (.returned (.tuple #[.agg zero4, .string s, .bool false])) w' := fun w' hk => outD_none (.short (by simpa using h2)) hk
  have HR := Lib.hid hR
  clear hR
  have hm0 : (m == 0) = false := by rw [beq_eq_false_iff_ne]; omega
  have g2 : (s.size : Int) < 2 := by omega
  go_enter Tryz.func82, Tryz.ntmps82
  go_wp2_with fail
  exact bodyPost_ret (v := .tuple #[.agg zero4, .string s, .bool false]) (by simp [results, Tryz.results82, go_sem]) rfl (HR.out _ (ka _ _))

set_option maxRecDepth 100000 in
set_option maxHeartbeats 1000000 in
theorem keyed_word0 (w : World) (s : ByteArray) (d : Nat) (m : Int) (_hm : 1 ≤ m ∧ m ≤ 100) (h2 : 2 ≤ s.size) (h5 : s.size < 5) (hb : s[0] = 1) : Calls Tryz.prog 82 #[.string s, .int .i64 m] w (OutD w d s.data.toList) := by
  have hcr := cons_rest s (by omega)
  have e9 : (s.extract 1 s.size).size = s.size - 1 := by simp
  have hR : ∀ w', Kp w w' → OutD w d s.data.toList (.returned (.tuple #[.agg zero4, .string s, .bool false])) w' := fun w' hk => outD_none (by rw [hcr, hb]; exact .word0 (by rw [← size_list]; omega)) hk
  have HR := Lib.hid hR
  have hm0 : (m == 0) = false := by rw [beq_eq_false_iff_ne]; omega
  have g2 : (2 : Int) ≤ (s.size : Int) := by omega
  have gb : ((s[0].toNat : Nat) : Int) = 1 := by rw [hb]; rfl
  have HZ := Lib.hid e9
  clear hR hcr e9
  go_enter Tryz.func82, Tryz.ntmps82
  go_wp2_with fail
  go_quiet (fail)
  have g6 : ((s.extract 1 s.size).size : Int) < 4 := by rw [HZ.out]; omega
  generalize s.extract 1 s.size = rs at *
  clear HZ
  go_wp2_with fail
  exact bodyPost_ret (v := .tuple #[.agg zero4, .string s, .bool false]) (by simp [results, Tryz.results82, go_sem]) rfl (HR.out _ (put4_kp (kk (ka _ _) kpDN) (Nat.le_refl _)))

/-- The number of four bytes. -/
def wordV (l : List UInt8) : Int := l.foldl (fun (n : Int) (b : UInt8) => n * 256 + (b.toNat : Int)) 0
theorem wordV_snoc (l : List UInt8) (b : UInt8) : wordV (l ++ [b]) = wordV l * 256 + b.toNat := by simp [wordV]
theorem wordV_range : ∀ (l : List UInt8), 0 ≤ wordV l ∧ (l.length ≤ 3 → wordV l ≤ 16777215) ∧ (l.length ≤ 4 → wordV l ≤ 4294967295) := by
  intro l
  have h0 : ∀ (m : List UInt8) (n : Int), 0 ≤ n → 0 ≤ m.foldl (fun (n : Int) (b : UInt8) => n * 256 + (b.toNat : Int)) n := by
    intro m
    induction m with
    | nil => intro n h; exact h
    | cons b m ih => intro n h; exact ih _ (by show 0 ≤ n * 256 + (b.toNat : Int); omega)
  refine ⟨h0 l 0 (by omega), ?_, ?_⟩
  · intro h
    match l, h with
    | [], _ => simp [wordV]
    | [a], _ => have := a.toNat_lt; simp [wordV]; omega
    | [a, b], _ => have := a.toNat_lt; have := b.toNat_lt; simp [wordV]; omega
    | [a, b, c], _ => have := a.toNat_lt; have := b.toNat_lt; have := c.toNat_lt; simp [wordV]; omega
    | _ :: _ :: _ :: _ :: _, h => simp at h
  · intro h
    match l, h with
    | [], _ => simp [wordV]
    | [a], _ => have := a.toNat_lt; simp [wordV]; omega
    | [a, b], _ => have := a.toNat_lt; have := b.toNat_lt; simp [wordV]; omega
    | [a, b, c], _ => have := a.toNat_lt; have := b.toNat_lt; have := c.toNat_lt; simp [wordV]; omega
    | [a, b, c, d], _ => have := a.toNat_lt; have := b.toNat_lt; have := c.toNat_lt; have := d.toNat_lt; simp [wordV]; omega
    | _ :: _ :: _ :: _ :: _ :: _, h => simp at h

theorem kd_word4 {d : Nat} {rs : ByteArray} (h : 4 ≤ rs.size) : KD (d + 1) (1 :: rs.data.toList) (some (.mk 0 (wordV (rs.data.toList.take 4) + -2147483648) ⟨#[]⟩ none 0 [], (rs.extract 4 rs.size).data.toList)) := by
  have hl : 4 ≤ rs.data.toList.length := by rw [← size_list]; exact h
  have hr : (rs.extract 4 rs.size).data.toList = rs.data.toList.drop 4 := by
    rw [ByteArray.data_extract, Array.toList_extract]
    simp only [List.extract]
    rw [List.take_of_length_le (by simp)]
  rw [hr]
  generalize rs.data.toList = l at *
  match l, hl with
  | b0 :: b1 :: b2 :: b3 :: r, _ =>
    have := KD.word (d := d) (b0 := b0) (b1 := b1) (b2 := b2) (b3 := b3) (r := r)
    simpa [wordV] using this

set_option maxRecDepth 100000 in
set_option maxHeartbeats 4000000 in
theorem keyed_word (w : World) (s : ByteArray) (d : Nat) (m : Int) (_hm : 1 ≤ m ∧ m ≤ 100) (h5 : 5 ≤ s.size) (hs : s.size ≤ 1000000) (hb : s[0] = 1) : Calls Tryz.prog 82 #[.string s, .int .i64 m] w (OutD w (d + 1) s.data.toList) := by
  have hcr := cons_rest s (by omega)
  have e9 : (s.extract 1 s.size).size = s.size - 1 := by simp
  have hR : ∀ w', Kp w w' → OutD w (d + 1) s.data.toList (.returned (.tuple #[.agg #[.int .i64 0, .int .i64 (wordV ((s.extract 1 s.size).data.toList.take 4) - 2147483648), .string ⟨#[]⟩, .slice none 0 0], .string ((s.extract 1 s.size).extract 4 (s.extract 1 s.size).size), .bool true])) w' := fun w' hk =>
    ⟨_, _, _, _, _, _, _, _, rfl, hk, .inl ⟨rfl, .mk 0 (wordV ((s.extract 1 s.size).data.toList.take 4) + -2147483648) ⟨#[]⟩ none 0 [], [], by rw [hcr, hb]; exact kd_word4 (by omega), by rw [← size_list]; simp; omega, rfl,
      inLeaf _ _ _ (by unfold I64; omega) (by have := (wordV_range ((s.extract 1 s.size).data.toList.take 4)); have h4 : ((s.extract 1 s.size).data.toList.take 4).length ≤ 4 := List.length_take_le _ _; have := this.2.2 h4; unfold I64; omega) (by decide), V.foot_leaf _ _ _ _ _, by simp [V.same, V.sameL]; omega⟩⟩
  have hm0 : (m == 0) = false := by rw [beq_eq_false_iff_ne]; omega
  have g2 : (2 : Int) ≤ (s.size : Int) := by omega
  have gb : ((s[0].toNat : Nat) : Int) = 1 := by rw [hb]; rfl
  have hz : 4 ≤ (s.extract 1 s.size).size ∧ (s.extract 1 s.size).size ≤ 1000000 := by omega
  have HR := Lib.hid hR
  have HZ := Lib.hid hz
  clear hR hcr e9 hz
  go_enter Tryz.func82, Tryz.ntmps82
  go_wp2_with fail
  go_quiet (fail)
  obtain ⟨hz4, hz5⟩ := HZ.out
  have g6 : (4 : Int) ≤ ((s.extract 1 s.size).size : Int) := by omega
  generalize s.extract 1 s.size = rs at *
  clear HZ gb
  have hB : ((w.alloc (.cells #[.int .i64 0, .int .i64 0, .string ⟨#[]⟩, .slice none 0 0] 24)).drewN nq).heap[w.heap.size]? = some (.cells #[.int .i64 0, .int .i64 0, .string ⟨#[]⟩, .slice none 0 0] 24 (0, 0)) := by rw [World.heap_drewN]; exact blockHere rfl
  have hKW : Kp w ((w.alloc (.cells #[.int .i64 0, .int .i64 0, .string ⟨#[]⟩, .slice none 0 0] 24)).drewN nq) := kk (ka _ _) kpDN
  generalize (w.alloc (.cells #[.int .i64 0, .int .i64 0, .string ⟨#[]⟩, .slice none 0 0] 24)).drewN nq = W at *
  have HB := Lib.hid hB
  have HKW := Lib.hid hKW
  have hwW := lt_of_block hB
  clear hB hKW
  go_wp2_with fail
  go_loop [9, 10] (fun nn i => ∃ (j : Nat), j ≤ 4 ∧ nn = .int .i64 (wordV (rs.data.toList.take j)) ∧ i = .int .i64 j) (fun _ i => 4 - (intOf i).toNat)
  case atStart => exact ⟨0, by omega, rfl, rfl⟩
  case round =>
    obtain ⟨j, hj, rfl, rfl⟩ := hrel
    by_cases hlt : j < 4
    · have hjr : j < rs.size := by omega
      have HT := Lib.hid (show wordV (rs.data.toList.take (j + 1)) = 256 * wordV (rs.data.toList.take j) + ((rs[j].toNat : Nat) : Int) by rw [take_snocB rs j hjr, wordV_snoc]; omega)
      have hw1 := (wordV_range (rs.data.toList.take j)).1
      have hw2 := (wordV_range (rs.data.toList.take j)).2.1 (by have := List.length_take_le j rs.data.toList; omega)
      have hb8 := rs[j].toNat_lt
      generalize wordV (rs.data.toList.take j) = n at *
      have g7 : (j : Int) < 4 := by omega
      go_wp2_with fail
      go_round
      case rel => exact ⟨j + 1, by omega, by rw [HT.out], by go_num⟩
      case measure => simp [intOf]; omega
    · have hjj : j = 4 := by omega
      have hj4 : (j : Int) = 4 := by omega
      have hw1 := (wordV_range (rs.data.toList.take 4)).1
      have hw2 := (wordV_range (rs.data.toList.take 4)).2.2 (List.length_take_le _ _)
      rw [hj4, hjj]
      clear hj4 hjj hlt hj
      generalize wordV (rs.data.toList.take 4) = n at *
      go_wp2_with fail
      have e1 : IntKind.i64.wrap (n - 2147483648) = n - 2147483648 := IntWalk.i64_in _ (by omega)
      go_region_law
        (first
          | (go_simp; go_at_call 46; refine (int_any _ _).mono ?_; rintro e w2 ⟨rfl, hk2⟩; have hblk := (hk2.block w.heap.size (by rw [World.drew_size]; exact hwW)).trans HB.out; have HK2 := Lib.hid (kk HKW.out (kk kpD hk2)); obtain ⟨c0, c1, c2, c3, f0, f1, f2, f3⟩ := cell4 hblk; have HBL := Lib.hid hblk; clear hblk hk2; dsimp only))
      go_wp2_with fail
      obtain ⟨d0, d1, d2, d3, -⟩ := cell4 (put4_block (v0 := .int .i64 0) (v1 := .int .i64 (n - 2147483648)) (v2 := .string ⟨#[]⟩) (v3 := .slice none 0 0) HBL.out)
      exact bodyPost_ret (v := .tuple #[.agg #[.int .i64 0, .int .i64 (n - 2147483648), .string ⟨#[]⟩, .slice none 0 0], .string (rs.extract 4 rs.size), .bool true]) (by simp [results, Tryz.results82, go_sem, d0, d1, d2, d3]) rfl (HR.out _ (put4_kp HK2.out (Nat.le_refl _)))

theorem no0_snoc {rs : ByteArray} {j : Nat} (h : j < rs.size) (hj : ∀ c ∈ rs.data.toList.take j, c ≠ 0) (hc : rs[j] ≠ 0) : ∀ c ∈ rs.data.toList.take (j + 1), c ≠ 0 := by
  intro c hm
  rw [take_snocB rs j h] at hm
  rcases List.mem_append.1 hm with hm | hm
  · exact hj c hm
  · simp at hm; rw [hm]; exact hc

theorem split_at (rs : ByteArray) (j : Nat) (h : j < rs.size) : rs.data.toList = rs.data.toList.take j ++ rs[j] :: (rs.extract (j + 1) rs.size).data.toList := by
  have hr : (rs.extract (j + 1) rs.size).data.toList = rs.data.toList.drop (j + 1) := by
    rw [ByteArray.data_extract, Array.toList_extract]
    simp only [List.extract]
    rw [List.take_of_length_le (by simp)]
  rw [hr]
  have h1 : j < rs.data.toList.length := by simpa using h
  conv => lhs; rw [← List.take_append_drop j rs.data.toList, List.drop_eq_getElem_cons h1]
  rfl

theorem front_at (rs : ByteArray) (j : Nat) : (⟨(rs.data.toList.take j).toArray⟩ : ByteArray).toList = (rs.extract 0 j).toList := by
  rw [ByteArray.toList_eq, ByteArray.toList_eq, ByteArray.data_extract, Array.toList_extract]
  simp [List.extract]

set_option maxRecDepth 100000 in
set_option maxHeartbeats 4000000 in
theorem keyed_text (w : World) (s : ByteArray) (d : Nat) (m : Int) (_hm : 1 ≤ m ∧ m ≤ 100) (h2 : 2 ≤ s.size) (hs : s.size ≤ 1000000) (hb : s[0] = 2) : Calls Tryz.prog 82 #[.string s, .int .i64 m] w (OutD w (d + 1) s.data.toList) := by
  have hcr := cons_rest s (by omega)
  have e9 : (s.extract 1 s.size).size = s.size - 1 := by simp
  have hR : ∀ (j : Nat) (hj : j < (s.extract 1 s.size).size), (∀ c ∈ (s.extract 1 s.size).data.toList.take j, c ≠ 0) → (s.extract 1 s.size)[j] = 0 → ∀ w', Kp w w' → OutD w (d + 1) s.data.toList (.returned (.tuple #[.agg #[.int .i64 1, .int .i64 0, .string ((s.extract 1 s.size).extract 0 j), .slice none 0 0], .string ((s.extract 1 s.size).extract (j + 1) (s.extract 1 s.size).size), .bool true])) w' := fun j hj h0 h1 w' hk =>
    ⟨_, _, _, _, _, _, _, _, rfl, hk, .inl ⟨rfl, .mk 1 0 ⟨((s.extract 1 s.size).data.toList.take j).toArray⟩ none 0 [], [], by
        have h3 := KD.text (d := d) (r := ((s.extract 1 s.size).extract (j + 1) (s.extract 1 s.size).size).data.toList) h0
        rw [← h1, ← split_at _ j hj] at h3
        rw [hcr, hb]; exact h3, by rw [← size_list]; simp; omega, rfl,
      inLeaf _ _ _ (by unfold I64; omega) (by unfold I64; omega) (by unfold maxLen; simp; omega), V.foot_leaf _ _ _ _ _, by
        simp only [V.same, V.sameL, front_at]; simp⟩⟩
  have hN : (∀ c ∈ (s.extract 1 s.size).data.toList.take (s.extract 1 s.size).size, c ≠ 0) → ∀ w', Kp w w' → OutD w (d + 1) s.data.toList (.returned (.tuple #[.agg zero4, .string s, .bool false])) w' := fun h0 w' hk =>
    outD_none (by rw [hcr, hb]; rw [List.take_of_length_le (by rw [← size_list]; exact Nat.le_refl _)] at h0; exact .text0 h0) hk
  have hm0 : (m == 0) = false := by rw [beq_eq_false_iff_ne]; omega
  have g2 : (2 : Int) ≤ (s.size : Int) := by omega
  have gb : ((s[0].toNat : Nat) : Int) = 2 := by rw [hb]; rfl
  have hz : 1 ≤ (s.extract 1 s.size).size ∧ (s.extract 1 s.size).size ≤ 1000000 := by omega
  have HR := Lib.hid hR
  have HN := Lib.hid hN
  have HZ := Lib.hid hz
  clear hR hN hcr e9 hz
  go_enter Tryz.func82, Tryz.ntmps82
  go_wp2_with fail
  go_quiet (fail)
  obtain ⟨hz4, hz5⟩ := HZ.out
  generalize s.extract 1 s.size = rs at *
  clear HZ gb
  have hB : ((w.alloc (.cells #[.int .i64 0, .int .i64 0, .string ⟨#[]⟩, .slice none 0 0] 24)).drewN nq).heap[w.heap.size]? = some (.cells #[.int .i64 0, .int .i64 0, .string ⟨#[]⟩, .slice none 0 0] 24 (0, 0)) := by rw [World.heap_drewN]; exact blockHere rfl
  have hKW : Kp w ((w.alloc (.cells #[.int .i64 0, .int .i64 0, .string ⟨#[]⟩, .slice none 0 0] 24)).drewN nq) := kk (ka _ _) kpDN
  generalize (w.alloc (.cells #[.int .i64 0, .int .i64 0, .string ⟨#[]⟩, .slice none 0 0] 24)).drewN nq = W at *
  have HB := Lib.hid hB
  have HKW := Lib.hid hKW
  have hwW := lt_of_block hB
  clear hB hKW
  go_wp2_with fail
  go_loop [11] (fun i => ∃ (j : Nat), j ≤ rs.size ∧ Hid (∀ c ∈ rs.data.toList.take j, c ≠ 0) ∧ i = .int .i64 j) (fun i => rs.size - (intOf i).toNat)
  case atStart => exact ⟨0, by omega, Lib.hid (by simp), rfl⟩
  case round =>
    obtain ⟨j, hj, h0, rfl⟩ := hrel
    by_cases hlt : j < rs.size
    · by_cases hc : rs[j] = 0
      · have HRj := Lib.hid (HR.out j hlt h0.out hc)
        have g3 : ((rs[j].toNat : Nat) : Int) = 0 := by rw [hc]; rfl
        have g4 : (0 : Int) ≤ (j : Int) := by omega
        have g5 : (j : Int) < (rs.size : Int) := by omega
        have g6 : (j : Int) ≤ (rs.size : Int) := by omega
        have g7 : (j : Int) + 1 ≤ (rs.size : Int) := by omega
        have g8 : (0 : Int) ≤ (j : Int) + 1 := by omega
        have g9 : ((j : Int) + 1).toNat = j + 1 := by omega
        have e1 : IntKind.i64.wrap ((j : Int) + 1) = (j : Int) + 1 := IntWalk.i64_in _ (by omega)
        clear hc HN
        go_wp2_with fail
        go_region_law
          (first
            | (go_simp; go_at_call 47; refine (text_any _ _).mono ?_; rintro e w2 ⟨rfl, hk2⟩; have hblk := (hk2.block w.heap.size (by rw [World.drew_size]; exact hwW)).trans HB.out; have HK2 := Lib.hid (kk HKW.out (kk kpD hk2)); obtain ⟨c0, c1, c2, c3, f0, f1, f2, f3⟩ := cell4 hblk; have HBL := Lib.hid hblk; clear hblk hk2; dsimp only))
        go_wp2_with fail
        obtain ⟨d0, d1, d2, d3, -⟩ := cell4 (put4_block (v0 := .int .i64 1) (v1 := .int .i64 0) (v2 := .string (rs.extract 0 j)) (v3 := .slice none 0 0) HBL.out)
        exact bodyPost_ret (v := .tuple #[.agg #[.int .i64 1, .int .i64 0, .string (rs.extract 0 j), .slice none 0 0], .string (rs.extract (j + 1) rs.size), .bool true]) (by simp [results, Tryz.results82, go_sem, d0, d1, d2, d3]) rfl (HRj.out _ (put4_kp HK2.out (Nat.le_refl _)))
      · have g3 : (((rs[j].toNat : Nat) : Int) == 0) = false := by
          rw [beq_eq_false_iff_ne]; intro e; exact hc (UInt8.toNat_inj.1 (by have : (0 : UInt8).toNat = 0 := rfl; omega))
        have HS := Lib.hid (no0_snoc hlt h0.out hc)
        clear hc
        go_wp2_with fail
        go_round
        case rel => exact ⟨j + 1, by omega, HS, by go_num⟩
        case measure => simp [intOf]; omega
    · have hjj : j = rs.size := by omega
      subst hjj
      have HN1 := Lib.hid (HN.out h0.out)
      obtain ⟨c0, c1, c2, c3, f0, f1, f2, f3⟩ := cell4 HB.out
      clear HN HR
      go_wp2_with fail
      obtain ⟨d0, d1, d2, d3, -⟩ := cell4 (put4_block (v0 := .int .i64 0) (v1 := .int .i64 0) (v2 := .string ⟨#[]⟩) (v3 := .slice none 0 0) HB.out)
      exact bodyPost_ret (v := .tuple #[.agg zero4, .string s, .bool false]) (by simp [results, Tryz.results82, go_sem, d0, d1, d2, d3]) rfl (HN1.out _ (put4_kp HKW.out (Nat.le_refl _)))

set_option maxRecDepth 100000 in
set_option maxHeartbeats 2000000 in
theorem keyed_bad (w : World) (s : ByteArray) (d : Nat) (m : Int) (_hm : 1 ≤ m ∧ m ≤ 100) (h2 : 2 ≤ s.size) (hb : s[0].toNat = 0 ∨ 5 ≤ s[0].toNat) : Calls Tryz.prog 82 #[.string s, .int .i64 m] w (OutD w d s.data.toList) := by
  have hcr := cons_rest s (by omega)
  have hR : ∀ w', Kp w w' → OutD w d s.data.toList (.returned (.tuple #[.agg zero4, .string s, .bool false])) w' := fun w' hk => outD_none (.bad fun b h => by rw [hcr] at h; simp at h; rw [← h]; exact hb) hk
  have hm0 : (m == 0) = false := by rw [beq_eq_false_iff_ne]; omega
  have g2 : (2 : Int) ≤ (s.size : Int) := by omega
  have hb8 := s[0].toNat_lt
  obtain ⟨v, hv⟩ : ∃ v : Int, ((s[0].toNat : Nat) : Int) = v := ⟨_, rfl⟩
  have v0 : 0 ≤ v := by omega
  have v1 : v ≤ 255 := by omega
  have k1 : (v == 1) = false := by rw [beq_eq_false_iff_ne]; omega
  have k2 : (v == 2) = false := by rw [beq_eq_false_iff_ne]; omega
  have k3 : (v == 3) = false := by rw [beq_eq_false_iff_ne]; omega
  have k4 : (v == 4) = false := by rw [beq_eq_false_iff_ne]; omega
  have HR := Lib.hid hR
  clear hR hcr hb hb8
  go_enter Tryz.func82, Tryz.ntmps82
  go_wp2_with fail
  go_quiet (fail)
  generalize s.extract 1 s.size = rs at *
  have hB : ((w.alloc (.cells #[.int .i64 0, .int .i64 0, .string ⟨#[]⟩, .slice none 0 0] 24)).drewN nq).heap[w.heap.size]? = some (.cells #[.int .i64 0, .int .i64 0, .string ⟨#[]⟩, .slice none 0 0] 24 (0, 0)) := by rw [World.heap_drewN]; exact blockHere rfl
  have hKW : Kp w ((w.alloc (.cells #[.int .i64 0, .int .i64 0, .string ⟨#[]⟩, .slice none 0 0] 24)).drewN nq) := kk (ka _ _) kpDN
  generalize (w.alloc (.cells #[.int .i64 0, .int .i64 0, .string ⟨#[]⟩, .slice none 0 0] 24)).drewN nq = W at *
  have HB := Lib.hid hB
  have HKW := Lib.hid hKW
  have hwW := lt_of_block hB
  clear hB hKW hv
  go_wp2_with fail
  refine (tuple_any _ _ _ _).mono ?_
  rintro e w2 ⟨rfl, hk2⟩
  go_wp2_with fail
  have hk3 := kk hk2 (ka w2 (.cells #[.int .i64 2, .int .i64 0, .string ⟨#[]⟩, .slice none 0 0] 24))
  have hblk := (hk3.block w.heap.size hwW).trans HB.out
  have hkW := kk HKW.out hk3
  generalize w2.alloc (.cells #[.int .i64 2, .int .i64 0, .string ⟨#[]⟩, .slice none 0 0] 24) = W2 at *
  have HBL := Lib.hid hblk
  have HK2 := Lib.hid hkW
  clear hk2 hk3 hblk hkW
  go_loopw [8] (fun r wr => r = .string rs ∧ wr = W2) (fun _ _ => 0)
  case atStart => exact ⟨rfl, rfl⟩
  case round =>
    obtain ⟨rfl, rfl⟩ := hrel
    obtain ⟨c0, c1, c2, c3, f0, f1, f2, f3⟩ := cell4 HBL.out
    go_wp2_with fail
    obtain ⟨d0, d1, d2, d3, -⟩ := cell4 (put4_block (v0 := .int .i64 0) (v1 := .int .i64 0) (v2 := .string ⟨#[]⟩) (v3 := .slice none 0 0) HBL.out)
    exact bodyPost_ret (v := .tuple #[.agg zero4, .string s, .bool false]) (by simp [results, Tryz.results82, go_sem, d0, d1, d2, d3]) rfl (HR.out _ (put4_kp HK2.out (Nat.le_refl _)))

end Go.Proofs.YtkfmgafgokpjhaaGreatDoor

/-
  THE SPECIFICATION's keyed: tags and tuples.
-/
namespace Go.Proofs.YtkfmgafgokpjhaaGreatDoor
open Go.RowKit

theorem told_tag {w W w2 w3 : World} {d q : Nat} {l : List UInt8} {b : UInt8} {k n : Int} {t : ByteArray} {a : Option Addr} {m c : Nat} {rs : ByteArray} {ok : Bool} (v0 v1 v2 v3 : Value)
    (h : Told W w2 d l k n t a m c rs ok) (hW : w.heap.size < W.heap.size) (h23 : Kp w2 w3) (hq : w3.heap[q]? = some (.cells #[.int .i64 k, .int .i64 n, .string t, .slice a m c] 24 (0, 0))) (hqw : w.heap.size < q) :
    Told w (put4 w3 w.heap.size v0 v1 v2 v3) (d + 1) (4 :: b :: l) 3 ((b.toNat : Int) - 1) ⟨#[]⟩ (some ⟨q, 0, none⟩) 1 1 rs ok := by
  rcases h with ⟨rfl, y, vl, hkd, hsz, rfl, hin, hft, hsm⟩ | ⟨rfl, hkd⟩
  · left
    have hb := b.toNat_lt
    have hqs := lt_of_block hq
    have hmv : ∀ i, i < w3.heap.size → w.heap.size + 1 ≤ i → (put4 w3 w.heap.size v0 v1 v2 v3).heap[i]? = w3.heap[i]? := fun i _ hi => put4_other (by omega)
    have hS : (put4 w3 w.heap.size v0 v1 v2 v3).heap.size = w3.heap.size := by simp [World.setCell]
    have hf2 : (V.mk k n t a c vl).foot (fun i => w.heap.size + 1 ≤ i) := V.foot.mono (fun i hi => by omega) _ hft
    refine ⟨rfl, .mk 3 ((b.toNat : Int) - 1) ⟨#[]⟩ none 0 [y], [.mk k n t a c vl], KD.tag hkd, by simp; omega, rfl, ?_, ?_, V.same_node (V.sameL_one hsm)⟩
    · rw [hS]
      simp only [V.In, V.InL]
      refine ⟨by unfold I64; omega, by unfold I64; omega, by decide, Nat.le_refl _, by decide, .inr ⟨q, 0, rfl, hqs, ?_⟩, ?_, trivial⟩
      · exact At.of_block ((hmv q hqs (by omega)).trans hq) rfl
      · exact V.In.move (Nat.le_refl _) hmv _ (hin.keep h23.size h23) hf2
    · simp only [V.foot, V.footL]
      exact ⟨.inr ⟨q, 0, rfl, by omega⟩, V.foot.mono (fun i hi => by omega) _ hft, trivial⟩
  · right
    exact ⟨rfl, KD.tag hkd⟩

set_option maxRecDepth 100000 in
set_option maxHeartbeats 4000000 in
theorem keyed_tag (w : World) (s : ByteArray) (d : Nat) (m : Int) (_hm : 1 ≤ m ∧ m ≤ 100) (h2 : 2 ≤ s.size) (hs : s.size ≤ 1000000) (hb : s[0] = 4)
    (ih : ∀ (s1 : ByteArray) (w1 : World), s1.size < s.size → Calls Tryz.prog 82 #[.string s1, .int .i64 (m - 1)] w1 (OutD w1 d s1.data.toList)) :
    Calls Tryz.prog 82 #[.string s, .int .i64 m] w (OutD w (d + 1) s.data.toList) := by
  have hcr := cons_rest s (by omega)
  have e9 : (s.extract 1 s.size).size = s.size - 1 := by simp
  have hI := fun (w1 : World) => ih ((s.extract 1 s.size).extract 1 (s.extract 1 s.size).size) w1 (by simp; omega)
  rw [hb] at hcr
  have hm0 : (m == 0) = false := by rw [beq_eq_false_iff_ne]; omega
  have g2 : (2 : Int) ≤ (s.size : Int) := by omega
  have gb : ((s[0].toNat : Nat) : Int) = 4 := by rw [hb]; rfl
  have hz : 1 ≤ (s.extract 1 s.size).size ∧ (s.extract 1 s.size).size ≤ 1000000 := by omega
  have HI := Lib.hid hI
  have HZ := Lib.hid hz
  have HC := Lib.hid hcr
  clear ih hI hcr e9 hz
  go_enter Tryz.func82, Tryz.ntmps82
  go_wp2_with fail
  go_quiet (fail)
  obtain ⟨hz4, hz5⟩ := HZ.out
  generalize hrs : s.extract 1 s.size = rs at *
  have hc := HC.out
  rw [cons_rest rs hz4] at hc
  have HL := Lib.hid hc
  have hv8 := rs[0].toNat_lt
  generalize hbt : rs[0] = bt at *
  clear HZ gb hrs HC hc
  have g1 : (1 : Int) ≤ (rs.size : Int) := by omega
  have g0 : 0 < rs.size := by omega
  obtain ⟨v, hv⟩ : ∃ v : Int, ((bt.toNat : Nat) : Int) = v := ⟨_, rfl⟩
  have v0 : 0 ≤ v := by omega
  have v1 : v ≤ 255 := by omega
  have gbt : ((rs[0].toNat : Nat) : Int) = v := by rw [hbt]; exact hv
  have HV := Lib.hid hv
  have hB : ((w.alloc (.cells #[.int .i64 0, .int .i64 0, .string ⟨#[]⟩, .slice none 0 0] 24)).drewN nq).heap[w.heap.size]? = some (.cells #[.int .i64 0, .int .i64 0, .string ⟨#[]⟩, .slice none 0 0] 24 (0, 0)) := by rw [World.heap_drewN]; exact blockHere rfl
  have hKW : Kp w ((w.alloc (.cells #[.int .i64 0, .int .i64 0, .string ⟨#[]⟩, .slice none 0 0] 24)).drewN nq) := kk (ka _ _) kpDN
  generalize (w.alloc (.cells #[.int .i64 0, .int .i64 0, .string ⟨#[]⟩, .slice none 0 0] 24)).drewN nq = W at *
  have HB := Lib.hid hB
  have HKW := Lib.hid hKW
  have hwW := lt_of_block hB
  clear hB hKW hbt hv
  go_wp2_with fail
  refine (HI.out _).mono ?_
  rintro e w2 ⟨k, n, t, a, mm, c, r2, ok, rfl, hk2, htold⟩
  have HT := Lib.hid htold
  have hblk := (hk2.block w.heap.size hwW).trans HB.out
  have HBL := Lib.hid hblk
  have HK2 := Lib.hid (kk HKW.out hk2)
  have hz2 := lt_of_block hblk
  clear hk2 htold hblk
  go_wp2_with fail
  have hn : (w2.alloc (.cells #[.int .i64 k, .int .i64 n, .string t, .slice a mm c] 24)).heap[w2.heap.size]? = some (.cells #[.int .i64 k, .int .i64 n, .string t, .slice a mm c] 24 (0, 0)) := blockHere rfl
  have hka := ka w2 (.cells #[.int .i64 k, .int .i64 n, .string t, .slice a mm c] 24)
  generalize w2.alloc (.cells #[.int .i64 k, .int .i64 n, .string t, .slice a mm c] 24) = W3 at *
  obtain ⟨a0, a1, a2, a3, -⟩ := cell4 hn
  have HKA := Lib.hid hka
  have hB3 := (hka.block _ hz2).trans HBL.out
  have HB3 := Lib.hid hB3
  have hz3 := lt_of_block hB3
  have e1 : IntKind.i64.wrap (v - 1) = v - 1 := IntWalk.i64_in _ (by omega)
  have e2 : IntKind.i64.wrap v = v := IntWalk.i64_in _ (by omega)
  clear hn hka hB3
  go_region_law
    (first
      | (go_simp; go_at_call 44; refine (tag_any _ _ _ _ _ _ _ _).mono ?_; rintro e w4 ⟨q, rfl, hqb, hq, hk4⟩; have hk34 := kk kpD hk4; have hblk4 := (hk34.block w.heap.size hz3).trans HB3.out; obtain ⟨c0, c1, c2, c3, f0, f1, f2, f3⟩ := cell4 hblk4; have HB4 := Lib.hid hblk4; have HK34 := Lib.hid hk34; have HQ := Lib.hid hqb; have hq2 : W3.heap.size ≤ q := (by rw [World.drew_size] at hq; exact hq); clear hblk4 hk4 hk34 hqb hq; dsimp only))
  all_goals
    go_wp2_with fail
    obtain ⟨d0, d1, d2, d3, -⟩ := cell4 (put4_block (v0 := .int .i64 3) (v1 := .int .i64 (v - 1)) (v2 := .string ⟨#[]⟩) (v3 := .slice (some ⟨q, 0, none⟩) 1 1) HB4.out)
    refine bodyPost_ret (v := .tuple #[.agg #[.int .i64 3, .int .i64 (v - 1), .string ⟨#[]⟩, .slice (some ⟨q, 0, none⟩) 1 1], .string r2, .bool ok]) (by simp [results, Tryz.results82, go_sem, d0, d1, d2, d3]) rfl ?_
    rw [HL.out, ← HV.out]
    exact ⟨_, _, _, _, _, _, _, _, rfl, put4_kp (kk HK2.out (kk HKA.out HK34.out)) (Nat.le_refl _), told_tag _ _ _ _ HT.out hwW (kk HKA.out HK34.out) HQ.out (by have := HKA.out.size; omega)⟩

theorem told_tuple {w w' : World} {d vb : Nat} {l : List UInt8} {rs : ByteArray} {ys vs : List V} {sl : Value} (htp : TupAt w' vb ys sl vs) (hvb : w.heap.size < vb) (v0 v1 v2 v3 : Value)
    (hkd : KDL d l (some (ys, rs.data.toList))) (hsz : rs.size < l.length + 1) :
    ∃ a cap, sl = .slice a vs.length cap ∧ Told w (put4 w' w.heap.size v0 v1 v2 v3).drew (d + 1) (3 :: l) 2 0 ⟨#[]⟩ a vs.length cap rs true := by
  have hsm := htp.same
  obtain ⟨a, cap, rfl, hin, hft⟩ := htp.value
  refine ⟨a, cap, rfl, .inl ⟨rfl, .mk 2 0 ⟨#[]⟩ none 0 ys, vs, KD.tuple hkd, by simpa using hsz, rfl, ?_, V.foot.mono (fun i hi => by omega) _ hft, V.same_node hsm⟩⟩
  have hS : (put4 w' w.heap.size v0 v1 v2 v3).heap.size = w'.heap.size := by simp [World.setCell]
  have h1 : (V.mk 2 0 ⟨#[]⟩ a cap vs).In (put4 w' w.heap.size v0 v1 v2 v3) (put4 w' w.heap.size v0 v1 v2 v3).heap.size := by
    rw [hS]
    exact V.In.move (Nat.le_refl _) (fun i _ hi => put4_other (by omega)) _ hin hft
  exact h1.keep (Nat.le_refl _) kpD

set_option maxRecDepth 100000 in
set_option maxHeartbeats 8000000 in
theorem keyed_tuple (w : World) (s : ByteArray) (d : Nat) (m : Int) (_hm : 1 ≤ m ∧ m ≤ 100) (h2 : 2 ≤ s.size) (hs : s.size ≤ 1000000) (hb : s[0] = 3)
    (ih : ∀ (s1 : ByteArray) (w1 : World), s1.size < s.size → Calls Tryz.prog 82 #[.string s1, .int .i64 (m - 1)] w1 (OutD w1 d s1.data.toList)) :
    Calls Tryz.prog 82 #[.string s, .int .i64 m] w (OutD w (d + 1) s.data.toList) := by
  obtain ⟨i0, hi, hz0, hz1, hz2⟩ := info_parts infoV
  have hcr := cons_rest s (by omega)
  have e9 : (s.extract 1 s.size).size = s.size - 1 := by simp
  rw [hb] at hcr
  have hm0 : (m == 0) = false := by rw [beq_eq_false_iff_ne]; omega
  have g2 : (2 : Int) ≤ (s.size : Int) := by omega
  have gb : ((s[0].toNat : Nat) : Int) = 3 := by rw [hb]; rfl
  have hz : 1 ≤ (s.extract 1 s.size).size ∧ (s.extract 1 s.size).size ≤ 1000000 ∧ (s.extract 1 s.size).size < s.size := by omega
  have HI := Lib.hid ih
  have HZ := Lib.hid hz
  have HC := Lib.hid hcr
  clear ih hcr e9 hz
  go_enter Tryz.func82, Tryz.ntmps82
  go_wp2_with fail
  go_quiet (fail)
  obtain ⟨hz4, hz5, hz6⟩ := HZ.out
  generalize s.extract 1 s.size = rs at *
  clear HZ gb
  have hB : ((w.alloc (.cells #[.int .i64 0, .int .i64 0, .string ⟨#[]⟩, .slice none 0 0] 24)).drewN nq).heap[w.heap.size]? = some (.cells #[.int .i64 0, .int .i64 0, .string ⟨#[]⟩, .slice none 0 0] 24 (0, 0)) := by rw [World.heap_drewN]; exact blockHere rfl
  have hKW : Kp w ((w.alloc (.cells #[.int .i64 0, .int .i64 0, .string ⟨#[]⟩, .slice none 0 0] 24)).drewN nq) := kk (ka _ _) kpDN
  generalize (w.alloc (.cells #[.int .i64 0, .int .i64 0, .string ⟨#[]⟩, .slice none 0 0] 24)).drewN nq = W at *
  have HB := Lib.hid hB
  have HKW := Lib.hid hKW
  have hwW := lt_of_block hB
  clear hB hKW
  go_wp2_with fail
  refine (tuple_any _ _ _ _).mono ?_
  rintro e w2 ⟨rfl, hk2⟩
  go_wp2_with fail
  have hzk := hk2.size
  have hk3 := kk hk2 (ka w2 (.cells #[.int .i64 2, .int .i64 0, .string ⟨#[]⟩, .slice none 0 0] 24))
  have hblk := (hk3.block w.heap.size hwW).trans HB.out
  have hkW := kk HKW.out hk3
  have htup : TupAt (w2.alloc (.cells #[.int .i64 2, .int .i64 0, .string ⟨#[]⟩, .slice none 0 0] 24)) w2.heap.size [] (.slice none 0 0) [] := ⟨blockHere rfl, World.ownsRow_nil _ _ _ _, rfl, trivial, trivial⟩
  have hvw : w.heap.size < w2.heap.size := by omega
  generalize w2.alloc (.cells #[.int .i64 2, .int .i64 0, .string ⟨#[]⟩, .slice none 0 0] 24) = W2 at *
  generalize w2.heap.size = vb at *
  have HBL := Lib.hid hblk
  have HK2 := Lib.hid hkW
  have HTU := Lib.hid htup
  clear hk2 hk3 hblk hkW htup hzk
  go_loopw [8] (fun rr wr => ∃ (r : ByteArray) (sl : Value) (vs ys : List V), rr = .string r ∧ r.size ≤ rs.size ∧ vs.length ≤ rs.size - r.size ∧ Hid (∀ o, KDL d r.data.toList o → KDL d rs.data.toList (o.map fun x => (ys ++ x.1, x.2))) ∧ TupAt wr vb ys sl vs ∧ Kp w wr ∧ wr.heap[w.heap.size]? = some (.cells #[.int .i64 0, .int .i64 0, .string ⟨#[]⟩, .slice none 0 0] 24 (0, 0))) (fun rr _ => strSize rr)
  case atStart => exact ⟨rs, _, [], [], rfl, Nat.le_refl _, by simp, Lib.hid (fun o h => by simpa using h), HTU.out, HK2.out, HBL.out⟩
  case round =>
    obtain ⟨r, sl, vs, ys, rfl, hrz, hvl, hre, htp, hk, hres⟩ := hrel
    obtain ⟨c0, c1, c2, c3, f0, f1, f2, f3⟩ := cell4 hres
    have HTP := Lib.hid htp
    have HK := Lib.hid hk
    have HRS := Lib.hid hres
    have hvbw := htp.lt
    by_cases h0 : r.size = 0
    · have hg : decide (0 < r.size) = false := decide_eq_false (by omega)
      have HN := Lib.hid (show KD (d + 1) s.data.toList none by
        rw [HC.out]
        have h1 : r.data.toList = [] := List.length_eq_zero_iff.1 (by rw [← size_list]; exact h0)
        have := hre.out none (by rw [h1]; exact .gone)
        exact KD.tuple this)
      clear h0 htp hk hres hre
      go_wp2_with fail
      obtain ⟨d0, d1, d2, d3, -⟩ := cell4 (put4_block (v0 := .int .i64 0) (v1 := .int .i64 0) (v2 := .string ⟨#[]⟩) (v3 := .slice none 0 0) HRS.out)
      exact bodyPost_ret (v := .tuple #[.agg zero4, .string s, .bool false]) (by simp [results, Tryz.results82, go_sem, d0, d1, d2, d3]) rfl (outD_none HN.out (put4_kp HK.out (Nat.le_refl _)))
    · have hg : decide (0 < r.size) = true := decide_eq_true (by omega)
      have hg0 : 0 < r.size := by omega
      by_cases hc : r[0] = 0
      · have g3 : ((r[0].toNat : Nat) : Int) = 0 := by rw [hc]; rfl
        have hcr := cons_rest r hg0
        rw [hc] at hcr
        have HKD := Lib.hid (show KDL d rs.data.toList (some (ys, (r.extract 1 r.size).data.toList)) by
          have := hre.out (some ([], (r.extract 1 r.size).data.toList)) (by rw [hcr]; exact .done)
          simpa using this)
        obtain ⟨a, cap, rfl, htold⟩ := told_tuple htp hvw (.int .i64 2) (.int .i64 0) (.string ⟨#[]⟩) sl HKD.out (by rw [← size_list]; simp; omega)
        obtain ⟨b0, b1, b2, b3, -⟩ := cell4 htp.box
        have HTD := Lib.hid htold
        have g1 : (1 : Int) ≤ (r.size : Int) := by omega
        clear h0 htp hk hres hre hc hcr htold
        go_wp2_with fail
        go_region
        all_goals
          go_wp2_with fail
          obtain ⟨d0, d1, d2, d3, -⟩ := cell4 (put4_block (v0 := .int .i64 2) (v1 := .int .i64 0) (v2 := .string ⟨#[]⟩) (v3 := .slice a vs.length cap) HRS.out)
          refine bodyPost_ret (v := .tuple #[.agg #[.int .i64 2, .int .i64 0, .string ⟨#[]⟩, .slice a vs.length cap], .string (r.extract 1 r.size), .bool true]) (by simp [results, Tryz.results82, go_sem, d0, d1, d2, d3]) rfl ?_
          rw [HC.out]
          exact ⟨_, _, _, _, _, _, _, _, rfl, kk (put4_kp HK.out (Nat.le_refl _)) kpD, HTD.out⟩
      · have g3 : (((r[0].toNat : Nat) : Int) == 0) = false := by
          rw [beq_eq_false_iff_ne]; intro e; exact hc (UInt8.toNat_inj.1 (by have : (0 : UInt8).toNat = 0 := rfl; omega))
        have hhd : r.data.toList.head? ≠ some 0 := by rw [cons_rest r hg0]; simpa using hc
        have HHD := Lib.hid hhd
        have hrs2 : r.size < s.size := by omega
        have HRE := Lib.hid hre.out
        have nres : some w.heap.size ≠ sl.ownBlock := fun e => by have := (htp.own.lt _ e.symm).1; omega
        have nvb : some vb ≠ sl.ownBlock := fun e => by have := (htp.own.lt _ e.symm).1; omega
        clear h0 htp hk hres hre hc hhd
        go_wp2_with fail
        refine (HI.out r wr hrs2).mono ?_
        rintro e w3 ⟨k, n, t, a, mm, c, r2, ok, rfl, hk3, htold⟩
        have HK3 := Lib.hid hk3
        have hres3 := (hk3.block _ (lt_of_block HRS.out)).trans HRS.out
        have HR3 := Lib.hid hres3
        have hz3 := lt_of_block hres3
        obtain ⟨c0, c1, c2, c3, f0, f1, f2, f3⟩ := cell4 hres3
        clear hk3 hres3
        rcases htold with ⟨rfl, y, vl, hkd, hsz, rfl, hin, hft, hsm⟩ | ⟨rfl, hkd⟩
        · have hb3 := (HK3.out.block _ hvbw).trans HTP.out.box
          have hvb3 := lt_of_block hb3
          have q3 : w3.cell? ⟨vb, 3, none⟩ = some sl := cellOf hb3 rfl
          have HB3 := Lib.hid hb3
          have HZI := Lib.hid hin
          have HZF := Lib.hid hft
          have HSM := Lib.hid hsm
          have HRE2 := Lib.hid (show ∀ o, KDL d r2.data.toList o → KDL d rs.data.toList (o.map fun x => ((ys ++ [y]) ++ x.1, x.2)) by
            intro o ho
            have := HRE.out _ (.part1 HHD.out hkd ho)
            cases o with
            | none => simpa using this
            | some x => simpa using this)
          have hsz' : r2.size < r.size := by rw [← size_list] at hsz; exact hsz
          clear hb3 hin hft hsm hkd hsz
          go_wp2_with (at_builtin; refine wpList_append_lies _ rfl _ _ 22 rfl (vb + 1) 24 i0 _ 4 56 Tryz.underlying22 hi hz0 hz1 hz2 rfl (by decide) _ _ _ rfl (((ownsRow_kp HTP.out.own HK3.out).alloc _).alloc _) ⟨w3.heap.size + 1, 0, none⟩ 1 1 [.int .i64 k, .int .i64 n, .string t, .slice a vl.length c] rfl rfl ?a1 ?a2 (by decide) ?a3 ?a4 ?a5 (w3.heap.size + 1 + 1) (by simp) ?_)
          case a1 =>
            intro j u hj
            match j, hj with
            | 0, hj => simp at hj; subst hj; simp [Addr.add]
            | 1, hj => simp at hj; subst hj; simp [Addr.add]
            | 2, hj => simp at hj; subst hj; simp [Addr.add]
            | 3, hj => simp at hj; subst hj; simp [Addr.add]
          case a2 => intro u hu; simp at hu; rcases hu with rfl | rfl | rfl | rfl <;> rfl
          case a3 => unfold maxLen; omega
          case a4 => omega
          case a5 => simp; omega
          intro gg gcap w4 hown1 hgrow hat hltg
          have hka2 := ka w3 (.cells #[.int .i64 k, .int .i64 n, .string t, .slice a vl.length c] 24)
          have hkc := kk hka2 (ka (w3.alloc (.cells #[.int .i64 k, .int .i64 n, .string t, .slice a vl.length c] 24)) (.cells #[.int .i64 k, .int .i64 n, .string t, .slice a vl.length c] 24))
          have hb4 := (hgrow.block vb (by simp; omega) nvb).trans (blockPast (blockPast HB3.out))
          have p3 : w4.cell? ⟨vb, 3, none⟩ = some sl := cellOf hb4 rfl
          have pf3 : w4.frozen? ⟨vb, 3, none⟩ = false := freeOf hb4
          have HST := Lib.hid (HTP.out.step HK3.out HZI.out HZF.out HSM.out hkc hown1 hgrow (by simpa using hat))
          have HK4 := Lib.hid (put1_kp (i := 3) (v := .slice (some ⟨gg, 0, none⟩) (vs.length + 1) gcap) (kp_grown (kk (kk HK.out HK3.out) hkc) hgrow (fun k e => by have := (HTP.out.own.lt k e).1; omega)) (by omega : w.heap.size ≤ vb))
          have HR4 := Lib.hid (step_block (i := 3) (u := .slice (some ⟨gg, 0, none⟩) (vs.length + 1) gcap) HK3.out hkc hgrow nres (by omega : w.heap.size ≠ vb) HRS.out)
          clear hka2 hkc hb4 hown1 hgrow hat q3 c0 c1 c2 c3 f0 f1 f2 f3
          go_wp2_with fail
          go_roundw
          case rel => exact ⟨r2, _, _, _, rfl, by omega, by simp; omega, Lib.hid HRE2.out, HST.out, HK4.out, HR4.out⟩
          case measure => simp only [strSize]; omega
        · have HN := Lib.hid (show KD (d + 1) s.data.toList none by
            rw [HC.out]
            have := HRE.out none (.part0 HHD.out hkd)
            exact KD.tuple this)
          clear hkd
          go_wp2_with fail
          obtain ⟨d0, d1, d2, d3, -⟩ := cell4 (blockPast (o := .cells #[.int .i64 k, .int .i64 n, .string t, .slice a mm c] 24) (put4_block (v0 := .int .i64 0) (v1 := .int .i64 0) (v2 := .string ⟨#[]⟩) (v3 := .slice none 0 0) HR3.out))
          exact bodyPost_ret (v := .tuple #[.agg zero4, .string s, .bool false]) (by simp [results, Tryz.results82, go_sem, d0, d1, d2, d3]) rfl (outD_none HN.out (kk (put4_kp (kk HK.out HK3.out) (Nat.le_refl _)) (ka _ _)))

end Go.Proofs.YtkfmgafgokpjhaaGreatDoor

/-
  THE SPECIFICATION's keyed, OF ANY BYTES; its OfKey.
-/
namespace Go.Proofs.YtkfmgafgokpjhaaGreatDoor
open Go.RowKit

theorem byte_eq {b : UInt8} {k : UInt8} (h : b.toNat = k.toNat) : b = k := UInt8.toNat_inj.1 h

theorem keyedR : ∀ (d : Nat) (m : Int) (s : ByteArray) (w : World), m = (d : Int) → d ≤ 6 → s.size ≤ 1000000 → Calls Tryz.prog 82 #[.string s, .int .i64 m] w (OutD w d s.data.toList) := by
  intro d
  induction d with
  | zero => intro m s w hm _ _; subst hm; exact keyed_zero w s
  | succ d ih =>
    intro m s w hm hd hs
    have hm1 : 1 ≤ m ∧ m ≤ 100 := by omega
    have hih : ∀ (s1 : ByteArray) (w1 : World), s1.size < s.size → Calls Tryz.prog 82 #[.string s1, .int .i64 (m - 1)] w1 (OutD w1 d s1.data.toList) := fun s1 w1 h => ih (m - 1) s1 w1 (by omega) (by omega) (by omega)
    rcases Nat.lt_or_ge s.size 2 with h2 | h2
    · exact keyed_short w s (d + 1) m hm1 h2
    by_cases b1 : s[0].toNat = 1
    · have hb : s[0] = 1 := byte_eq b1
      rcases Nat.lt_or_ge s.size 5 with h5 | h5
      · exact keyed_word0 w s (d + 1) m hm1 h2 h5 hb
      · exact keyed_word w s d m hm1 h5 hs hb
    by_cases b2 : s[0].toNat = 2
    · exact keyed_text w s d m hm1 h2 hs (byte_eq b2)
    by_cases b3 : s[0].toNat = 3
    · exact keyed_tuple w s d m hm1 h2 hs (byte_eq b3) hih
    by_cases b4 : s[0].toNat = 4
    · exact keyed_tag w s d m hm1 h2 hs (byte_eq b4) hih
    · exact keyed_bad w s (d + 1) m hm1 h2 (by omega)

/-- What OfKey answers, by what was read. -/
def OutO (w : World) (s : ByteArray) (e : Ending) (w' : World) : Prop :=
  (∃ y, (KD 6 s.data.toList (some (y, [])) ∧ y.valid = true) ∧ Gets w y e w') ∨
      ((∃ o, KD 6 s.data.toList o ∧ ∀ y, o = some (y, []) → y.valid = false) ∧ e = .returned (.tuple #[.agg zero4, .int .i64 8]) ∧ Kp w w')

set_option maxRecDepth 100000 in
set_option maxHeartbeats 2000000 in
theorem ofKeyR_long (w : World) (s : ByteArray) (h : 6500 < s.size) (hs : s.size ≤ 9223372036854775807) :
    Calls Tryz.prog 39 #[.string s] w fun e w' => e = .returned (.tuple #[.agg zero4, .int .i64 3]) ∧ Kp w w' := by
  have g : (6500 : Int) < (s.size : Int) := by omega
  go_enter Tryz.func39, Tryz.ntmps39
  go_wp2_with fail
  exact bodyPost_ret (v := .tuple #[.agg zero4, .int .i64 3]) (by simp [results, Tryz.results39, go_sem]) rfl ⟨rfl, ka _ _⟩

set_option maxRecDepth 100000 in
set_option maxHeartbeats 4000000 in
theorem ofKeyR_any' (w : World) (s : ByteArray) (hs : s.size ≤ 6500) : Calls Tryz.prog 39 #[.string s] w (OutO w s) := by
  have g : (s.size : Int) ≤ 6500 := by omega
  have K := fun (w1 : World) => keyedR 6 6 s w1 rfl (Nat.le_refl _) (by omega)
  have HK := Lib.hid K
  clear K
  go_enter Tryz.func39, Tryz.ntmps39
  go_wp2_with fail
  refine (HK.out _).mono ?_
  rintro e w2 ⟨k, n, t, a, mm, c, r2, ok, rfl, hk2, htold⟩
  have hblk := boxK hk2
  have HBL := Lib.hid hblk
  have HK2 := Lib.hid (kk (ka _ _) hk2)
  have hz2 := lt_of_block hblk
  clear hk2
  obtain ⟨c0, c1, c2, c3, f0, f1, f2, f3⟩ := cell4 hblk
  clear hblk
  rcases htold with ⟨rfl, y, vl, hkd, hsz, rfl, hin, hft, hsm⟩ | ⟨rfl, hkd⟩
  · by_cases hr : r2.data.toList = []
    · have hr2 : r2 = ⟨#[]⟩ := by
        have := Array.toList_eq_nil_iff.1 hr
        cases r2; simp at this; subst this; rfl
      subst hr2
      have hka := ka w2 (.cells #[.int .i64 k, .int .i64 n, .string t, .slice a vl.length c] 24)
      have hin2 := hin.keep hka.size hka
      have HV := Lib.hid (valid_ref k n t a c vl _ hin2)
      have hval := same_valid hsm
      have HFT := Lib.hid hft
      have HSM := Lib.hid hsm
      have HIN := Lib.hid hin2
      cases hv : (V.mk k n t a c vl).valid with
      | true =>
        rw [hv] at hval HV
        have HO := Lib.hid (show KD 6 s.data.toList (some (y, [])) ∧ y.valid = true from ⟨hkd, hval.symm⟩)
        clear hv hval hin hft hsm hkd hsz hin2 hka hr
        go_wp2_with fail
        refine HV.out.mono ?_
        rintro e w3 ⟨rfl, hk3⟩
        have hR := (hk3.block w.heap.size (by simp; omega)).trans (blockPast HBL.out)
        have hN := (hk3.block w2.heap.size (by simp)).trans (blockHere (w := w2) rfl)
        obtain ⟨c0, c1, c2, c3, f0, f1, f2, f3⟩ := cell4 hR
        obtain ⟨b0, b1, b2, b3, -⟩ := cell4 hN
        have HRR := Lib.hid hR
        have HI3 := Lib.hid (HIN.out.keep hk3.size hk3)
        have HK3 := Lib.hid (kk HK2.out (kk (ka _ _) hk3))
        clear hR hN hk3
        go_wp2_with fail
        obtain ⟨d0, d1, d2, d3, -⟩ := cell4 (put4_block (v0 := .int .i64 k) (v1 := .int .i64 n) (v2 := .string t) (v3 := .slice a vl.length c) HRR.out)
        refine bodyPost_ret (v := .tuple #[.agg #[.int .i64 k, .int .i64 n, .string t, .slice a vl.length c], .int .i64 0]) (by simp [results, Tryz.results39, go_sem, d0, d1, d2, d3]) rfl ?_
        have hf1 : (V.mk k n t a c vl).foot (fun b => w.heap.size + 1 ≤ b) := V.foot.mono (fun b hb => by simpa using hb) _ HFT.out
        have hS : (put4 w3 w.heap.size (.int .i64 k) (.int .i64 n) (.string t) (.slice a vl.length c)).heap.size = w3.heap.size := by simp [World.setCell]
        exact .inl ⟨y, HO.out, .mk k n t a c vl, rfl, by rw [hS]; exact V.In.move (Nat.le_refl _) (fun b _ hb => put4_other (by omega)) _ HI3.out hf1, V.foot.mono (fun b hb => by omega) _ hf1, HSM.out, put4_kp HK3.out (Nat.le_refl _)⟩
      | false =>
        rw [hv] at hval HV
        have HO := Lib.hid (show ∃ o, KD 6 s.data.toList o ∧ ∀ y, o = some (y, []) → y.valid = false from ⟨_, hkd, fun y' h => by injection h with h; injection h with h _; rw [← h, ← hval]⟩)
        clear hv hval hin hft hsm hkd hsz hin2 hka hr
        go_wp2_with fail
        refine HV.out.mono ?_
        rintro e w3 ⟨rfl, hk3⟩
        have hR := (hk3.block w.heap.size (by simp; omega)).trans (blockPast HBL.out)
        obtain ⟨c0, c1, c2, c3, f0, f1, f2, f3⟩ := cell4 hR
        have HRR := Lib.hid hR
        have HK3 := Lib.hid (kk HK2.out (kk (ka _ _) hk3))
        clear hR hk3
        go_wp2_with fail
        obtain ⟨d0, d1, d2, d3, -⟩ := cell4 (put4_block (v0 := .int .i64 0) (v1 := .int .i64 0) (v2 := .string ⟨#[]⟩) (v3 := .slice none 0 0) HRR.out)
        exact bodyPost_ret (v := .tuple #[.agg zero4, .int .i64 8]) (by simp [results, Tryz.results39, go_sem, d0, d1, d2, d3]) rfl (.inr ⟨HO.out, rfl, put4_kp HK3.out (Nat.le_refl _)⟩)
    · have HO := Lib.hid (show ∃ o, KD 6 s.data.toList o ∧ ∀ y, o = some (y, []) → y.valid = false from ⟨_, hkd, fun y' h => by injection h with h; injection h with _ h; exact absurd h hr⟩)
      have e1 : r2.toList.isEmpty = false := by rw [ByteArray.toList_eq]; cases h : r2.data.toList with
        | nil => exact absurd h hr
        | cons _ _ => rfl
      have e2 : (r2.toList == ([] : List UInt8)) = false := by rw [ByteArray.toList_eq, beq_eq_false_iff_ne]; exact hr
      clear hin hft hsm hkd hsz hr
      go_wp2_with fail
      obtain ⟨d0, d1, d2, d3, -⟩ := cell4 (blockPast (o := .cells #[.int .i64 k, .int .i64 n, .string t, .slice a vl.length c] 24) (put4_block (v0 := .int .i64 0) (v1 := .int .i64 0) (v2 := .string ⟨#[]⟩) (v3 := .slice none 0 0) HBL.out))
      exact bodyPost_ret (v := .tuple #[.agg zero4, .int .i64 8]) (by simp [results, Tryz.results39, go_sem, d0, d1, d2, d3]) rfl (.inr ⟨HO.out, rfl, kk (put4_kp HK2.out (Nat.le_refl _)) (ka _ _)⟩)
  · have HO := Lib.hid (show ∃ o, KD 6 s.data.toList o ∧ ∀ y, o = some (y, []) → y.valid = false from ⟨_, hkd, fun y' h => by cases h⟩)
    clear hkd
    go_wp2_with fail
    obtain ⟨d0, d1, d2, d3, -⟩ := cell4 (blockPast (o := .cells #[.int .i64 k, .int .i64 n, .string t, .slice a mm c] 24) (put4_block (v0 := .int .i64 0) (v1 := .int .i64 0) (v2 := .string ⟨#[]⟩) (v3 := .slice none 0 0) HBL.out))
    exact bodyPost_ret (v := .tuple #[.agg zero4, .int .i64 8]) (by simp [results, Tryz.results39, go_sem, d0, d1, d2, d3]) rfl (.inr ⟨HO.out, rfl, kk (put4_kp HK2.out (Nat.le_refl _)) (ka _ _)⟩)

theorem ofKeyR_any (w : World) (s : ByteArray) (hs : s.size ≤ 6500) :
    Calls Tryz.prog 39 #[.string s] w fun e w' => (∃ y, (KD 6 s.data.toList (some (y, [])) ∧ y.valid = true) ∧ Gets w y e w') ∨
      ((∃ o, KD 6 s.data.toList o ∧ ∀ y, o = some (y, []) → y.valid = false) ∧ e = .returned (.tuple #[.agg zero4, .int .i64 8]) ∧ Kp w w') :=
  ofKeyR_any' w s hs

end Go.Proofs.YtkfmgafgokpjhaaGreatDoor

/-
  THE SPECIFICATION's key: a row of bytes of its own.
-/
namespace Go.Proofs.YtkfmgafgokpjhaaGreatDoor
open Go.RowKit

/-- What key returns: these bytes, in a row of its own. -/
def MakesB (w : World) (l : List UInt8) (e : Ending) (w' : World) : Prop :=
  ∃ g cap : Nat, e = .returned (.slice (some ⟨g, 0, none⟩) l.length cap) ∧ w'.ownsRow w.heap.size 5 1 (.slice (some ⟨g, 0, none⟩) l.length cap) l.length (bytesV l) ∧ Kp w w'

theorem own_lit {w : World} {base g n : Nat} {cs : Array Value} {l : List UInt8} (hn : n = l.length) (hb : base ≤ g) (hg : w.heap[g]? = some (.cells cs 5 (0, 0))) (hc : cs.toList = bytesV l) (hl : l.length ≤ 1000) :
    w.ownsRow base 5 1 (.slice (some ⟨g, 0, none⟩) n n) n (bytesV l) := by
  subst hn
  have h1 : (bytesV l).length = l.length := by simp [bytesV]
  refine ⟨by rw [h1]; omega, .inr ⟨g, l.length, cs, rfl, hb, hg, Nat.le_refl _, by unfold maxLen; omega, ?_, ?_⟩⟩
  · have := congrArg List.length hc
    simp [bytesV] at this
    omega
  · rw [hc, List.take_of_length_le (by rw [h1]; omega)]

theorem byte_shr (n : Int) (j : Nat) (b : UInt8) (h : byteAt n j = b) : (n / 2 ^ (24 - 8 * j)) % 256 = (b.toNat : Int) := by rw [byteAt_val, h]

set_option maxRecDepth 100000 in
set_option maxHeartbeats 2000000 in
theorem keyR_word (n : Int) (s : ByteArray) (a : Option Addr) (len cap : Nat) (w : World) (hn : -2147483648 ≤ n ∧ n ≤ 2147483647) :
    Calls Tryz.prog 80 #[.agg #[.int .i64 0, .int .i64 n, .string s, .slice a len cap]] w (MakesB w (1 :: wordBytes n)) := by
  go_enter Tryz.func80, Tryz.ntmps80
  go_wp2_with fail
  go_ret
  refine ⟨w.heap.size + 1, 5, rfl, own_lit rfl (by omega) (blockHere (by simp)) ?_ (by simp [wordBytes]), kk (ka _ _) (ka _ _)⟩
  have k0 := byteAt_val (n + 2147483648) 0
  have k1 := byteAt_val (n + 2147483648) 1
  have k2 := byteAt_val (n + 2147483648) 2
  have k3 := byteAt_val (n + 2147483648) 3
  simp at k0 k1 k2 k3
  simp [bytesV, wordBytes]
  refine ⟨by omega, by omega, by omega, by omega⟩

theorem makesB_end {w w2 : World} {g cap n base : Nat} {l : List UInt8} {xs : List Value} (hb : w.heap.size ≤ base) (hn : n = l.length) (hown : w2.ownsRow base 5 1 (.slice (some ⟨g, 0, none⟩) n cap) n xs) (hx : xs = bytesV l) (hk : Kp w w2) :
    MakesB w l (.returned (.slice (some ⟨g, 0, none⟩) n cap)) w2 := by
  subst hn hx
  exact ⟨g, cap, rfl, hown.mono hb, hk⟩

theorem strCells_bytes (s : ByteArray) : Lib.strCells s = bytesV s.data.toList := rfl

set_option maxRecDepth 100000 in
set_option maxHeartbeats 2000000 in
theorem keyR_text (n : Int) (s : ByteArray) (a : Option Addr) (len cap : Nat) (w : World) (hs : s.size ≤ 100) :
    Calls Tryz.prog 80 #[.agg #[.int .i64 1, .int .i64 n, .string s, .slice a len cap]] w (MakesB w (2 :: s.data.toList ++ [0])) := by
  obtain ⟨i0, hi, hz0, hz1, hz2⟩ := info_parts infoU8
  go_enter Tryz.func80, Tryz.ntmps80
  go_wp2_with (at_builtin; (with_reducible refine Lib.wpList_append_own_string _ rfl _ _ 57 9 rfl (w.heap.size + 1) 5 i0 Tryz.underlying57 Tryz.underlying9 hi hz0 hz1 hz2 _ 1 (bytesV [2]) rfl ?c0 s rfl ?c1 ?c2 ?c3 ?_))
  case c0 => exact own_lit (l := [2]) rfl (by omega) (blockHere (by simp)) rfl (by decide)
  case c1 => unfold maxLen; omega
  case c2 => omega
  case c3 => simp
  intro v1 w1 hown hgrow _
  have hk1 : Kp w w1 := kp_grown (kk (ka _ _) (ka _ _)) hgrow (fun k e => by simp [Value.ownBlock] at e; omega)
  have hz := hgrow.size
  simp at hz
  have HO := Lib.hid hown
  have HK := Lib.hid hk1
  clear hown hgrow hk1
  go_wp2_with (at_builtin; refine wpList_append_lies _ rfl _ _ 57 rfl (w.heap.size + 1) 5 i0 (.int .u8 0) 1 1 Tryz.underlying57 hi hz0 hz1 hz2 rfl (by decide) _ _ _ rfl (HO.out.alloc _) ⟨w1.heap.size, 0, none⟩ 1 1 [.int .u8 0] rfl rfl ?d1 ?d2 (by decide) ?d3 ?d4 ?d5 (w1.heap.size + 1) (by simp) ?_)
  case d1 =>
    intro j u hj
    match j, hj with
    | 0, hj => simp at hj; subst hj; simp [Addr.add]
  case d2 => intro u hu; simp at hu; subst hu; rfl
  case d3 => unfold maxLen; omega
  case d4 => omega
  case d5 => simp; omega
  intro g gcap w2 hown2 hgrow2 _ _
  have HR := Lib.hid (makesB_end (l := 2 :: s.data.toList ++ [0]) (w := w) (by omega) (by simp; omega) hown2 (by simp [strCells_bytes, bytesV])
    (kp_grown (kk HK.out (ka _ _)) hgrow2 (fun k e => by have := (HO.out.lt k e).1; omega)))
  clear hown2 hgrow2
  go_wp2_with fail
  go_ret
  exact HR.out

set_option maxRecDepth 100000 in
set_option maxHeartbeats 4000000 in
theorem keyR_tuple (n : Int) (s : ByteArray) (a : Option Addr) (cap : Nat) (l : List V) (w : World) (hin : (V.mk 2 n s a cap l).In w w.heap.size) (hx : (V.keyBL l).length ≤ 1000000)
    (hne : ∀ (j : Nat) (x : V), l[j]? = some x → 0 < x.keyB.length)
    (ih : ∀ (j : Nat) (x : V), l[j]? = some x → ∀ w1 : World, Kp w w1 → Calls Tryz.prog 80 #[.agg #[.int .i64 x.k, .int .i64 x.n, .string x.s, .slice x.a x.l.length x.cap]] w1 (MakesB w1 x.keyB)) :
    Calls Tryz.prog 80 #[.agg #[.int .i64 2, .int .i64 n, .string s, .slice a l.length cap]] w (MakesB w (3 :: V.keyBL l ++ [0])) := by
  obtain ⟨i0, hi, hz0, hz1, hz2⟩ := info_parts infoU8
  have hlen := V.lenLe hin
  have HIN := Lib.hid hin
  have IH := Lib.hid ih
  have HNE := Lib.hid hne
  clear hin ih hne
  rw [V.keyBL_join] at hx ⊢
  go_enter Tryz.func80, Tryz.ntmps80
  go_wp2_with fail
  go_loopw [4, 5] (fun out i wr => ∃ (g c j : Nat) (bs : List UInt8), j ≤ l.length ∧ Hid (bs = 3 :: joinF V.keyB [] (l.take j)) ∧ bs.length ≤ 1000001 ∧ 0 < bs.length ∧ out = .slice (some ⟨g, 0, none⟩) bs.length c ∧ i = .int .i64 j ∧ wr.ownsRow (w.heap.size + 1) 5 1 (.slice (some ⟨g, 0, none⟩) bs.length c) bs.length (bytesV bs) ∧ Kp (w.alloc (.cells #[.int .i64 2, .int .i64 n, .string s, .slice a l.length cap] 24)) wr) (fun _ i _ => l.length - (intOf i).toNat)
  case atStart => exact ⟨w.heap.size + 1, 1, 0, [3], Nat.zero_le _, Lib.hid (by simp [joinF]), by decide, by decide, rfl, rfl, own_lit (l := [3]) rfl (Nat.le_refl _) (blockHere (by simp)) rfl (by decide), ka _ _⟩
  case round =>
    obtain ⟨g, c, j, bs, hj, hl, hb, hb0, rfl, rfl, hown, hk⟩ := hrel
    obtain ⟨b0, b1, b2, b3, hz⟩ := box4 hk
    by_cases hlt : j < l.length
    · obtain ⟨x, hx0⟩ : ∃ x, l[j]? = some x := ⟨l[j], by simp [hlt]⟩
      obtain ⟨p0, off, rfl, hp0, q0, q1, q2, q3, hxin⟩ := V.atPart HIN.out hx0
      have hkw := kk (ka _ _) hk
      have r0 := kc hkw q0
      have r1 := kc hkw q1
      have r2 := kc hkw q2
      have r3 := kc hkw q3
      have hjl := joinF_len V.keyB [] l (j + 1)
      have hsn : joinF V.keyB [] (l.take (j + 1)) = joinF V.keyB [] (l.take j) ++ x.keyB := by
        have h9 : l.take (j + 1) = l.take j ++ [x] := by
          rw [List.take_add_one, hx0]; rfl
        rw [h9, joinF_snoc]
        split
        · next h => rw [h]; simp [joinF]
        · simp
      have hih := IH.out j x hx0 wr hkw
      have hX0 := HNE.out j x hx0
      have hX1 : (bs ++ x.keyB).length ≤ 1000001 := by
        rw [hl.out]; rw [hsn] at hjl; simp only [List.length_append, List.length_cons] at hjl ⊢; omega
      have HSN := Lib.hid (show bs ++ x.keyB = 3 :: joinF V.keyB [] (l.take (j + 1)) by rw [hl.out, hsn]; rfl)
      generalize hX : x.keyB = X at *
      have g0 : (0 : Int) ≤ (j : Int) := by omega
      have g1 : (j : Int) < (l.length : Int) := by omega
      have HK := Lib.hid hk
      have HIH := Lib.hid hih
      have HO := Lib.hid hown
      generalize x.k = xk at *
      generalize x.n = xn at *
      generalize x.s = xs at *
      generalize x.a = xa at *
      generalize x.l.length = xl at *
      generalize x.cap = xc at *
      clear hsn hjl hk hih hX hx0 q0 q1 q2 q3 hxin hkw hl hown
      go_wp2_with fail
      refine HIH.out.mono ?_
      rintro e w1 ⟨g1, c1, rfl, hown1, hk1⟩
      have HX1 := Lib.hid hX1
      have HO1 := Lib.hid hown1
      have HK1 := Lib.hid hk1
      have hzk := hk1.size
      have hlr := (HO.out.lt g rfl)
      simp only [List.length_append] at hX1
      clear hown1 hk1 r0 r1 r2 r3 b0 b1 b2 b3
      go_wp2_with (at_builtin; refine wpList_append_lies _ rfl _ _ 57 rfl (w.heap.size + 1) 5 i0 (.int .u8 0) 1 1 Tryz.underlying57 hi hz0 hz1 hz2 rfl (by decide) _ _ _ rfl (ownsRow_kp HO.out HK1.out) ⟨g1, 0, none⟩ X.length c1 (bytesV X) rfl ?d0 ?d1 ?d2 hX0 ?d3 ?d4 ?d5 w1.heap.size rfl ?_)
      case d0 => simp [bytesV]
      case d1 => exact HO1.out.cells rfl
      case d2 => intro u hu; simp [bytesV] at hu; obtain ⟨b, -, rfl⟩ := hu; rfl
      case d3 => unfold maxLen; omega
      case d4 => omega
      case d5 => omega
      intro g2 c2 w2 hown2 hgrow2 _ _
      have HK2 := Lib.hid (kp_grown (kk HK.out HK1.out) hgrow2 (fun k e => by simp [Value.ownBlock] at e; subst e; simp; omega))
      have HO2 := Lib.hid hown2
      clear hown2 hgrow2
      go_wp2_with fail
      go_roundw
      case rel => exact ⟨g2, c2, j + 1, bs ++ X, by omega, Lib.hid HSN.out, HX1.out, by simp; omega, by simp, by go_num, by simpa [bytesV] using HO2.out, HK2.out⟩
      case measure => simp [intOf]; omega
    · have hjj : j = l.length := by omega
      subst hjj
      have HK := Lib.hid (kk (ka _ _) hk)
      have HO := Lib.hid hown
      have hlr := (HO.out.lt g rfl)
      have hzz := HK.out.size
      clear hk hown
      go_wp2_with (at_builtin; refine wpList_append_lies _ rfl _ _ 57 rfl (w.heap.size + 1) 5 i0 (.int .u8 0) 1 1 Tryz.underlying57 hi hz0 hz1 hz2 rfl (by decide) _ _ _ rfl (HO.out.alloc _) ⟨wr.heap.size, 0, none⟩ 1 1 [.int .u8 0] rfl rfl ?d1 ?d2 (by decide) ?d3 ?d4 ?d5 (wr.heap.size + 1) (by simp) ?_)
      case d1 =>
        intro j u hj
        match j, hj with
        | 0, hj => simp at hj; subst hj; simp [Addr.add]
      case d2 => intro u hu; simp at hu; subst hu; rfl
      case d3 => unfold maxLen; omega
      case d4 => omega
      case d5 => simp; omega
      intro g2 gcap w2 hown2 hgrow2 _ _
      have HR := Lib.hid (makesB_end (l := 3 :: joinF V.keyB [] l ++ [0]) (w := w) (n := bs.length + 1) (by omega) (by rw [hl.out, List.take_of_length_le (Nat.le_refl _)]; simp) hown2 (by rw [hl.out, List.take_of_length_le (Nat.le_refl _)]; simp [bytesV])
        (kp_grown (kk HK.out (ka _ _)) hgrow2 (fun k e => by have := (HO.out.lt k e).1; omega)))
      clear hown2 hgrow2
      go_wp2_with fail
      go_ret
      exact HR.out

set_option maxRecDepth 100000 in
set_option maxHeartbeats 4000000 in
theorem keyR_tag (n : Int) (s : ByteArray) (a : Option Addr) (cap : Nat) (x : V) (w : World) (hin : (V.mk 3 n s a cap [x]).In w w.heap.size) (hn : 0 ≤ n ∧ n < 8) (hx : x.keyB.length ≤ 1000000) (hx0 : 0 < x.keyB.length)
    (ih : ∀ w1 : World, Kp w w1 → Calls Tryz.prog 80 #[.agg #[.int .i64 x.k, .int .i64 x.n, .string x.s, .slice x.a x.l.length x.cap]] w1 (MakesB w1 x.keyB)) :
    Calls Tryz.prog 80 #[.agg #[.int .i64 3, .int .i64 n, .string s, .slice a 1 cap]] w (MakesB w (4 :: UInt8.ofNat (n + 1).toNat :: x.keyB)) := by
  obtain ⟨i0, hi, hz0, hz1, hz2⟩ := info_parts infoU8
  obtain ⟨p0, off, rfl, hp0, q0, q1, q2, q3, hxin⟩ := V.atPart hin (j := 0) (x := x) rfl
  simp only [Nat.zero_mul, Nat.add_zero] at q0 q1 q2 q3
  have hbyte : (n + 1) = ((UInt8.ofNat (n + 1).toNat).toNat : Int) := by simp; omega
  generalize UInt8.ofNat (n + 1).toNat = bt at *
  generalize x.keyB = X at *
  generalize x.k = xk at *
  generalize x.n = xn at *
  generalize x.s = xs at *
  generalize x.a = xa at *
  generalize x.l.length = xl at *
  generalize x.cap = xc at *
  have HBT := Lib.hid hbyte
  have HIH := Lib.hid ih
  clear hbyte ih hin hxin
  go_enter Tryz.func80, Tryz.ntmps80
  go_wp2_with fail
  have b0 : (w.alloc (.cells #[.int .i64 3, .int .i64 n, .string s, .slice (some ⟨p0, off, none⟩) 1 cap] 24)).cell? ⟨w.heap.size, 1, none⟩ = some (.int .i64 n) := cellOf (blockHere rfl) rfl
  have b3 : (w.alloc (.cells #[.int .i64 3, .int .i64 n, .string s, .slice (some ⟨p0, off, none⟩) 1 cap] 24)).cell? ⟨w.heap.size, 3, none⟩ = some (.slice (some ⟨p0, off, none⟩) 1 cap) := cellOf (blockHere rfl) rfl
  have hka := ka w (.cells #[.int .i64 3, .int .i64 n, .string s, .slice (some ⟨p0, off, none⟩) 1 cap] 24)
  have r0 := kc hka q0
  have r1 := kc hka q1
  have r2 := kc hka q2
  have r3 := kc hka q3
  have hWz : (w.alloc (.cells #[.int .i64 3, .int .i64 n, .string s, .slice (some ⟨p0, off, none⟩) 1 cap] 24)).heap.size = w.heap.size + 1 := by simp
  generalize w.alloc (.cells #[.int .i64 3, .int .i64 n, .string s, .slice (some ⟨p0, off, none⟩) 1 cap] 24) = W at *
  have HKA := Lib.hid hka
  have HWZ := Lib.hid hWz
  have hp1 : p0 < W.heap.size := by omega
  have hp2 : w.heap.size < W.heap.size := by omega
  clear q0 q1 q2 q3 hka hWz
  have hlit : ∀ w2 : World, Kp (W.alloc (.cells #[.int .u8 4, .int .u8 (n + 1)] 5)).drew w2 → w2.ownsRow W.heap.size 5 1 (.slice (some ⟨W.heap.size, 0, none⟩) 2 2) 2 (bytesV [4, bt]) ∧ W.heap.size + 1 ≤ w2.heap.size ∧ Kp W w2 := fun w2 hk2 => by
    have h1 : W.heap.size < (W.alloc (.cells #[.int .u8 4, .int .u8 (n + 1)] 5)).drew.heap.size := by rw [World.drew_size]; simp
    refine ⟨own_lit (l := [4, bt]) rfl (Nat.le_refl _) ((hk2.block W.heap.size h1).trans (blockHere (w := W) rfl)) (by rw [HBT.out]; rfl) (by simp), ?_, kk (kk (ka _ _) kpD) hk2⟩
    have := hk2.size
    omega
  have HLIT := Lib.hid hlit
  have HX0 := Lib.hid hx0
  clear hlit
  have e1 : IntKind.i64.wrap (n + 1) = n + 1 := IntWalk.i64_in _ (by omega)
  have e2 : IntKind.u8.wrap (n + 1) = n + 1 := IntWalk.u8_in _ (by omega)
  have hlit2 : ∀ w2 : World, (w2.alloc (.cells #[.int .u8 4, .int .u8 (n + 1)] 5)).ownsRow w2.heap.size 5 1 (.slice (some ⟨w2.heap.size, 0, none⟩) 2 2) 2 (bytesV [4, bt]) := fun w2 =>
    own_lit (l := [4, bt]) rfl (Nat.le_refl _) (blockHere (w := w2) rfl) (by rw [HBT.out]; rfl) (by simp)
  have HLIT2 := Lib.hid hlit2
  clear hlit2
  go_region_law
    (first
      | (go_simp; go_at_call 80; refine (HIH.out _ (kk HKA.out (kk (ka _ _) kpD))).mono ?_; rintro e w2 ⟨g2, c2, rfl, hown2, hk2⟩; obtain ⟨hl, hz2', hkW⟩ := HLIT.out _ hk2; have HL := Lib.hid hl; have HKW := Lib.hid hkW; have HO2 := Lib.hid hown2; clear hl hkW hk2 hown2; dsimp only)
      | (go_simp; go_at_call 80; refine (HIH.out _ (kk HKA.out kpD)).mono ?_; rintro e w2 ⟨g2, c2, rfl, hown2, hk2⟩; have hz2' : W.heap.size ≤ w2.heap.size := (by have := hk2.size; rwa [World.drew_size] at this); have HL := (HLIT2.out w2); have HKW := Lib.hid (kk kpD hk2); have HO2 := Lib.hid hown2; have HL2 := Lib.hid HL; replace b0 := kc HKW.out b0; clear hk2 hown2 HL; dsimp only)
      | (clear e1 e2; refine step_append_lies _ (by rfl) _ _ _ (by rfl) W.heap.size 5 i0 _ 1 1 Tryz.underlying57 hi hz0 hz1 hz2 rfl (by omega) _ 2 (bytesV [4, bt]) (by rfl) HL.out ⟨g2, 0, none⟩ X.length c2 (bytesV X) (by rfl) (by simp [bytesV]) (HO2.out.cells rfl) (by intro u hu; simp [bytesV] at hu; obtain ⟨b, -, rfl⟩ := hu; rfl) hx0 (by unfold maxLen; omega) (by omega) (by omega) w2.heap.size rfl ?_; intro g3 c3 w3 hown3 hgrow3 _ _
         have HR := Lib.hid (makesB_end (l := 4 :: bt :: X) (w := w) (base := W.heap.size) (by omega) (by simp; omega) hown3 (by simp [bytesV]) (kp_grown (kk HKA.out HKW.out) hgrow3 (fun k e => by have := (HL.out.lt k e).1; omega)))
         clear hown3 hgrow3)
      | (clear e1 e2; refine step_append_lies _ (by rfl) _ _ _ (by rfl) w2.heap.size 5 i0 _ 1 1 Tryz.underlying57 hi hz0 hz1 hz2 rfl (by omega) _ 2 (bytesV [4, bt]) (by rfl) HL2.out ⟨g2, 0, none⟩ X.length c2 (bytesV X) (by rfl) (by simp [bytesV]) ((HO2.out.alloc _).cells rfl) (by intro u hu; simp [bytesV] at hu; obtain ⟨b, -, rfl⟩ := hu; rfl) hx0 (by unfold maxLen; omega) (by omega) (by simp) (w2.heap.size + 1) (by simp) ?_; intro g3 c3 w3 hown3 hgrow3 _ _
         have HR := Lib.hid (makesB_end (l := 4 :: bt :: X) (w := w) (base := w2.heap.size) (by omega) (by simp; omega) hown3 (by simp [bytesV]) (kp_grown (kk (kk HKA.out HKW.out) (ka _ _)) hgrow3 (fun k e => by have := (HL2.out.lt k e).1; omega)))
         clear hown3 hgrow3))
  all_goals
    go_wp2_with fail
    go_ret
    exact HR.out

end Go.Proofs.YtkfmgafgokpjhaaGreatDoor

/-
  THE SPECIFICATION's Key, OF ANY VALUE.
-/
namespace Go.Proofs.YtkfmgafgokpjhaaGreatDoor
open Go.RowKit

theorem row_str {w : World} {base g cap : Nat} {xs : List UInt8} (h2 : w.ownsRow base 5 1 (.slice (some ⟨g, 0, none⟩) xs.length cap) xs.length (bytesV xs)) :
    (convert 57 9 (.slice (some ⟨g, 0, none⟩) xs.length cap)).run Tryz.prog w = .ok (.string ⟨xs.toArray⟩) w := by
  rw [run_convert_bytes_arg w 57 5 Tryz.underlying57 Tryz.underlying5 g 0 xs.length cap (xs.map fun b => (b.toNat : Int)) (by simp) (fun i hi => ?_) 9 Tryz.underlying9, strOf_bytes]
  have := h2.cells (g := g) rfl i (.int .u8 (xs[i].toNat : Int)) (by simp [bytesV, hi])
  have e : (⟨g, 0, none⟩ : Addr).add i = ⟨g, 0 + i, none⟩ := by unfold Addr.add; split <;> simp_all
  rw [e] at this
  rw [this]; simp [List.getD, hi]

theorem keyRV : ∀ (N : Nat) (v : V) (d : Nat) (w : World), v.rank ≤ N → v.sh d = true → v.In w w.heap.size → v.keyB.length ≤ 1000000 →
    Calls Tryz.prog 80 #[.agg #[.int .i64 v.k, .int .i64 v.n, .string v.s, .slice v.a v.l.length v.cap]] w (MakesB w v.keyB) := by
  intro N
  induction N with
  | zero => intro v d w h; have := v.rank_pos; omega
  | succ N ih =>
    intro v d w hN hsh hin hx
    cases v with
    | mk k n s a cap l =>
    show Calls Tryz.prog 80 #[.agg #[.int .i64 k, .int .i64 n, .string s, .slice a l.length cap]] w _
    by_cases k1 : k = 1
    · subst k1
      have e : (V.mk 1 n s a cap l).keyB = 2 :: s.data.toList ++ [0] := by simp [V.keyB]
      rw [e]
      obtain ⟨-, -, hs, -⟩ := sh_text hsh
      exact keyR_text n s a l.length cap w hs
    by_cases k2 : k = 2
    · subst k2
      have e : (V.mk 2 n s a cap l).keyB = 3 :: V.keyBL l ++ [0] := by simp [V.keyB]
      obtain ⟨-, -, -, d', rfl, hp⟩ := sh_tuple hsh
      rw [e] at hx ⊢
      have hxl : (V.keyBL l).length ≤ 1000000 := by simp at hx; omega
      refine keyR_tuple n s a cap l w hin hxl (fun j x hj => by have := keyB_len x d' (shLK_at hp hj); omega) fun j x hj w1 hk => ?_
      obtain ⟨b0, off, -, -, -, -, -, -, hxin⟩ := V.atPart hin hj
      have hrk := V.rank_part (v := .mk 2 n s a cap l) (j := j) (x := x) hj
      refine ih x d' w1 (by omega) (shLK_at hp hj) (hxin.keep hk.size hk) ?_
      have h9 : l.take (j + 1) = l.take j ++ [x] := by
        rw [List.take_add_one, hj]; rfl
      have hjl := joinF_len V.keyB [] l (j + 1)
      rw [← V.keyBL_join l, h9, joinF_snoc] at hjl
      split at hjl
      · omega
      · simp at hjl; omega
    by_cases k3 : k = 3
    · subst k3
      obtain ⟨h1, h2, -, x, d', rfl, rfl, hp⟩ := sh_tag hsh
      have e : (V.mk 3 n s a cap [x]).keyB = 4 :: UInt8.ofNat (n + 1).toNat :: x.keyB := by simp [V.keyB, V.keyBH]
      rw [e] at hx ⊢
      obtain ⟨b0, off, -, -, -, -, -, -, hxin⟩ := V.atPart hin (j := 0) (x := x) rfl
      have hrk := V.rank_part (v := .mk 3 n s a cap [x]) (j := 0) (x := x) rfl
      have hx2 : x.keyB.length ≤ 1000000 := by simp at hx; omega
      exact keyR_tag n s a cap x w hin ⟨h1, h2⟩ hx2 (by have := keyB_len x d' hp; omega) fun w1 hk => ih x d' w1 (by omega) hp (hxin.keep hk.size hk) hx2
    · obtain ⟨rfl, hn1, hn2, -, -⟩ := sh_word hsh k1 k2 k3
      have e : (V.mk 0 n s a cap l).keyB = 1 :: wordBytes n := by simp [V.keyB]
      rw [e]
      exact keyR_word n s a l.length cap w ⟨hn1, hn2⟩

set_option maxRecDepth 100000 in
set_option maxHeartbeats 2000000 in
theorem keyTopR (k n : Int) (s : ByteArray) (a : Option Addr) (cap : Nat) (l : List V) (w : World) (hin : (V.mk k n s a cap l).In w w.heap.size) :
    Calls Tryz.prog 37 #[.agg #[.int .i64 k, .int .i64 n, .string s, .slice a l.length cap]] w fun e w' => e = .returned (keyOut (V.mk k n s a cap l)) ∧ Kp w w' := by
  have C := fun (w1 : World) (h : Kp w w1) => valid_ref k n s a cap l w1 (hin.keep h.size h)
  have K := fun (hv : (V.mk k n s a cap l).valid = true) (w1 : World) (h : Kp w w1) =>
    keyRV _ (V.mk k n s a cap l) 6 w1 (Nat.le_refl _) (by simp [V.valid] at hv; exact hv.1) (hin.keep h.size h) (by
      simp [V.valid] at hv
      have := V.keyB_len _ 6 hv.1
      omega)
  have hne := V.keyB_ne (V.mk k n s a cap l)
  have HC := Lib.hid C
  cases hv : (V.mk k n s a cap l).valid with
  | false =>
    rw [keyOut, hv]
    rw [hv] at C
    have HC := Lib.hid C
    clear C K hin hv hne
    go_enter Tryz.func37, Tryz.ntmps37
    go_wp2_with fail
    refine (HC.out _ (ka _ _)).mono ?_
    rintro e w1 ⟨rfl, hk⟩
    have HK := Lib.hid (kk (ka _ _) hk)
    clear hk
    go_wp2_with fail
    go_ret2
    exact ⟨rfl, HK.out⟩
  | true =>
    rw [keyOut, hv]
    rw [hv] at C
    have K1 := K hv
    simp only [V.k, V.n, V.s, V.a, V.l, V.cap] at K1
    have HC := Lib.hid C
    have HK1 := Lib.hid K1
    generalize (V.mk k n s a cap l).keyB = B at *
    clear C K K1 hin hv hne
    go_enter Tryz.func37, Tryz.ntmps37
    go_wp2_with fail
    refine (HC.out _ (ka _ _)).mono ?_
    rintro e w1 ⟨rfl, hk⟩
    obtain ⟨c0, c1, c2, c3, -⟩ := cell4 (boxK hk)
    have HK := Lib.hid (kk (ka _ _) hk)
    clear hk
    go_wp2_with fail
    refine (HK1.out _ HK.out).mono ?_
    rintro e w2 ⟨g, cp, rfl, hown, hk⟩
    have hcv := row_str hown
    have HK2 := Lib.hid (kk HK.out hk)
    clear hk hown
    go_wp2_with fail
    go_ret2
    exact ⟨rfl, HK2.out⟩

end Go.Proofs.YtkfmgafgokpjhaaGreatDoor

/-
  read OF A KEY, whatever the reading tells; OfKey OF ANY BYTES.
-/
namespace Go.Proofs.YtkfmgafgokpjhaaGreatDoor
open Go.RowKit

set_option maxRecDepth 100000 in
set_option maxHeartbeats 8000000 in
theorem readKA_any (w : World) (s : ByteArray) (A : V → Nat → Prop) (B : Prop) (hM : (s.size : Int) ≤ 6500)
    (hF : Calls Tryz.prog 81 #[.pointer (some ⟨w.heap.size + 2, 0, none⟩)] (readW w s) fun e w' => (∃ y q, A y q ∧ q ≤ s.size ∧ ReadsV (readW w s) (w.heap.size + 2) s q y e w') ∨ (B ∧ e = .panicked formP ∧ Bt (w.heap.size + 2) (readW w s) w')) :
    Calls Tryz.prog 73 #[.string s, .int .i64 6500, .func (.func 81) #[] #[], .func (.func 19) #[] #[]] w fun e w' =>
      (∃ y, A y s.size ∧ y.valid = true ∧ Gets w y e w') ∨ (((∃ y q, A y q ∧ (q = s.size → y.valid = false)) ∨ B) ∧ e = .returned (.tuple #[.agg zero4, .int .i64 8]) ∧ Kp w w') := by
  have HF := Lib.hid hF
  clear hF
  have hmf : ∀ (fn : Fn) (first cap : Array Value) (w : World), (Instr.makeFunc fn first cap).run Tryz.prog w = .ok (.func fn first cap) w := fun _ _ _ _ => rfl
  go_enter_defers Tryz.func73, Tryz.ntmps73
  go_wp2_with fail
  refine HF.out.mono ?_
  rintro e w1 (⟨y, q, hA, hq, x, rfl, hxi, hxf, hxs, hr1, hb1⟩ | ⟨hB, rfl, hb1⟩)
  rotate_left
  · have x0 : w1.heap[w.heap.size]? = some (.cells zero4 24 (0, 0)) := (hb1.block _ (by simp; omega) (by omega)).trans ((Below.heap_alloc _ _ _ (by simp; omega)).trans ((Below.heap_alloc _ _ _ (by simp)).trans (blockHere rfl)))
    have x1 : w1.heap[w.heap.size + 1]? = some (.cells #[.int .i64 0] 28 (0, 0)) := (hb1.block _ (by simp) (by omega)).trans ((Below.heap_alloc _ _ _ (by simp)).trans (blockHere (by simp)))
    have K1 : Kp w w1 := ⟨hb1.os, hb1.tape, hb1.output, by have := hb1.size; simp at this; omega, fun k hk => (hb1.block k (by simp; omega) (by omega)).trans ((readW_kp w s).block k hk)⟩
    refine leaves_cons (f := 112) (args := #[.pointer (some ⟨w.heap.size, 0, none⟩), .pointer (some ⟨w.heap.size + 1, 0, none⟩)]) (by simp) (by simp [go_sem]) ?_
    refine (catch_panicking w.heap.size (w.heap.size + 1) 28 (.int .i64 8) [] _ _ _ _ _ _ x0 x1 (by omega)).mono ?_
    rintro e u' w'' ⟨rfl, rfl, m0, m1, ho, h1, h2, h3, h4⟩
    obtain ⟨a0, a1, a2, a3, -⟩ := cell4 m0
    have b0 := cellOf (i := 0) m1 rfl
    exact ⟨.tuple #[.agg zero4, .int .i64 8], by simp [results, Tryz.results73, go_sem, a0, a1, a2, a3, b0], .inr ⟨.inr hB, rfl, h1.trans K1.os, h2.trans K1.tape, h3.trans K1.output, Nat.le_trans K1.size h4, fun k hk => (ho k (Nat.lt_of_lt_of_le hk K1.size) (by omega) (by omega)).trans (K1.block k hk)⟩⟩

  have x0 : w1.heap[w.heap.size]? = some (.cells zero4 24 (0, 0)) := (hb1.block _ (by simp; omega) (by omega)).trans ((Below.heap_alloc _ _ _ (by simp; omega)).trans ((Below.heap_alloc _ _ _ (by simp)).trans (blockHere rfl)))
  have x1 : w1.heap[w.heap.size + 1]? = some (.cells #[.int .i64 0] 28 (0, 0)) := (hb1.block _ (by simp) (by omega)).trans ((Below.heap_alloc _ _ _ (by simp)).trans (blockHere (by simp)))
  have hxf2 : x.foot (fun b => w.heap.size + 2 ≤ b) := V.foot.mono (fun b hb => by simp at hb; omega) _ hxf
  obtain ⟨c0, c1, c2, c3, f0, f1, f2, f3⟩ := cell4 x0
  have K1 : Kp w w1 := ⟨hb1.os, hb1.tape, hb1.output, by have := hb1.size; simp at this; omega, fun k hk => (hb1.block k (by simp; omega) (by omega)).trans ((readW_kp w s).block k hk)⟩
  have HK1 := Lib.hid K1
  have HX := Lib.hid hxi
  have HXF := Lib.hid hxf2
  have HXS := Lib.hid hxs
  have X0 := Lib.hid x0
  have X1 := Lib.hid x1
  have HAA := Lib.hid hA
  have r0 := hr1.c0
  have r1 := hr1.c1
  clear K1 hxi hxf hxf2 hxs hr1 x0 x1 hb1 hA
  have C := fun (w1 : World) hin => checkOk x w1 hin
  have hval := same_valid HXS.out
  rw [hval] at C
  cases x with
  | mk k n t a cap l =>
  simp only [V.val_mk] at C ⊢
  have HC2 := Lib.hid C
  clear C hval
  by_cases hlt : q < s.size
  · have g1 : (q : Int) < (s.size : Int) := by omega
    have g2 : decide ((q : Int) < (s.size : Int)) = true := by simpa using g1
    go_wp2_with fail
    refine (refuse_any _).mono ?_
    rintro e w2 ⟨rfl, rfl⟩
    have x0 := put4_block (v0 := .int .i64 k) (v1 := .int .i64 n) (v2 := .string t) (v3 := .slice a l.length cap) X0.out
    have x1 := (put4_other (w := w1) (b := w.heap.size) (v0 := .int .i64 k) (v1 := .int .i64 n) (v2 := .string t) (v3 := .slice a l.length cap) (by omega : w.heap.size + 1 ≠ w.heap.size)).trans X1.out
    have K1 := put4_kp (b := w.heap.size) (v0 := .int .i64 k) (v1 := .int .i64 n) (v2 := .string t) (v3 := .slice a l.length cap) HK1.out (Nat.le_refl _)
    refine leaves_cons (f := 112) (args := #[.pointer (some ⟨w.heap.size, 0, none⟩), .pointer (some ⟨w.heap.size + 1, 0, none⟩)]) (by simp) (by simp [go_sem]) ?_
    refine (catch_panicking w.heap.size (w.heap.size + 1) 28 (.int .i64 8) [] _ _ _ _ _ _ x0 x1 (by omega)).mono ?_
    rintro e u' w'' ⟨rfl, rfl, m0, m1, ho, h1, h2, h3, h4⟩
    obtain ⟨a0, a1, a2, a3, -⟩ := cell4 m0
    have b0 := cellOf (i := 0) m1 rfl
    exact ⟨.tuple #[.agg zero4, .int .i64 8], by simp [results, Tryz.results73, go_sem, a0, a1, a2, a3, b0], .inr ⟨.inl ⟨y, q, HAA.out, fun h => by omega⟩, rfl, h1.trans K1.os, h2.trans K1.tape, h3.trans K1.output, Nat.le_trans K1.size h4, fun k hk => (ho k (Nat.lt_of_lt_of_le hk K1.size) (by omega) (by omega)).trans (K1.block k hk)⟩⟩
  · obtain rfl : q = s.size := by omega
    have g2 : decide ((s.size : Int) < (s.size : Int)) = false := by simp
    go_wp2_with fail
    have hS : (put4 w1 w.heap.size (.int .i64 k) (.int .i64 n) (.string t) (.slice a l.length cap)).heap.size = w1.heap.size := by simp [World.setCell]
    have hin2 : (V.mk k n t a cap l).In (put4 w1 w.heap.size (.int .i64 k) (.int .i64 n) (.string t) (.slice a l.length cap)) w1.heap.size := V.In.move (Nat.le_refl _) (fun b _ hb => put4_other (by omega)) _ HX.out HXF.out
    have hin3 : (V.mk k n t a cap l).In (put4 w1 w.heap.size (.int .i64 k) (.int .i64 n) (.string t) (.slice a l.length cap)) (put4 w1 w.heap.size (.int .i64 k) (.int .i64 n) (.string t) (.slice a l.length cap)).heap.size := by rw [hS]; exact hin2
    refine (HC2.out _ hin3).mono ?_
    rintro e w2 ⟨rfl, hk2⟩
    have y0 : w2.heap[w.heap.size]? = some (.cells #[.int .i64 k, .int .i64 n, .string t, .slice a l.length cap] 24 (0, 0)) := (hk2.block _ (by have := lt_of_block X0.out; simpa [World.setCell] using this)).trans (put4_block X0.out)
    have y1 : w2.heap[w.heap.size + 1]? = some (.cells #[.int .i64 0] 28 (0, 0)) := (hk2.block _ (by have := lt_of_block X1.out; simpa [World.setCell] using this)).trans ((put4_other (by omega)).trans X1.out)
    have K2 := kk (put4_kp (b := w.heap.size) (v0 := .int .i64 k) (v1 := .int .i64 n) (v2 := .string t) (v3 := .slice a l.length cap) HK1.out (Nat.le_refl _)) hk2
    have q2 : (V.mk k n t a cap l).In w2 w2.heap.size := hin3.keep hk2.size hk2
    clear c0 c1 c2 c3 f0 f1 f2 f3
    obtain ⟨e0, e1, e2, e3, g0, g1, g3, g4⟩ := cell4 y0
    have z0 := cellOf (i := 0) y1 rfl
    have z1 := freeOf (i := 0) y1
    have HY0 := Lib.hid y0
    have HY1 := Lib.hid y1
    have HK2 := Lib.hid K2
    have HQ2 := Lib.hid q2
    clear K2 q2 y0 y1 hk2 hin2 hin3
    by_cases hv : y.valid = true
    · rw [if_pos hv]
      go_wp2_with fail
      refine leaves_cons (f := 112) (args := #[.pointer (some ⟨w.heap.size, 0, none⟩), .pointer (some ⟨w.heap.size + 1, 0, none⟩)]) (by simp) (by simp [go_sem]) ?_
      refine (catch_idle w.heap.size (w.heap.size + 1) _).mono ?_
      rintro e u' w'' ⟨rfl, rfl, rfl⟩
      have m0 := (Below.heap_setCell _ ⟨w.heap.size + 1, 0, none⟩ (Value.int .i64 0) w.heap.size (by simp)).trans (put4_block (v0 := .int .i64 k) (v1 := .int .i64 n) (v2 := .string t) (v3 := .slice a l.length cap) HY0.out)
      have m1 := heap_set (i := 0) (u := Value.int .i64 0) ((put4_other (v0 := .int .i64 k) (v1 := .int .i64 n) (v2 := .string t) (v3 := .slice a l.length cap) (by omega : w.heap.size + 1 ≠ w.heap.size)).trans HY1.out)
      obtain ⟨a0, a1, a2, a3, -⟩ := cell4 m0
      have b0 := cellOf (i := 0) m1 rfl
      have kz : Kp w ((put4 w2 w.heap.size (.int .i64 k) (.int .i64 n) (.string t) (.slice a l.length cap)).setCell ⟨w.heap.size + 1, 0, none⟩ (.int .i64 0)) := put1_kp (put4_kp HK2.out (Nat.le_refl _)) (by simp)
      refine ⟨.tuple #[.agg #[.int .i64 k, .int .i64 n, .string t, .slice a l.length cap], .int .i64 0], by simp [results, Tryz.results73, go_sem, a0, a1, a2, a3, b0], .inl ⟨y, HAA.out, hv, .mk k n t a cap l, rfl, ?_, V.foot.mono (fun b hb => by omega) _ HXF.out, HXS.out, kz⟩⟩
      have hZ : ((put4 w2 w.heap.size (.int .i64 k) (.int .i64 n) (.string t) (.slice a l.length cap)).setCell ⟨w.heap.size + 1, 0, none⟩ (.int .i64 0)).heap.size = w2.heap.size := by simp [World.setCell]
      rw [hZ]
      exact V.In.move (Nat.le_refl _) (fun b _ hb => (Below.heap_setCell _ _ _ _ (by simp; omega)).trans (put4_other (by omega))) _ HQ2.out HXF.out
    · have hv' : y.valid = false := by simpa using hv
      rw [if_neg hv]
      go_wp2_with fail
      refine (refuse_any _).mono ?_
      rintro e w3 ⟨rfl, rfl⟩
      have x0 := HY0.out
      have x1 := HY1.out
      have K1 := HK2.out
      refine leaves_cons (f := 112) (args := #[.pointer (some ⟨w.heap.size, 0, none⟩), .pointer (some ⟨w.heap.size + 1, 0, none⟩)]) (by simp) (by simp [go_sem]) ?_
      refine (catch_panicking w.heap.size (w.heap.size + 1) 28 (.int .i64 8) [] _ _ _ _ _ _ x0 x1 (by omega)).mono ?_
      rintro e u' w'' ⟨rfl, rfl, m0, m1, ho, h1, h2, h3, h4⟩
      obtain ⟨a0, a1, a2, a3, -⟩ := cell4 m0
      have b0 := cellOf (i := 0) m1 rfl
      exact ⟨.tuple #[.agg zero4, .int .i64 8], by simp [results, Tryz.results73, go_sem, a0, a1, a2, a3, b0], .inr ⟨.inl ⟨y, s.size, HAA.out, fun _ => hv'⟩, rfl, h1.trans K1.os, h2.trans K1.tape, h3.trans K1.output, Nat.le_trans K1.size h4, fun k hk => (ho k (Nat.lt_of_lt_of_le hk K1.size) (by omega) (by omega)).trans (K1.block k hk)⟩⟩

set_option maxHeartbeats 4000000 in
/-- What hands on what read returns. -/
theorem ofKey_hands (w : World) (s : ByteArray) (Y : V → Prop) (N : Prop)
    (hR : ∀ w1 : World, Kp w w1 → Calls Tryz.prog 73 #[.string s, .int .i64 6500, .func (.func 81) #[] #[], .func (.func 19) #[] #[]] w1 fun e w' => (∃ y, Y y ∧ Gets w1 y e w') ∨ (N ∧ e = .returned (.tuple #[.agg zero4, .int .i64 8]) ∧ Kp w1 w')) :
    Calls Tryz.prog 38 #[.string s] w fun e w' => (∃ y, Y y ∧ Gets w y e w') ∨ (N ∧ e = .returned (.tuple #[.agg zero4, .int .i64 8]) ∧ Kp w w') := by
  have HC := Lib.hid hR
  clear hR
  go_enter Tryz.func38, Tryz.ntmps38
  go_wp2_with fail
  refine (HC.out _ (ka _ _)).mono ?_
  rintro e w1 (⟨y, hY, x, rfl, hxi, hxf, hxs, hk⟩ | ⟨hN, rfl, hk⟩)
  · have hblk := boxK hk
    have hxf2 : x.foot (fun b => w.heap.size + 1 ≤ b) := V.foot.mono (fun b hb => by simp at hb; omega) _ hxf
    have HK := Lib.hid (kk (ka _ _) hk)
    obtain ⟨c0, c1, c2, c3, f0, f1, f2, f3⟩ := cell4 hblk
    have HBL := Lib.hid hblk
    have HX := Lib.hid hxi
    have HXF := Lib.hid hxf2
    have HXS := Lib.hid hxs
    clear hk hblk hxi hxf hxf2 hxs
    cases x with
    | mk k n t a cap l =>
    simp only [V.val_mk]
    go_wp2_with fail
    obtain ⟨d0, d1, d2, d3, -⟩ := cell4 (put4_block (v0 := .int .i64 k) (v1 := .int .i64 n) (v2 := .string t) (v3 := .slice a l.length cap) HBL.out)
    have hS : (put4 w1 w.heap.size (.int .i64 k) (.int .i64 n) (.string t) (.slice a l.length cap)).heap.size = w1.heap.size := by simp [World.setCell]
    refine bodyPost_ret (v := .tuple #[.agg #[.int .i64 k, .int .i64 n, .string t, .slice a l.length cap], .int .i64 0]) (by simp [results, Tryz.results38, go_sem, d0, d1, d2, d3]) rfl ?_
    exact .inl ⟨y, hY, .mk k n t a cap l, rfl, by rw [hS]; exact V.In.move (Nat.le_refl _) (fun b _ hb => put4_other (by omega)) _ HX.out HXF.out, V.foot.mono (fun b hb => by omega) _ HXF.out, HXS.out, put4_kp HK.out (Nat.le_refl _)⟩
  · have hblk := boxK hk
    have HK := Lib.hid (kk (ka _ _) hk)
    obtain ⟨c0, c1, c2, c3, f0, f1, f2, f3⟩ := cell4 hblk
    have HBL := Lib.hid hblk
    clear hk hblk
    go_wp2_with fail
    obtain ⟨d0, d1, d2, d3, -⟩ := cell4 (put4_block (v0 := .int .i64 0) (v1 := .int .i64 0) (v2 := .string ⟨#[]⟩) (v3 := .slice none 0 0) HBL.out)
    refine bodyPost_ret (v := .tuple #[.agg zero4, .int .i64 8]) (by simp [results, Tryz.results38, go_sem, d0, d1, d2, d3]) rfl
      (.inr ⟨hN, rfl, put4_kp HK.out (Nat.le_refl _)⟩)

/-- OfKey of any bytes that are not too many: the value that is read, or none. -/
theorem ofKey_any (w : World) (s : ByteArray) (hs : s.size ≤ 6500) :
    Calls Tryz.prog 38 #[.string s] w fun e w' => (∃ y, (PK s.data.toList (some (y, [])) ∧ y.valid = true) ∧ Gets w y e w') ∨
      ((∃ o, PK s.data.toList o ∧ ∀ y, o = some (y, []) → y.valid = false) ∧ e = .returned (.tuple #[.agg zero4, .int .i64 8]) ∧ Kp w w') := by
  refine ofKey_hands w s _ _ fun w1 _ => ?_
  have hv := ofKeyA_any s.size (readW w1 s) (w1.heap.size + 2) s 0 (by omega) (readW_reader w1 s) (Nat.zero_le _) (by omega)
  refine (readKA_any w1 s (fun y q => PK s.data.toList (some (y, s.data.toList.drop q)) ∧ q ≤ s.size) (PK s.data.toList none) (by omega) (hv.mono ?_)).mono ?_
  · rintro e w' (⟨y, q, ⟨h1, h2⟩, h3, h4⟩ | ⟨h1, h2, h3⟩)
    · exact .inl ⟨y, q, ⟨by simpa using h1, h3⟩, h3, h4⟩
    · exact .inr ⟨by simpa using h1, h2, h3⟩
  · rintro e w' (⟨y, ⟨h1, -⟩, h2, h3⟩ | ⟨h1, h2, h3⟩)
    · left
      refine ⟨y, ⟨?_, h2⟩, h3⟩
      rwa [List.drop_of_length_le (by simp)] at h1
    · right
      refine ⟨?_, h2, h3⟩
      rcases h1 with ⟨y, q, ⟨h1, h4⟩, h5⟩ | h1
      · refine ⟨_, h1, fun y' hy => ?_⟩
        injection hy with hy
        injection hy with h6 h7
        subst h6
        refine h5 ?_
        have := congrArg List.length h7
        simp at this
        have e : s.data.size = s.size := rfl
        omega
      · exact ⟨none, h1, fun y hy => by cases hy⟩

end Go.Proofs.YtkfmgafgokpjhaaGreatDoor

/-
  OfKey, THE PROGRAM's AND THE SPECIFICATION's: OF EVERY TEXT THE SAME; ValueKeys: the statement's function.
-/
namespace Go.Proofs.YtkfmgafgokpjhaaGreatDoor
open Go.RowKit

theorem zero_makes {w w' : World} (c : Int) (hk : Kp w w') : Makes2 w (.mk 0 0 ⟨#[]⟩ none 0 []) c (.returned (.tuple #[.agg zero4, .int .i64 c])) w' :=
  ⟨.mk 0 0 ⟨#[]⟩ none 0 [], rfl, inLeaf _ _ _ (by unfold I64; omega) (by unfold I64; omega) (by decide), V.foot_leaf _ _ _ _ _, V.same_refl _, hk⟩

set_option maxRecDepth 100000 in
set_option maxHeartbeats 2000000 in
theorem readK_long (w : World) (s : ByteArray) (h : 6500 < s.size) (hs : s.size ≤ 9223372036854775807) :
    Calls Tryz.prog 73 #[.string s, .int .i64 6500, .func (.func 81) #[] #[], .func (.func 19) #[] #[]] w fun e w' => e = .returned (.tuple #[.agg zero4, .int .i64 3]) ∧ Kp w w' := by
  have g : (6500 : Int) < (s.size : Int) := by omega
  go_enter_defers Tryz.func73, Tryz.ntmps73
  go_wp2_with fail
  exact ⟨.tuple #[.agg zero4, .int .i64 3], by simp [results, Tryz.results73, go_sem], rfl, kk (ka _ _) (ka _ _)⟩

set_option maxHeartbeats 2000000 in
theorem ofKey_long (w : World) (s : ByteArray) (h : 6500 < s.size) (hs : s.size ≤ 9223372036854775807) :
    Calls Tryz.prog 38 #[.string s] w fun e w' => e = .returned (.tuple #[.agg zero4, .int .i64 3]) ∧ Kp w w' := by
  have C := fun (w1 : World) => readK_long w1 s h hs
  have HC := Lib.hid C
  clear C h
  go_enter Tryz.func38, Tryz.ntmps38
  go_wp2_with fail
  refine (HC.out _).mono ?_
  rintro e w1 ⟨rfl, hk⟩
  have hblk := boxK hk
  have HK := Lib.hid (kk (ka _ _) hk)
  obtain ⟨c0, c1, c2, c3, f0, f1, f2, f3⟩ := cell4 hblk
  have HBL := Lib.hid hblk
  clear hk hblk
  go_wp2_with fail
  obtain ⟨d0, d1, d2, d3, -⟩ := cell4 (put4_block (v0 := .int .i64 0) (v1 := .int .i64 0) (v2 := .string ⟨#[]⟩) (v3 := .slice none 0 0) HBL.out)
  exact bodyPost_ret (v := .tuple #[.agg zero4, .int .i64 3]) (by simp [results, Tryz.results38, go_sem, d0, d1, d2, d3]) rfl
    ⟨rfl, put4_kp HK.out (Nat.le_refl _)⟩

theorem valid_parts {y : V} (h : y.valid = true) : y.sh 6 = true ∧ y.rank ≤ 60 := by simpa [V.valid] using h

theorem ofKey_both (s : ByteArray) (hs : s.size ≤ 9223372036854775807) : ∃ (y : V) (c : Int), y.rank ≤ 60 ∧ ∀ w : World,
    Calls Tryz.prog 38 #[.string s] w (Makes2 w y c) ∧ Calls Tryz.prog 39 #[.string s] w (Makes2 w y c) := by
  by_cases h6 : s.size ≤ 6500
  · by_cases hy : ∃ y : V, y.valid = true ∧ s.data.toList = y.keyB
    · obtain ⟨y, hv, hk⟩ := hy
      obtain ⟨hsh, hrk⟩ := valid_parts hv
      refine ⟨y, 0, hrk, fun w => ⟨(ofKey_any w s h6).mono ?_, (ofKeyR_any w s h6).mono ?_⟩⟩
      · rintro e w' (⟨z, ⟨h1, h2⟩, x, rfl, h3, h4, h5, h7⟩ | ⟨⟨o, ho, hb⟩, -⟩)
        · obtain ⟨y', h8, h9⟩ := pk_all _ y 6 (Nat.le_refl _) hsh [] _ (by rw [List.append_nil, ← hk]; exact h1)
          injection h8 with h8
          injection h8 with h8 _
          subst h8
          exact ⟨x, rfl, h3, h4, V.same_trans _ _ _ h5 h9, h7⟩
        · obtain ⟨y', h8, h9⟩ := pk_all _ y 6 (Nat.le_refl _) hsh [] _ (by rw [List.append_nil, ← hk]; exact ho)
          have := hb y' h8
          rw [same_valid h9, hv] at this
          cases this
      · rintro e w' (⟨z, ⟨h1, h2⟩, x, rfl, h3, h4, h5, h7⟩ | ⟨⟨o, ho, hb⟩, -⟩)
        · obtain ⟨y', h8, h9⟩ := kd_all 6 y hsh [] _ (by rw [List.append_nil, ← hk]; exact h1)
          injection h8 with h8
          injection h8 with h8 _
          subst h8
          exact ⟨x, rfl, h3, h4, V.same_trans _ _ _ h5 h9, h7⟩
        · obtain ⟨y', h8, h9⟩ := kd_all 6 y hsh [] _ (by rw [List.append_nil, ← hk]; exact ho)
          have := hb y' h8
          rw [same_valid h9, hv] at this
          cases this
    · refine ⟨.mk 0 0 ⟨#[]⟩ none 0 [], 8, by decide, fun w => ⟨(ofKey_any w s h6).mono ?_, (ofKeyR_any w s h6).mono ?_⟩⟩
      · rintro e w' (⟨z, ⟨h1, h2⟩, -⟩ | ⟨-, rfl, hk⟩)
        · exact absurd ⟨z, h2, by have := pk_sound h1 z [] rfl; rwa [List.append_nil] at this⟩ hy
        · exact zero_makes 8 hk
      · rintro e w' (⟨z, ⟨h1, h2⟩, -⟩ | ⟨-, rfl, hk⟩)
        · exact absurd ⟨z, h2, by have := kd_sound h1 z [] rfl; rwa [List.append_nil] at this⟩ hy
        · exact zero_makes 8 hk
  · refine ⟨.mk 0 0 ⟨#[]⟩ none 0 [], 3, by decide, fun w => ⟨(ofKey_long w s (by omega) hs).mono ?_, (ofKeyR_long w s (by omega) hs).mono ?_⟩⟩
    · rintro e w' ⟨rfl, hk⟩; exact zero_makes 3 hk
    · rintro e w' ⟨rfl, hk⟩; exact zero_makes 3 hk

set_option maxRecDepth 100000 in
set_option maxHeartbeats 4000000 in
theorem keys_any (x : V) (s : ByteArray) (w : World) (hx : x.In w w.heap.size) (hs : s.size ≤ maxLen) (tb : Tb w w.heap.size) :
    Calls Tryz.prog 6 #[x.val, .string s] w fun e w' => e = .returned (.bool true) ∧ Kp w w' := by
  cases x with
  | mk k n t a cap l =>
  rw [V.val_mk]
  have C1 := fun (w1 : World) (h : Kp w w1) => keyP k n t a cap l w1 (hx.keep h.size h)
  have C2 := fun (w1 : World) (h : Kp w w1) => keyTopR k n t a cap l w1 (hx.keep h.size h)
  obtain ⟨q, c, hkv⟩ : ∃ q c, keyOut (V.mk k n t a cap l) = .tuple #[.string q, .int .i64 c] := by unfold keyOut; split <;> exact ⟨_, _, rfl⟩
  rw [hkv] at C1 C2
  obtain ⟨y, d, hr, C34⟩ := ofKey_both s (by unfold maxLen at hs; omega)
  have C3 := fun w1 => (C34 w1).1
  have C4 := fun w1 => (C34 w1).2
  have E := fun w1 (h : Kp w w1) => valued_any w1 (tb.keep h h.size)
  have HC1 := Lib.hid C1
  have HC2 := Lib.hid C2
  have HC3 := Lib.hid C3
  have HC4 := Lib.hid C4
  have HE := Lib.hid E
  clear C1 C2 C3 C4 C34 E hx tb hkv hs hr
  go_enter Tryz.func6, Tryz.ntmps6
  go_wp2_with fail
  refine (HC1.out _ (ka _ _)).mono ?_
  rintro e w1 ⟨rfl, hk⟩
  obtain ⟨b0, b1, b2, b3, -⟩ := cell4 (boxK hk)
  have HK1 := Lib.hid (kk (ka _ _) hk)
  clear hk
  go_wp2_with fail
  refine (HC2.out _ HK1.out).mono ?_
  rintro e w2 ⟨rfl, hk⟩
  have HK2 := Lib.hid (kk HK1.out hk)
  clear hk b0 b1 b2 b3
  go_wp2_with fail
  refine (HC3.out _).mono ?_
  rintro e w3 ⟨⟨yk, yn, ys, ya, yc, yl⟩, rfl, hx3, hf3, hs3, hk⟩
  rw [V.val_mk]
  have HK3 := Lib.hid (kk HK2.out hk)
  have HX3 := Lib.hid hx3
  have HS3 := Lib.hid hs3
  clear hk hf3 hx3 hs3
  go_wp2_with fail
  refine (HC4.out _).mono ?_
  rintro e w4 ⟨⟨zk, zn, zs, za, zc, zl⟩, rfl, hx4, hf4, hs4, hk⟩
  rw [V.val_mk]
  have hk34 := kk (ka w3 (.cells #[.int .i64 yk, .int .i64 yn, .string ys, .slice ya yl.length yc] 24)) hk
  have hy := (hk.block w3.heap.size (by simp)).trans (blockHere (w := w3) (o := .cells #[.int .i64 yk, .int .i64 yn, .string ys, .slice ya yl.length yc] 24 (0, 0)) rfl)
  have HX4 := Lib.hid (HX3.out.keep hk34.size hk34)
  have HS4 := Lib.hid hs4
  have HY := Lib.hid hy
  have HK4 := Lib.hid (kk HK3.out hk34)
  have HX5 := Lib.hid hx4
  have hzz : w3.heap.size < w4.heap.size := by have := lt_of_block hy; exact this
  clear hk hk34 hf4 hx4 hs4 hy HX3
  obtain ⟨c0, c1, c2, c3, -⟩ := cell4 HY.out
  go_wp2_with fail
  have hka := ka w4 (.cells #[.int .i64 zk, .int .i64 zn, .string zs, .slice za zl.length zc] 24)
  have hsm : (V.mk yk yn ys ya yc yl).same (V.mk zk zn zs za zc zl) = true := V.same_trans _ _ _ HS3.out (V.same_symm _ _ HS4.out)
  have S := sameV (V.mk yk yn ys ya yc yl).rank (V.mk yk yn ys ya yc yl) (V.mk zk zn zs za zc zl) _ (Nat.le_refl _) (HX4.out.keep hka.size hka) (HX5.out.keep hka.size hka)
  rw [hsm, V.val_mk, V.val_mk] at S
  have HS := Lib.hid S
  have HK5 := Lib.hid (kk HK4.out hka)
  clear S hsm hka
  refine HS.out.mono ?_
  rintro e w6 ⟨rfl, hk⟩
  have HK6 := Lib.hid (kk HK5.out hk)
  clear hk
  go_wp2_with fail
  refine (HE.out _ HK6.out).mono ?_
  rintro e w7 ⟨rfl, hk⟩
  have HK7 := Lib.hid (kk HK6.out hk)
  clear hk
  go_wp2_with fail
  go_ret
  exact ⟨rfl, HK7.out⟩

end Go.Proofs.YtkfmgafgokpjhaaGreatDoor
