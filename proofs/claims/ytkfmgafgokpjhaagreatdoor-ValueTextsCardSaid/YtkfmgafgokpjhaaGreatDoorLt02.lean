/-
  Proved: the statement ValueTexts (value.Text of any value, value.TypeText of any type, value.Parse and value.TypeParse of any text answer as the specification's do, and the chapter's examples hold), as its tied card says it, with no condition beyond the card's own.
  Part 2 of 5.
-/
import Derived.Test.YtkfmgafgokpjhaaGreatDoorLt01
import Derived.Test.YtkfmgafgokpjhaaGreatDoorBc12
import Derived.Test.YtkfmgafgokpjhaaGreatDoorBc09
import Derived.Deep.RegionLaw
import Derived.Test.YtkfmgafgokpjhaaGreatDoorBc06
import Derived.Test.YtkfmgafgokpjhaaGreatDoorBc07
import Derived.Test.YtkfmgafgokpjhaaGreatDoorBc08
/-
  THE SPECIFICATION's marked.
-/
namespace Go.Proofs.YtkfmgafgokpjhaaGreatDoor
open Go.RowKit

theorem esc_split {c : UInt8} {l t r : List UInt8} (h : c :: l = esc t ++ 34 :: r) :
    (t = [] ∧ c = 34 ∧ l = r) ∨ ∃ x t', t = x :: t' ∧ (((x = 34 ∨ x = 92) ∧ c = 92 ∧ l = x :: (esc t' ++ 34 :: r)) ∨ (x ≠ 34 ∧ x ≠ 92 ∧ c = x ∧ l = esc t' ++ 34 :: r)) := by
  cases t with
  | nil =>
    simp [esc] at h
    exact .inl ⟨rfl, h.1, h.2⟩
  | cons x t' =>
    right
    refine ⟨x, t', rfl, ?_⟩
    have e : esc (x :: t') = escB x ++ esc t' := by simp [esc]
    rw [e] at h
    unfold escB at h
    by_cases hx : x = 34 ∨ x = 92
    · rw [if_pos hx] at h
      simp only [List.cons_append, List.nil_append, List.cons.injEq] at h
      exact .inl ⟨hx, h.1, h.2⟩
    · rw [if_neg hx] at h
      simp only [List.cons_append, List.nil_append, List.cons.injEq] at h
      exact .inr ⟨fun e => hx (.inl e), fun e => hx (.inr e), h.1, h.2⟩

/-- What marked tells: the text, and what is behind it. -/
def OutM (w : World) (s : ByteArray) (e : Ending) (w' : World) : Prop :=
  ∃ (b rs : ByteArray) (ok : Bool), e = .returned (.tuple #[.string b, .string rs, .bool ok]) ∧ b.size ≤ s.size ∧ (ok = true → rs.size < s.size) ∧
    (∀ t r, s.data.toList = esc t ++ 34 :: r → ok = true ∧ b.data.toList = t ∧ rs.data.toList = r) ∧ Kp w w'

theorem drop_cons (s : ByteArray) (j : Nat) (h : j < s.size) : s.data.toList.drop j = s[j] :: s.data.toList.drop (j + 1) := by
  have h1 : j < s.data.toList.length := by simpa using h
  rw [List.drop_eq_getElem_cons h1]; rfl

/-- What is left to read at a place. -/
def Left (s b : ByteArray) (j : Nat) : Prop := ∀ t r, s.data.toList = esc t ++ 34 :: r → ∃ t', t = b.data.toList ++ t' ∧ s.data.toList.drop j = esc t' ++ 34 :: r

set_option maxRecDepth 100000 in
set_option maxHeartbeats 4000000 in
theorem markedR (s : ByteArray) (hs : s.size ≤ 1000000) (w : World) : Calls Tryz.prog 119 #[.string s] w (OutM w s) := by
  go_enter Tryz.func119, Tryz.ntmps119
  go_wp2_with fail
  go_loop [5, 6] (fun out i => ∃ (b : ByteArray) (j : Nat), j ≤ s.size + 1 ∧ b.size ≤ j ∧ b.size ≤ s.size ∧ Hid (Left s b j) ∧ out = .string b ∧ i = .int .i64 j) (fun _ i => s.size + 1 - (intOf i).toNat)
  case atStart => exact ⟨⟨#[]⟩, 0, by omega, Nat.le_refl _, Nat.zero_le _, Lib.hid (fun t r h => ⟨t, rfl, by simpa using h⟩), rfl, rfl⟩
  case round =>
    obtain ⟨b, j, hj, hb, hb2, hl, rfl, rfl⟩ := hrel
    by_cases hlt : j < s.size
    · have hd := drop_cons s j hlt
      have g0 : (0 : Int) ≤ (j : Int) := by omega
      have g1 : (j : Int) < (s.size : Int) := by omega
      have g2 : (j : Int) + 1 ≤ (s.size : Int) := by omega
      have g3 : decide (j < s.size) = true := decide_eq_true hlt
      have g4 : ((j : Int) + 1).toNat = j + 1 := by omega
      have g5 : (0 : Int) ≤ (j : Int) + 1 := by omega
      by_cases h34 : s[j] = 34
      · have HR := Lib.hid (show ∀ t r, s.data.toList = esc t ++ 34 :: r → true = true ∧ b.data.toList = t ∧ (s.extract (j + 1) s.size).data.toList = r by
          intro t r h
          obtain ⟨t', h1, h2⟩ := hl.out t r h
          rw [hd] at h2
          rcases esc_split h2 with ⟨rfl, -, h4⟩ | ⟨x, t2, -, ⟨-, h4, -⟩ | ⟨h3, -, h4, -⟩⟩
          · exact ⟨rfl, by rw [h1, List.append_nil], by rw [tail_list]; exact h4⟩
          · rw [h34] at h4; cases h4
          · rw [h34] at h4; exact absurd h4.symm h3)
        have e1 : IntKind.i64.wrap ((j : Int) + 1) = (j : Int) + 1 := IntWalk.i64_in _ (by omega)
        have g6 : ((s[j].toNat : Nat) : Int) = 34 := by rw [h34]; rfl
        clear hd h34 hl
        go_wp2_with fail
        go_quiet (fail)
        go_wp2_with fail
        refine bodyPost_ret (v := .tuple #[.string b, .string (s.extract (j + 1) s.size), .bool true]) (by simp [results, Tryz.results119, go_sem]) rfl
          ⟨b, s.extract (j + 1) s.size, true, rfl, by omega, (fun _ => by simp; omega), (fun t r h => ⟨rfl, (HR.out t r h).2⟩), kpDN⟩
      have g34 : (((s[j].toNat : Nat) : Int) == 34) = false := by
        rw [beq_eq_false_iff_ne]; intro e; exact h34 (UInt8.toNat_inj.1 (by have : (34 : UInt8).toNat = 34 := rfl; omega))
      by_cases h92 : s[j] = 92
      · have g6 : ((s[j].toNat : Nat) : Int) = 92 := by rw [h92]; rfl
        by_cases hn : j + 1 < s.size
        · have hd2 := drop_cons s (j + 1) hn
          have HS := Lib.hid (show Left s (b ++ s.extract (j + 1) (j + 2)) (j + 2) by
            intro t r h
            obtain ⟨t', h1, h2⟩ := hl.out t r h
            rw [hd, h92] at h2
            rcases esc_split h2 with ⟨-, h4, -⟩ | ⟨x, t2, rfl, ⟨-, -, h4⟩ | ⟨-, h3, h4, -⟩⟩
            · cases h4
            · rw [hd2] at h4
              injection h4 with h5 h6
              exact ⟨t2, by rw [h1, app_list, sub_one s (j + 1) hn, h5]; simp, h6⟩
            · exact absurd h4.symm h3)
          have hE := sub_one_size s (j + 1) hn
          have z0 : (s.extract (j + 1) (j + 2)).size ≤ 1 := Nat.le_of_eq hE
          have z1 : b.size + (s.extract (j + 1) (j + 2)).size ≤ 9223372036854775807 := by omega
          have z2 : b.size + (s.extract (j + 1) (j + 1 + 1)).size ≤ 9223372036854775807 := z1
          have e1 : (b ++ s.extract (j + 1) (j + 2)).size ≤ j + 2 := by rw [ByteArray.size_append]; omega
          have e2 : (b ++ s.extract (j + 1) (j + 2)).size ≤ s.size := by rw [ByteArray.size_append]; omega
          have E1 := Lib.hid e1
          have E2 := Lib.hid e2
          have g7 : decide (j + 1 < s.size) = true := decide_eq_true hn
          have g8 : (j : Int) + 1 < (s.size : Int) := by omega
          have g9 : (j : Int) + 1 + 1 ≤ (s.size : Int) := by omega
          have ga : ((j : Int) + 1 + 1).toNat = j + 2 := by omega
          clear hd hd2 h34 h92 hl hE e1 e2
          go_wp2_with fail
          go_round
          case rel => exact ⟨_, j + 2, by omega, E1.out, E2.out, HS, rfl, by go_num⟩
          case measure => simp [intOf]; omega
        · have HS := Lib.hid (show Left s b (j + 2) by
            intro t r h
            obtain ⟨t', h1, h2⟩ := hl.out t r h
            rw [hd, h92, List.drop_of_length_le (i := j + 1) (by rw [← size_list]; omega)] at h2
            rcases esc_split h2 with ⟨-, h4, -⟩ | ⟨x, t2, -, ⟨-, -, h4⟩ | ⟨-, h3, h4, -⟩⟩
            · cases h4
            · cases h4
            · exact absurd h4.symm h3)
          have g7 : decide (j + 1 < s.size) = false := decide_eq_false hn
          have g8 : decide ((j : Int) + 1 < (s.size : Int)) = false := decide_eq_false (by omega)
          clear hd h34 h92 hl
          go_wp2_with fail
          go_round
          case rel => exact ⟨b, j + 2, by omega, by omega, hb2, HS, rfl, by go_num⟩
          case measure => simp [intOf]; omega
      · have g92 : (((s[j].toNat : Nat) : Int) == 92) = false := by
          rw [beq_eq_false_iff_ne]; intro e; exact h92 (UInt8.toNat_inj.1 (by have : (92 : UInt8).toNat = 92 := rfl; omega))
        have HS := Lib.hid (show Left s (b ++ s.extract j (j + 1)) (j + 1) by
          intro t r h
          obtain ⟨t', h1, h2⟩ := hl.out t r h
          rw [hd] at h2
          rcases esc_split h2 with ⟨-, h4, -⟩ | ⟨x, t2, rfl, ⟨-, h4, -⟩ | ⟨-, -, h4, h5⟩⟩
          · exact absurd h4 h34
          · exact absurd h4 h92
          · exact ⟨t2, by rw [h1, app_list, sub_one s j hlt, h4]; simp, h5⟩)
        have hE := sub_one_size s j hlt
        have z0 : (s.extract j (j + 1)).size ≤ 1 := Nat.le_of_eq hE
        have z1 : b.size + (s.extract j (j + 1)).size ≤ 9223372036854775807 := by omega
        have e1 : (b ++ s.extract j (j + 1)).size ≤ j + 1 := by rw [ByteArray.size_append]; omega
        have e2 : (b ++ s.extract j (j + 1)).size ≤ s.size := by rw [ByteArray.size_append]; omega
        have E1 := Lib.hid e1
        have E2 := Lib.hid e2
        clear hd h34 h92 hl hE e1 e2
        go_wp2_with fail
        go_round
        case rel => exact ⟨_, j + 1, by omega, E1.out, E2.out, HS, rfl, by go_num⟩
        case measure => simp [intOf]; omega
    · have hg : decide (j < s.size) = false := decide_eq_false hlt
      have HR := Lib.hid (show ∀ t r, s.data.toList = esc t ++ 34 :: r → False by
        intro t r h
        obtain ⟨t', -, h2⟩ := hl.out t r h
        rw [List.drop_of_length_le (by rw [← size_list]; omega)] at h2
        simp at h2)
      clear hl
      go_wp2_with fail
      exact bodyPost_ret (v := .tuple #[.string ⟨#[]⟩, .string s, .bool false]) (by simp [results, Tryz.results119, go_sem]) rfl
        ⟨⟨#[]⟩, s, false, rfl, Nat.zero_le _, (fun h => by cases h), (fun t r h => (HR.out t r h).elim), Below.refl _ _⟩

end Go.Proofs.YtkfmgafgokpjhaaGreatDoor

/-
  THE SPECIFICATION's read: texts, words, tags, tuples.
-/
namespace Go.Proofs.YtkfmgafgokpjhaaGreatDoor
open Go.RowKit

/-- How the text of a value begins. -/
theorem txt_inv {y : V} {r l : List UInt8} {c : UInt8} {d : Nat} (hsh : y.sh d = true) (h : c :: l = y.txt ++ r) :
    (c = 34 ∧ ∃ t a cap, y = .mk 1 0 t a cap [] ∧ l = esc t.data.toList ++ 34 :: r) ∨
    (c = 40 ∧ ∃ a cap ys d', d = d' + 1 ∧ y = .mk 2 0 ⟨#[]⟩ a cap ys ∧ V.shL ys d' = true ∧ l = V.txtL ys ++ 41 :: r) ∨
    (c = 35 ∧ ∃ n a cap x d', d = d' + 1 ∧ y = .mk 3 n ⟨#[]⟩ a cap [x] ∧ 0 ≤ n ∧ n < 8 ∧ x.sh d' = true ∧ l = Lib.itoa n ++ 32 :: (x.txt ++ r)) ∨
    (numC c = true ∧ ∃ n a cap, y = .mk 0 n ⟨#[]⟩ a cap [] ∧ -2147483648 ≤ n ∧ n ≤ 2147483647 ∧ c :: l = Lib.itoa n ++ r) := by
  cases y with
  | mk k n s a cap yl =>
  by_cases k1 : k = 1
  · subst k1
    obtain ⟨rfl, rfl, -, -⟩ := sh_text hsh
    simp [V.txt] at h
    exact .inl ⟨h.1, _, _, _, rfl, h.2⟩
  by_cases k2 : k = 2
  · subst k2
    obtain ⟨rfl, rfl, -, d', rfl, hl⟩ := sh_tuple hsh
    simp [V.txt] at h
    exact .inr (.inl ⟨h.1, _, _, _, _, rfl, rfl, hl, h.2⟩)
  by_cases k3 : k = 3
  · subst k3
    obtain ⟨h0, h8, rfl, x, d', rfl, rfl, hx⟩ := sh_tag hsh
    simp [V.txt, V.txtH] at h
    exact .inr (.inr (.inl ⟨h.1, _, _, _, _, _, rfl, rfl, h0, h8, hx, h.2⟩))
  · obtain ⟨rfl, h1, h2, rfl, rfl⟩ := sh_word hsh k1 k2 k3
    have e : (V.mk 0 n ⟨#[]⟩ a cap []).txt = Lib.itoa n := by simp [V.txt]
    rw [e] at h
    obtain ⟨c', t, hc, hn⟩ := itoa_cons n
    have h3 := h
    rw [hc] at h3
    simp only [List.cons_append, List.cons.injEq] at h3
    exact .inr (.inr (.inr ⟨by rw [h3.1]; exact hn, n, a, cap, rfl, h1, h2, h⟩))

theorem txt_ne {y : V} {r : List UInt8} {d : Nat} (hsh : y.sh d = true) : [] ≠ y.txt ++ r := by
  intro h
  obtain ⟨c, t, hc, -⟩ := txt_head y d hsh
  rw [hc] at h
  cases h

/-- The value that was read, and what is behind it; of a value that is written, itself. -/
def ToldR (w w' : World) (d : Nat) (l : List UInt8) (k n : Int) (t : ByteArray) (a : Option Addr) (m c : Nat) (rs : ByteArray) (ok : Bool) : Prop :=
  ∃ vl : List V, m = vl.length ∧ (ok = true → rs.size < l.length ∧ (V.mk k n t a c vl).In w' w'.heap.size ∧ (V.mk k n t a c vl).foot (fun b => w.heap.size ≤ b)) ∧
    ∀ (y : V) (r : List UInt8), y.sh d = true → l = y.txt ++ r → StopL r → ok = true ∧ rs.data.toList = r ∧ (V.mk k n t a c vl).same y = true

def OutRd (w : World) (d : Nat) (l : List UInt8) (e : Ending) (w' : World) : Prop :=
  ∃ (k n : Int) (t : ByteArray) (a : Option Addr) (m c : Nat) (rs : ByteArray) (ok : Bool), e = .returned (.tuple #[.agg #[.int .i64 k, .int .i64 n, .string t, .slice a m c], .string rs, .bool ok]) ∧ Kp w w' ∧ ToldR w w' d l k n t a m c rs ok

/-- The tuple that was read, and what is behind it. -/
def ToldP (w w' : World) (d : Nat) (l : List UInt8) (k n : Int) (t : ByteArray) (a : Option Addr) (m c : Nat) (rs : ByteArray) (ok : Bool) : Prop :=
  ∃ vl : List V, m = vl.length ∧ (ok = true → rs.size < l.length ∧ (V.mk k n t a c vl).In w' w'.heap.size ∧ (V.mk k n t a c vl).foot (fun b => w.heap.size ≤ b)) ∧
    ∀ (ys : List V) (r : List UInt8), V.shL ys d = true → l = V.txtL ys ++ 41 :: r → ok = true ∧ rs.data.toList = r ∧ (V.mk k n t a c vl).same (.mk 2 0 ⟨#[]⟩ none 0 ys) = true

def OutPt (w : World) (d : Nat) (l : List UInt8) (e : Ending) (w' : World) : Prop :=
  ∃ (k n : Int) (t : ByteArray) (a : Option Addr) (m c : Nat) (rs : ByteArray) (ok : Bool), e = .returned (.tuple #[.agg #[.int .i64 k, .int .i64 n, .string t, .slice a m c], .string rs, .bool ok]) ∧ Kp w w' ∧ ToldP w w' d l k n t a m c rs ok

theorem outRd_none {w w' : World} {d : Nat} {l : List UInt8} {s : ByteArray} (h : ∀ (y : V) (r : List UInt8), y.sh d = true → l = y.txt ++ r → StopL r → False) (hk : Kp w w') : OutRd w d l (.returned (.tuple #[.agg zero4, .string s, .bool false])) w' :=
  ⟨0, 0, ⟨#[]⟩, none, 0, 0, s, false, rfl, hk, [], rfl, (fun h => by cases h), fun y r h1 h2 h3 => (h y r h1 h2 h3).elim⟩

theorem first_list (s : ByteArray) (h : 0 < s.size) : (s.extract 0 1).toList = [s[0]] := by
  rw [ByteArray.toList_eq]; exact sub_one s 0 h

theorem not_empty {s : ByteArray} (h : 0 < s.size) : s.toList.isEmpty = false ∧ (s.toList == ([] : List UInt8)) = false := by
  have : s.toList ≠ [] := by
    rw [ByteArray.toList_eq]; intro e
    have h1 := size_list s
    rw [e] at h1
    simp only [List.length_nil] at h1
    omega
  exact ⟨by cases hl : s.toList with
    | nil => exact absurd hl this
    | cons _ _ => rfl, by rw [beq_eq_false_iff_ne]; exact this⟩

set_option maxRecDepth 100000 in
set_option maxHeartbeats 1000000 in
theorem read_zero (w : World) (s : ByteArray) : Calls Tryz.prog 75 #[.string s, .int .i64 0] w (OutRd w 0 s.data.toList) := by
  have hR : ∀ w', Kp w w' → OutRd w 0 s.data.toList (.returned (.tuple #[.agg zero4, .string s, .bool false])) w' := fun w' hk => outRd_none (fun y r h => by cases y; simp [V.sh] at h) hk
  have HR := Lib.hid hR
  clear hR
  go_enter Tryz.func75, Tryz.ntmps75
  go_wp2_with fail
  exact bodyPost_ret (v := .tuple #[.agg zero4, .string s, .bool false]) (by simp [results, Tryz.results75, go_sem]) rfl (HR.out _ (ka _ _))

set_option maxRecDepth 100000 in
set_option maxHeartbeats 1000000 in
theorem read_empty (w : World) (s : ByteArray) (d : Nat) (m : Int) (hm : 1 ≤ m ∧ m ≤ 100) (h0 : s.size = 0) : Calls Tryz.prog 75 #[.string s, .int .i64 m] w (OutRd w d s.data.toList) := by
  have hl : s.data.toList = [] := List.length_eq_zero_iff.1 (by rw [← size_list]; exact h0)
  have hR : ∀ w', Kp w w' → OutRd w d s.data.toList (.returned (.tuple #[.agg zero4, .string s, .bool false])) w' := fun w' hk => outRd_none (fun y r h h2 _ => by rw [hl] at h2; exact txt_ne h h2) hk
  have HR := Lib.hid hR
  have hm0 : (m == 0) = false := by rw [beq_eq_false_iff_ne]; omega
  have e1 : s.toList = [] := by rw [ByteArray.toList_eq]; exact hl
  clear hR hl h0
  go_enter Tryz.func75, Tryz.ntmps75
  go_wp2_with fail
  exact bodyPost_ret (v := .tuple #[.agg zero4, .string s, .bool false]) (by simp [results, Tryz.results75, go_sem]) rfl (HR.out _ (ka _ _))

set_option maxRecDepth 100000 in
set_option maxHeartbeats 2000000 in
theorem read_text (w : World) (s : ByteArray) (d : Nat) (m : Int) (hm : 1 ≤ m ∧ m ≤ 100) (h0 : 0 < s.size) (hs : s.size ≤ 1000000) (hb : s[0] = 34) : Calls Tryz.prog 75 #[.string s, .int .i64 m] w (OutRd w (d + 1) s.data.toList) := by
  have hcr := cons_rest2 s h0
  rw [hb] at hcr
  have hf := first_list s h0
  rw [hb] at hf
  obtain ⟨q1, q2⟩ := not_empty h0
  have k1 : ((s.extract 0 1).toList == [34]) = true := by rw [hf]; rfl
  have hm0 : (m == 0) = false := by rw [beq_eq_false_iff_ne]; omega
  have g1 : (1 : Int) ≤ (s.size : Int) := by omega
  have e9 : (s.extract 1 s.size).size + 1 = s.size := by simp; omega
  have hs1 : (s.extract 1 s.size).size ≤ 1000000 := by omega
  have HC := Lib.hid hcr
  have HE := Lib.hid e9
  have HM := Lib.hid (fun (w1 : World) => markedR (s.extract 1 s.size) hs1 w1)
  clear hcr hf hb e9 hs1
  go_enter Tryz.func75, Tryz.ntmps75
  go_wp2_with fail
  refine (HM.out _).mono ?_
  rintro e w1 ⟨b, rs, ok, rfl, hbz, hok, hco, hk⟩
  have HK := Lib.hid (kk (ka _ _) hk)
  have HB := Lib.hid (boxK hk)
  have HO := Lib.hid hok
  have HCO := Lib.hid hco
  clear hk hok hco
  go_wp2_with fail
  refine (text_any _ _).mono ?_
  rintro e w2 ⟨rfl, hk2⟩
  have hblk := (hk2.block _ (lt_of_block HB.out)).trans HB.out
  obtain ⟨c0, c1, c2, c3, f0, f1, f2, f3⟩ := cell4 hblk
  have HBL := Lib.hid hblk
  have HK2 := Lib.hid (kk HK.out hk2)
  clear hk2 hblk
  go_wp2_with fail
  obtain ⟨d0, d1, d2, d3, -⟩ := cell4 (put4_block (v0 := .int .i64 1) (v1 := .int .i64 0) (v2 := .string b) (v3 := .slice none 0 0) HBL.out)
  refine bodyPost_ret (v := .tuple #[.agg #[.int .i64 1, .int .i64 0, .string b, .slice none 0 0], .string rs, .bool ok]) (by simp [results, Tryz.results75, go_sem, d0, d1, d2, d3]) rfl
    ⟨_, _, _, _, _, _, _, _, rfl, put4_kp HK2.out (Nat.le_refl _), [], rfl, (fun h => ⟨by rw [← size_list]; have := HO.out h; have := HE.out; omega,
      inLeaf _ _ _ (by unfold I64; omega) (by unfold I64; omega) (by have := HE.out; unfold maxLen; omega), V.foot_leaf _ _ _ _ _⟩), fun y r hsh h _ => ?_⟩
  rw [HC.out] at h
  rcases txt_inv hsh h with ⟨-, t, a, cap, rfl, h2⟩ | ⟨h1, -⟩ | ⟨h1, -⟩ | ⟨h1, -⟩
  · obtain ⟨r1, r2, r3⟩ := HCO.out _ _ h2
    refine ⟨r1, r3, ?_⟩
    simp only [V.same, V.sameL, ByteArray.toList_eq, r2]
    simp
  · cases h1
  · cases h1
  · cases h1

theorem num_kinds {c : UInt8} (h : numC c = true) : c ≠ 34 ∧ c ≠ 35 ∧ c ≠ 40 := by
  refine ⟨?_, ?_, ?_⟩ <;> (intro e; subst e; simp [numC] at h)

set_option maxRecDepth 100000 in
set_option maxHeartbeats 2000000 in
theorem read_word (w : World) (s : ByteArray) (d : Nat) (m : Int) (hm : 1 ≤ m ∧ m ≤ 100) (h0 : 0 < s.size) (hs : s.size ≤ 1000000) (b34 : s[0] ≠ 34) (b35 : s[0] ≠ 35) (b40 : s[0] ≠ 40) : Calls Tryz.prog 75 #[.string s, .int .i64 m] w (OutRd w (d + 1) s.data.toList) := by
  have hcr := cons_rest2 s h0
  have hf := first_list s h0
  obtain ⟨q1, q2⟩ := not_empty h0
  have k1 : ((s.extract 0 1).toList == [34]) = false := by rw [hf, beq_eq_false_iff_ne]; intro e; injection e with e _; exact b34 e
  have k2 : ((s.extract 0 1).toList == [35]) = false := by rw [hf, beq_eq_false_iff_ne]; intro e; injection e with e _; exact b35 e
  have k3 : ((s.extract 0 1).toList == [40]) = false := by rw [hf, beq_eq_false_iff_ne]; intro e; injection e with e _; exact b40 e
  have hm0 : (m == 0) = false := by rw [beq_eq_false_iff_ne]; omega
  have g1 : (1 : Int) ≤ (s.size : Int) := by omega
  have HC := Lib.hid (show ∀ (y : V) (r : List UInt8), y.sh (d + 1) = true → s.data.toList = y.txt ++ r → ∃ n a cap, y = .mk 0 n ⟨#[]⟩ a cap [] ∧ -2147483648 ≤ n ∧ n ≤ 2147483647 ∧ s.data.toList = Lib.itoa n ++ r by
    intro y r hsh h
    rw [hcr] at h
    rcases txt_inv hsh h with ⟨h1, -⟩ | ⟨h1, -⟩ | ⟨h1, -⟩ | ⟨-, n, a, cap, rfl, h2, h3, h4⟩
    · exact absurd h1 b34
    · exact absurd h1 b40
    · exact absurd h1 b35
    · exact ⟨n, a, cap, rfl, h2, h3, by rw [hcr]; exact h4⟩)
  have HM := Lib.hid (fun (w1 : World) => wordR s hs w1)
  clear hcr hf b34 b35 b40
  go_enter Tryz.func75, Tryz.ntmps75
  go_wp2_with fail
  refine (HM.out _).mono ?_
  rintro e w1 ⟨n, rs, ok, rfl, hn1, hn2, hok, hco, hk⟩
  have HK := Lib.hid (kk (ka _ _) hk)
  have HB := Lib.hid (boxK hk)
  have HO := Lib.hid hok
  have HCO := Lib.hid hco
  clear hk hok hco
  go_wp2_with fail
  refine (int_any _ _).mono ?_
  rintro e w2 ⟨rfl, hk2⟩
  have hblk := (hk2.block _ (lt_of_block HB.out)).trans HB.out
  obtain ⟨c0, c1, c2, c3, f0, f1, f2, f3⟩ := cell4 hblk
  have HBL := Lib.hid hblk
  have HK2 := Lib.hid (kk HK.out hk2)
  clear hk2 hblk
  go_wp2_with fail
  obtain ⟨d0, d1, d2, d3, -⟩ := cell4 (put4_block (v0 := .int .i64 0) (v1 := .int .i64 n) (v2 := .string ⟨#[]⟩) (v3 := .slice none 0 0) HBL.out)
  refine bodyPost_ret (v := .tuple #[.agg #[.int .i64 0, .int .i64 n, .string ⟨#[]⟩, .slice none 0 0], .string rs, .bool ok]) (by simp [results, Tryz.results75, go_sem, d0, d1, d2, d3]) rfl
    ⟨_, _, _, _, _, _, _, _, rfl, put4_kp HK2.out (Nat.le_refl _), [], rfl, (fun h => ⟨by rw [← size_list]; exact HO.out h,
      inLeaf _ _ _ (by unfold I64; omega) (by unfold I64; omega) (by decide), V.foot_leaf _ _ _ _ _⟩), fun y r hsh h hst => ?_⟩
  obtain ⟨n', a, cap, rfl, h1, h2, h3⟩ := HC.out y r hsh h
  obtain ⟨r1, r2, r3⟩ := HCO.out n' r ⟨h1, h2⟩ h3 hst
  refine ⟨r1, r3, ?_⟩
  subst r2
  simp [V.same, V.sameL]

set_option maxRecDepth 100000 in
set_option maxHeartbeats 2000000 in
theorem read_tuple (w : World) (s : ByteArray) (d : Nat) (m : Int) (hm : 1 ≤ m ∧ m ≤ 100) (h0 : 0 < s.size) (_hs : s.size ≤ 1000000) (hb : s[0] = 40)
    (ih : ∀ (s1 : ByteArray) (w1 : World), s1.size < s.size → Calls Tryz.prog 122 #[.string s1, .int .i64 (m - 1)] w1 (OutPt w1 d s1.data.toList)) :
    Calls Tryz.prog 75 #[.string s, .int .i64 m] w (OutRd w (d + 1) s.data.toList) := by
  have hcr := cons_rest2 s h0
  rw [hb] at hcr
  have hf := first_list s h0
  rw [hb] at hf
  obtain ⟨q1, q2⟩ := not_empty h0
  have k1 : ((s.extract 0 1).toList == [34]) = false := by rw [hf]; rfl
  have k2 : ((s.extract 0 1).toList == [35]) = false := by rw [hf]; rfl
  have k3 : ((s.extract 0 1).toList == [40]) = true := by rw [hf]; rfl
  have hm0 : (m == 0) = false := by rw [beq_eq_false_iff_ne]; omega
  have g1 : (1 : Int) ≤ (s.size : Int) := by omega
  have e9 : (s.extract 1 s.size).size + 1 = s.size := by simp; omega
  have HI := Lib.hid (fun (w1 : World) => ih (s.extract 1 s.size) w1 (by omega))
  have HC := Lib.hid hcr
  have HE := Lib.hid e9
  clear hcr hf hb e9 ih
  go_enter Tryz.func75, Tryz.ntmps75
  go_wp2_with fail
  refine (HI.out _).mono ?_
  rintro e w2 ⟨k, n, t, a, mm, c, rs, ok, rfl, hk2, vl, rfl, hok, hco⟩
  have hblk := boxK hk2
  obtain ⟨c0, c1, c2, c3, f0, f1, f2, f3⟩ := cell4 hblk
  have HBL := Lib.hid hblk
  have HK2 := Lib.hid (kk (ka _ _) hk2)
  have HO := Lib.hid hok
  have HCO := Lib.hid hco
  clear hk2 hblk hok hco
  go_wp2_with fail
  obtain ⟨d0, d1, d2, d3, -⟩ := cell4 (put4_block (v0 := .int .i64 k) (v1 := .int .i64 n) (v2 := .string t) (v3 := .slice a vl.length c) HBL.out)
  have hS : (put4 w2 w.heap.size (.int .i64 k) (.int .i64 n) (.string t) (.slice a vl.length c)).heap.size = w2.heap.size := by simp [World.setCell]
  refine bodyPost_ret (v := .tuple #[.agg #[.int .i64 k, .int .i64 n, .string t, .slice a vl.length c], .string rs, .bool ok]) (by simp [results, Tryz.results75, go_sem, d0, d1, d2, d3]) rfl
    ⟨_, _, _, _, _, _, _, _, rfl, put4_kp HK2.out (Nat.le_refl _), vl, rfl, (fun h => ?_), fun y r hsh h _ => ?_⟩
  · obtain ⟨p1, p2, p3⟩ := HO.out h
    have hf1 : (V.mk k n t a c vl).foot (fun b => w.heap.size + 1 ≤ b) := V.foot.mono (fun b hb => by simpa using hb) _ p3
    rw [← size_list] at p1
    refine ⟨by rw [← size_list]; have := HE.out; omega, by rw [hS]; exact V.In.move (Nat.le_refl _) (fun b _ hb => put4_other (by omega)) _ p2 hf1, V.foot.mono (fun b hb => by omega) _ hf1⟩
  · rw [HC.out] at h
    rcases txt_inv hsh h with ⟨h1, -⟩ | ⟨-, a', cap', ys, d', hd, rfl, hl, h2⟩ | ⟨h1, -⟩ | ⟨h1, -⟩
    · cases h1
    · obtain rfl : d = d' := by omega
      obtain ⟨r1, r2, r3⟩ := HCO.out ys r hl h2
      refine ⟨r1, r2, V.same_trans _ _ _ r3 (V.same_node (V.sameL_refl _))⟩
    · cases h1
    · cases h1

theorem toldR_tag {w W w2 w3 : World} {d q : Nat} {l l2 : List UInt8} {i k n : Int} {t : ByteArray} {a : Option Addr} {m c : Nat} {rs : ByteArray} {ok : Bool} (v0 v1 v2 v3 : Value)
    (h : ToldR W w2 d l2 k n t a m c rs ok) (hi : I64 i) (hll : l2.length < l.length) (hco : ∀ (y : V) (r : List UInt8), y.sh (d + 1) = true → l = y.txt ++ r → ∃ a cap x, y = .mk 3 i ⟨#[]⟩ a cap [x] ∧ x.sh d = true ∧ l2 = x.txt ++ r)
    (hW : w.heap.size < W.heap.size) (h23 : Kp w2 w3) (hq : w3.heap[q]? = some (.cells #[.int .i64 k, .int .i64 n, .string t, .slice a m c] 24 (0, 0))) (hqw : w.heap.size < q) :
    ToldR w (put4 w3 w.heap.size v0 v1 v2 v3) (d + 1) l 3 i ⟨#[]⟩ (some ⟨q, 0, none⟩) 1 1 rs ok := by
  obtain ⟨vl, rfl, hok, hc⟩ := h
  have hqs := lt_of_block hq
  have hmv : ∀ i, i < w3.heap.size → w.heap.size + 1 ≤ i → (put4 w3 w.heap.size v0 v1 v2 v3).heap[i]? = w3.heap[i]? := fun i _ hi => put4_other (by omega)
  have hS : (put4 w3 w.heap.size v0 v1 v2 v3).heap.size = w3.heap.size := by simp [World.setCell]
  refine ⟨[.mk k n t a c vl], rfl, fun h => ?_, fun y r hsh hl hst => ?_⟩
  · obtain ⟨p1, hin, hft⟩ := hok h
    have hf2 : (V.mk k n t a c vl).foot (fun i => w.heap.size + 1 ≤ i) := V.foot.mono (fun i hi => by omega) _ hft
    refine ⟨by omega, ?_, ?_⟩
    · rw [hS]
      simp only [V.In, V.InL]
      refine ⟨by unfold I64; omega, hi, by decide, Nat.le_refl _, by decide, .inr ⟨q, 0, rfl, hqs, ?_⟩, ?_, trivial⟩
      · exact At.of_block ((hmv q hqs (by omega)).trans hq) rfl
      · exact V.In.move (Nat.le_refl _) hmv _ (hin.keep h23.size h23) hf2
    · simp only [V.foot, V.footL]
      exact ⟨.inr ⟨q, 0, rfl, by omega⟩, V.foot.mono (fun i hi => by omega) _ hft, trivial⟩
  · obtain ⟨a', cap', x, rfl, hx, h2⟩ := hco y r hsh hl
    obtain ⟨r1, r2, r3⟩ := hc x r hx h2 hst
    exact ⟨r1, r2, V.same_node (V.sameL_one r3)⟩

theorem pre_one32 (s : ByteArray) : preB s ⟨#[32]⟩ = decide (s.data.toList.head? = some 32) := by
  unfold preB
  show decide ([32] <+: s.data.toList) = _
  cases s.data.toList with
  | nil => simp
  | cons c l => simp [List.cons_prefix_cons, eq_comm]

set_option maxRecDepth 100000 in
set_option maxHeartbeats 4000000 in
theorem read_tag (w : World) (s : ByteArray) (d : Nat) (m : Int) (hm : 1 ≤ m ∧ m ≤ 100) (h0 : 0 < s.size) (hs : s.size ≤ 1000000) (hb : s[0] = 35)
    (ih : ∀ (s1 : ByteArray) (w1 : World), s1.size < s.size → Calls Tryz.prog 75 #[.string s1, .int .i64 (m - 1)] w1 (OutRd w1 d s1.data.toList)) :
    Calls Tryz.prog 75 #[.string s, .int .i64 m] w (OutRd w (d + 1) s.data.toList) := by
  have hcr := cons_rest2 s h0
  rw [hb] at hcr
  have hf := first_list s h0
  rw [hb] at hf
  obtain ⟨q1, q2⟩ := not_empty h0
  have k1 : ((s.extract 0 1).toList == [34]) = false := by rw [hf]; rfl
  have k2 : ((s.extract 0 1).toList == [35]) = true := by rw [hf]; rfl
  have hm0 : (m == 0) = false := by rw [beq_eq_false_iff_ne]; omega
  have g1 : (1 : Int) ≤ (s.size : Int) := by omega
  have e9 : (s.extract 1 s.size).size + 1 = s.size := by simp; omega
  have hs1 : (s.extract 1 s.size).size ≤ 1000000 := by omega
  have HI := Lib.hid ih
  have HE := Lib.hid e9
  have HC := Lib.hid (show ∀ (y : V) (r : List UInt8), y.sh (d + 1) = true → s.data.toList = y.txt ++ r → ∃ n a cap x, y = .mk 3 n ⟨#[]⟩ a cap [x] ∧ 0 ≤ n ∧ n < 8 ∧ x.sh d = true ∧ (s.extract 1 s.size).data.toList = Lib.itoa n ++ 32 :: (x.txt ++ r) by
    intro y r hsh h
    rw [hcr] at h
    rcases txt_inv hsh h with ⟨h1, -⟩ | ⟨h1, -⟩ | ⟨-, n, a, cap, x, d', hd, rfl, h2, h3, hx, h4⟩ | ⟨h1, -⟩
    · cases h1
    · cases h1
    · obtain rfl : d = d' := by omega
      exact ⟨n, a, cap, x, rfl, h2, h3, hx, h4⟩
    · exact absurd rfl (num_kinds h1).2.1)
  have HM := Lib.hid (fun (w1 : World) => wordR (s.extract 1 s.size) hs1 w1)
  clear hcr hf hb e9 ih hs1
  go_enter Tryz.func75, Tryz.ntmps75
  go_wp2_with fail
  refine (HM.out _).mono ?_
  rintro e w1 ⟨i, rs, ok, rfl, hn1, hn2, hok, hco, hk⟩
  have HK := Lib.hid (kk (ka _ _) hk)
  have hblk := boxK hk
  have HB := Lib.hid hblk
  have hwl := lt_of_block hblk
  have HO := Lib.hid hok
  have HCO := Lib.hid hco
  clear hk hok hco
  cases ok with
  | false =>
    obtain ⟨c0, c1, c2, c3, f0, f1, f2, f3⟩ := cell4 hblk
    have HN := Lib.hid (show ∀ (y : V) (r : List UInt8), y.sh (d + 1) = true → s.data.toList = y.txt ++ r → StopL r → False by
      intro y r hsh h _
      obtain ⟨n, a, cap, x, rfl, h2, h3, hx, h4⟩ := HC.out y r hsh h
      have := (HCO.out n _ (by omega) h4 (stop_cons rfl)).1
      cases this)
    clear hblk
    go_wp2_with fail
    obtain ⟨d0, d1, d2, d3, -⟩ := cell4 (put4_block (v0 := .int .i64 0) (v1 := .int .i64 0) (v2 := .string ⟨#[]⟩) (v3 := .slice none 0 0) HB.out)
    exact bodyPost_ret (v := .tuple #[.agg zero4, .string s, .bool false]) (by simp [results, Tryz.results75, go_sem, d0, d1, d2, d3]) rfl (outRd_none HN.out (put4_kp HK.out (Nat.le_refl _)))
  | true =>
    have hrz := HO.out rfl
    have hrz2 : rs.size < s.size := by have := HE.out; omega
    clear hblk
    go_wp2_with fail
    refine (beginsR rs ⟨#[32]⟩ (by omega) (by decide) _).mono ?_
    rintro e w2 ⟨rfl, rfl⟩
    cases hp : preB rs ⟨#[32]⟩ with
    | false =>
      obtain ⟨c0, c1, c2, c3, f0, f1, f2, f3⟩ := cell4 HB.out
      have HN := Lib.hid (show ∀ (y : V) (r : List UInt8), y.sh (d + 1) = true → s.data.toList = y.txt ++ r → StopL r → False by
        intro y r hsh h _
        obtain ⟨n, a, cap, x, rfl, h2, h3, hx, h4⟩ := HC.out y r hsh h
        have := (HCO.out n _ (by omega) h4 (stop_cons rfl)).2.2
        rw [pre_one32, this] at hp
        simp at hp)
      clear hp
      go_wp2_with fail
      obtain ⟨d0, d1, d2, d3, -⟩ := cell4 (put4_block (v0 := .int .i64 0) (v1 := .int .i64 0) (v2 := .string ⟨#[]⟩) (v3 := .slice none 0 0) HB.out)
      exact bodyPost_ret (v := .tuple #[.agg zero4, .string s, .bool false]) (by simp [results, Tryz.results75, go_sem, d0, d1, d2, d3]) rfl (outRd_none HN.out (put4_kp HK.out (Nat.le_refl _)))
    | true =>
      have hr0 : 0 < rs.size := by
        rw [pre_one32] at hp
        rw [size_list]
        cases h : rs.data.toList with
        | nil => rw [h] at hp; simp at hp
        | cons _ _ => simp
      have hrl := cons_rest2 rs hr0
      have HX := Lib.hid (show ∀ (y : V) (r : List UInt8), y.sh (d + 1) = true → s.data.toList = y.txt ++ r → ∃ a cap x, y = .mk 3 i ⟨#[]⟩ a cap [x] ∧ x.sh d = true ∧ (rs.extract 1 rs.size).data.toList = x.txt ++ r by
        intro y r hsh h
        obtain ⟨n, a, cap, x, rfl, h2, h3, hx, h4⟩ := HC.out y r hsh h
        obtain ⟨-, r2, r3⟩ := HCO.out n _ (by omega) h4 (stop_cons rfl)
        rw [hrl] at r3
        injection r3 with _ r3
        exact ⟨a, cap, x, by rw [r2], hx, r3⟩)
      have e8 : (rs.extract 1 rs.size).size < s.size := by simp; omega
      have g2 : (1 : Int) ≤ (rs.size : Int) := by omega
      have HIR := Lib.hid (fun (w1 : World) => HI.out (rs.extract 1 rs.size) w1 e8)
      have HE8 := Lib.hid e8
      clear hp hrl e8
      go_wp2_with fail
      refine (HIR.out _).mono ?_
      rintro e w3 ⟨k, n, t, a, mm, c, r2, ok2, rfl, hk3, htold⟩
      have HT := Lib.hid htold
      have hb3 := (hk3.block _ hwl).trans HB.out
      have HB3 := Lib.hid hb3
      have hz3 := lt_of_block hb3
      have HK3 := Lib.hid (kk HK.out hk3)
      clear hk3 htold hb3
      go_wp2_with fail
      refine (tag_any _ _ _ _ _ _ _ _).mono ?_
      rintro e w4 ⟨q, rfl, hqb, hq, hk4⟩
      have hka := kk (ka w3 (.cells #[.int .i64 k, .int .i64 n, .string t, .slice a mm c] 24)) hk4
      have hb4 := (hka.block _ hz3).trans HB3.out
      obtain ⟨c0, c1, c2, c3, f0, f1, f2, f3⟩ := cell4 hb4
      have HB4 := Lib.hid hb4
      have HKA := Lib.hid hka
      have HQ := Lib.hid hqb
      clear hk4 hka hb4 hqb
      go_wp2_with fail
      obtain ⟨d0, d1, d2, d3, -⟩ := cell4 (put4_block (v0 := .int .i64 3) (v1 := .int .i64 i) (v2 := .string ⟨#[]⟩) (v3 := .slice (some ⟨q, 0, none⟩) 1 1) HB4.out)
      refine bodyPost_ret (v := .tuple #[.agg #[.int .i64 3, .int .i64 i, .string ⟨#[]⟩, .slice (some ⟨q, 0, none⟩) 1 1], .string r2, .bool ok2]) (by simp [results, Tryz.results75, go_sem, d0, d1, d2, d3]) rfl
        ⟨_, _, _, _, _, _, _, _, rfl, put4_kp (kk HK3.out HKA.out) (Nat.le_refl _), toldR_tag (W := w1) _ _ _ _ HT.out (by unfold I64; omega) (by rw [← size_list, ← size_list]; exact HE8.out) HX.out hwl HKA.out HQ.out (by simp at hq; omega)⟩

end Go.Proofs.YtkfmgafgokpjhaaGreatDoor

/-
  THE SPECIFICATION's parts; read OF ANY BYTES.
-/
namespace Go.Proofs.YtkfmgafgokpjhaaGreatDoor
open Go.RowKit

theorem pre_one41 (s : ByteArray) : preB s ⟨#[41]⟩ = decide (s.data.toList.head? = some 41) := by
  unfold preB
  show decide ([41] <+: s.data.toList) = _
  cases s.data.toList with
  | nil => simp
  | cons c l => simp [List.cons_prefix_cons, eq_comm]

theorem stop_tail (zs : List V) (q : List UInt8) : StopL (tailL zs ++ 41 :: q) := by
  cases zs with
  | nil => exact stop_cons rfl
  | cons z zs => exact stop_cons rfl

/-- What is left to read, behind the parts that were read. -/
def LeftP (d : Nat) (l : List UInt8) (r : ByteArray) (vs : List V) : Prop :=
  ∀ (ys : List V) (q : List UInt8), V.shL ys d = true → l = V.txtL ys ++ 41 :: q → ∃ pre z zs, ys = pre ++ z :: zs ∧ V.sameL vs pre = true ∧ r.data.toList = z.txt ++ (tailL zs ++ 41 :: q)

theorem shL_mid {d : Nat} {pre zs : List V} {z : V} (h : V.shL (pre ++ z :: zs) d = true) : z.sh d = true := by
  refine shLK_at h (j := pre.length) ?_
  rw [List.getElem?_append_right (Nat.le_refl _)]; simp

theorem sameL_app {a b c d : List V} (h : V.sameL a b = true) (k : V.sameL c d = true) : V.sameL (a ++ c) (b ++ d) = true := by
  induction a generalizing b with
  | nil => cases b with
    | nil => exact k
    | cons _ _ => simp [V.sameL] at h
  | cons x xs ih => cases b with
    | nil => simp [V.sameL] at h
    | cons y ys =>
      simp [V.sameL] at h ⊢
      exact ⟨h.1, ih h.2⟩

/-- The tuple as it stands: what is returned. -/
theorem tup_told {w w' : World} {vb : Nat} {vs : List V} {sl : Value} (htp : TupAt w' vb vs sl vs) (hvb : w.heap.size < vb) (v0 v1 v2 v3 : Value) :
    ∃ a cap, sl = .slice a vs.length cap ∧ (V.mk 2 0 ⟨#[]⟩ a cap vs).In (put4 w' w.heap.size v0 v1 v2 v3) (put4 w' w.heap.size v0 v1 v2 v3).heap.size ∧ (V.mk 2 0 ⟨#[]⟩ a cap vs).foot (fun b => w.heap.size ≤ b) := by
  obtain ⟨a, cap, rfl, hin, hft⟩ := htp.value
  have hS : (put4 w' w.heap.size v0 v1 v2 v3).heap.size = w'.heap.size := by simp [World.setCell]
  exact ⟨a, cap, rfl, by rw [hS]; exact V.In.move (Nat.le_refl _) (fun i _ hi => put4_other (by omega)) _ hin hft, V.foot.mono (fun i hi => by omega) _ hft⟩

set_option maxRecDepth 100000 in
set_option maxHeartbeats 8000000 in
theorem partsR (w : World) (s : ByteArray) (d : Nat) (m : Int) (hs : s.size ≤ 1000000)
    (ih : ∀ (s1 : ByteArray) (w1 : World), s1.size ≤ s.size → Calls Tryz.prog 75 #[.string s1, .int .i64 m] w1 (OutRd w1 d s1.data.toList)) :
    Calls Tryz.prog 122 #[.string s, .int .i64 m] w (OutPt w d s.data.toList) := by
  obtain ⟨i0, hi, hz0, hz1, hz2⟩ := info_parts infoV
  have HI := Lib.hid ih
  have HB0 := Lib.hid (fun (w1 : World) => beginsR s ⟨#[41]⟩ hs (by decide) w1)
  clear ih
  go_enter Tryz.func122, Tryz.ntmps122
  go_wp2_with fail
  refine (tuple_any _ _ _ _).mono ?_
  rintro e w2 ⟨rfl, hk2⟩
  go_wp2_with fail
  have hzk := hk2.size
  simp at hzk
  have hk3 := kk hk2 (ka w2 (.cells #[.int .i64 2, .int .i64 0, .string ⟨#[]⟩, .slice none 0 0] 24))
  have hblk := boxK hk3
  have hkW := kk (ka _ _) hk3
  have htup : TupAt (w2.alloc (.cells #[.int .i64 2, .int .i64 0, .string ⟨#[]⟩, .slice none 0 0] 24)) w2.heap.size [] (.slice none 0 0) [] := ⟨blockHere rfl, World.ownsRow_nil _ _ _ _, rfl, trivial, trivial⟩
  have hvw : w.heap.size < w2.heap.size := by omega
  generalize w2.alloc (.cells #[.int .i64 2, .int .i64 0, .string ⟨#[]⟩, .slice none 0 0] 24) = W2 at *
  generalize w2.heap.size = vb at *
  have HBL := Lib.hid hblk
  have HK2 := Lib.hid hkW
  have HTU := Lib.hid htup
  clear hk2 hk3 hblk hkW htup hzk
  refine (HB0.out _).mono ?_
  rintro e w3 ⟨rfl, rfl⟩
  cases hp : preB s ⟨#[41]⟩ with
  | true =>
    have hs0 : 0 < s.size := by
      rw [pre_one41] at hp
      rw [size_list]
      cases h : s.data.toList with
      | nil => rw [h] at hp; simp at hp
      | cons _ _ => simp
    have hcr := cons_rest2 s hs0
    have hb : s[0] = 41 := by rw [pre_one41, hcr] at hp; simpa using hp
    have HC := Lib.hid (show ∀ (ys : List V) (r : List UInt8), V.shL ys d = true → s.data.toList = V.txtL ys ++ 41 :: r → true = true ∧ (s.extract 1 s.size).data.toList = r ∧ ys = [] by
      intro ys r hsh h
      cases ys with
      | nil =>
        rw [hcr] at h
        simp only [V.txtL, List.nil_append] at h
        injection h with _ h
        exact ⟨rfl, h, rfl⟩
      | cons y ys =>
        exfalso
        have hy : y.sh d = true := shLK_at hsh (j := 0) rfl
        obtain ⟨c, t, hc, hn⟩ := txt_head y d hy
        rw [txtL_tail, hc, hcr, hb] at h
        injection h with h _
        exact hn h.symm)
    have g1 : (1 : Int) ≤ (s.size : Int) := by omega
    obtain ⟨a, cap, hsl, hin, hft⟩ := tup_told (w := w) HTU.out hvw (.int .i64 2) (.int .i64 0) (.string ⟨#[]⟩) (.slice none 0 0)
    injection hsl with ha hl hc
    subst ha hc
    obtain ⟨b0, b1, b2, b3, -⟩ := cell4 HTU.out.box
    obtain ⟨c0, c1, c2, c3, f0, f1, f2, f3⟩ := cell4 HBL.out
    have HIN := Lib.hid hin
    have HFT := Lib.hid hft
    clear hin hft hp hcr hb hl
    go_wp2_with fail
    go_region
    all_goals
      go_wp2_with fail
      obtain ⟨d0, d1, d2, d3, -⟩ := cell4 (put4_block (v0 := .int .i64 2) (v1 := .int .i64 0) (v2 := .string ⟨#[]⟩) (v3 := .slice none 0 0) HBL.out)
      refine bodyPost_ret (v := .tuple #[.agg #[.int .i64 2, .int .i64 0, .string ⟨#[]⟩, .slice none 0 0], .string (s.extract 1 s.size), .bool true]) (by simp [results, Tryz.results122, go_sem, d0, d1, d2, d3]) rfl
        ⟨_, _, _, _, _, _, _, _, rfl, kk (put4_kp HK2.out (Nat.le_refl _)) kpD, [], rfl, (fun _ => ⟨by rw [← size_list]; simp; omega, HIN.out.keep (Nat.le_refl _) kpD, HFT.out⟩), fun ys r hsh h => ?_⟩
      obtain ⟨-, h2, rfl⟩ := HC.out ys r hsh h
      exact ⟨rfl, h2, V.same_refl _⟩
  | false =>
    have HL0 := Lib.hid (show LeftP d s.data.toList s [] by
      intro ys q hsh h
      cases ys with
      | nil =>
        rw [pre_one41, h] at hp
        simp [V.txtL] at hp
      | cons y ys => exact ⟨[], y, ys, rfl, rfl, by rw [h, txtL_tail, List.append_assoc]⟩)
    clear hp
    go_wp2_with fail
    go_loopw [0] (fun rr wr => ∃ (r : ByteArray) (sl : Value) (vs : List V), rr = .string r ∧ r.size ≤ s.size ∧ vs.length ≤ s.size - r.size ∧ Hid (LeftP d s.data.toList r vs) ∧ TupAt wr vb vs sl vs ∧ Kp w wr ∧ wr.heap[w.heap.size]? = some (.cells #[.int .i64 0, .int .i64 0, .string ⟨#[]⟩, .slice none 0 0] 24 (0, 0))) (fun rr _ => strSize rr)
    case atStart => exact ⟨s, _, [], rfl, Nat.le_refl _, by simp, HL0, HTU.out, HK2.out, HBL.out⟩
    case round =>
      obtain ⟨r, sl, vs, rfl, hrz, hvl, hre, htp, hk, hres⟩ := hrel
      have HTP := Lib.hid htp
      have HK := Lib.hid hk
      have HRS := Lib.hid hres
      have HRE := Lib.hid hre.out
      have hvbw := htp.lt
      have nres : some w.heap.size ≠ sl.ownBlock := fun e => by have := (htp.own.lt _ e.symm).1; omega
      have nvb : some vb ≠ sl.ownBlock := fun e => by have := (htp.own.lt _ e.symm).1; omega
      clear htp hk hres hre
      go_wp2_with fail
      refine (HI.out r wr hrz).mono ?_
      rintro e w3 ⟨k, n, t, a, mm, c, r2, ok, rfl, hk3, vl, rfl, hok, hco⟩
      have HK3 := Lib.hid hk3
      have hres3 := (hk3.block _ (lt_of_block HRS.out)).trans HRS.out
      have HR3 := Lib.hid hres3
      have hz3 := lt_of_block hres3
      have HCO := Lib.hid hco
      have HOK := Lib.hid hok
      cases ok with
      | false =>
        have HN := Lib.hid (show ∀ (ys : List V) (q : List UInt8), V.shL ys d = true → s.data.toList = V.txtL ys ++ 41 :: q → False by
          intro ys q hsh h
          obtain ⟨pre, z, zs, rfl, -, h3⟩ := HRE.out ys q hsh h
          have := (hco z _ (shL_mid hsh) h3 (stop_tail zs q)).1
          cases this)
        have hb3 := (hk3.block _ hvbw).trans HTP.out.box
        have hvb3 := lt_of_block hb3
        obtain ⟨b0, b1, b2, b3, -⟩ := cell4 hb3
        obtain ⟨c0, c1, c2, c3, f0, f1, f2, f3⟩ := cell4 hres3
        obtain ⟨a', cap', rfl, -⟩ := HTP.out.value
        clear hk3 hres3 hco hok hb3
        go_wp2_with fail
        obtain ⟨d0, d1, d2, d3, -⟩ := cell4 (blockPast (o := .cells #[.int .i64 k, .int .i64 n, .string t, .slice a vl.length c] 24) (put4_block (v0 := .int .i64 2) (v1 := .int .i64 0) (v2 := .string ⟨#[]⟩) (v3 := .slice a' vs.length cap') HR3.out))
        exact bodyPost_ret (v := .tuple #[.agg #[.int .i64 2, .int .i64 0, .string ⟨#[]⟩, .slice a' vs.length cap'], .string r, .bool false]) (by simp [results, Tryz.results122, go_sem, d0, d1, d2, d3]) rfl
          ⟨_, _, _, _, _, _, _, _, rfl, kk (put4_kp (kk HK.out HK3.out) (Nat.le_refl _)) (ka _ _), vs, rfl, (fun h => by cases h), fun ys q hsh h => (HN.out ys q hsh h).elim⟩
      | true =>
        obtain ⟨hrs2, hin, hft⟩ := hok rfl
        rw [← size_list] at hrs2
        have hb3 := (hk3.block _ hvbw).trans HTP.out.box
        have hvb3 := lt_of_block hb3
        have q3 : w3.cell? ⟨vb, 3, none⟩ = some sl := cellOf hb3 rfl
        have HB3 := Lib.hid hb3
        have HZI := Lib.hid hin
        have HZF := Lib.hid hft
        have HSM := Lib.hid (V.same_refl (V.mk k n t a c vl))
        clear hk3 hres3 hco hok hb3 hin hft
        go_wp2_with (at_builtin; refine wpList_append_lies _ rfl _ _ 22 rfl (vb + 1) 24 i0 _ 4 56 Tryz.underlying22 hi hz0 hz1 hz2 rfl (by decide) _ _ _ rfl (((ownsRow_kp HTP.out.own HK3.out).alloc _).alloc _) ⟨w3.heap.size + 1, 0, none⟩ 1 1 [.int .i64 k, .int .i64 n, .string t, .slice a vl.length c] rfl rfl ?a1 ?a2 (by decide) ?a3 ?a4 ?a5 (w3.heap.size + 1 + 1) (by simp) ?_)
        case a1 =>
          intro j u hj
          match j, hj with
          | 0, hj => simp at hj; subst hj; simp [Addr.add]
          | 1, hj => simp at hj; subst hj; simp [Addr.add]
          | 2, hj => simp at hj; subst hj; simp [Addr.add]
          | 3, hj => simp at hj; subst hj; simp [Addr.add]
        case a2 => intro u hu; simp at hu; rcases hu with rfl | rfl | rfl | rfl <;> rfl
        case a3 => unfold maxLen; omega
        case a4 => omega
        case a5 => simp; omega
        intro gg gcap w4 hown1 hgrow hat hltg
        have hka2 := ka w3 (.cells #[.int .i64 k, .int .i64 n, .string t, .slice a vl.length c] 24)
        have hkc := kk hka2 (ka (w3.alloc (.cells #[.int .i64 k, .int .i64 n, .string t, .slice a vl.length c] 24)) (.cells #[.int .i64 k, .int .i64 n, .string t, .slice a vl.length c] 24))
        have hb4 := (hgrow.block vb (by simp; omega) nvb).trans (blockPast (blockPast HB3.out))
        have p3 : w4.cell? ⟨vb, 3, none⟩ = some sl := cellOf hb4 rfl
        have pf3 : w4.frozen? ⟨vb, 3, none⟩ = false := freeOf hb4
        have HST := Lib.hid (HTP.out.step HK3.out HZI.out HZF.out HSM.out hkc hown1 hgrow (by simpa using hat))
        have HK4 := Lib.hid (put1_kp (i := 3) (v := .slice (some ⟨gg, 0, none⟩) (vs.length + 1) gcap) (kp_grown (kk (kk HK.out HK3.out) hkc) hgrow (fun k e => by have := (HTP.out.own.lt k e).1; omega)) (by omega : w.heap.size ≤ vb))
        have HR4 := Lib.hid (step_block (i := 3) (u := .slice (some ⟨gg, 0, none⟩) (vs.length + 1) gcap) HK3.out hkc hgrow nres (by omega : w.heap.size ≠ vb) HRS.out)
        clear hka2 hkc hb4 hown1 hgrow hat q3
        go_wp2_with fail
        generalize w4.setCell ⟨vb, 3, none⟩ (.slice (some ⟨gg, 0, none⟩) (vs.length + 1) gcap) = W5 at *
        refine (beginsR r2 ⟨#[41]⟩ (by omega) (by decide) _).mono ?_
        rintro e w6 ⟨rfl, rfl⟩
        have hvW := HST.out.lt
        have hVL : (vs ++ [V.mk k n t a c vl]).length = vs.length + 1 := by simp
        cases hp41 : preB r2 ⟨#[41]⟩ with
        | true =>
          have hr0 : 0 < r2.size := by
            rw [pre_one41] at hp41
            rw [size_list]
            cases h : r2.data.toList with
            | nil => rw [h] at hp41; simp at hp41
            | cons _ _ => simp
          have hcr := cons_rest2 r2 hr0
          have hb : r2[0] = 41 := by rw [pre_one41, hcr] at hp41; simpa using hp41
          have HC := Lib.hid (show ∀ (ys : List V) (q : List UInt8), V.shL ys d = true → s.data.toList = V.txtL ys ++ 41 :: q → (r2.extract 1 r2.size).data.toList = q ∧ V.sameL (vs ++ [V.mk k n t a c vl]) ys = true by
            intro ys q hsh h
            obtain ⟨pre, z, zs, rfl, hpre, h3⟩ := HRE.out ys q hsh h
            obtain ⟨-, h4, h5⟩ := HCO.out z _ (shL_mid hsh) h3 (stop_tail zs q)
            rw [hcr, hb] at h4
            cases zs with
            | nil =>
              simp only [tailL, List.nil_append] at h4
              injection h4 with _ h4
              exact ⟨h4, sameL_app hpre (V.sameL_one h5)⟩
            | cons z2 zs => simp [tailL] at h4)
          have g1 : (1 : Int) ≤ (r2.size : Int) := by omega
          obtain ⟨a2, cap2, hsl, hin, hft⟩ := tup_told (w := w) HST.out hvw (.int .i64 2) (.int .i64 0) (.string ⟨#[]⟩) (.slice (some ⟨gg, 0, none⟩) (vs.length + 1) gcap)
          injection hsl with ha hl hc
          subst ha hc
          obtain ⟨b0, b1, b2, b3, -⟩ := cell4 HST.out.box
          obtain ⟨c0, c1, c2, c3, f0, f1, f2, f3⟩ := cell4 HR4.out
          have HIN := Lib.hid hin
          have HFT := Lib.hid hft
          clear hin hft hp41 hcr hb hl hVL
          go_wp2_with fail
          go_region
          all_goals
            go_wp2_with fail
            obtain ⟨d0, d1, d2, d3, -⟩ := cell4 (put4_block (v0 := .int .i64 2) (v1 := .int .i64 0) (v2 := .string ⟨#[]⟩) (v3 := .slice (some ⟨gg, 0, none⟩) (vs.length + 1) gcap) HR4.out)
            refine bodyPost_ret (v := .tuple #[.agg #[.int .i64 2, .int .i64 0, .string ⟨#[]⟩, .slice (some ⟨gg, 0, none⟩) (vs.length + 1) gcap], .string (r2.extract 1 r2.size), .bool true]) (by simp [results, Tryz.results122, go_sem, d0, d1, d2, d3]) rfl
              ⟨_, _, _, _, _, _, _, _, rfl, kk (put4_kp HK4.out (Nat.le_refl _)) kpD, vs ++ [V.mk k n t a c vl], by simp, (fun _ => ⟨by rw [← size_list]; simp; omega, HIN.out.keep (Nat.le_refl _) kpD, HFT.out⟩), fun ys q hsh h => ?_⟩
            obtain ⟨h2, h3⟩ := HC.out ys q hsh h
            exact ⟨rfl, h2, V.same_node h3⟩
        | false =>
          have HL := Lib.hid (show ∀ (ys : List V) (q : List UInt8), V.shL ys d = true → s.data.toList = V.txtL ys ++ 41 :: q → ∃ pre z zs, ys = pre ++ z :: zs ∧ V.sameL (vs ++ [V.mk k n t a c vl]) pre = true ∧ r2.data.toList = 44 :: 32 :: (z.txt ++ (tailL zs ++ 41 :: q)) by
            intro ys q hsh h
            obtain ⟨pre, z, zs, rfl, hpre, h3⟩ := HRE.out ys q hsh h
            obtain ⟨-, h4, h5⟩ := HCO.out z _ (shL_mid hsh) h3 (stop_tail zs q)
            cases zs with
            | nil =>
              rw [pre_one41, h4] at hp41
              simp [tailL] at hp41
            | cons z2 zs =>
              refine ⟨pre ++ [z], z2, zs, by simp, sameL_app hpre (V.sameL_one h5), ?_⟩
              rw [h4]; simp [tailL])
          clear hp41
          go_wp2_with fail
          refine (beginsR r2 ⟨#[44, 32]⟩ (by omega) (by decide) _).mono ?_
          rintro e w6 ⟨rfl, rfl⟩
          cases hp44 : preB r2 ⟨#[44, 32]⟩ with
          | false =>
            have HN := Lib.hid (show ∀ (ys : List V) (q : List UInt8), V.shL ys d = true → s.data.toList = V.txtL ys ++ 41 :: q → False by
              intro ys q hsh h
              obtain ⟨pre, z, zs, -, -, h3⟩ := HL.out ys q hsh h
              unfold preB at hp44
              rw [decide_eq_false_iff_not] at hp44
              exact hp44 ⟨_, h3.symm⟩)
            obtain ⟨b0, b1, b2, b3, -⟩ := cell4 HST.out.box
            obtain ⟨c0, c1, c2, c3, f0, f1, f2, f3⟩ := cell4 HR4.out
            clear hp44 hVL
            go_wp2_with fail
            obtain ⟨d0, d1, d2, d3, -⟩ := cell4 (put4_block (v0 := .int .i64 2) (v1 := .int .i64 0) (v2 := .string ⟨#[]⟩) (v3 := .slice (some ⟨gg, 0, none⟩) (vs.length + 1) gcap) HR4.out)
            exact bodyPost_ret (v := .tuple #[.agg #[.int .i64 2, .int .i64 0, .string ⟨#[]⟩, .slice (some ⟨gg, 0, none⟩) (vs.length + 1) gcap], .string r, .bool false]) (by simp [results, Tryz.results122, go_sem, d0, d1, d2, d3]) rfl
              ⟨_, _, _, _, _, _, _, _, rfl, put4_kp HK4.out (Nat.le_refl _), vs ++ [V.mk k n t a c vl], by simp, (fun h => by cases h), fun ys q hsh h => (HN.out ys q hsh h).elim⟩
          | true =>
            have hr2 : 2 ≤ r2.size := by
              unfold preB at hp44
              rw [decide_eq_true_iff] at hp44
              have := hp44.length_le
              rw [size_list]; exact this
            have HLP := Lib.hid (show LeftP d s.data.toList (r2.extract 2 r2.size) (vs ++ [V.mk k n t a c vl]) by
              intro ys q hsh h
              obtain ⟨pre, z, zs, h1, h2, h3⟩ := HL.out ys q hsh h
              exact ⟨pre, z, zs, h1, h2, by rw [tail_list, h3]; rfl⟩)
            have e7 : (r2.extract 2 r2.size).size + 2 = r2.size := by simp; omega
            have HE7 := Lib.hid e7
            have g2 : (2 : Int) ≤ (r2.size : Int) := by omega
            clear hp44 e7 hVL
            go_wp2_with fail
            go_roundw
            case rel => exact ⟨_, _, _, rfl, by have := HE7.out; omega, by have := HE7.out; simp only [List.length_append, List.length_cons, List.length_nil]; omega, HLP, HST.out, HK4.out, HR4.out⟩
            case measure => simp only [strSize]; have := HE7.out; omega

end Go.Proofs.YtkfmgafgokpjhaaGreatDoor

/-
  THE WALKS OF SameType AND SameTypes, by recursion.
-/
namespace Go.Proofs.YtkfmgafgokpjhaaGreatDoor
open Go.RowKit

mutual
/-- Are two types the same? -/
def T.same : T → T → Bool
  | .mk k _ _ l, .mk k' _ _ l' => decide (k = k') && T.sameL l l'
def T.sameL : List T → List T → Bool
  | [], [] => true
  | x :: xs, y :: ys => x.same y && T.sameL xs ys
  | _, _ => false
end

theorem T.sameL_len : ∀ {l m : List T}, T.sameL l m = true → l.length = m.length
  | [], [], _ => rfl
  | x :: xs, y :: ys, h => by simp [T.sameL] at h; simp [T.sameL_len h.2]
  | [], _ :: _, h => by simp [T.sameL] at h
  | _ :: _, [], h => by simp [T.sameL] at h

/-- Two lists are the same up to a place. -/
def SameUptoT (l m : List T) (j : Nat) : Prop := ∀ i x y, i < j → l[i]? = some x → m[i]? = some y → x.same y = true
theorem SameUptoT.succ {l m : List T} {j : Nat} {x y : T} (h : SameUptoT l m j) (hx : l[j]? = some x) (hy : m[j]? = some y) (h0 : x.same y = true) : SameUptoT l m (j + 1) := by
  intro i a b hi ha hb
  rcases Nat.lt_succ_iff_lt_or_eq.1 hi with h1 | rfl
  · exact h i a b h1 ha hb
  · rw [hx] at ha; rw [hy] at hb; cases ha; cases hb; exact h0
theorem SameUptoT.all : ∀ {l m : List T}, l.length = m.length → SameUptoT l m l.length → T.sameL l m = true
  | [], [], _, _ => rfl
  | x :: xs, y :: ys, hl, h => by
    simp only [T.sameL, h 0 x y (by simp) (by simp) (by simp), Bool.true_and]
    exact SameUptoT.all (by simpa using hl) fun i a b hi ha hb => h (i + 1) a b (by simpa using hi) (by simpa using ha) (by simpa using hb)
  | [], _ :: _, hl, _ => by simp at hl
  | _ :: _, [], hl, _ => by simp at hl
theorem T.sameL_not : ∀ {l m : List T} {j : Nat} {x y : T}, l[j]? = some x → m[j]? = some y → x.same y = false → T.sameL l m = false
  | [], _, _, _, _, h, _, _ => by simp at h
  | _, [], _, _, _, _, h, _ => by simp at h
  | x :: xs, y :: ys, 0, a, b, h, h', h0 => by simp at h h'; subst h; subst h'; simp [T.sameL, h0]
  | x :: xs, y :: ys, j + 1, a, b, h, h', h0 => by
    simp only [T.sameL]
    rw [T.sameL_not (l := xs) (m := ys) (j := j) (by simpa using h) (by simpa using h') h0]; simp

set_option maxRecDepth 100000 in
set_option maxHeartbeats 4000000 in
theorem samesT (N : Nat) (ih : ∀ (x y : T) (w : World), x.rank ≤ N → x.In w w.heap.size → y.In w w.heap.size → Calls Tryz.prog 35 #[x.val, y.val] w fun e w' => e = .returned (.bool (x.same y)) ∧ Kp w w')
    (k : Int) (a : Option Addr) (cap : Nat) (l : List T) (k' : Int) (a' : Option Addr) (cap' : Nat) (m : List T) (w : World) (hr : (T.mk k a cap l).rank ≤ N + 1)
    (hin : (T.mk k a cap l).In w w.heap.size) (hin' : (T.mk k' a' cap' m).In w w.heap.size) :
    Calls Tryz.prog 79 #[.slice a l.length cap, .slice a' m.length cap'] w fun e w' => e = .returned (.bool (T.sameL l m)) ∧ Kp w w' := by
  have hl := T.lenLe hin
  have hm := T.lenLe hin'
  have IH := Lib.hid ih
  have HIN := Lib.hid hin
  have HIN' := Lib.hid hin'
  have HR := Lib.hid hr
  clear ih hin hin' hr
  by_cases hlen : l.length = m.length
  · have g1 : (((l.length : Nat) : Int) != ((m.length : Nat) : Int)) = false := by simp [hlen]
    have HLEN := Lib.hid hlen
    clear hlen
    go_enter Tryz.func79, Tryz.ntmps79
    go_wp2_with fail
    go_loopw [5] (fun i wr => ∃ j : Nat, j ≤ l.length ∧ i = .int .i64 j ∧ SameUptoT l m j ∧ Kp w wr) (fun i _ => l.length - (intOf i).toNat)
    case atStart => exact ⟨0, Nat.zero_le _, rfl, fun i _ _ h => absurd h (by omega), Below.refl _ _⟩
    case round =>
      obtain ⟨j, hj, rfl, heq, hk⟩ := hrel
      by_cases hlt : j < l.length
      · obtain ⟨x, hx⟩ : ∃ x, l[j]? = some x := ⟨l[j], by simp [hlt]⟩
        have hlt' : j < m.length := by rw [← HLEN.out]; exact hlt
        obtain ⟨y, hy⟩ : ∃ y, m[j]? = some y := ⟨m[j], by simp [hlt']⟩
        obtain ⟨b0, off, rfl, hb0, q0, q1, hxin⟩ := T.atPart HIN.out hx
        have r0 := kc hk q0
        have r1 := kc hk q1
        have HX := Lib.hid hx
        have HXI := Lib.hid hxin
        clear q0 q1 hx hxin
        obtain ⟨b1, off', rfl, hb1, q0, q1, hyin⟩ := T.atPart HIN'.out hy
        have t0 := kc hk q0
        have t1 := kc hk q1
        have HY := Lib.hid hy
        have HYI := Lib.hid hyin
        have HK := Lib.hid hk
        have hz := hk.size
        have C := fun w1 (h : Kp w w1) => IH.out x y w1 (by have := T.rank_part (v := .mk k (some ⟨b0, off, none⟩) cap l) HX.out; have := HR.out; omega) (HXI.out.keep h.size h) (HYI.out.keep h.size h)
        generalize hc : x.same y = c at C
        have CC := Lib.hid C
        have HC := Lib.hid hc
        clear q0 q1 hy hyin hk C hc
        have gi0 : (0 : Int) ≤ (j : Int) := by omega
        have gi1 : (j : Int) < (l.length : Int) := by omega
        have gi2 : (j : Int) < (m.length : Int) := by omega
        go_wp2_with fail
        go_region_held3 (fun w' => w'.cell? ⟨b0, off + j * 2, none⟩ = some (.int .i64 x.k) ∧ w'.cell? ⟨b0, off + j * 2 + 1, none⟩ = some (.slice x.a x.l.length x.cap) ∧
          w'.cell? ⟨b1, off' + j * 2, none⟩ = some (.int .i64 y.k) ∧ w'.cell? ⟨b1, off' + j * 2 + 1, none⟩ = some (.slice y.a y.l.length y.cap) ∧ Kp wr w')
          (first
            | (refine ⟨?_, ?_, ?_, ?_, ?_⟩ <;> first | exact (Below.refl _ _).drew | (go_keep; done))
            | (go_split_ands; exact ⟨‹_›, ‹_›, ‹_›, ‹_›, ‹_›⟩)
            | (go_split_ands; exact ⟨kc hk1 ‹_›, kc hk1 ‹_›, kc hk1 ‹_›, kc hk1 ‹_›, kk ‹_› hk1⟩))
          (first
            | (go_split_ands; go_at_call 35; refine (CC.out _ (kk HK.out ‹_›)).mono ?_; rintro e w1 ⟨rfl, hk1⟩))
        go_split_ands
        have HK1 := Lib.hid (kk HK.out ‹Kp wr _›)
        cases c
        · have hr : T.sameL l m = false := T.sameL_not HX.out HY.out HC.out
          have HRR := Lib.hid hr
          clear hr
          go_wp2_with fail
          go_ret
          exact ⟨by rw [HRR.out] <;> rfl, HK1.out⟩
        · go_wp2_with fail
          go_roundw
          case rel => exact ⟨j + 1, by omega, by go_num, heq.succ HX.out HY.out HC.out, HK1.out⟩
          case measure => simp [intOf]; omega
      · have hjl : j = l.length := by omega
        subst hjl
        have hr : T.sameL l m = true := SameUptoT.all HLEN.out heq
        have HRR := Lib.hid hr
        have HK := Lib.hid hk
        clear hr hk
        go_wp2_with fail
        go_ret
        exact ⟨by rw [HRR.out] <;> rfl, HK.out⟩
  · have hr : T.sameL l m = false := by
      cases h : T.sameL l m with
      | false => rfl
      | true => exact absurd (T.sameL_len h) hlen
    have HRR := Lib.hid hr
    have g1 : (((l.length : Nat) : Int) != ((m.length : Nat) : Int)) = true := by simp; omega
    clear hr hlen
    go_enter Tryz.func79, Tryz.ntmps79
    go_wp2_with fail
    go_ret
    exact ⟨by rw [HRR.out] <;> rfl, Below.refl _ _⟩

set_option maxHeartbeats 2000000 in
theorem sameT : ∀ (N : Nat) (x y : T) (w : World), x.rank ≤ N → x.In w w.heap.size → y.In w w.heap.size →
    Calls Tryz.prog 35 #[x.val, y.val] w fun e w' => e = .returned (.bool (x.same y)) ∧ Kp w w' := by
  intro N
  induction N with
  | zero => intro x y w h; have := x.rank_pos; omega
  | succ N ih =>
    intro x y w hN hx hy
    cases x with
    | mk k a cap l =>
    cases y with
    | mk k' a' cap' l' =>
    rw [T.val_mk, T.val_mk]
    have C := fun w1 (h : Kp w w1) => samesT N ih k a cap l k' a' cap' l' w1 hN (hx.keep h.size h) (hy.keep h.size h)
    have hr : (T.mk k a cap l).same (T.mk k' a' cap' l') = (decide (k = k') && T.sameL l l') := by simp only [T.same]
    rw [hr]
    generalize T.sameL l l' = q at C ⊢
    have CC := Lib.hid C
    clear C ih hx hy hN hr
    by_cases h1 : k = k'
    · have hr : (decide (k = k') && q) = q := by simp [h1]
      rw [hr]
      subst h1
      clear hr
      go_enter Tryz.func35, Tryz.ntmps35
      go_wp2_with fail
      refine (CC.out _ (kk (ka _ _) (ka _ _))).mono ?_
      rintro e w1 ⟨rfl, hk⟩
      have HK := Lib.hid (kk (kk (ka _ _) (ka _ _)) hk)
      clear hk
      go_wp2_with fail
      go_ret
      exact ⟨rfl, HK.out⟩
    · have hr : (decide (k = k') && q) = false := by simp [h1]
      rw [hr]
      have g1 : (k == k') = false := by simpa using h1
      clear hr CC h1
      go_enter Tryz.func35, Tryz.ntmps35
      go_wp2_with fail
      go_ret
      exact ⟨rfl, kk (ka _ _) (ka _ _)⟩

mutual
theorem T.same_refl : ∀ (v : T), v.same v = true
  | .mk k a cap l => by simp [T.same, T.sameL_refl l]
theorem T.sameL_refl : ∀ (l : List T), T.sameL l l = true
  | [] => by simp [T.sameL]
  | x :: xs => by simp [T.sameL, T.same_refl x, T.sameL_refl xs]
end
mutual
theorem T.same_symm : ∀ (v w : T), v.same w = true → w.same v = true
  | .mk k a cap l, .mk k' a' cap' l', h => by
    simp [T.same] at h ⊢
    exact ⟨h.1.symm, T.sameL_symm l l' h.2⟩
theorem T.sameL_symm : ∀ (l m : List T), T.sameL l m = true → T.sameL m l = true
  | [], [], _ => by simp [T.sameL]
  | [], _ :: _, h => by simp [T.sameL] at h
  | _ :: _, [], h => by simp [T.sameL] at h
  | x :: xs, y :: ys, h => by
    simp [T.sameL] at h ⊢
    exact ⟨T.same_symm x y h.1, T.sameL_symm xs ys h.2⟩
end
mutual
theorem T.same_trans : ∀ (u v w : T), u.same v = true → v.same w = true → u.same w = true
  | .mk k a cap l, .mk k' a' cap' l', .mk k2 a2 cap2 l2, h, h' => by
    simp [T.same] at h h' ⊢
    exact ⟨h.1.trans h'.1, T.sameL_trans l l' l2 h.2 h'.2⟩
theorem T.sameL_trans : ∀ (k l m : List T), T.sameL k l = true → T.sameL l m = true → T.sameL k m = true
  | [], [], m, _, h => h
  | [], _ :: _, _, h, _ => by simp [T.sameL] at h
  | _ :: _, [], _, h, _ => by simp [T.sameL] at h
  | _ :: _, _ :: _, [], _, h => by simp [T.sameL] at h
  | x :: xs, y :: ys, z :: zs, h, h' => by
    simp [T.sameL] at h h' ⊢
    exact ⟨T.same_trans x y z h.1 h'.1, T.sameL_trans xs ys zs h.2 h'.2⟩
end
theorem T.sameL_snoc : ∀ {l m : List T} {x y : T}, T.sameL l m = true → x.same y = true → T.sameL (l ++ [x]) (m ++ [y]) = true
  | [], [], _, _, _, hx => by simp [T.sameL, hx]
  | [], _ :: _, _, _, h, _ => by simp [T.sameL] at h
  | _ :: _, [], _, _, h, _ => by simp [T.sameL] at h
  | a :: l, b :: m, _, _, h, hx => by
    simp [T.sameL] at h ⊢
    exact ⟨h.1, T.sameL_snoc h.2 hx⟩
theorem T.same_node {k : Int} {a a' : Option Addr} {cap cap' : Nat} {l m : List T} (h : T.sameL l m = true) : (T.mk k a cap l).same (.mk k a' cap' m) = true := by
  simp only [T.same, h]; simp

end Go.Proofs.YtkfmgafgokpjhaaGreatDoor

/-
  PLAIN MATHEMATICS: WHAT THE READER READS OF ANY BYTES AS A TYPE; the text of a type is read back.
-/
namespace Go.Proofs.YtkfmgafgokpjhaaGreatDoor
open Go.RowKit

mutual
/-- What the reader makes of the bytes that come next: a type and what is behind it, or nothing. -/
inductive PT : List UInt8 → Option (T × List UInt8) → Prop
  | tuple {r : List UInt8} {o : Option (List T × List UInt8)} : PTL [44, 32] 41 0 r o → PT (40 :: r) (o.map fun x => (.mk 2 none 0 x.1, x.2))
  | sum {r : List UInt8} {o : Option (List T × List UInt8)} : PTL [32, 43, 32] 93 0 r o → PT (91 :: r) (o.map fun x => (.mk 3 none 0 x.1, x.2))
  | text {r : List UInt8} : PT ([116, 101, 120, 116] ++ r) (some (.mk 1 none 0 [], r))
  | int {r : List UInt8} : PT ([105, 110, 116] ++ r) (some (.mk 0 none 0 [], r))
  | bad {l : List UInt8} : l.head? ≠ some 40 → l.head? ≠ some 91 → ¬ [116, 101, 120, 116] <+: l → ¬ [105, 110, 116] <+: l → PT l none
/-- The parts from the j-th on, bt between each two, up to en. -/
inductive PTL : List UInt8 → UInt8 → Nat → List UInt8 → Option (List T × List UInt8) → Prop
  | done {bt : List UInt8} {en : UInt8} {j : Nat} {r : List UInt8} : PTL bt en j (en :: r) (some ([], r))
  | wide {bt : List UInt8} {en : UInt8} {j : Nat} {l : List UInt8} : l.head? ≠ some en → j = 8 → PTL bt en j l none
  | first0 {bt : List UInt8} {en : UInt8} {l : List UInt8} : l.head? ≠ some en → PT l none → PTL bt en 0 l none
  | first1 {bt : List UInt8} {en : UInt8} {l r : List UInt8} {x : T} {o : Option (List T × List UInt8)} : l.head? ≠ some en → PT l (some (x, r)) → PTL bt en 1 r o → PTL bt en 0 l (o.map fun y => (x :: y.1, y.2))
  | next0 {bt : List UInt8} {en : UInt8} {j : Nat} {l : List UInt8} : l.head? ≠ some en → 0 < j → j < 8 → ¬ bt <+: l → PTL bt en j l none
  | next1 {bt : List UInt8} {en : UInt8} {j : Nat} {l r : List UInt8} : l.head? ≠ some en → 0 < j → j < 8 → l = bt ++ r → PT r none → PTL bt en j l none
  | next2 {bt : List UInt8} {en : UInt8} {j : Nat} {l r r1 : List UInt8} {x : T} {o : Option (List T × List UInt8)} : l.head? ≠ some en → 0 < j → j < 8 → l = bt ++ r → PT r (some (x, r1)) → PTL bt en (j + 1) r1 o → PTL bt en j l (o.map fun y => (x :: y.1, y.2))
end

theorem ptl_inv {bt : List UInt8} {en : UInt8} {j : Nat} {l : List UInt8} {o : Option (List T × List UInt8)} (h : PTL bt en j l o) :
    (∃ r, l = en :: r ∧ o = some ([], r)) ∨ (l.head? ≠ some en ∧ j = 8 ∧ o = none) ∨
    (l.head? ≠ some en ∧ j = 0 ∧ ((PT l none ∧ o = none) ∨ ∃ x r o', PT l (some (x, r)) ∧ PTL bt en 1 r o' ∧ o = o'.map fun y => (x :: y.1, y.2))) ∨
    (l.head? ≠ some en ∧ 0 < j ∧ j < 8 ∧ ¬ bt <+: l ∧ o = none) ∨
    (∃ r, l.head? ≠ some en ∧ l = bt ++ r ∧ 0 < j ∧ j < 8 ∧ ((PT r none ∧ o = none) ∨ ∃ x r1 o', PT r (some (x, r1)) ∧ PTL bt en (j + 1) r1 o' ∧ o = o'.map fun y => (x :: y.1, y.2))) := by
  cases h with
  | done => exact .inl ⟨_, rfl, rfl⟩
  | wide h1 h2 => exact .inr (.inl ⟨h1, h2, rfl⟩)
  | first0 h1 h2 => exact .inr (.inr (.inl ⟨h1, rfl, .inl ⟨h2, rfl⟩⟩))
  | first1 h1 h2 h3 => exact .inr (.inr (.inl ⟨h1, rfl, .inr ⟨_, _, _, h2, h3, rfl⟩⟩))
  | next0 h1 h2 h3 h4 => exact .inr (.inr (.inr (.inl ⟨h1, h2, h3, h4, rfl⟩)))
  | next1 h1 h2 h3 h4 h5 => exact .inr (.inr (.inr (.inr ⟨_, h1, h4, h2, h3, .inl ⟨h5, rfl⟩⟩)))
  | next2 h1 h2 h3 h4 h5 h6 => exact .inr (.inr (.inr (.inr ⟨_, h1, h4, h2, h3, .inr ⟨_, _, _, h5, h6, rfl⟩⟩)))

theorem pt_inv {l : List UInt8} {o : Option (T × List UInt8)} (h : PT l o) :
    (∃ r o', l = 40 :: r ∧ PTL [44, 32] 41 0 r o' ∧ o = o'.map fun x => (.mk 2 none 0 x.1, x.2)) ∨
    (∃ r o', l = 91 :: r ∧ PTL [32, 43, 32] 93 0 r o' ∧ o = o'.map fun x => (.mk 3 none 0 x.1, x.2)) ∨
    (∃ r, l = [116, 101, 120, 116] ++ r ∧ o = some (.mk 1 none 0 [], r)) ∨
    (∃ r, l = [105, 110, 116] ++ r ∧ o = some (.mk 0 none 0 [], r)) ∨
    (l.head? ≠ some 40 ∧ l.head? ≠ some 91 ∧ ¬ [116, 101, 120, 116] <+: l ∧ ¬ [105, 110, 116] <+: l ∧ o = none) := by
  cases h with
  | tuple h => exact .inl ⟨_, _, rfl, h, rfl⟩
  | sum h => exact .inr (.inl ⟨_, _, rfl, h, rfl⟩)
  | text => exact .inr (.inr (.inl ⟨_, rfl, rfl⟩))
  | int => exact .inr (.inr (.inr (.inl ⟨_, rfl, rfl⟩)))
  | bad h1 h2 h3 h4 => exact .inr (.inr (.inr (.inr ⟨h1, h2, h3, h4, rfl⟩)))

/-- The texts of parts, each with bt ahead. -/
def tailT (bt : List UInt8) : List T → List UInt8
  | [] => []
  | x :: xs => bt ++ (x.txt ++ tailT bt xs)

theorem txtLT_tail (bt : List UInt8) : ∀ (x : T) (xs : List T), T.txtL bt (x :: xs) = x.txt ++ tailT bt xs
  | x, [] => by simp [T.txtL, tailT]
  | x, y :: ys => by
    have := txtLT_tail bt y ys
    rw [T.txtL, this, tailT]
    simp

/-- Its text is read as a type that is the same. -/
def TxtT (y : T) : Prop := ∀ (r : List UInt8), ∀ o, PT (y.txt ++ r) o → ∃ y', o = some (y', r) ∧ y'.same y = true

theorem ptl_tail (bt : List UInt8) (en c : UInt8) (t : List UInt8) (hb : bt = c :: t) (hc : c ≠ en) : ∀ (ys : List T) (j : Nat), 0 < j → j + ys.length ≤ 8 → (∀ y ∈ ys, TxtT y) → ∀ (r : List UInt8) o, PTL bt en j (tailT bt ys ++ en :: r) o → ∃ ys', o = some (ys', r) ∧ T.sameL ys' ys = true
  | [], j, hj, _, _, r, o, h => by
    rcases ptl_inv h with ⟨r', h1, rfl⟩ | ⟨h1, -⟩ | ⟨h1, -⟩ | ⟨h1, -⟩ | ⟨r', h1, -⟩
    · simp only [tailT, List.nil_append, List.cons.injEq, true_and] at h1
      exact ⟨[], by rw [h1], by simp [T.sameL]⟩
    · exact absurd rfl h1
    · exact absurd rfl h1
    · exact absurd rfl h1
    · exact absurd rfl h1
  | y :: ys, j, hj, hl, hy, r, o, h => by
    have hl' : j + (ys.length + 1) ≤ 8 := hl
    have e : tailT bt (y :: ys) ++ en :: r = bt ++ (y.txt ++ (tailT bt ys ++ en :: r)) := by simp [tailT]
    rw [e] at h
    rcases ptl_inv h with ⟨r', h1, rfl⟩ | ⟨h1, h2, -⟩ | ⟨h1, h2, -⟩ | ⟨h1, h2, h3, h4, -⟩ | ⟨r', -, h1, -, -, h2⟩
    · rw [hb] at h1
      simp only [List.cons_append, List.cons.injEq] at h1
      exact absurd h1.1 hc
    · omega
    · omega
    · exact absurd ⟨_, rfl⟩ h4
    · have h1 := (List.append_cancel_left h1).symm
      subst h1
      rcases h2 with ⟨h2, -⟩ | ⟨x, r1, o', h2, h3, rfl⟩
      · obtain ⟨y', h, -⟩ := hy y (by simp) _ _ h2
        cases h
      · obtain ⟨y', h, hs⟩ := hy y (by simp) _ _ h2
        injection h with h
        injection h with h4 h5
        subst h4 h5
        obtain ⟨ys', rfl, hs'⟩ := ptl_tail bt en c t hb hc ys (j + 1) (by omega) (by omega) (fun z hz => hy z (by simp [hz])) r o' h3
        exact ⟨x :: ys', rfl, by simp [T.sameL, hs, hs']⟩

theorem ptl_first (bt : List UInt8) (en c : UInt8) (t : List UInt8) (hb : bt = c :: t) (hc : c ≠ en) (ys : List T) (hl : ys.length ≤ 8) (hh : ∀ y ∈ ys, ∃ c t, y.txt = c :: t ∧ c ≠ en) (hy : ∀ y ∈ ys, TxtT y) (r : List UInt8) (o : Option (List T × List UInt8)) (h : PTL bt en 0 (T.txtL bt ys ++ en :: r) o) :
    ∃ ys', o = some (ys', r) ∧ T.sameL ys' ys = true := by
  cases ys with
  | nil =>
    rcases ptl_inv h with ⟨r', h1, rfl⟩ | ⟨h1, -⟩ | ⟨h1, -⟩ | ⟨h1, -⟩ | ⟨r', h1, -⟩
    · simp only [T.txtL, List.nil_append, List.cons.injEq, true_and] at h1
      exact ⟨[], by rw [h1], by simp [T.sameL]⟩
    · exact absurd rfl h1
    · exact absurd rfl h1
    · exact absurd rfl h1
    · exact absurd rfl h1
  | cons y ys =>
    have hl' : ys.length + 1 ≤ 8 := hl
    obtain ⟨c', t', hc', hce⟩ := hh y (by simp)
    rw [txtLT_tail, List.append_assoc] at h
    rcases ptl_inv h with ⟨r', h1, rfl⟩ | ⟨h1, h2, -⟩ | ⟨h1, h2, h3⟩ | ⟨h1, h2, h3, h4, -⟩ | ⟨r', h1, h1', h2, -⟩
    · rw [hc'] at h1
      simp only [List.cons_append, List.cons.injEq] at h1
      exact absurd h1.1 hce
    · omega
    · rcases h3 with ⟨h2, -⟩ | ⟨x, r1, o', h2, h3, rfl⟩
      · obtain ⟨y', h, -⟩ := hy y (by simp) _ _ h2
        cases h
      · obtain ⟨y', h, hs⟩ := hy y (by simp) _ _ h2
        injection h with h
        injection h with h4 h5
        subst h4 h5
        obtain ⟨ys', rfl, hs'⟩ := ptl_tail bt en c t hb hc ys 1 (by omega) (by omega) (fun z hz => hy z (by simp [hz])) r o' h3
        exact ⟨x :: ys', rfl, by simp [T.sameL, hs, hs']⟩
    · omega
    · omega

theorem kindsT_of {k : Int} {n : Nat} (h : fitsT k n = true) : k = 0 ∨ k = 1 ∨ k = 2 ∨ k = 3 := by
  by_cases k0 : k = 0
  · exact .inl k0
  by_cases k1 : k = 1
  · exact .inr (.inl k1)
  by_cases k2 : k = 2
  · exact .inr (.inr (.inl k2))
  by_cases k3 : k = 3
  · exact .inr (.inr (.inr k3))
  · simp [fitsT, k0, k1, k2, k3] at h

theorem txtT_head (y : T) (d : Nat) (h : y.sh d = true) : ∃ c t, y.txt = c :: t ∧ c ≠ 41 ∧ c ≠ 93 := by
  cases y with
  | mk k a cap l =>
  cases d with
  | zero => simp [T.sh] at h
  | succ d =>
  simp [T.sh] at h
  rcases kindsT_of h.1 with rfl | rfl | rfl | rfl
  · exact ⟨105, _, by simp [T.txt]; rfl, by decide, by decide⟩
  · exact ⟨116, _, by simp [T.txt]; rfl, by decide, by decide⟩
  · exact ⟨40, _, by simp [T.txt]; rfl, by decide, by decide⟩
  · exact ⟨91, _, by simp [T.txt]; rfl, by decide, by decide⟩

/-- The text of each type is read as a type that is the same. -/
theorem txtT_all : ∀ (N : Nat) (y : T) (d : Nat), y.rank ≤ N → y.sh d = true → TxtT y := by
  intro N
  induction N with
  | zero => intro y d h; have := y.rank_pos; omega
  | succ N IH =>
    intro y d hN hsh r o h
    cases y with
    | mk k a cap l =>
    cases d with
    | zero => simp [T.sh] at hsh
    | succ d =>
    simp [T.sh] at hsh
    obtain ⟨hf, hl⟩ := hsh
    have part : ∀ x ∈ l, TxtT x := fun x hx => by
      obtain ⟨j, hj⟩ := List.getElem?_of_mem hx
      have := T.rank_part (v := .mk k a cap l) (j := j) (x := x) hj
      exact IH x d (by omega) (shLT_at hl hj)
    have head : ∀ x ∈ l, ∃ c t, x.txt = c :: t ∧ c ≠ 41 ∧ c ≠ 93 := fun x hx => by
      obtain ⟨j, hj⟩ := List.getElem?_of_mem hx
      exact txtT_head x d (shLT_at hl hj)
    rcases kindsT_of hf with rfl | rfl | rfl | rfl
    · have : l = [] := by simpa [fitsT] using hf
      subst this
      have e : (T.mk 0 a cap []).txt = [105, 110, 116] := by simp [T.txt]
      rw [e] at h
      rcases pt_inv h with ⟨r', o', h1, -⟩ | ⟨r', o', h1, -⟩ | ⟨r', h1, -⟩ | ⟨r', h1, rfl⟩ | ⟨-, -, -, h1, -⟩
      · simp at h1
      · simp at h1
      · simp at h1
      · have h1 := List.append_cancel_left h1
        subst h1
        exact ⟨_, rfl, by simp [T.same, T.sameL]⟩
      · exact absurd ⟨_, rfl⟩ h1
    · have : l = [] := by simpa [fitsT] using hf
      subst this
      have e : (T.mk 1 a cap []).txt = [116, 101, 120, 116] := by simp [T.txt]
      rw [e] at h
      rcases pt_inv h with ⟨r', o', h1, -⟩ | ⟨r', o', h1, -⟩ | ⟨r', h1, rfl⟩ | ⟨r', h1, -⟩ | ⟨-, -, h1, -⟩
      · simp at h1
      · simp at h1
      · have h1 := List.append_cancel_left h1
        subst h1
        exact ⟨_, rfl, by simp [T.same, T.sameL]⟩
      · simp at h1
      · exact absurd ⟨_, rfl⟩ h1
    · have h8 : l.length ≤ 8 := by simpa [fitsT] using hf
      have e : (T.mk 2 a cap l).txt ++ r = 40 :: (T.txtL [44, 32] l ++ 41 :: r) := by simp [T.txt]
      rw [e] at h
      rcases pt_inv h with ⟨r', o', h1, h2, rfl⟩ | ⟨r', o', h1, -⟩ | ⟨r', h1, -⟩ | ⟨r', h1, -⟩ | ⟨h1, -⟩
      · simp only [List.cons.injEq, true_and] at h1
        subst h1
        obtain ⟨ys', rfl, hs'⟩ := ptl_first [44, 32] 41 44 [32] rfl (by decide) l h8 (fun x hx => by
          obtain ⟨c, t, h1, h2, -⟩ := head x hx
          exact ⟨c, t, h1, h2⟩) part r o' h2
        exact ⟨_, rfl, T.same_node hs'⟩
      · simp at h1
      · simp at h1
      · simp at h1
      · exact absurd rfl h1
    · have h8 : l.length ≤ 8 := by
        have : 0 < l.length ∧ l.length ≤ 8 := by simpa [fitsT] using hf
        exact this.2
      have e : (T.mk 3 a cap l).txt ++ r = 91 :: (T.txtL [32, 43, 32] l ++ 93 :: r) := by simp [T.txt]
      rw [e] at h
      rcases pt_inv h with ⟨r', o', h1, -⟩ | ⟨r', o', h1, h2, rfl⟩ | ⟨r', h1, -⟩ | ⟨r', h1, -⟩ | ⟨-, h1, -⟩
      · simp at h1
      · simp only [List.cons.injEq, true_and] at h1
        subst h1
        obtain ⟨ys', rfl, hs'⟩ := ptl_first [32, 43, 32] 93 32 [43, 32] rfl (by decide) l h8 (fun x hx => by
          obtain ⟨c, t, h1, -, h2⟩ := head x hx
          exact ⟨c, t, h1, h2⟩) part r o' h2
        exact ⟨_, rfl, T.same_node hs'⟩
      · simp at h1
      · simp at h1
      · exact absurd rfl h1

end Go.Proofs.YtkfmgafgokpjhaaGreatDoor
