/-
  Proved: the statement ValueTexts (value.Text of any value, value.TypeText of any type, value.Parse and value.TypeParse of any text answer as the specification's do, and the chapter's examples hold), as its tied card says it, with no condition beyond the card's own.
  Part 5 of 5.
-/
import Derived.Test.YtkfmgafgokpjhaaGreatDoorLt04
import Derived.Test.YtkfmgafgokpjhaaGreatDoorBc08
import Derived.Test.YtkfmgafgokpjhaaGreatDoorLt01
import Derived.Test.YtkfmgafgokpjhaaGreatDoorBc12
import Derived.Test.YtkfmgafgokpjhaaGreatDoorLt03
import Derived.Test.YtkfmgafgokpjhaaGreatDoorBc07
import Derived.Test.YtkfmgafgokpjhaaGreatDoorBc09
import Derived.Lib.LaidIn
import Derived.Deep.DeepWitnessRowRef
/-
  Text, TypeText, Parse, TypeParse, THE PROGRAM's AND THE SPECIFICATION's: THE SAME; ValueTexts: the statement's function.
-/
namespace Go.Proofs.YtkfmgafgokpjhaaGreatDoor
open Go.RowKit

set_option maxRecDepth 100000 in
set_option maxHeartbeats 2000000 in
theorem readV_long (w : World) (s : ByteArray) (h : 13000 < s.size) (hs : s.size ≤ 9223372036854775807) :
    Calls Tryz.prog 73 #[.string s, .int .i64 13000, .func (.func 74) #[] #[], .func (.func 19) #[] #[]] w fun e w' => e = .returned (.tuple #[.agg zero4, .int .i64 3]) ∧ Kp w w' := by
  have g : (13000 : Int) < (s.size : Int) := by omega
  go_enter_defers Tryz.func73, Tryz.ntmps73
  go_wp2_with fail
  exact ⟨.tuple #[.agg zero4, .int .i64 3], by simp [results, Tryz.results73, go_sem], rfl, kk (ka _ _) (ka _ _)⟩

set_option maxHeartbeats 2000000 in
theorem parse_long (w : World) (s : ByteArray) (h : 13000 < s.size) (hs : s.size ≤ 9223372036854775807) :
    Calls Tryz.prog 31 #[.string s] w fun e w' => e = .returned (.tuple #[.agg zero4, .int .i64 3]) ∧ Kp w w' := by
  have C := fun (w1 : World) => readV_long w1 s h hs
  have HC := Lib.hid C
  clear C h
  go_enter Tryz.func31, Tryz.ntmps31
  go_wp2_with fail
  refine (HC.out _).mono ?_
  rintro e w1 ⟨rfl, hk⟩
  have hblk := boxK hk
  have HK := Lib.hid (kk (ka _ _) hk)
  obtain ⟨c0, c1, c2, c3, f0, f1, f2, f3⟩ := cell4 hblk
  have HBL := Lib.hid hblk
  clear hk hblk
  go_wp2_with fail
  obtain ⟨d0, d1, d2, d3, -⟩ := cell4 (put4_block (v0 := .int .i64 0) (v1 := .int .i64 0) (v2 := .string ⟨#[]⟩) (v3 := .slice none 0 0) HBL.out)
  exact bodyPost_ret (v := .tuple #[.agg zero4, .int .i64 3]) (by simp [results, Tryz.results31, go_sem, d0, d1, d2, d3]) rfl
    ⟨rfl, put4_kp HK.out (Nat.le_refl _)⟩

set_option maxRecDepth 100000 in
set_option maxHeartbeats 2000000 in
theorem readT_long (w : World) (s : ByteArray) (h : 1000 < s.size) (hs : s.size ≤ 9223372036854775807) :
    Calls Tryz.prog 76 #[.string s, .int .i64 1000, .func (.func 77) #[] #[], .func (.func 17) #[] #[]] w fun e w' => e = .returned (.tuple #[.agg #[.int .i64 0, .slice none 0 0], .int .i64 3]) ∧ Kp w w' := by
  have g : (1000 : Int) < (s.size : Int) := by omega
  go_enter_defers Tryz.func76, Tryz.ntmps76
  go_wp2_with fail
  exact ⟨.tuple #[.agg #[.int .i64 0, .slice none 0 0], .int .i64 3], by simp [results, Tryz.results76, go_sem], rfl, kk (ka _ _) (ka _ _)⟩

set_option maxHeartbeats 2000000 in
theorem typeParse_long (w : World) (s : ByteArray) (h : 1000 < s.size) (hs : s.size ≤ 9223372036854775807) :
    Calls Tryz.prog 33 #[.string s] w fun e w' => e = .returned (.tuple #[.agg #[.int .i64 0, .slice none 0 0], .int .i64 3]) ∧ Kp w w' := by
  have C := fun (w1 : World) => readT_long w1 s h hs
  have HC := Lib.hid C
  clear C h
  go_enter Tryz.func33, Tryz.ntmps33
  go_wp2_with fail
  refine (HC.out _).mono ?_
  rintro e w1 ⟨rfl, hk⟩
  have hblk := boxK hk
  have HK := Lib.hid (kk (ka _ _) hk)
  obtain ⟨c0, c1, f0, f1⟩ := cell2 hblk
  have HBL := Lib.hid hblk
  clear hk hblk
  go_wp2_with fail
  obtain ⟨d0, d1, -⟩ := cell2 (put2_block (v0 := .int .i64 0) (v1 := .slice none 0 0) HBL.out)
  exact bodyPost_ret (v := .tuple #[.agg #[.int .i64 0, .slice none 0 0], .int .i64 3]) (by simp [results, Tryz.results33, go_sem, d0, d1]) rfl
    ⟨rfl, put2_kp HK.out (Nat.le_refl _)⟩

theorem zeroV_makes {w w' : World} (c : Int) (hk : Kp w w') : Makes2 w (.mk 0 0 ⟨#[]⟩ none 0 []) c (.returned (.tuple #[.agg zero4, .int .i64 c])) w' :=
  ⟨.mk 0 0 ⟨#[]⟩ none 0 [], rfl, inLeaf _ _ _ (by unfold I64; omega) (by unfold I64; omega) (by decide), V.foot_leaf _ _ _ _ _, V.same_refl _, hk⟩

/-- A type in new memory that is the same as y, and a code. -/
def MakesT2 (w : World) (y : T) (c : Int) (e : Ending) (w' : World) : Prop :=
  ∃ x : T, e = .returned (.tuple #[x.val, .int .i64 c]) ∧ x.In w' w'.heap.size ∧ x.foot (fun b => w.heap.size ≤ b) ∧ x.same y = true ∧ Kp w w'

theorem zeroT_makes {w w' : World} (c : Int) (hk : Kp w w') : MakesT2 w (.mk 0 none 0 []) c (.returned (.tuple #[.agg #[.int .i64 0, .slice none 0 0], .int .i64 c])) w' :=
  ⟨.mk 0 none 0 [], rfl, inTLeaf 0 (by unfold I64; omega), T.foot_leaf _ _ _, T.same_refl _, hk⟩

theorem parse_both (s : ByteArray) (hs : s.size ≤ 9223372036854775807) : ∃ (y : V) (c : Int), ∀ w : World, Tb w w.heap.size → Eb w w.heap.size →
    Calls Tryz.prog 31 #[.string s] w (Makes2 w y c) ∧ Calls Tryz.prog 32 #[.string s] w (Makes2 w y c) := by
  by_cases h6 : s.size ≤ 13000
  · by_cases hy : ∃ y : V, y.valid = true ∧ s.data.toList = y.txt
    · obtain ⟨y, hv, hk⟩ := hy
      obtain ⟨hsh, hrk⟩ := valid_sh hv
      refine ⟨y, 0, fun w tb eb => ⟨(parse_any w s h6 tb eb).mono ?_, (parseR w s h6 tb).mono ?_⟩⟩
      · rintro e w' (⟨z, ⟨h1, h2⟩, x, rfl, h3, h4, h5, h7⟩ | ⟨⟨o, ho, hb⟩, -⟩)
        · obtain ⟨y', h8, h9⟩ := txt_all _ y 6 (Nat.le_refl _) hsh [] stop_nil _ (by rw [List.append_nil, ← hk]; exact h1)
          injection h8 with h8
          injection h8 with h8 _
          subst h8
          exact ⟨x, rfl, h3, h4, V.same_trans _ _ _ h5 h9, h7⟩
        · obtain ⟨y', h8, h9⟩ := txt_all _ y 6 (Nat.le_refl _) hsh [] stop_nil _ (by rw [List.append_nil, ← hk]; exact ho)
          have := hb y' h8
          rw [same_valid h9, hv] at this
          cases this
      · rintro e w' (⟨x, -, -, h2, rfl, h3, h4, h7⟩ | ⟨hb, -⟩)
        · exact ⟨x, rfl, h3, h4, h2 y hv hk, h7⟩
        · exact absurd hk (hb y hv)
    · refine ⟨.mk 0 0 ⟨#[]⟩ none 0 [], 8, fun w tb eb => ⟨(parse_any w s h6 tb eb).mono ?_, (parseR w s h6 tb).mono ?_⟩⟩
      · rintro e w' (⟨z, ⟨h1, h2⟩, -⟩ | ⟨-, rfl, hk⟩)
        · exact absurd ⟨z, h2, by have := pv_sound h1 z [] rfl; rwa [List.append_nil] at this⟩ hy
        · exact zeroV_makes 8 hk
      · rintro e w' (⟨x, h1, h2, -⟩ | ⟨-, rfl, hk⟩)
        · exact absurd ⟨x, h1, h2⟩ hy
        · exact zeroV_makes 8 hk
  · refine ⟨.mk 0 0 ⟨#[]⟩ none 0 [], 3, fun w tb eb => ⟨(parse_long w s (by omega) hs).mono ?_, (parseR_long w s (by omega) hs).mono ?_⟩⟩
    · rintro e w' ⟨rfl, hk⟩; exact zeroV_makes 3 hk
    · rintro e w' ⟨rfl, hk⟩; exact zeroV_makes 3 hk

theorem typeParse_both (s : ByteArray) (hs : s.size ≤ 9223372036854775807) : ∃ (y : T) (c : Int), ∀ w : World,
    Calls Tryz.prog 33 #[.string s] w (MakesT2 w y c) ∧ Calls Tryz.prog 34 #[.string s] w (MakesT2 w y c) := by
  by_cases h6 : s.size ≤ 1000
  · by_cases hy : ∃ y : T, y.valid = true ∧ s.data.toList = y.txt
    · obtain ⟨y, hv, hk⟩ := hy
      obtain ⟨hsh, hrk⟩ := validT_sh hv
      refine ⟨y, 0, fun w => ⟨(typeParse_any w s h6).mono ?_, (typeParseR w s h6).mono ?_⟩⟩
      · rintro e w' (⟨z, ⟨h1, h2⟩, x, rfl, h3, h4, h5, h7⟩ | ⟨⟨o, ho, hb⟩, -⟩)
        · obtain ⟨y', h8, h9⟩ := txtT_all _ y 6 (Nat.le_refl _) hsh [] _ (by rw [List.append_nil, ← hk]; exact h1)
          injection h8 with h8
          injection h8 with h8 _
          subst h8
          exact ⟨x, rfl, h3, h4, T.same_trans _ _ _ h5 h9, h7⟩
        · obtain ⟨y', h8, h9⟩ := txtT_all _ y 6 (Nat.le_refl _) hsh [] _ (by rw [List.append_nil, ← hk]; exact ho)
          have := hb y' h8
          rw [T.same_valid h9, hv] at this
          cases this
      · rintro e w' (⟨x, -, -, h2, rfl, h3, h4, h7⟩ | ⟨hb, -⟩)
        · exact ⟨x, rfl, h3, h4, h2 y hv hk, h7⟩
        · exact absurd hk (hb y hv)
    · refine ⟨.mk 0 none 0 [], 8, fun w => ⟨(typeParse_any w s h6).mono ?_, (typeParseR w s h6).mono ?_⟩⟩
      · rintro e w' (⟨z, ⟨h1, h2⟩, -⟩ | ⟨-, rfl, hk⟩)
        · exact absurd ⟨z, h2, by have := pt_sound h1 z [] rfl; rwa [List.append_nil] at this⟩ hy
        · exact zeroT_makes 8 hk
      · rintro e w' (⟨x, h1, h2, -⟩ | ⟨-, rfl, hk⟩)
        · exact absurd ⟨x, h1, h2⟩ hy
        · exact zeroT_makes 8 hk
  · refine ⟨.mk 0 none 0 [], 3, fun w => ⟨(typeParse_long w s (by omega) hs).mono ?_, (typeParseR_long w s (by omega) hs).mono ?_⟩⟩
    · rintro e w' ⟨rfl, hk⟩; exact zeroT_makes 3 hk
    · rintro e w' ⟨rfl, hk⟩; exact zeroT_makes 3 hk

set_option maxHeartbeats 1000000 in
/-- Text, for any value. -/
theorem textP (k n : Int) (s : ByteArray) (a : Option Addr) (cap : Nat) (l : List V) (w : World) (hin : (V.mk k n s a cap l).In w w.heap.size) (tb : Tb w w.heap.size) :
    Calls Tryz.prog 27 #[.agg #[.int .i64 k, .int .i64 n, .string s, .slice a l.length cap]] w fun e w' => e = .returned (textOut (V.mk k n s a cap l)) ∧ Kp w w' := by
  cases hv : (V.mk k n s a cap l).valid with
  | true =>
    rw [textOut, hv]
    have := textOk (V.mk k n s a cap l) w hin hv tb
    rwa [V.val_mk] at this
  | false =>
    rw [textOut, hv]
    have C : ∀ w1, Kp w w1 → Calls Tryz.prog 68 #[.agg #[.int .i64 k, .int .i64 n, .string s, .slice a l.length cap], .func (.methodOf 93 "deltaworks/value.text") #[] #[]] w1 fun e w' => e = .returned (.tuple #[.string ⟨#[]⟩, .int .i64 1]) ∧ Kp w1 w' := fun w1 h => written_bad k n s a cap l w1 _ (hin.keep h.size h) hv
    have CC := Lib.hid C
    clear C hin hv tb
    go_enter Tryz.func27, Tryz.ntmps27
    go_wp2_with fail
    refine (CC.out _ (ka _ _)).mono ?_
    rintro e w1 ⟨rfl, hk⟩
    have HK := Lib.hid (kk (ka _ _) hk)
    clear hk
    go_wp2_with fail
    go_ret2
    exact ⟨rfl, HK.out⟩

set_option maxHeartbeats 1000000 in
/-- TypeText, for any type. -/
theorem typeTextP (k : Int) (a : Option Addr) (cap : Nat) (l : List T) (w : World) (hin : (T.mk k a cap l).In w w.heap.size) :
    Calls Tryz.prog 29 #[.agg #[.int .i64 k, .slice a l.length cap]] w fun e w' => e = .returned (typeTextOut (T.mk k a cap l)) ∧ Kp w w' := by
  cases hv : (T.mk k a cap l).valid with
  | true =>
    rw [typeTextOut, hv]
    have hne : (T.mk k a cap l).txt ≠ [] := by
      obtain ⟨c, t, hc, -⟩ := ttxt_head (validT_sh hv).1
      rw [hc]; simp
    have := typeTextOk (T.mk k a cap l) w hin hv hne
    rwa [T.val_mk] at this
  | false =>
    rw [typeTextOut, hv]
    have C := fun (w1 : World) (h : Kp w w1) => typeV k a cap l w1 (hin.keep h.size h)
    rw [badT_arg, hv] at C
    have CC := Lib.hid C
    clear C hin hv
    go_enter Tryz.func29, Tryz.ntmps29
    go_wp2_with fail
    refine (CC.out _ (ka _ _)).mono ?_
    rintro e w1 ⟨rfl, hk⟩
    rw [show argI false = 1 from rfl]
    have HK := Lib.hid (kk (ka _ _) hk)
    clear hk
    go_wp2_with fail
    go_ret2
    exact ⟨rfl, HK.out⟩

theorem twoOutV (v : V) : ∃ q c, textOut v = .tuple #[.string q, .int .i64 c] := by unfold textOut; split <;> exact ⟨_, _, rfl⟩
theorem twoOutT (v : T) : ∃ q c, typeTextOut v = .tuple #[.string q, .int .i64 c] := by unfold typeTextOut; split <;> exact ⟨_, _, rfl⟩

set_option maxRecDepth 100000 in
set_option maxHeartbeats 8000000 in
theorem texts_any (x : V) (t : T) (s : ByteArray) (w : World) (hx : x.In w w.heap.size) (ht : t.In w w.heap.size) (hs : s.size ≤ maxLen) (tb : Tb w w.heap.size) (eb : Eb w w.heap.size) :
    Calls Tryz.prog 5 #[x.val, t.val, .string s] w fun e w' => e = .returned (.bool true) ∧ Kp w w' := by
  cases x with
  | mk k n u a cap l =>
  cases t with
  | mk tk ta tc tl =>
  rw [V.val_mk, T.val_mk]
  have C1 := fun (w1 : World) (h : Kp w w1) => textP k n u a cap l w1 (hx.keep h.size h) (tb.keep h h.size)
  have C2 := fun (w1 : World) (h : Kp w w1) => textTopR k n u a cap l w1 (hx.keep h.size h) (tb.keep h h.size)
  have C3 := fun (w1 : World) (h : Kp w w1) => typeTextP tk ta tc tl w1 (ht.keep h.size h)
  have C4 := fun (w1 : World) (h : Kp w w1) => typeTextTopR tk ta tc tl w1 (ht.keep h.size h)
  obtain ⟨q1, c1, hq1⟩ := twoOutV (V.mk k n u a cap l)
  obtain ⟨q2, c2, hq2⟩ := twoOutT (T.mk tk ta tc tl)
  rw [hq1] at C1 C2
  rw [hq2] at C3 C4
  have hs' : s.size ≤ 9223372036854775807 := by unfold maxLen at hs; omega
  obtain ⟨y, d, C56⟩ := parse_both s hs'
  obtain ⟨z, f, C78⟩ := typeParse_both s hs'
  have C5 := fun (w1 : World) (h : Kp w w1) => (C56 w1 (tb.keep h h.size) (eb.keep h h.size)).1
  have C6 := fun (w1 : World) (h : Kp w w1) => (C56 w1 (tb.keep h h.size) (eb.keep h h.size)).2
  have C7 := fun (w1 : World) => (C78 w1).1
  have C8 := fun (w1 : World) => (C78 w1).2
  have E := fun w1 (h : Kp w w1) => valued_any w1 (tb.keep h h.size)
  have HC1 := Lib.hid C1
  have HC2 := Lib.hid C2
  have HC3 := Lib.hid C3
  have HC4 := Lib.hid C4
  have HC5 := Lib.hid C5
  have HC6 := Lib.hid C6
  have HC7 := Lib.hid C7
  have HC8 := Lib.hid C8
  have HE := Lib.hid E
  clear C1 C2 C3 C4 C5 C6 C7 C8 C56 C78 E hx ht tb eb hq1 hq2 hs hs'
  go_enter Tryz.func5, Tryz.ntmps5
  go_wp2_with fail
  refine (HC1.out _ (kk (ka _ _) (ka _ _))).mono ?_
  rintro e w1 ⟨rfl, hk⟩
  obtain ⟨b0, b1, b2, b3, d0, d1⟩ := twoBoxVT hk
  have HK1 := Lib.hid (kk (kk (ka _ _) (ka _ _)) hk)
  clear hk
  go_wp2_with fail
  refine (HC2.out _ HK1.out).mono ?_
  rintro e w2 ⟨rfl, hk⟩
  replace d0 := kc hk d0
  replace d1 := kc hk d1
  have HK2 := Lib.hid (kk HK1.out hk)
  clear hk b0 b1 b2 b3
  go_wp2_with fail
  refine (HC3.out _ HK2.out).mono ?_
  rintro e w3 ⟨rfl, hk⟩
  replace d0 := kc hk d0
  replace d1 := kc hk d1
  have HK3 := Lib.hid (kk HK2.out hk)
  clear hk
  go_wp2_with fail
  refine (HC4.out _ HK3.out).mono ?_
  rintro e w4 ⟨rfl, hk⟩
  have HK4 := Lib.hid (kk HK3.out hk)
  clear hk d0 d1
  go_wp2_with fail
  refine (HC5.out _ HK4.out).mono ?_
  rintro e w5 ⟨⟨yk, yn, ys, ya, yc, yl⟩, rfl, hx3, hf3, hs3, hk⟩
  rw [V.val_mk]
  have hka5 := ka w5 (.cells #[.int .i64 yk, .int .i64 yn, .string ys, .slice ya yl.length yc] 24)
  have HK5 := Lib.hid (kk HK4.out (kk hk hka5))
  have HX := Lib.hid (hx3.keep hka5.size hka5)
  have HS3 := Lib.hid hs3
  clear hk hf3 hx3 hs3 hka5
  go_wp2_with fail
  have hy0 := blockHere (w := w5) (o := .cells #[.int .i64 yk, .int .i64 yn, .string ys, .slice ya yl.length yc] 24 (0, 0)) rfl
  generalize w5.alloc (.cells #[.int .i64 yk, .int .i64 yn, .string ys, .slice ya yl.length yc] 24) = W5 at *
  generalize w5.heap.size = p5 at *
  have HY := Lib.hid hy0
  clear hy0
  refine (HC6.out _ HK5.out).mono ?_
  rintro e w6 ⟨⟨zk, zn, zs, za, zc, zl⟩, rfl, hx4, hf4, hs4, hk⟩
  rw [V.val_mk]
  have hka6 := ka w6 (.cells #[.int .i64 zk, .int .i64 zn, .string zs, .slice za zl.length zc] 24)
  have HK6 := Lib.hid (kk HK5.out (kk hk hka6))
  have HX6 := Lib.hid (HX.out.keep (kk hk hka6).size (kk hk hka6))
  have HZ6 := Lib.hid (hx4.keep hka6.size hka6)
  have HY6 := Lib.hid (((kk hk hka6).block _ (lt_of_block HY.out)).trans HY.out)
  have HS4 := Lib.hid hs4
  have hz0 := blockHere (w := w6) (o := .cells #[.int .i64 zk, .int .i64 zn, .string zs, .slice za zl.length zc] 24 (0, 0)) rfl
  clear hk hf4 hx4 hs4 HY HX hka6
  go_wp2_with fail
  generalize w6.alloc (.cells #[.int .i64 zk, .int .i64 zn, .string zs, .slice za zl.length zc] 24) = W6 at *
  generalize w6.heap.size = p6 at *
  have HZB := Lib.hid hz0
  clear hz0
  refine (HC7.out _).mono ?_
  rintro e w7 ⟨⟨gk, ga, gc, gl⟩, rfl, hx7, hf7, hs7, hk⟩
  rw [T.val_mk]
  have hka7 := ka w7 (.cells #[.int .i64 gk, .slice ga gl.length gc] 27)
  have HK7 := Lib.hid (kk HK6.out (kk hk hka7))
  have HX7 := Lib.hid (HX6.out.keep (kk hk hka7).size (kk hk hka7))
  have HZ7 := Lib.hid (HZ6.out.keep (kk hk hka7).size (kk hk hka7))
  have HY7 := Lib.hid (((kk hk hka7).block _ (lt_of_block HY6.out)).trans HY6.out)
  have HZB7 := Lib.hid (((kk hk hka7).block _ (lt_of_block HZB.out)).trans HZB.out)
  have HG7 := Lib.hid (hx7.keep hka7.size hka7)
  have HS7 := Lib.hid hs7
  have hg0 := blockHere (w := w7) (o := .cells #[.int .i64 gk, .slice ga gl.length gc] 27 (0, 0)) rfl
  clear hk hf7 hx7 hs7 HY6 HZB HX6 HZ6 hka7
  go_wp2_with fail
  generalize w7.alloc (.cells #[.int .i64 gk, .slice ga gl.length gc] 27) = W7 at *
  generalize w7.heap.size = p7 at *
  have HGB := Lib.hid hg0
  clear hg0
  refine (HC8.out _).mono ?_
  rintro e w8 ⟨⟨hk8, ha8, hc8, hl8⟩, rfl, hx8, hf8, hs8, hk⟩
  rw [T.val_mk]
  have hka8 := ka w8 (.cells #[.int .i64 hk8, .slice ha8 hl8.length hc8] 27)
  have HK8 := Lib.hid (kk HK7.out (kk hk hka8))
  have HX8 := Lib.hid (HX7.out.keep (kk hk hka8).size (kk hk hka8))
  have HZ8 := Lib.hid (HZ7.out.keep (kk hk hka8).size (kk hk hka8))
  have hYw := (hk.block _ (lt_of_block HY7.out)).trans HY7.out
  have hZw := (hk.block _ (lt_of_block HZB7.out)).trans HZB7.out
  have hpy := lt_of_block hYw
  have hpz := lt_of_block hZw
  obtain ⟨m0, m1, m2, m3, -⟩ := cell4 hYw
  obtain ⟨n0, n1, n2, n3, -⟩ := cell4 hZw
  have hY8 := ((kk hk hka8).block _ (lt_of_block HY7.out)).trans HY7.out
  have hZB8 := ((kk hk hka8).block _ (lt_of_block HZB7.out)).trans HZB7.out
  have hGB8 := ((kk hk hka8).block _ (lt_of_block HGB.out)).trans HGB.out
  have HG8 := Lib.hid (HG7.out.keep (kk hk hka8).size (kk hk hka8))
  have HH8 := Lib.hid (hx8.keep hka8.size hka8)
  have HS8 := Lib.hid hs8
  have hh0 := blockHere (w := w8) (o := .cells #[.int .i64 hk8, .slice ha8 hl8.length hc8] 27 (0, 0)) rfl
  clear hk hf8 hx8 hs8 HY7 HZB7 HX7 HZ7 hka8 HGB HG7 hYw hZw
  have HYB := Lib.hid hY8
  have HZB := Lib.hid hZB8
  have HGB := Lib.hid hGB8
  have HHB := Lib.hid hh0
  have hsm : (V.mk yk yn ys ya yc yl).same (V.mk zk zn zs za zc zl) = true := V.same_trans _ _ _ HS3.out (V.same_symm _ _ HS4.out)
  have hsm2 : (T.mk gk ga gc gl).same (T.mk hk8 ha8 hc8 hl8) = true := T.same_trans _ _ _ HS7.out (T.same_symm _ _ HS8.out)
  have S := sameV (V.mk yk yn ys ya yc yl).rank (V.mk yk yn ys ya yc yl) (V.mk zk zn zs za zc zl) _ (Nat.le_refl _) HX8.out HZ8.out
  rw [hsm, V.val_mk, V.val_mk] at S
  have S2 := fun (w1 : World) (h : Kp (w8.alloc (.cells #[.int .i64 hk8, .slice ha8 hl8.length hc8] 27)) w1) => sameT (T.mk gk ga gc gl).rank (T.mk gk ga gc gl) (T.mk hk8 ha8 hc8 hl8) w1 (Nat.le_refl _) (HG8.out.keep h.size h) (HH8.out.keep h.size h)
  rw [hsm2, T.val_mk, T.val_mk] at S2
  have HS := Lib.hid S
  have HS2 := Lib.hid S2
  have hw8 := lt_of_block hh0
  clear hY8 hZB8 hGB8 hh0 hsm hsm2 S S2
  go_wp2_with fail
  refine HS.out.mono ?_
  rintro e w9 ⟨rfl, hk⟩
  obtain ⟨e0, e1, -⟩ := cell2 ((hk.block _ (lt_of_block HGB.out)).trans HGB.out)
  obtain ⟨j0, j1, -⟩ := cell2 ((hk.block _ (lt_of_block HHB.out)).trans HHB.out)
  have HK9 := Lib.hid hk
  clear hk m0 m1 m2 m3 n0 n1 n2 n3
  go_wp2_with fail
  refine (HS2.out _ HK9.out).mono ?_
  rintro e w10 ⟨rfl, hk⟩
  have HK10 := Lib.hid (kk HK8.out (kk HK9.out hk))
  clear hk e0 e1 j0 j1
  go_wp2_with fail
  refine (HE.out _ HK10.out).mono ?_
  rintro e w11 ⟨rfl, hk⟩
  have HK11 := Lib.hid (kk HK10.out hk)
  clear hk
  go_wp2_with fail
  go_ret
  exact ⟨rfl, HK11.out⟩

end Go.Proofs.YtkfmgafgokpjhaaGreatDoor

/-
  ValueTexts: WHAT THE WALKS GIVE, for every arguments that read; THE STATEMENT, AND ITS CARD.
-/
namespace Go.Proofs.YtkfmgafgokpjhaaGreatDoor.valueTexts
open Go.ChangeShapes Go.WideShapes Go.ChangeAt Go.RowKit Go.Lib

theorem tens {W : World} (h : laidMetH Tryz.prog Rows.valueTextsRow.laid W) : Tb W W.heap.size := by
  have h1 : laidMet Tryz.prog Rows.valueTextsRow.laid W := h
  have h2 := laid_tail (laid_tail h1)
  refine Lib.tabBelow_of_tabIs ?_
  exact Lib.tabIs_of_head gTab (t := 179) (n := 20) (e := 167) (by kernel_rfl) (by kernel_rfl) (by kernel_rfl) (by kernel_rfl) (by kernel_rfl) h2

theorem iface_of_head {W : World} {name nm : String} {d : DataW Unit} {rest : List (String × DataW Unit)} {g : Nat}
    (hg : Tryz.prog.globalNamed name = some g) (hty : (Tryz.prog.globals[g]?).map (·.type) = some 152) (h : laidMet Tryz.prog ((name, .iface nm d) :: rest) W) : ∃ u v, W.cell? ⟨g, 0, none⟩ = some (.iface u v) := by
  obtain ⟨ps, ⟨g', t', cs, fuel, p, q, hg', ht', hvar, hd, _, _⟩, _⟩ := h
  obtain rfl := Option.some.inj (hg.symm.trans hg')
  obtain rfl := Option.some.inj (hty.symm.trans ht')
  obtain ⟨f', u, v, hcs, -, -⟩ := iface_of_trod Tryz.underlying152 hd
  refine ⟨u, v, ?_⟩
  have := World.var?_cell hg hvar 0
  rw [this, ← Array.getElem?_toList, hcs]; rfl

theorem errs {W : World} (h : laidMetH Tryz.prog Rows.valueTextsRow.laid W) : Eb W W.heap.size := by
  have h1 : laidMet Tryz.prog Rows.valueTextsRow.laid W := h
  have h2 := laid_tail (laid_tail (laid_tail h1))
  have h3 := laid_tail h2
  obtain ⟨u, v, hr⟩ := iface_of_head (g := 2) (by kernel_rfl) (by kernel_rfl) h2
  obtain ⟨u', v', hs⟩ := iface_of_head (g := 1) (by kernel_rfl) (by kernel_rfl) h3
  exact ⟨_, _, .inr ⟨_, _, rfl⟩, .inr ⟨_, _, rfl⟩, World.block_lt_of_cell? W _ hs, World.block_lt_of_cell? W _ hr, hs, hr⟩

set_option maxRecDepth 100000 in
theorem contract (H : Type) (enc : TypeId × Value → H) (W : World) (base : Nat) (args : Array Value) (ds gs : List (DataW H)) (before : List MemPlace)
    (hval : ∀ (j : Nat) t v, Tryz.f5.params[j]? = some t → args[j]? = some v → Value.okWide Tryz.prog W .any base t v)
    (hW : DataW.Whole enc Tryz.prog Tryz.f5.params.toList Rows.valueTextsSpec.vars false W args.toList ds gs before) (ht : Tb W W.heap.size) (he : Eb W W.heap.size) :
    Calls Tryz.prog 5 args W fun e W' => ∃ v, e = .returned v ∧ Rows.valueTextsSpec.post enc Tryz.prog Tryz.f5 false true false false W args v W' := by
  have hW' := hW
  obtain ⟨p, q, hA0, hV, rfl, hfz, hnd⟩ := hW
  have hA : DataW.TrodAll enc Tryz.prog W 0 (fun _ => true) true Tryz.f5.params.toList args.toList ds p := hA0
  rw [Tryz.params5] at hA hval
  obtain ⟨v0, vs0, d0, ds0, p0, q0, hargs, rfl, rfl, h0, r0⟩ := trodAll_cons hA
  obtain ⟨v1, vs1, d1, ds1, p1, q1, rfl, rfl, rfl, h1, r1⟩ := trodAll_cons r0
  obtain ⟨v2, vs2, d2, ds2, p2, q2, rfl, rfl, rfl, h2, r2⟩ := trodAll_cons r1
  obtain ⟨rfl, rfl, rfl⟩ := trodAll_nil r2
  obtain rfl : args = #[v0, v1, v2] := by cases args; simp_all
  obtain ⟨rfl, rfl⟩ := trodVars_none hV
  obtain ⟨x0, rfl, hx0⟩ := open_arg (hval 0 24 v0 rfl rfl) h0
  obtain ⟨x1, rfl, hx1⟩ := open_argT (hval 1 27 v1 rfl rfl) h1
  obtain ⟨s2, rfl, hx2⟩ := open_argS (hval 2 9 v2 rfl rfl) h2
  refine (texts_any x0 x1 s2 W hx0 hx1 hx2 ht he).mono fun e W' ⟨hre, hk⟩ => ?_
  subst hre
  refine ⟨_, rfl, ?_⟩
  have hlt : ∀ p ∈ p0 ++ (p1 ++ (p2 ++ [])) ++ [], p.block < W.heap.size := fun p hp => hW'.lt p hp
  have hT0 : 27 < Tryz.prog.types.size := of_decide_eq_true (by kernel_rfl)
  have hT1 : 24 < Tryz.prog.types.size := of_decide_eq_true (by kernel_rfl)
  have hT2 : 9 < Tryz.prog.types.size := of_decide_eq_true (by kernel_rfl)
  refine post_of_kp (pa := p0 ++ (p1 ++ (p2 ++ []))) (pv := []) hW' hk (fun _ _ _ => trodAll_cons_mk (shut_bool Tryz.underlying4 _) trodAll_mk0) (fun sp hsp => ?_) (fun _ _ => rfl) rfl (ok_one (by kernel_rfl) rfl (okWide_bool_mk Tryz.underlying4 _))
  rw [Tryz.params5]
  exact trodAll_cons_mk (trod_kp (DataW.Trod.respare kidsP fullP hT1 h0 (fun p hp => hsp p (by simp [hp]))) hk (fun p hp => hlt p (by simp [hp])))
    (trodAll_cons_mk (trod_kp (DataW.Trod.respare kidsP fullP hT0 h1 (fun p hp => hsp p (by simp [hp]))) hk (fun p hp => hlt p (by simp [hp])))
    (trodAll_cons_mk (trod_kp (DataW.Trod.respare kidsP fullP hT2 h2 (fun p hp => hsp p (by simp [hp]))) hk (fun p hp => hlt p (by simp [hp])))
    (trodAll_mk0)))

theorem own : ownKnob Tryz.prog.godebug = none := by kernel_rfl

def intsOf (k : IntKind) : DataW Unit → Array Value
  | .agg l => (l.map fun d => match d with | .lit (.int _ n) => Value.int k n | _ => Value.int k 0).toArray
  | _ => #[]

/-- THE WITNESS: the settled world with two blocks more (the two errors), the five variables holding what their initialisers lay. -/
noncomputable def laidWorld (os : Os) : World :=
  let N := (World.settled Tryz.prog os).heap.size
  let w0 := World.holding Tryz.prog os ⟨#[.cells #[.string ⟨#[105, 110, 118, 97, 108, 105, 100, 32, 115, 121, 110, 116, 97, 120]⟩] 187 (0, 0), .cells #[.string ⟨#[118, 97, 108, 117, 101, 32, 111, 117, 116, 32, 111, 102, 32, 114, 97, 110, 103, 101]⟩] 187 (0, 0)], #[], []⟩
  let put (h : Array Obj) (g : Nat) (cs : Array Value) : Array Obj := h.modify g fun
    | .cells _ t frozen => .cells cs t frozen
    | o => o
  let h1 := put w0.heap 1 #[.iface 185 (.pointer (some ⟨N, 0, none⟩))]
  let h2 := put h1 2 #[.iface 185 (.pointer (some ⟨N + 1, 0, none⟩))]
  let h3 := put h2 3 (intsOf .u64 Rows.laid_internal_strconv_uint64pow10)
  let h4 := put h3 4 (intsOf .u8 Rows.laid_math_bits_deBruijn32tab)
  let h5 := put h4 5 (intsOf .u8 Rows.laid_math_bits_deBruijn64tab)
  { w0 with heap := h5 }

noncomputable abbrev N0 : Nat := (World.settled Tryz.prog default).heap.size
/-- The witness's arguments. -/
abbrev wArgs : Array Value := #[.agg #[.int .i64 0, .int .i64 0, .string ⟨#[]⟩, .slice none 0 0], .agg #[.int .i64 0, .slice none 0 0], .string ⟨#[]⟩]

set_option maxRecDepth 1000000 in
theorem laid_met (os : Os) (args : Array Value) : laidMet Tryz.prog Rows.valueTextsRow.laid ((laidWorld os).forCall (fun _ _ => 0) ⟨#[], args, []⟩).memory :=
  (LaidIn.of_run (l := Rows.valueTextsRow.laid) [4, 5, 3, 2, N0 + 1, 1, N0] 8 (by kernel_rfl) (by kernel_rfl) (by kernel_rfl) (by kernel_rfl)).met

theorem witness_row (os : Os) {H : Type} (enc : TypeId × Value → H) :
    (OpenSpec.ofChange Rows.valueTextsSpec).preRow enc Tryz.prog Tryz.f5 Rows.valueTextsRow.domain false Rows.valueTextsRow.laid ((laidWorld os).forCall (fun _ _ => 0) ⟨#[], wArgs, []⟩).memory wArgs := by
  have hw : (DataW.whole enc Tryz.prog ((laidWorld os).forCall (fun _ _ => 0) ⟨#[], wArgs, []⟩).memory Tryz.f5.params.toList Rows.valueTextsSpec.vars false wArgs.toList 8).map (fun x => (x.1, x.2.1)) =
      some ([.agg [.lit (.int .i64 0), .lit (.int .i64 0), .lit (.string []), .nil], .agg [.lit (.int .i64 0), .nil], .lit (.string [])], []) := by kernel_rfl
  obtain ⟨⟨x1, x2, x3⟩, hx, hx1⟩ := Option.map_eq_some_iff.1 hw
  simp only [Prod.mk.injEq] at hx1
  obtain ⟨rfl, rfl⟩ := hx1
  exact OpenSpec.preRow_of_cond 8 hx (by kernel_rfl) (fun k hk => by cases hk) (by kernel_rfl) (laid_met os _)

set_option maxRecDepth 100000 in
set_option maxHeartbeats 2000000 in
theorem lifted (os : Os) (started : os.Started) (H : Type) (enc : TypeId × Value → H) (F : Stop.Interp) :
    ReturnsInHanded {} Tryz.checked os 5 .any ((OpenSpec.ofChange Rows.valueTextsSpec).preRow enc Tryz.prog Tryz.f5 Rows.valueTextsRow.domain false Rows.valueTextsRow.laid) (((OpenSpec.ofChange Rows.valueTextsSpec).at F).post enc Tryz.prog Tryz.f5 false true false false) := by
  refine returnsInHanded_of_row (C := Tryz.checked) (s := OpenSpec.ofChange Rows.valueTextsSpec) own started (by kernel_rfl) Tryz.func5
    (witness_row_atRef (enc := enc) (C := Tryz.checked) false (laidWorld os) wArgs rfl (by kernel_rfl) (by kernel_rfl) (by kernel_rfl) (witness_row os enc)) ?_
  intro W base args ds gs before hval hW _ _ _ hL _ _
  exact contract H enc W base args ds gs before hval hW (tens hL) (errs hL)

theorem said : Rows.ValueTextsSaid :=
  OpenClaim.holds_of_cond 5 Tryz.f5 rfl rfl rfl rfl rfl rfl rfl ⟨rfl, rfl, rfl, rfl, rfl⟩ rfl rfl rfl rfl rfl (by kernel_rfl) Tryz.func5 (by kernel_rfl)
    (of_decide_eq_true (by kernel_rfl)) (by unfold Func.isWrapper; first | (rw [if_pos (by decide +kernel)]; kernel_rfl) | (rw [if_neg (by decide +kernel)]; exact ⟨rfl, rfl⟩))
    (fun os started H enc _ F => by rw [OpenClaim.pre_eq_preRow]; exact lifted os started H enc F)

/-- No parameter wants a stand-in; the program's own looks are off: what the card asks. -/
theorem plain (f : FuncId) (fn : Func) (hf : Tryz.pinned.checked.prog.funcNamed "deltaworks/deltaworkslaw01.ValueTexts" = some f) (hfn : Tryz.pinned.checked.prog.funcs[f]? = some fn) :
    true = Tryz.pinned.checked.prog.looks [] ∧ ∀ (j : Nat) t, fn.params[j]? = some t → Tryz.pinned.checked.prog.wantsStandIn t = false := by
  obtain rfl : f = 5 := Option.some.inj ((show Tryz.prog.funcNamed "deltaworks/deltaworkslaw01.ValueTexts" = some 5 by kernel_rfl).symm.trans hf) |>.symm
  obtain rfl : fn = Tryz.f5 := (Option.some.inj (Tryz.func5.symm.trans hfn)).symm
  refine ⟨by kernel_rfl, fun j t ht => ?_⟩
  rw [Tryz.params5] at ht
  obtain rfl | rfl | rfl : t = 24 ∨ t = 27 ∨ t = 9 := by simpa using Array.mem_of_getElem? ht
  · exact (show Tryz.prog.wantsStandIn 24 = false by kernel_rfl)
  · exact (show Tryz.prog.wantsStandIn 27 = false by kernel_rfl)
  · exact (show Tryz.prog.wantsStandIn 9 = false by kernel_rfl)

/-- ████ THE CARD ████ -/
theorem card : Rows.ValueTextsCardSaid :=
  Claim7.holds_tied_plain_at .later [] _ _ _ _ said (fun _ h => by cases h) (by kernel_rfl) (fun _ h => by cases h) valueTexts_row_tie rfl ⟨rfl, rfl⟩ (by kernel_rfl) rfl plain (by kernel_rfl)

end Go.Proofs.YtkfmgafgokpjhaaGreatDoor.valueTexts
