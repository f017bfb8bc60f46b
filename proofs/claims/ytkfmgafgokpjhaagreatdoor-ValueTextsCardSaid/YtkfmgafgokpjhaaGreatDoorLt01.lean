/-
  Proved: the statement ValueTexts (value.Text of any value, value.TypeText of any type, value.Parse and value.TypeParse of any text answer as the specification's do, and the chapter's examples hold), as its tied card says it, with no condition beyond the card's own.
  Part 1 of 5.
-/
import Derived.Test.YtkfmgafgokpjhaaGreatDoorBc12
import Derived.Test.YtkfmgafgokpjhaaGreatDoorBc03
import Derived.Test.YtkfmgafgokpjhaaGreatDoorBc10
import Derived.Test.YtkfmgafgokpjhaaGreatDoorBc06
import Derived.Deep.RegionHeld3
import Derived.Lib.ItoaLen
import Derived.Test.YtkfmgafgokpjhaaGreatDoorBc11
import Derived.Test.YtkfmgafgokpjhaaGreatDoorBc08
import Derived.Test.YtkfmgafgokpjhaaGreatDoorBc09
import Derived.Deep.QuietTactic
import Derived.BigQuiet
import Derived.IntWalk
/-
  THE SPECIFICATION's Write: the text of a value.
-/
namespace Go.Proofs.YtkfmgafgokpjhaaGreatDoor
open Go.RowKit

/-- What is returned: a text of these bytes. -/
def Str (w : World) (l : List UInt8) (e : Ending) (w' : World) : Prop := ∃ b : ByteArray, e = .returned (.string b) ∧ b.data.toList = l ∧ Kp w w'

set_option maxHeartbeats 1000000 in
theorem figuresR (n : Int) (hn : I64 n) (w : World) (tb : Tb w w.heap.size) : Calls Tryz.prog 108 #[.int .i64 n] w (Str w (Lib.itoa n)) := by
  have C := fun (w1 : World) (h : Kp w w1) => itoa_any w1 n w1.heap.size hn (tb.keep h h.size)
  have HC := Lib.hid C
  clear C tb hn
  go_enter Tryz.func108, Tryz.ntmps108
  go_wp2_with fail
  refine (HC.out _ (Below.refl _ _)).mono ?_
  rintro e w1 ⟨rfl, hk⟩
  have HK := Lib.hid hk
  clear hk
  go_wp2_with fail
  go_ret
  exact ⟨_, rfl, by simp, HK.out⟩

set_option maxRecDepth 100000 in
set_option maxHeartbeats 1000000 in
theorem writeR_word (n : Int) (s : ByteArray) (a : Option Addr) (len cap : Nat) (w : World) (hn : I64 n) (tb : Tb w w.heap.size) :
    Calls Tryz.prog 69 #[.agg #[.int .i64 0, .int .i64 n, .string s, .slice a len cap]] w (Str w (Lib.itoa n)) := by
  have C := fun (w1 : World) (h : Kp w w1) => figuresR n hn w1 (tb.keep h h.size)
  have HC := Lib.hid C
  clear C tb hn
  go_enter Tryz.func69, Tryz.ntmps69
  go_wp2_with fail
  refine (HC.out _ (ka _ _)).mono ?_
  rintro e w1 ⟨b, rfl, hl, hk⟩
  have HK := Lib.hid (kk (ka _ _) hk)
  have HL := Lib.hid hl
  clear hk hl
  go_wp2_with fail
  go_ret
  exact ⟨_, rfl, HL.out, HK.out⟩

set_option maxRecDepth 100000 in
set_option maxHeartbeats 1000000 in
theorem writeR_text (n : Int) (s : ByteArray) (a : Option Addr) (len cap : Nat) (w : World) (hs : s.size ≤ 1000000) :
    Calls Tryz.prog 69 #[.agg #[.int .i64 1, .int .i64 n, .string s, .slice a len cap]] w (Str w (34 :: esc s.data.toList ++ [34])) := by
  go_enter Tryz.func69, Tryz.ntmps69
  go_wp2_with fail
  refine (quotedR s hs _).mono ?_
  rintro e w1 ⟨⟨b, rfl, hl⟩, rfl⟩
  have HL := Lib.hid hl
  clear hl
  go_wp2_with fail
  go_ret
  exact ⟨_, rfl, HL.out, ka _ _⟩

set_option maxRecDepth 100000 in
set_option maxHeartbeats 4000000 in
theorem writeR_tuple (n : Int) (s : ByteArray) (a : Option Addr) (cap : Nat) (l : List V) (w : World) (hin : (V.mk 2 n s a cap l).In w w.heap.size) (hx : (V.txtL l).length ≤ 1000000)
    (ih : ∀ (j : Nat) (x : V), l[j]? = some x → ∀ w1 : World, Kp w w1 → Calls Tryz.prog 69 #[.agg #[.int .i64 x.k, .int .i64 x.n, .string x.s, .slice x.a x.l.length x.cap]] w1 (Str w1 x.txt)) :
    Calls Tryz.prog 69 #[.agg #[.int .i64 2, .int .i64 n, .string s, .slice a l.length cap]] w (Str w (40 :: V.txtL l ++ [41])) := by
  have hlen := V.lenLe hin
  rw [V.txtL_join] at hx ⊢
  have HIN := Lib.hid hin
  have IH := Lib.hid ih
  clear hin ih
  go_enter Tryz.func69, Tryz.ntmps69
  go_wp2_with fail
  go_loopw [3, 4] (fun out i wr => ∃ (b : ByteArray) (j : Nat), j ≤ l.length ∧ Hid (b.data.toList = joinF V.txt [44, 32] (l.take j)) ∧ b.size ≤ 1000000 ∧ out = .string b ∧ i = .int .i64 j ∧ Kp (w.alloc (.cells #[.int .i64 2, .int .i64 n, .string s, .slice a l.length cap] 24)) wr) (fun _ i _ => l.length - (intOf i).toNat)
  case atStart => exact ⟨⟨#[]⟩, 0, Nat.zero_le _, Lib.hid (by simp [joinF]), by decide, rfl, rfl, Below.refl _ _⟩
  case round =>
    obtain ⟨b, j, hj, hl, hb, rfl, rfl, hk⟩ := hrel
    obtain ⟨b0, b1, b2, b3, hz⟩ := box4 hk
    by_cases hlt : j < l.length
    · obtain ⟨x, hx0⟩ : ∃ x, l[j]? = some x := ⟨l[j], by simp [hlt]⟩
      obtain ⟨p0, off, rfl, hp0, q0, q1, q2, q3, hxin⟩ := V.atPart HIN.out hx0
      have hkw := kk (ka _ _) hk
      have r0 := kc hkw q0
      have r1 := kc hkw q1
      have r2 := kc hkw q2
      have r3 := kc hkw q3
      have hjl := joinF_len V.txt [44, 32] l (j + 1)
      have hsn : joinF V.txt [44, 32] (l.take (j + 1)) = if l.take j = [] then x.txt else joinF V.txt [44, 32] (l.take j) ++ [44, 32] ++ x.txt := by
        have h9 : l.take (j + 1) = l.take j ++ [x] := by
          rw [List.take_add_one, hx0]; rfl
        rw [h9, joinF_snoc]
      have hih := IH.out j x hx0 wr hkw
      generalize hX : x.txt = X at *
      have g0 : (0 : Int) ≤ (j : Int) := by omega
      have g1 : (j : Int) < (l.length : Int) := by omega
      have HK := Lib.hid hk
      have HIH := Lib.hid hih
      generalize x.k = xk at *
      generalize x.n = xn at *
      generalize x.s = xs at *
      generalize x.a = xa at *
      generalize x.l.length = xl at *
      generalize x.cap = xc at *
      by_cases h0 : j = 0
      · have hX2 : X.length ≤ 1000000 := by
          subst h0
          simp at hsn
          rw [hsn] at hjl; omega
        have HSN := Lib.hid (show joinF V.txt [44, 32] (l.take (j + 1)) = b.data.toList ++ X by
          subst h0
          rw [hsn, hl.out]; simp [joinF])
        have hb0 : b.size = 0 := by have := hl.out; subst h0; simp [joinF] at this; rw [size_list]; simp [this]
        have hb1 : b.size ≤ 0 := by omega
        have g3 : decide (0 < j) = false := by subst h0; simp
        have HJ := Lib.hid h0
        clear h0 hsn hjl hb0 hk hih hX hx0 q0 q1 q2 q3 hxin hkw hl
        go_wp2_with fail
        refine HIH.out.mono ?_
        rintro e w1 ⟨c, rfl, hc, hk1⟩
        have hcs : c.size ≤ 1000000 := by rw [size_list, hc]; exact hX2
        have z1 : b.size + c.size ≤ 9223372036854775807 := by omega
        have e1 : (b ++ c).size ≤ 1000000 := by rw [ByteArray.size_append]; omega
        have E1 := Lib.hid e1
        have HC := Lib.hid hc
        have HK1 := Lib.hid (kk HK.out hk1)
        clear hk1 hc e1 r0 r1 r2 r3 b0 b1 b2 b3
        go_wp2_with fail
        go_roundw
        case rel => exact ⟨_, j + 1, by omega, Lib.hid (by rw [app_list, HC.out, HSN.out]), E1.out, rfl, by go_num, HK1.out⟩
        case measure => simp [intOf]; omega
      · have hne : l.take j ≠ [] := by intro e; have := congrArg List.length e; rw [List.length_take] at this; simp only [List.length_nil] at this; omega
        rw [if_neg hne] at hsn
        have hX2 : b.size + 2 + X.length ≤ 1000000 := by
          rw [hsn, ← hl.out] at hjl
          simp only [List.length_append, List.length_cons, List.length_nil] at hjl
          rw [size_list]; omega
        have HSN := Lib.hid (show joinF V.txt [44, 32] (l.take (j + 1)) = b.data.toList ++ [44, 32] ++ X by rw [hsn, hl.out])
        have g3 : decide (0 < j) = true := by simp; omega
        have z0 : b.size + (⟨#[44, 32]⟩ : ByteArray).size ≤ 9223372036854775807 := by show b.size + 2 ≤ _; omega
        have HJ := Lib.hid h0
        clear h0 hsn hjl hk hih hX hx0 q0 q1 q2 q3 hxin hkw hl hne
        go_wp2_with fail
        refine HIH.out.mono ?_
        rintro e w1 ⟨c, rfl, hc, hk1⟩
        have hcs : c.size = X.length := by rw [size_list, hc]
        have e0 : (b ++ (⟨#[44, 32]⟩ : ByteArray)).size = b.size + 2 := by rw [ByteArray.size_append]; rfl
        have z1 : (b ++ (⟨#[44, 32]⟩ : ByteArray)).size + c.size ≤ 9223372036854775807 := by omega
        have e1 : (b ++ (⟨#[44, 32]⟩ : ByteArray) ++ c).size ≤ 1000000 := by rw [ByteArray.size_append]; omega
        have E1 := Lib.hid e1
        have HC := Lib.hid hc
        have HK1 := Lib.hid (kk HK.out hk1)
        clear hk1 hc e1 e0 hcs r0 r1 r2 r3 b0 b1 b2 b3
        go_wp2_with fail
        go_roundw
        case rel => exact ⟨_, j + 1, by omega, Lib.hid (by rw [app_list, app_list, HC.out, HSN.out]), E1.out, rfl, by go_num, HK1.out⟩
        case measure => simp [intOf]; omega
    · have hjj : j = l.length := by omega
      subst hjj
      have z1 : (⟨#[40]⟩ : ByteArray).size + b.size ≤ 9223372036854775807 := by show 1 + b.size ≤ _; omega
      have e1 : ((⟨#[40]⟩ : ByteArray) ++ b).size = 1 + b.size := by rw [ByteArray.size_append]; rfl
      have z2 : ((⟨#[40]⟩ : ByteArray) ++ b).size + (⟨#[41]⟩ : ByteArray).size ≤ 9223372036854775807 := by rw [e1]; show 1 + b.size + 1 ≤ _; omega
      have HK := Lib.hid (kk (ka _ _) hk)
      clear e1 hk
      go_wp2_with fail
      go_ret
      refine ⟨_, rfl, ?_, HK.out⟩
      rw [app_list, app_list, hl.out, List.take_of_length_le (Nat.le_refl _)]
      rfl

set_option maxRecDepth 100000 in
set_option maxHeartbeats 4000000 in
theorem writeR_tag (n : Int) (s : ByteArray) (a : Option Addr) (cap : Nat) (x : V) (w : World) (hin : (V.mk 3 n s a cap [x]).In w w.heap.size) (hn : I64 n) (tb : Tb w w.heap.size) (hi : (Lib.itoa n).length ≤ 1000000) (hx : x.txt.length ≤ 1000000)
    (ih : ∀ w1 : World, Kp w w1 → Calls Tryz.prog 69 #[.agg #[.int .i64 x.k, .int .i64 x.n, .string x.s, .slice x.a x.l.length x.cap]] w1 (Str w1 x.txt)) :
    Calls Tryz.prog 69 #[.agg #[.int .i64 3, .int .i64 n, .string s, .slice a 1 cap]] w (Str w (35 :: Lib.itoa n ++ 32 :: x.txt)) := by
  obtain ⟨p0, off, rfl, hp0, q0, q1, q2, q3, hxin⟩ := V.atPart hin (j := 0) (x := x) rfl
  simp only [Nat.zero_mul, Nat.add_zero] at q0 q1 q2 q3
  have F := fun (w1 : World) (h : Kp w w1) => figuresR n hn w1 (tb.keep h h.size)
  generalize x.txt = X at *
  generalize x.k = xk at *
  generalize x.n = xn at *
  generalize x.s = xs at *
  generalize x.a = xa at *
  generalize x.l.length = xl at *
  generalize x.cap = xc at *
  generalize Lib.itoa n = I at *
  have HF := Lib.hid F
  have HIH := Lib.hid ih
  clear F ih tb hn hin hxin
  go_enter Tryz.func69, Tryz.ntmps69
  go_wp2_with fail
  have b0 : (w.alloc (.cells #[.int .i64 3, .int .i64 n, .string s, .slice (some ⟨p0, off, none⟩) 1 cap] 24)).cell? ⟨w.heap.size, 1, none⟩ = some (.int .i64 n) := cellOf (blockHere rfl) rfl
  have b3 : (w.alloc (.cells #[.int .i64 3, .int .i64 n, .string s, .slice (some ⟨p0, off, none⟩) 1 cap] 24)).cell? ⟨w.heap.size, 3, none⟩ = some (.slice (some ⟨p0, off, none⟩) 1 cap) := cellOf (blockHere rfl) rfl
  have hka := ka w (.cells #[.int .i64 3, .int .i64 n, .string s, .slice (some ⟨p0, off, none⟩) 1 cap] 24)
  have r0 := kc hka q0
  have r1 := kc hka q1
  have r2 := kc hka q2
  have r3 := kc hka q3
  generalize w.alloc (.cells #[.int .i64 3, .int .i64 n, .string s, .slice (some ⟨p0, off, none⟩) 1 cap] 24) = W at *
  have HKA := Lib.hid hka
  clear q0 q1 q2 q3 hka
  go_region_held3 (fun w' => w'.cell? ⟨w.heap.size, 1, none⟩ = some (.int .i64 n) ∧ w'.cell? ⟨w.heap.size, 3, none⟩ = some (.slice (some ⟨p0, off, none⟩) 1 cap) ∧ w'.cell? ⟨p0, off, none⟩ = some (.int .i64 xk) ∧ w'.cell? ⟨p0, off + 1, none⟩ = some (.int .i64 xn) ∧ w'.cell? ⟨p0, off + 2, none⟩ = some (.string xs) ∧ w'.cell? ⟨p0, off + 3, none⟩ = some (.slice xa xl xc) ∧ Kp W w')
    (first
      | exact ⟨b0, b3, r0, r1, r2, r3, kpD⟩
      | (go_split_ands; exact ⟨kc hk ‹_›, kc hk ‹_›, kc hk ‹_›, kc hk ‹_›, kc hk ‹_›, kc hk ‹_›, kk ‹_› hk⟩))
    (first
      | (go_at_call 108; refine (HF.out _ (kk HKA.out (by first | assumption | exact kpD | (go_split_ands; assumption)))).mono ?_; rintro e wa ⟨cf, rfl, hcf, hk⟩; have hsf : cf.size ≤ 1000000 := by rw [size_list, hcf]; exact hi
         have z1 : ¬ 9223372036854775807 < 1 + cf.size := by omega
         have z2 : ¬ 9223372036854775807 < 1 + cf.size + 1 := by omega
         have z4 : 1 + cf.size + 1 ≤ 1000002 := by omega
         have HCF := Lib.hid hcf
         clear hcf)
      | (go_at_call 69; refine (HIH.out _ (kk HKA.out (by first | assumption | exact kpD | (go_split_ands; assumption)))).mono ?_; rintro e wa ⟨cw, rfl, hcw, hk⟩; have hsw : cw.size ≤ 1000000 := by rw [size_list, hcw]; exact hx
         have z3 : ∀ m : Nat, m ≤ 1000002 → ¬ 9223372036854775807 < m + cw.size := fun m hm => by omega
         have HCW := Lib.hid hcw
         clear hcw))
  go_split_ands
  rename_i hKf
  have HKf := Lib.hid (kk HKA.out hKf)
  clear hKf z1 z2 z3 z4
  go_wp2_with fail
  go_ret
  refine ⟨_, rfl, ?_, HKf.out⟩
  rw [app_list, app_list, app_list, HCF.out, HCW.out]
  simp

theorem I64.of_sh3 {n : Int} (h : 0 ≤ n ∧ n < 8) : I64 n := by unfold I64; omega

/-- The specification's text of a value. -/
theorem writeR : ∀ (N : Nat) (v : V) (d : Nat) (w : World), v.rank ≤ N → v.sh d = true → v.In w w.heap.size → Tb w w.heap.size → v.txt.length ≤ 1000000 →
    Calls Tryz.prog 69 #[.agg #[.int .i64 v.k, .int .i64 v.n, .string v.s, .slice v.a v.l.length v.cap]] w (Str w v.txt) := by
  intro N
  induction N with
  | zero => intro v d w h; have := v.rank_pos; omega
  | succ N ih =>
    intro v d w hN hsh hin tb hx
    cases v with
    | mk k n s a cap l =>
    cases d with
    | zero => simp [V.sh] at hsh
    | succ d =>
    simp [V.sh] at hsh
    obtain ⟨hf, hp⟩ := hsh
    show Calls Tryz.prog 69 #[.agg #[.int .i64 k, .int .i64 n, .string s, .slice a l.length cap]] w _
    by_cases k1 : k = 1
    · subst k1
      have e : (V.mk 1 n s a cap l).txt = 34 :: esc s.data.toList ++ [34] := by simp [V.txt]
      rw [e]
      simp [fitsB, textB] at hf
      exact writeR_text n s a l.length cap w (by omega)
    by_cases k2 : k = 2
    · subst k2
      have e : (V.mk 2 n s a cap l).txt = 40 :: V.txtL l ++ [41] := by simp [V.txt]
      rw [e] at hx ⊢
      have hxl : (V.txtL l).length ≤ 1000000 := by simp at hx; omega
      refine writeR_tuple n s a cap l w hin hxl fun j x hj w1 hk => ?_
      obtain ⟨b0, off, -, -, -, -, -, -, hxin⟩ := V.atPart hin hj
      have hrk := V.rank_part (v := .mk 2 n s a cap l) (j := j) (x := x) hj
      refine ih x d w1 (by omega) (shLK_at hp hj) (hxin.keep hk.size hk) (tb.keep hk hk.size) ?_
      have h9 : l.take (j + 1) = l.take j ++ [x] := by
        rw [List.take_add_one, hj]; rfl
      have hjl := joinF_len V.txt [44, 32] l (j + 1)
      rw [← V.txtL_join l, h9, joinF_snoc] at hjl
      split at hjl
      · omega
      · simp at hjl; omega
    by_cases k3 : k = 3
    · subst k3
      simp [fitsB, taggedB] at hf
      obtain ⟨h1, h2, -, h4⟩ := hf
      match l, h4 with
      | [x], _ =>
      have e : (V.mk 3 n s a cap [x]).txt = 35 :: Lib.itoa n ++ 32 :: x.txt := by simp [V.txt, V.txtH]
      rw [e] at hx ⊢
      obtain ⟨b0, off, -, -, -, -, -, -, hxin⟩ := V.atPart hin (j := 0) (x := x) rfl
      have hrk := V.rank_part (v := .mk 3 n s a cap [x]) (j := 0) (x := x) rfl
      have hx1 : (Lib.itoa n).length ≤ 1000000 := by simp at hx; omega
      have hx2 : x.txt.length ≤ 1000000 := by simp at hx; omega
      exact writeR_tag n s a cap x w hin (I64.of_sh3 ⟨h1, h2⟩) tb hx1 hx2 fun w1 hk => ih x d w1 (by omega) (shLK_at hp (j := 0) rfl) (hxin.keep hk.size hk) (tb.keep hk hk.size) hx2
    by_cases k0 : k = 0
    · subst k0
      have e : (V.mk 0 n s a cap l).txt = Lib.itoa n := by simp [V.txt]
      rw [e]
      rw [V.In_def] at hin
      exact writeR_word n s a l.length cap w hin.2.1 tb
    · simp [fitsB, k0, k1, k2, k3] at hf

end Go.Proofs.YtkfmgafgokpjhaaGreatDoor

/-
  Text OF ANY VALUE, THE PROGRAM's.
-/
namespace Go.Proofs.YtkfmgafgokpjhaaGreatDoor
open Go.RowKit

set_option maxRecDepth 100000 in
set_option maxHeartbeats 2000000 in
theorem writtenText_word (n : Int) (s : ByteArray) (a : Option Addr) (cap : Nat) (l : List V) (w : World) (E : List UInt8) (hin : (V.mk 0 n s a cap l).In w w.heap.size) (hc : ¬ (V.mk 0 n s a cap l).cnt = 0) (hne : E ≠ [])
    (D : ∀ (w1 : World) (S b : Nat), Kp w w1 → w.heap.size ≤ S → PtrAt w1 b 0 0 n s (.slice a l.length cap) → b < S → Sink w1 S [] →
      Calls Tryz.prog 186 #[.agg #[.pointer (some ⟨b, 0, none⟩)], takeF S] w1 fun e w' => e = .returned (.tuple #[]) ∧ Sink w' S E ∧ Sk S w1 w') :
    Calls Tryz.prog 68 #[.agg #[.int .i64 0, .int .i64 n, .string s, .slice a l.length cap], .func (.methodOf 93 "deltaworks/value.text") #[] #[]] w fun e w' =>
      e = .returned (.tuple #[.string ⟨E.toArray⟩, .int .i64 0]) ∧ Kp w w' := by
  have C := fun w1 (h : Kp w w1) => checkV 0 n s a cap l w1 (hin.keep h.size h)
  rw [bad1 hc] at C
  have CC := Lib.hid C
  have DD := Lib.hid D
  have HNE := Lib.hid hne
  clear C D hin hc hne
  have hm := mWordText
  go_enter Tryz.func68, Tryz.ntmps68
  go_wp2_with fail
  refine (CC.out _ (ka _ _)).mono ?_
  rintro e w1 ⟨rfl, hk⟩
  obtain ⟨b0, b1, b2, b3, hz⟩ := box4 hk
  have HK := Lib.hid (kk (ka _ _) hk)
  have HP := Lib.hid (⟨b0, b1, b2, b3⟩ : PtrAt w1 w.heap.size 0 0 n s (.slice a l.length cap))
  clear hk b0 b1 b2 b3
  go_wp2_with fail
  refine (shapeOf_any _ w.heap.size 0 0 n s (.slice a l.length cap) (HP.out.keep hz (ka _ _))).mono ?_
  rintro e w2 ⟨rfl, rfl⟩
  rw [show shapeT 0 = 147 from rfl]
  go_wp2_with fail
  refine (DD.out _ w1.heap.size w.heap.size (kk HK.out (ka _ _)) (by omega) (HP.out.keep hz (ka _ _)) hz ⟨.slice none 0 0, blockHere rfl, World.ownsRow_nil _ _ _ _⟩).mono ?_
  rintro e w3 ⟨rfl, hs3, hk3⟩
  obtain ⟨g, cap3, hc3, hcv⟩ := hs3.out HNE.out
  have HK3 := Lib.hid (HK.out.trans ((Below.alloc (Below.refl _ _) (by omega) _).trans ((hk3.below (S := w1.heap.size) (xs := []) ⟨.slice none 0 0, blockHere rfl, World.ownsRow_nil _ _ _ _⟩).mono (by omega))))
  clear hs3 hk3
  go_wp2_with fail
  go_ret2
  exact ⟨rfl, HK3.out⟩

set_option maxRecDepth 100000 in
set_option maxHeartbeats 2000000 in
theorem writtenText_let (n : Int) (s : ByteArray) (a : Option Addr) (cap : Nat) (l : List V) (w : World) (E : List UInt8) (hin : (V.mk 1 n s a cap l).In w w.heap.size) (hc : ¬ (V.mk 1 n s a cap l).cnt = 0) (hne : E ≠ [])
    (D : ∀ (w1 : World) (S b : Nat), Kp w w1 → w.heap.size ≤ S → PtrAt w1 b 0 1 n s (.slice a l.length cap) → b < S → Sink w1 S [] →
      Calls Tryz.prog 178 #[.agg #[.pointer (some ⟨b, 0, none⟩)], takeF S] w1 fun e w' => e = .returned (.tuple #[]) ∧ Sink w' S E ∧ Sk S w1 w') :
    Calls Tryz.prog 68 #[.agg #[.int .i64 1, .int .i64 n, .string s, .slice a l.length cap], .func (.methodOf 93 "deltaworks/value.text") #[] #[]] w fun e w' =>
      e = .returned (.tuple #[.string ⟨E.toArray⟩, .int .i64 0]) ∧ Kp w w' := by
  have C := fun w1 (h : Kp w w1) => checkV 1 n s a cap l w1 (hin.keep h.size h)
  rw [bad1 hc] at C
  have CC := Lib.hid C
  have DD := Lib.hid D
  have HNE := Lib.hid hne
  clear C D hin hc hne
  have hm := mLettersText
  go_enter Tryz.func68, Tryz.ntmps68
  go_wp2_with fail
  refine (CC.out _ (ka _ _)).mono ?_
  rintro e w1 ⟨rfl, hk⟩
  obtain ⟨b0, b1, b2, b3, hz⟩ := box4 hk
  have HK := Lib.hid (kk (ka _ _) hk)
  have HP := Lib.hid (⟨b0, b1, b2, b3⟩ : PtrAt w1 w.heap.size 0 1 n s (.slice a l.length cap))
  clear hk b0 b1 b2 b3
  go_wp2_with fail
  refine (shapeOf_any _ w.heap.size 0 1 n s (.slice a l.length cap) (HP.out.keep hz (ka _ _))).mono ?_
  rintro e w2 ⟨rfl, rfl⟩
  rw [show shapeT 1 = 145 from rfl]
  go_wp2_with fail
  refine (DD.out _ w1.heap.size w.heap.size (kk HK.out (ka _ _)) (by omega) (HP.out.keep hz (ka _ _)) hz ⟨.slice none 0 0, blockHere rfl, World.ownsRow_nil _ _ _ _⟩).mono ?_
  rintro e w3 ⟨rfl, hs3, hk3⟩
  obtain ⟨g, cap3, hc3, hcv⟩ := hs3.out HNE.out
  have HK3 := Lib.hid (HK.out.trans ((Below.alloc (Below.refl _ _) (by omega) _).trans ((hk3.below (S := w1.heap.size) (xs := []) ⟨.slice none 0 0, blockHere rfl, World.ownsRow_nil _ _ _ _⟩).mono (by omega))))
  clear hs3 hk3
  go_wp2_with fail
  go_ret2
  exact ⟨rfl, HK3.out⟩

set_option maxRecDepth 100000 in
set_option maxHeartbeats 2000000 in
theorem writtenText_tup (n : Int) (s : ByteArray) (a : Option Addr) (cap : Nat) (l : List V) (w : World) (E : List UInt8) (hin : (V.mk 2 n s a cap l).In w w.heap.size) (hc : ¬ (V.mk 2 n s a cap l).cnt = 0) (hne : E ≠ [])
    (D : ∀ (w1 : World) (S b : Nat), Kp w w1 → w.heap.size ≤ S → PtrAt w1 b 0 2 n s (.slice a l.length cap) → b < S → Sink w1 S [] →
      Calls Tryz.prog 180 #[.agg #[.pointer (some ⟨b, 0, none⟩)], takeF S] w1 fun e w' => e = .returned (.tuple #[]) ∧ Sink w' S E ∧ Sk S w1 w') :
    Calls Tryz.prog 68 #[.agg #[.int .i64 2, .int .i64 n, .string s, .slice a l.length cap], .func (.methodOf 93 "deltaworks/value.text") #[] #[]] w fun e w' =>
      e = .returned (.tuple #[.string ⟨E.toArray⟩, .int .i64 0]) ∧ Kp w w' := by
  have C := fun w1 (h : Kp w w1) => checkV 2 n s a cap l w1 (hin.keep h.size h)
  rw [bad1 hc] at C
  have CC := Lib.hid C
  have DD := Lib.hid D
  have HNE := Lib.hid hne
  clear C D hin hc hne
  have hm := mTupleText
  go_enter Tryz.func68, Tryz.ntmps68
  go_wp2_with fail
  refine (CC.out _ (ka _ _)).mono ?_
  rintro e w1 ⟨rfl, hk⟩
  obtain ⟨b0, b1, b2, b3, hz⟩ := box4 hk
  have HK := Lib.hid (kk (ka _ _) hk)
  have HP := Lib.hid (⟨b0, b1, b2, b3⟩ : PtrAt w1 w.heap.size 0 2 n s (.slice a l.length cap))
  clear hk b0 b1 b2 b3
  go_wp2_with fail
  refine (shapeOf_any _ w.heap.size 0 2 n s (.slice a l.length cap) (HP.out.keep hz (ka _ _))).mono ?_
  rintro e w2 ⟨rfl, rfl⟩
  rw [show shapeT 2 = 146 from rfl]
  go_wp2_with fail
  refine (DD.out _ w1.heap.size w.heap.size (kk HK.out (ka _ _)) (by omega) (HP.out.keep hz (ka _ _)) hz ⟨.slice none 0 0, blockHere rfl, World.ownsRow_nil _ _ _ _⟩).mono ?_
  rintro e w3 ⟨rfl, hs3, hk3⟩
  obtain ⟨g, cap3, hc3, hcv⟩ := hs3.out HNE.out
  have HK3 := Lib.hid (HK.out.trans ((Below.alloc (Below.refl _ _) (by omega) _).trans ((hk3.below (S := w1.heap.size) (xs := []) ⟨.slice none 0 0, blockHere rfl, World.ownsRow_nil _ _ _ _⟩).mono (by omega))))
  clear hs3 hk3
  go_wp2_with fail
  go_ret2
  exact ⟨rfl, HK3.out⟩

set_option maxRecDepth 100000 in
set_option maxHeartbeats 2000000 in
theorem writtenText_tagg (n : Int) (s : ByteArray) (a : Option Addr) (cap : Nat) (l : List V) (w : World) (E : List UInt8) (hin : (V.mk 3 n s a cap l).In w w.heap.size) (hc : ¬ (V.mk 3 n s a cap l).cnt = 0) (hne : E ≠ [])
    (D : ∀ (w1 : World) (S b : Nat), Kp w w1 → w.heap.size ≤ S → PtrAt w1 b 0 3 n s (.slice a l.length cap) → b < S → Sink w1 S [] →
      Calls Tryz.prog 188 #[.agg #[.pointer (some ⟨b, 0, none⟩)], takeF S] w1 fun e w' => e = .returned (.tuple #[]) ∧ Sink w' S E ∧ Sk S w1 w') :
    Calls Tryz.prog 68 #[.agg #[.int .i64 3, .int .i64 n, .string s, .slice a l.length cap], .func (.methodOf 93 "deltaworks/value.text") #[] #[]] w fun e w' =>
      e = .returned (.tuple #[.string ⟨E.toArray⟩, .int .i64 0]) ∧ Kp w w' := by
  have C := fun w1 (h : Kp w w1) => checkV 3 n s a cap l w1 (hin.keep h.size h)
  rw [bad1 hc] at C
  have CC := Lib.hid C
  have DD := Lib.hid D
  have HNE := Lib.hid hne
  clear C D hin hc hne
  have hm := mTaggedText
  go_enter Tryz.func68, Tryz.ntmps68
  go_wp2_with fail
  refine (CC.out _ (ka _ _)).mono ?_
  rintro e w1 ⟨rfl, hk⟩
  obtain ⟨b0, b1, b2, b3, hz⟩ := box4 hk
  have HK := Lib.hid (kk (ka _ _) hk)
  have HP := Lib.hid (⟨b0, b1, b2, b3⟩ : PtrAt w1 w.heap.size 0 3 n s (.slice a l.length cap))
  clear hk b0 b1 b2 b3
  go_wp2_with fail
  refine (shapeOf_any _ w.heap.size 0 3 n s (.slice a l.length cap) (HP.out.keep hz (ka _ _))).mono ?_
  rintro e w2 ⟨rfl, rfl⟩
  rw [show shapeT 3 = 149 from rfl]
  go_wp2_with fail
  refine (DD.out _ w1.heap.size w.heap.size (kk HK.out (ka _ _)) (by omega) (HP.out.keep hz (ka _ _)) hz ⟨.slice none 0 0, blockHere rfl, World.ownsRow_nil _ _ _ _⟩).mono ?_
  rintro e w3 ⟨rfl, hs3, hk3⟩
  obtain ⟨g, cap3, hc3, hcv⟩ := hs3.out HNE.out
  have HK3 := Lib.hid (HK.out.trans ((Below.alloc (Below.refl _ _) (by omega) _).trans ((hk3.below (S := w1.heap.size) (xs := []) ⟨.slice none 0 0, blockHere rfl, World.ownsRow_nil _ _ _ _⟩).mono (by omega))))
  clear hs3 hk3
  go_wp2_with fail
  go_ret2
  exact ⟨rfl, HK3.out⟩


theorem itoa_short (n : Int) (h : -2147483648 ≤ n ∧ n ≤ 2147483647) : (Lib.itoa n).length ≤ 21 := Lib.itoa_length_le n (by omega) (by omega)

mutual
theorem V.txt_len : ∀ (v : V) (d : Nat), v.sh d = true → v.txt.length ≤ 208 * v.rank
  | .mk k n s a c l, d, h => by
    cases d with
    | zero => simp [V.sh] at h
    | succ d =>
    simp [V.sh] at h
    obtain ⟨hf, hl⟩ := h
    have ih := V.txtL_len l d hl
    have ih2 := V.txtH_len l
    by_cases k1 : k = 1
    · subst k1
      simp [fitsB, textB] at hf
      obtain ⟨-, -, h3, -⟩ := hf
      have := esc_len s.data.toList
      have e : s.data.toList.length = s.size := rfl
      simp [V.txt, V.rank]; omega
    by_cases k2 : k = 2
    · subst k2
      simp [fitsB, tupleB] at hf
      simp [V.txt, V.rank]; omega
    by_cases k3 : k = 3
    · subst k3
      simp [fitsB, taggedB] at hf
      have := itoa_short n (by omega)
      simp [V.txt, V.rank]; omega
    · have : -2147483648 ≤ n ∧ n ≤ 2147483647 := by
        by_cases k0 : k = 0
        · subst k0; simp [fitsB, wordB] at hf; omega
        · simp [fitsB, k0, k1, k2, k3] at hf
      have := itoa_short n (by omega)
      simp [V.txt, V.rank, k1, k2, k3]; omega
theorem V.txtL_len : ∀ (l : List V) (d : Nat), V.shL l d = true → (V.txtL l).length ≤ 208 * V.rank.ranks l + 2 * l.length
  | [], _, _ => by simp [V.txtL]
  | [x], d, h => by
    simp [V.shL] at h
    have h1 := V.txt_len x d h
    simp [V.txtL, V.rank.ranks]; omega
  | x :: y :: ys, d, h => by
    have h' := h
    simp only [V.shL, Bool.and_eq_true] at h
    have h1 := V.txt_len x d h.1
    have h2 := V.txtL_len (y :: ys) d (by simp only [V.shL, Bool.and_eq_true]; exact h.2)
    rw [V.txtL, V.rank.ranks]
    simp only [List.length_append, List.length_cons, List.length_nil] at h2 ⊢
    omega
theorem V.txtH_len : ∀ (l : List V), (V.txtH l).length ≤ (V.txtL l).length
  | [] => by simp [V.txtH]
  | [x] => by simp [V.txtH, V.txtL]
  | x :: y :: ys => by simp [V.txtH, V.txtL]
end

end Go.Proofs.YtkfmgafgokpjhaaGreatDoor

/-
  PLAIN MATHEMATICS: WHAT IS READ OF THE TEXT OF A VALUE.
-/
namespace Go.Proofs.YtkfmgafgokpjhaaGreatDoor
open Go.RowKit

/-- No byte of a number comes next. -/
def StopL (r : List UInt8) : Prop := ∀ c, r.head? = some c → numC c = false

theorem stop_cons {c : UInt8} {r : List UInt8} (h : numC c = false) : StopL (c :: r) := by
  intro d hd
  simp at hd
  subst hd
  exact h
theorem stop_nil : StopL [] := by intro c h; simp at h

theorem takeWhile_stop : ∀ (a r : List UInt8), (∀ c ∈ a, numC c = true) → StopL r → (a ++ r).takeWhile numC = a ∧ (a ++ r).dropWhile numC = r
  | [], r, _, h => by
    cases r with
    | nil => simp
    | cons c r =>
      have := h c rfl
      simp [this]
  | c :: a, r, ha, h => by
    have hc := ha c (by simp)
    have := takeWhile_stop a r (fun d hd => ha d (by simp [hd])) h
    simp [hc, this]

theorem pN_itoa (n : Int) (r : List UInt8) (h : -2147483648 ≤ n ∧ n ≤ 2147483647) (hr : StopL r) : pN (Lib.itoa n ++ r) = some (n, r) := by
  obtain ⟨h1, h2⟩ := takeWhile_stop (Lib.itoa n) r (itoa_num n) hr
  unfold pN
  rw [h1, h2, atoi_itoa n h]
  simp

theorem pQ_text : ∀ (l r : List UInt8), pQ (esc l ++ 34 :: r) = some (l, r)
  | [], r => rfl
  | c :: l, r => by
    have ih := pQ_text l r
    have e : esc (c :: l) = escB c ++ esc l := by simp [esc]
    rw [e]
    unfold escB
    by_cases h : c = 34 ∨ c = 92
    · rw [if_pos h]
      simp only [List.cons_append, List.nil_append]
      rw [pQ_esc h, ih]; rfl
    · rw [if_neg h]
      simp only [List.cons_append, List.nil_append]
      rw [pQ_go (fun e => h (.inl e)) (fun e => h (.inr e)), ih]; rfl

theorem pl_inv {j : Nat} {l : List UInt8} {o : Option (List V × List UInt8)} (h : PL j l o) :
    (∃ r, l = 41 :: r ∧ o = some ([], r)) ∨ (l.head? ≠ some 41 ∧ j = 8 ∧ o = none) ∨
    (l.head? ≠ some 41 ∧ j = 0 ∧ ((PV l none ∧ o = none) ∨ ∃ x r o', PV l (some (x, r)) ∧ PL 1 r o' ∧ o = o'.map fun y => (x :: y.1, y.2))) ∨
    (l.head? ≠ some 41 ∧ 0 < j ∧ j < 8 ∧ ¬ [44, 32] <+: l ∧ o = none) ∨
    (∃ r, l = 44 :: 32 :: r ∧ 0 < j ∧ j < 8 ∧ ((PV r none ∧ o = none) ∨ ∃ x r1 o', PV r (some (x, r1)) ∧ PL (j + 1) r1 o' ∧ o = o'.map fun y => (x :: y.1, y.2))) := by
  cases h with
  | done => exact .inl ⟨_, rfl, rfl⟩
  | wide h1 h2 => exact .inr (.inl ⟨h1, h2, rfl⟩)
  | first0 h1 h2 => exact .inr (.inr (.inl ⟨h1, rfl, .inl ⟨h2, rfl⟩⟩))
  | first1 h1 h2 h3 => exact .inr (.inr (.inl ⟨h1, rfl, .inr ⟨_, _, _, h2, h3, rfl⟩⟩))
  | next0 h1 h2 h3 h4 => exact .inr (.inr (.inr (.inl ⟨h1, h2, h3, h4, rfl⟩)))
  | next1 h1 h2 h3 => exact .inr (.inr (.inr (.inr ⟨_, rfl, h1, h2, .inl ⟨h3, rfl⟩⟩)))
  | next2 h1 h2 h3 h4 => exact .inr (.inr (.inr (.inr ⟨_, rfl, h1, h2, .inr ⟨_, _, _, h3, h4, rfl⟩⟩)))

theorem pv_inv {l : List UInt8} {o : Option (V × List UInt8)} (h : PV l o) :
    (∃ r, l = 34 :: r ∧ o = (pQ r).map fun x => (.mk 1 0 ⟨x.1.toArray⟩ none 0 [], x.2)) ∨
    (∃ r o', l = 40 :: r ∧ PL 0 r o' ∧ o = o'.map fun x => (.mk 2 0 ⟨#[]⟩ none 0 x.1, x.2)) ∨
    (∃ r, l = 35 :: r ∧ ((pN r = none ∧ o = none) ∨ (∃ n r1, pN r = some (n, r1) ∧ r1.head? ≠ some 32 ∧ o = none) ∨ ∃ n r2 o', pN r = some (n, 32 :: r2) ∧ PV r2 o' ∧ o = o'.map fun x => (.mk 3 n ⟨#[]⟩ none 0 [x.1], x.2))) ∨
    (l.head? ≠ some 34 ∧ l.head? ≠ some 40 ∧ l.head? ≠ some 35 ∧ o = (pN l).map fun x => (.mk 0 x.1 ⟨#[]⟩ none 0 [], x.2)) := by
  cases h with
  | quoted => exact .inl ⟨_, rfl, rfl⟩
  | tuple h => exact .inr (.inl ⟨_, _, rfl, h, rfl⟩)
  | tag0 h => exact .inr (.inr (.inl ⟨_, rfl, .inl ⟨h, rfl⟩⟩))
  | tag1 h h2 => exact .inr (.inr (.inl ⟨_, rfl, .inr (.inl ⟨_, _, h, h2, rfl⟩)⟩))
  | tag2 h h2 => exact .inr (.inr (.inl ⟨_, rfl, .inr (.inr ⟨_, _, _, h, h2, rfl⟩)⟩))
  | word h1 h2 h3 => exact .inr (.inr (.inr ⟨h1, h2, h3, rfl⟩))

/-- The texts of parts, each with a comma ahead. -/
def tailL : List V → List UInt8
  | [] => []
  | x :: xs => 44 :: 32 :: (x.txt ++ tailL xs)

theorem txtL_tail : ∀ (x : V) (xs : List V), V.txtL (x :: xs) = x.txt ++ tailL xs
  | x, [] => by simp [V.txtL, tailL]
  | x, y :: ys => by
    have := txtL_tail y ys
    rw [V.txtL, this, tailL]
    simp

/-- Its text is read as a value that is the same. -/
def Txt (y : V) : Prop := ∀ (r : List UInt8), StopL r → ∀ o, PV (y.txt ++ r) o → ∃ y', o = some (y', r) ∧ y'.same y = true

theorem pl_tail : ∀ (ys : List V) (j : Nat), 0 < j → j + ys.length ≤ 8 → (∀ y ∈ ys, Txt y) → ∀ (r : List UInt8) o, PL j (tailL ys ++ 41 :: r) o → ∃ ys', o = some (ys', r) ∧ V.sameL ys' ys = true
  | [], j, hj, _, _, r, o, h => by
    rcases pl_inv h with ⟨r', h1, rfl⟩ | ⟨h1, -⟩ | ⟨h1, -⟩ | ⟨h1, -⟩ | ⟨r', h1, -⟩
    · simp only [tailL, List.nil_append, List.cons.injEq, true_and] at h1
      exact ⟨[], by rw [h1], by simp [V.sameL]⟩
    · exact absurd rfl h1
    · exact absurd rfl h1
    · exact absurd rfl h1
    · simp [tailL] at h1
  | y :: ys, j, hj, hl, hy, r, o, h => by
    have hl' : j + (ys.length + 1) ≤ 8 := hl
    rcases pl_inv h with ⟨r', h1, rfl⟩ | ⟨h1, h2, -⟩ | ⟨h1, h2, -⟩ | ⟨h1, h2, h3, h4, -⟩ | ⟨r', h1, -, -, h2⟩
    · simp [tailL] at h1
    · omega
    · omega
    · exact absurd (by simp [tailL]) h4
    · simp only [tailL, List.cons_append, List.cons.injEq, true_and, List.append_assoc] at h1
      subst h1
      have hst : StopL (tailL ys ++ 41 :: r) := by
        cases ys with
        | nil => exact stop_cons rfl
        | cons z zs => exact stop_cons rfl
      rcases h2 with ⟨h2, -⟩ | ⟨x, r1, o', h2, h3, rfl⟩
      · obtain ⟨y', h, -⟩ := hy y (by simp) _ hst _ h2
        cases h
      · obtain ⟨y', h, hs⟩ := hy y (by simp) _ hst _ h2
        injection h with h
        injection h with h4 h5
        subst h4 h5
        obtain ⟨ys', rfl, hs'⟩ := pl_tail ys (j + 1) (by omega) (by omega) (fun z hz => hy z (by simp [hz])) r o' h3
        exact ⟨x :: ys', rfl, by simp [V.sameL, hs, hs']⟩

theorem pl_first (ys : List V) (hl : ys.length ≤ 8) (hh : ∀ y ∈ ys, ∃ c t, y.txt = c :: t ∧ c ≠ 41) (hy : ∀ y ∈ ys, Txt y) (r : List UInt8) (o : Option (List V × List UInt8)) (h : PL 0 (V.txtL ys ++ 41 :: r) o) : ∃ ys', o = some (ys', r) ∧ V.sameL ys' ys = true := by
  cases ys with
  | nil =>
    rcases pl_inv h with ⟨r', h1, rfl⟩ | ⟨h1, -⟩ | ⟨h1, -⟩ | ⟨h1, -⟩ | ⟨r', h1, -⟩
    · simp only [V.txtL, List.nil_append, List.cons.injEq, true_and] at h1
      exact ⟨[], by rw [h1], by simp [V.sameL]⟩
    · exact absurd rfl h1
    · exact absurd rfl h1
    · exact absurd rfl h1
    · simp [V.txtL] at h1
  | cons y ys =>
    have hl' : ys.length + 1 ≤ 8 := hl
    obtain ⟨c, t, hc, hc41⟩ := hh y (by simp)
    rw [txtL_tail, List.append_assoc] at h
    rcases pl_inv h with ⟨r', h1, rfl⟩ | ⟨h1, h2, -⟩ | ⟨h1, h2, h3⟩ | ⟨h1, h2, h3, h4, -⟩ | ⟨r', h1, h2, -⟩
    · rw [hc] at h1
      simp only [List.cons_append, List.cons.injEq] at h1
      exact absurd h1.1 hc41
    · omega
    · have hst : StopL (tailL ys ++ 41 :: r) := by
        cases ys with
        | nil => exact stop_cons rfl
        | cons z zs => exact stop_cons rfl
      rcases h3 with ⟨h2, -⟩ | ⟨x, r1, o', h2, h3, rfl⟩
      · obtain ⟨y', h, -⟩ := hy y (by simp) _ hst _ h2
        cases h
      · obtain ⟨y', h, hs⟩ := hy y (by simp) _ hst _ h2
        injection h with h
        injection h with h4 h5
        subst h4 h5
        obtain ⟨ys', rfl, hs'⟩ := pl_tail ys 1 (by omega) (by omega) (fun z hz => hy z (by simp [hz])) r o' h3
        exact ⟨x :: ys', rfl, by simp [V.sameL, hs, hs']⟩
    · omega
    · omega

theorem num_ne {c d : UInt8} (h : numC c = true) (hd : numC d = false) : c ≠ d := by
  intro e
  subst e
  rw [h] at hd
  cases hd

theorem txt_head (y : V) (d : Nat) (h : y.sh d = true) : ∃ c t, y.txt = c :: t ∧ c ≠ 41 := by
  cases y with
  | mk k n s a cap l =>
  by_cases k1 : k = 1
  · exact ⟨34, _, by simp [V.txt, k1]; rfl, by decide⟩
  by_cases k2 : k = 2
  · exact ⟨40, _, by simp [V.txt, k2]; rfl, by decide⟩
  by_cases k3 : k = 3
  · exact ⟨35, _, by simp [V.txt, k3]; rfl, by decide⟩
  · obtain ⟨c, t, hc, hn⟩ := itoa_cons n
    exact ⟨c, t, by simp [V.txt, k1, k2, k3, hc], num_ne hn rfl⟩

theorem bare_of {s : ByteArray} (h : s.toList = []) : s.data = #[] := by
  rw [ByteArray.toList_eq] at h
  exact Array.toList_eq_nil_iff.1 h

/-- The text of each value is read as a value that is the same. -/
theorem txt_all : ∀ (N : Nat) (y : V) (d : Nat), y.rank ≤ N → y.sh d = true → Txt y := by
  intro N
  induction N with
  | zero => intro y d h; have := y.rank_pos; omega
  | succ N IH =>
    intro y d hN hsh r hr o h
    cases y with
    | mk k n s a cap l =>
    cases d with
    | zero => simp [V.sh] at hsh
    | succ d =>
    simp [V.sh] at hsh
    obtain ⟨hf, hl⟩ := hsh
    have part : ∀ x ∈ l, Txt x := fun x hx => by
      obtain ⟨j, hj⟩ := List.getElem?_of_mem hx
      have := V.rank_part (v := .mk k n s a cap l) (j := j) (x := x) hj
      exact IH x d (by omega) (shLK_at hl hj)
    by_cases k1 : k = 1
    · subst k1
      simp [fitsB, textB] at hf
      obtain ⟨rfl, rfl, -⟩ := hf
      have e : (V.mk 1 0 s a cap []).txt ++ r = 34 :: (esc s.data.toList ++ 34 :: r) := by simp [V.txt]
      rw [e] at h
      rcases pv_inv h with ⟨r', h1, rfl⟩ | ⟨r', o', h1, -⟩ | ⟨r', h1, -⟩ | ⟨h1, -⟩
      · simp only [List.cons.injEq, true_and] at h1
        subst h1
        rw [pQ_text]
        exact ⟨_, rfl, by simp [V.same, V.sameL, ByteArray.toList_eq]⟩
      · simp at h1
      · simp at h1
      · exact absurd rfl h1
    by_cases k2 : k = 2
    · subst k2
      simp [fitsB, tupleB] at hf
      obtain ⟨rfl, hs, h8⟩ := hf
      have e : (V.mk 2 0 s a cap l).txt ++ r = 40 :: (V.txtL l ++ 41 :: r) := by simp [V.txt]
      rw [e] at h
      rcases pv_inv h with ⟨r', h1, rfl⟩ | ⟨r', o', h1, h2, rfl⟩ | ⟨r', h1, -⟩ | ⟨-, h1, -⟩
      · simp at h1
      · simp only [List.cons.injEq, true_and] at h1
        subst h1
        obtain ⟨ys', rfl, hs'⟩ := pl_first l h8 (fun x hx => by
          obtain ⟨j, hj⟩ := List.getElem?_of_mem hx
          exact txt_head x d (shLK_at hl hj)) part r o' h2
        exact ⟨_, rfl, by simp [V.same, hs', hs, ByteArray.toList_eq]⟩
      · simp at h1
      · exact absurd rfl h1
    by_cases k3 : k = 3
    · subst k3
      simp [fitsB, taggedB] at hf
      obtain ⟨h1, h2, hs, h4⟩ := hf
      match l, h4 with
      | [x], _ =>
      have e : (V.mk 3 n s a cap [x]).txt ++ r = 35 :: (Lib.itoa n ++ (32 :: (x.txt ++ r))) := by simp [V.txt, V.txtH]
      rw [e] at h
      have hpn := pN_itoa n (32 :: (x.txt ++ r)) (by omega) (stop_cons rfl)
      rcases pv_inv h with ⟨r', h1, rfl⟩ | ⟨r', o', h1, -⟩ | ⟨r', h1, h2⟩ | ⟨-, -, h1, -⟩
      · simp at h1
      · simp at h1
      · simp only [List.cons.injEq, true_and] at h1
        subst h1
        rw [hpn] at h2
        rcases h2 with ⟨h2, -⟩ | ⟨n', r1, h2, h3, -⟩ | ⟨n', r2, o', h2, h3, rfl⟩
        · cases h2
        · injection h2 with h2
          injection h2 with h4 h5
          subst h5
          exact absurd rfl h3
        · injection h2 with h2
          injection h2 with h4 h5
          injection h5 with h6 h7
          subst h4 h7
          obtain ⟨y', rfl, hs'⟩ := part x (by simp) r hr o' h3
          exact ⟨_, rfl, by simp [V.same, V.sameL, hs', ByteArray.toList_eq, bare_of hs]⟩
      · exact absurd rfl h1
    · by_cases k0 : k = 0
      · subst k0
        simp [fitsB, wordB] at hf
        obtain ⟨h1, h2, hs, rfl⟩ := hf
        have e : (V.mk 0 n s a cap []).txt = Lib.itoa n := by simp [V.txt]
        rw [e] at h
        obtain ⟨c, t, hc, hnc⟩ := itoa_cons n
        have hpn := pN_itoa n r ⟨h1, h2⟩ hr
        rcases pv_inv h with ⟨r', h3, -⟩ | ⟨r', o', h3, -⟩ | ⟨r', h3, -⟩ | ⟨-, -, -, rfl⟩
        · rw [hc] at h3; simp only [List.cons_append, List.cons.injEq] at h3; exact absurd h3.1 (num_ne hnc rfl)
        · rw [hc] at h3; simp only [List.cons_append, List.cons.injEq] at h3; exact absurd h3.1 (num_ne hnc rfl)
        · rw [hc] at h3; simp only [List.cons_append, List.cons.injEq] at h3; exact absurd h3.1 (num_ne hnc rfl)
        · rw [hpn]
          exact ⟨_, rfl, by simp [V.same, V.sameL, ByteArray.toList_eq, bare_of hs]⟩
      · simp [fitsB, k0, k1, k2, k3] at hf

end Go.Proofs.YtkfmgafgokpjhaaGreatDoor

/-
  Text OF ANY VALID VALUE, THE PROGRAM's; TypeText OF ANY VALID TYPE.
-/
namespace Go.Proofs.YtkfmgafgokpjhaaGreatDoor
open Go.RowKit

theorem fits_num {k n : Int} {s : ByteArray} {m : Nat} (h : fitsB k n s m = true) : -2147483648 ≤ n ∧ n ≤ 2147483647 := by
  by_cases k0 : k = 0
  · subst k0; simp [fitsB, wordB] at h; omega
  by_cases k1 : k = 1
  · subst k1; simp [fitsB, textB] at h; omega
  by_cases k2 : k = 2
  · subst k2; simp [fitsB, tupleB] at h; omega
  by_cases k3 : k = 3
  · subst k3; simp [fitsB, taggedB] at h; omega
  · simp [fitsB, k0, k1, k2, k3] at h

mutual
theorem V.sh_ok : ∀ (x : V) (d : Nat), x.sh d = true → x.ok
  | .mk k n s a c l, d, h => by
    cases d with
    | zero => simp [V.sh] at h
    | succ d =>
      simp [V.sh] at h
      have hn := fits_num h.1
      refine ⟨?_, by unfold I64; omega, ?_, V.shL_ok l d h.2⟩
      · by_cases k0 : k = 0
        · exact .inl k0
        by_cases k1 : k = 1
        · exact .inr (.inl k1)
        by_cases k2 : k = 2
        · exact .inr (.inr (.inl k2))
        by_cases k3 : k = 3
        · exact .inr (.inr (.inr k3))
        · have := h.1; simp [fitsB, k0, k1, k2, k3] at this
      · rintro rfl rfl
        have := h.1
        simp [fitsB, taggedB] at this
theorem V.shL_ok : ∀ (l : List V) (d : Nat), V.shL l d = true → V.okL l
  | [], _, _ => trivial
  | x :: xs, d, h => by
    simp [V.shL] at h
    exact ⟨V.sh_ok x d h.1, V.shL_ok xs d h.2⟩
end

theorem V.txt_ne (v : V) : v.txt ≠ [] := by
  cases v with
  | mk k n s a c l =>
  obtain ⟨b, t, h, -⟩ := itoa_cons n
  simp only [V.txt]
  split
  · simp
  · split
    · simp
    · split
      · simp
      · rw [h]; simp

set_option maxHeartbeats 1000000 in
theorem writtenTextV (k n : Int) (s : ByteArray) (a : Option Addr) (cap : Nat) (l : List V) (w : World) (hin : (V.mk k n s a cap l).In w w.heap.size) (hv : (V.mk k n s a cap l).valid = true) (ht : Tb w w.heap.size) :
    Calls Tryz.prog 68 #[.agg #[.int .i64 k, .int .i64 n, .string s, .slice a l.length cap], .func (.methodOf 93 "deltaworks/value.text") #[] #[]] w fun e w' =>
      e = .returned (.tuple #[.string ⟨(V.mk k n s a cap l).txt.toArray⟩, .int .i64 0]) ∧ Kp w w' := by
  have hc : ¬ (V.mk k n s a cap l).cnt = 0 := fun h => by
    have := (cnt_valid (V.mk k n s a cap l)).1 h
    rw [hv] at this; cases this
  have hsh : (V.mk k n s a cap l).sh 6 = true := by simp [V.valid] at hv; exact hv.1
  have hrk : (V.mk k n s a cap l).rank ≤ 60 := by simp [V.valid] at hv; exact hv.2
  have hlen := V.txt_len _ 6 hsh
  have hb6 : (V.mk k n s a cap l).txt.length ≤ 1000000000000 := by omega
  have K : ∀ (w1 : World) (S b : Nat), Kp w w1 → w.heap.size ≤ S → PtrAt w1 b 0 k n s (.slice a l.length cap) → b < S → Sink w1 S [] → (V.mk k n s a cap l).In w1 S ∧ Tb w1 S := fun w1 S b hk hS hp hb hs => ⟨hin.keep hS hk, ht.keep hk hS⟩
  have hsh2 := hsh
  simp [V.sh] at hsh2
  obtain ⟨hf, hpl⟩ := hsh2
  have hn := fits_num hf
  have part : ∀ (w1 : World) (S b0 off0 : Nat), Tb w1 S → (∀ (j : Nat) (x : V), l[j]? = some x → PtrAt w1 b0 (off0 + j * 4) x.k x.n x.s (.slice x.a x.l.length x.cap) ∧ x.In w1 S) → b0 < S → Sink w1 S [] →
      ∀ (j : Nat) (x : V), l[j]? = some x → ∀ (w2 : World) (xs1 : List UInt8), Sk S w1 w2 → Sink w2 S xs1 → xs1.length + x.txt.length ≤ 1000000000000 →
        Calls Tryz.prog 183 #[.pointer (some ⟨b0, off0 + j * 4, none⟩), takeF S] w2 fun e w' => e = .returned (.tuple #[]) ∧ Sink w' S (xs1 ++ x.txt) ∧ Sk S w2 w' := by
    intro w1 S b0 off0 ht1 hpt hb0 hs j x hj w2 xs1 hk2 hs2 hx1
    have hbl := hk2.below hs
    exact textV _ x w2 S b0 (off0 + j * 4) xs1 (Nat.le_refl _) ((hpt j x hj).2.keep (Nat.le_refl _) hbl) ((hpt j x hj).1.keep hb0 hbl) hb0 (ht1.keep hbl (Nat.le_refl _)) (V.sh_ok _ _ (shLK_at hpl hj)) hs2 hx1
  by_cases k0 : k = 0
  · subst k0
    have e : (V.mk 0 n s a cap l).txt = Lib.itoa n := by simp [V.txt]
    have hne : Lib.itoa n ≠ [] := by obtain ⟨b, t, h, -⟩ := itoa_cons n; rw [h]; simp
    rw [e] at hb6 ⊢
    exact writtenText_word n s a cap l w _ hin hc hne (fun w1 S b hk hS hp hb hs => by simpa using wordText_any w1 S b 0 [] 0 n s _ hs hp (by unfold I64; omega) (K w1 S b hk hS hp hb hs).2 (by simpa using hb6))
  by_cases k1 : k = 1
  · subst k1
    have e : (V.mk 1 n s a cap l).txt = 34 :: esc s.data.toList ++ [34] := by simp [V.txt]
    rw [e] at hb6 ⊢
    exact writtenText_let n s a cap l w _ hin hc (by simp) (fun w1 S b hk hS hp hb hs => by simpa using lettersText_any w1 S b 0 [] 1 n s _ hs hp hb (by simp at hb6 ⊢; omega))
  by_cases k2 : k = 2
  · subst k2
    have e : (V.mk 2 n s a cap l).txt = 40 :: joinF V.txt [44, 32] l ++ [41] := by simp [V.txt, V.txtL_join]
    rw [e] at hb6 ⊢
    refine writtenText_tup n s a cap l w _ hin hc (by simp) (fun w1 S b hk hS hp hb hs => ?_)
    obtain ⟨hin1, ht1⟩ := K w1 S b hk hS hp hb hs
    have hll := V.lenLe hin1
    by_cases hl : l = []
    · simpa using tupleText_any V.txt w1 S b 0 0 0 [] n s a cap l hs hp (fun h => absurd hl h) hll (fun j x hj => by subst hl; simp at hj) (by simp at hb6 ⊢; omega)
    · obtain ⟨b0, off0, ha, hb0, hpt⟩ := V.ptrPart hin1 hl
      simpa using tupleText_any V.txt w1 S b 0 b0 off0 [] n s a cap l hs hp (fun _ => ha) hll (part w1 S b0 off0 ht1 hpt hb0 hs) (by simp at hb6 ⊢; omega)
  by_cases k3 : k = 3
  · subst k3
    simp [fitsB, taggedB] at hf
    obtain ⟨h1, h2, -, h4⟩ := hf
    match l, h4 with
    | [x], _ =>
    have e : (V.mk 3 n s a cap [x]).txt = 35 :: Lib.itoa n ++ 32 :: x.txt := by simp [V.txt, V.txtH]
    rw [e] at hb6 ⊢
    refine writtenText_tagg n s a cap [x] w _ hin hc (by simp) (fun w1 S b hk hS hp hb hs => ?_)
    obtain ⟨hin1, ht1⟩ := K w1 S b hk hS hp hb hs
    obtain ⟨b0, off0, rfl, hb0, hpt⟩ := V.ptrPart hin1 (by simp)
    simpa using taggedText_any w1 S b 0 b0 off0 [] n s _ cap x.txt hs hb hp (by simp) (V.lenLe hin1) (by unfold I64; omega) ht1 (by simpa using part w1 S b0 off0 ht1 hpt hb0 hs 0 x (by simp)) (by simp at hb6 ⊢; omega)
  · simp [fitsB, k0, k1, k2, k3] at hf

set_option maxHeartbeats 1000000 in
/-- Text of a valid value. -/
theorem textOk (x : V) (w : World) (hin : x.In w w.heap.size) (hv : x.valid = true) (ht : Tb w w.heap.size) :
    Calls Tryz.prog 27 #[x.val] w fun e w' => e = .returned (.tuple #[.string ⟨x.txt.toArray⟩, .int .i64 0]) ∧ Kp w w' := by
  cases x with
  | mk k n s a cap l =>
  have C : ∀ w1, Kp w w1 → _ := fun w1 h => writtenTextV k n s a cap l w1 (hin.keep h.size h) hv (ht.keep h h.size)
  rw [V.val_mk]
  generalize (V.mk k n s a cap l).txt = E at C ⊢
  have CC := Lib.hid C
  clear C hin hv ht
  go_enter Tryz.func27, Tryz.ntmps27
  go_wp2_with fail
  refine (CC.out _ (ka _ _)).mono ?_
  rintro e w1 ⟨rfl, hk⟩
  have HK := Lib.hid (kk (ka _ _) hk)
  clear hk
  go_wp2_with fail
  go_ret2
  exact ⟨rfl, HK.out⟩

mutual
theorem T.txt_len : ∀ (v : T) (d : Nat), v.sh d = true → v.txt.length ≤ 30 * v.rank
  | .mk k a c l, d, h => by
    cases d with
    | zero => simp [T.sh] at h
    | succ d =>
    simp [T.sh] at h
    obtain ⟨hf, hl⟩ := h
    have i1 := T.txtL_len [44, 32] (by simp) l d hl
    have i2 := T.txtL_len [32, 43, 32] (by simp) l d hl
    by_cases k0 : k = 0
    · simp [T.txt, T.rank, k0]; omega
    by_cases k1 : k = 1
    · simp [T.txt, T.rank, k1]; omega
    by_cases k2 : k = 2
    · subst k2
      have h8 : l.length ≤ 8 := by simpa [fitsT] using hf
      simp [T.txt, T.rank]; omega
    by_cases k3 : k = 3
    · subst k3
      have h8 : 0 < l.length ∧ l.length ≤ 8 := by simpa [fitsT] using hf
      simp [T.txt, T.rank]; omega
    · simp [fitsT, k0, k1, k2, k3] at hf
theorem T.txtL_len (bt : List UInt8) (hb : bt.length ≤ 3) : ∀ (l : List T) (d : Nat), T.shL l d = true → (T.txtL bt l).length ≤ 30 * T.rank.ranks l + 3 * l.length
  | [], _, _ => by simp [T.txtL]
  | [x], d, h => by
    simp [T.shL] at h
    have h1 := T.txt_len x d h
    simp [T.txtL, T.rank.ranks]; omega
  | x :: y :: ys, d, h => by
    simp only [T.shL, Bool.and_eq_true] at h
    have h1 := T.txt_len x d h.1
    have h2 := T.txtL_len bt hb (y :: ys) d (by simp only [T.shL, Bool.and_eq_true]; exact h.2)
    rw [T.txtL, T.rank.ranks]
    simp only [List.length_append, List.length_cons] at h2 ⊢
    omega
end

/-- TypeText of a valid type. -/
theorem typeTextOk (t : T) (w : World) (hin : t.In w w.heap.size) (hv : t.valid = true) (hne : t.txt ≠ []) :
    Calls Tryz.prog 29 #[t.val] w fun e w' => e = .returned (.tuple #[.string ⟨t.txt.toArray⟩, .int .i64 0]) ∧ Kp w w' := by
  cases t with
  | mk k a c l =>
  have hsh : (T.mk k a c l).sh 6 = true := by simp [T.valid] at hv; exact hv.1
  have hrk : (T.mk k a c l).rank ≤ 40 := by simp [T.valid] at hv; exact hv.2
  have hlen := T.txt_len _ 6 hsh
  have hc : ¬ (T.mk k a c l).cnt = 0 := fun h => by
    have := badT_valid (.mk k a c l)
    rw [hv] at this
    simp [bad, h] at this
  exact typeText k a c l w hin hc hne (by omega)

end Go.Proofs.YtkfmgafgokpjhaaGreatDoor

/-
  THE SPECIFICATION's WriteType, TypeText.
-/
namespace Go.Proofs.YtkfmgafgokpjhaaGreatDoor
open Go.RowKit

set_option maxRecDepth 100000 in
set_option maxHeartbeats 4000000 in
theorem writeT_tuple (a : Option Addr) (cap : Nat) (l : List T) (w : World) (hin : (T.mk 2 a cap l).In w w.heap.size) (hx : (T.txtL [44, 32] l).length ≤ 1000000)
    (ih : ∀ (j : Nat) (x : T), l[j]? = some x → ∀ w1 : World, Kp w w1 → Calls Tryz.prog 72 #[.agg #[.int .i64 x.k, .slice x.a x.l.length x.cap]] w1 (Str w1 x.txt)) :
    Calls Tryz.prog 72 #[.agg #[.int .i64 2, .slice a l.length cap]] w (Str w (40 :: T.txtL [44, 32] l ++ [41])) := by
  have hlen := T.lenLe hin
  rw [T.txtL_join] at hx ⊢
  have HIN := Lib.hid hin
  have IH := Lib.hid ih
  clear hin ih
  go_enter Tryz.func72, Tryz.ntmps72
  go_wp2_with fail
  go_loopw [4, 5] (fun out i wr => ∃ (b : ByteArray) (j : Nat), j ≤ l.length ∧ Hid (b.data.toList = joinT T.txt [44, 32] (l.take j)) ∧ b.size ≤ 1000000 ∧ out = .string b ∧ i = .int .i64 j ∧ Kp (w.alloc (.cells #[.int .i64 2, .slice a l.length cap] 27)) wr) (fun _ i _ => l.length - (intOf i).toNat)
  case atStart => exact ⟨⟨#[]⟩, 0, Nat.zero_le _, Lib.hid (by simp [joinT]), by decide, rfl, rfl, Below.refl _ _⟩
  case round =>
    obtain ⟨b, j, hj, hl, hb, rfl, rfl, hk⟩ := hrel
    have hblk := boxK hk
    have hz := lt_of_block hblk
    obtain ⟨b0, b1, -⟩ := cell2 hblk
    have HBL := Lib.hid hblk
    clear hblk
    by_cases hlt : j < l.length
    · obtain ⟨x, hx0⟩ : ∃ x, l[j]? = some x := ⟨l[j], by simp [hlt]⟩
      obtain ⟨p0, off, rfl, hp0, q0, q1, hxin⟩ := T.atPart HIN.out hx0
      have hkw := kk (ka _ _) hk
      have r0 := kc hkw q0
      have r1 := kc hkw q1
      have hjl := joinT_len T.txt [44, 32] l (j + 1)
      have hsn : joinT T.txt [44, 32] (l.take (j + 1)) = if l.take j = [] then x.txt else joinT T.txt [44, 32] (l.take j) ++ [44, 32] ++ x.txt := by
        have h9 : l.take (j + 1) = l.take j ++ [x] := by
          rw [List.take_add_one, hx0]; rfl
        rw [h9, joinT_snoc]
      have hih := IH.out j x hx0 wr hkw
      generalize hX : x.txt = X at *
      have g0 : (0 : Int) ≤ (j : Int) := by omega
      have g1 : (j : Int) < (l.length : Int) := by omega
      have HK := Lib.hid hk
      have HIH := Lib.hid hih
      generalize x.k = xk at *
      generalize x.a = xa at *
      generalize x.l.length = xl at *
      generalize x.cap = xc at *
      by_cases h0 : j = 0
      · have hX2 : X.length ≤ 1000000 := by
          subst h0
          simp at hsn
          rw [hsn] at hjl; omega
        have HSN := Lib.hid (show joinT T.txt [44, 32] (l.take (j + 1)) = b.data.toList ++ X by
          subst h0
          rw [hsn, hl.out]; simp [joinT])
        have hb0 : b.size = 0 := by have := hl.out; subst h0; simp [joinT] at this; rw [size_list]; simp [this]
        have hb1 : b.size ≤ 0 := by omega
        have g3 : decide (0 < j) = false := by subst h0; simp
        have HJ := Lib.hid h0
        clear h0 hsn hjl hb0 hk hih hX hx0 q0 q1 hxin hkw hl
        go_wp2_with fail
        refine HIH.out.mono ?_
        rintro e w1 ⟨c, rfl, hc, hk1⟩
        have hcs : c.size ≤ 1000000 := by rw [size_list, hc]; exact hX2
        have z1 : b.size + c.size ≤ 9223372036854775807 := by omega
        have e1 : (b ++ c).size ≤ 1000000 := by rw [ByteArray.size_append]; omega
        have E1 := Lib.hid e1
        have HC := Lib.hid hc
        have HK1 := Lib.hid (kk HK.out hk1)
        clear hk1 hc e1 r0 r1 b0 b1
        go_wp2_with fail
        go_roundw
        case rel => exact ⟨_, j + 1, by omega, Lib.hid (by rw [app_list, HC.out, HSN.out]), E1.out, rfl, by go_num, HK1.out⟩
        case measure => simp [intOf]; omega
      · have hne : l.take j ≠ [] := by intro e; have := congrArg List.length e; rw [List.length_take] at this; simp only [List.length_nil] at this; omega
        rw [if_neg hne] at hsn
        have hX2 : b.size + 2 + X.length ≤ 1000000 := by
          rw [hsn, ← hl.out] at hjl
          simp only [List.length_append, List.length_cons, List.length_nil] at hjl
          rw [size_list]; omega
        have HSN := Lib.hid (show joinT T.txt [44, 32] (l.take (j + 1)) = b.data.toList ++ [44, 32] ++ X by rw [hsn, hl.out])
        have g3 : decide (0 < j) = true := by simp; omega
        have z0 : b.size + (⟨#[44, 32]⟩ : ByteArray).size ≤ 9223372036854775807 := by show b.size + 2 ≤ _; omega
        have HJ := Lib.hid h0
        clear h0 hsn hjl hk hih hX hx0 q0 q1 hxin hkw hl hne
        go_wp2_with fail
        refine HIH.out.mono ?_
        rintro e w1 ⟨c, rfl, hc, hk1⟩
        have hcs : c.size = X.length := by rw [size_list, hc]
        have e0 : (b ++ (⟨#[44, 32]⟩ : ByteArray)).size = b.size + 2 := by rw [ByteArray.size_append]; rfl
        have z1 : (b ++ (⟨#[44, 32]⟩ : ByteArray)).size + c.size ≤ 9223372036854775807 := by omega
        have e1 : (b ++ (⟨#[44, 32]⟩ : ByteArray) ++ c).size ≤ 1000000 := by rw [ByteArray.size_append]; omega
        have E1 := Lib.hid e1
        have HC := Lib.hid hc
        have HK1 := Lib.hid (kk HK.out hk1)
        clear hk1 hc e1 e0 hcs r0 r1 b0 b1
        go_wp2_with fail
        go_roundw
        case rel => exact ⟨_, j + 1, by omega, Lib.hid (by rw [app_list, app_list, HC.out, HSN.out]), E1.out, rfl, by go_num, HK1.out⟩
        case measure => simp [intOf]; omega
    · have hjj : j = l.length := by omega
      subst hjj
      have z1 : (⟨#[40]⟩ : ByteArray).size + b.size ≤ 9223372036854775807 := by show 1 + b.size ≤ _; omega
      have e1 : ((⟨#[40]⟩ : ByteArray) ++ b).size = 1 + b.size := by rw [ByteArray.size_append]; rfl
      have z2 : ((⟨#[40]⟩ : ByteArray) ++ b).size + (⟨#[41]⟩ : ByteArray).size ≤ 9223372036854775807 := by rw [e1]; show 1 + b.size + 1 ≤ _; omega
      have HK := Lib.hid (kk (ka _ _) hk)
      clear e1 hk
      go_wp2_with fail
      go_ret
      refine ⟨_, rfl, ?_, HK.out⟩
      rw [app_list, app_list, hl.out, List.take_of_length_le (Nat.le_refl _)]
      rfl

set_option maxRecDepth 100000 in
set_option maxHeartbeats 4000000 in
theorem writeT_sum (a : Option Addr) (cap : Nat) (l : List T) (w : World) (hin : (T.mk 3 a cap l).In w w.heap.size) (hx : (T.txtL [32, 43, 32] l).length ≤ 1000000)
    (ih : ∀ (j : Nat) (x : T), l[j]? = some x → ∀ w1 : World, Kp w w1 → Calls Tryz.prog 72 #[.agg #[.int .i64 x.k, .slice x.a x.l.length x.cap]] w1 (Str w1 x.txt)) :
    Calls Tryz.prog 72 #[.agg #[.int .i64 3, .slice a l.length cap]] w (Str w (91 :: T.txtL [32, 43, 32] l ++ [93])) := by
  have hlen := T.lenLe hin
  rw [T.txtL_join] at hx ⊢
  have HIN := Lib.hid hin
  have IH := Lib.hid ih
  clear hin ih
  go_enter Tryz.func72, Tryz.ntmps72
  go_wp2_with fail
  go_loopw [4, 5] (fun out i wr => ∃ (b : ByteArray) (j : Nat), j ≤ l.length ∧ Hid (b.data.toList = joinT T.txt [32, 43, 32] (l.take j)) ∧ b.size ≤ 1000000 ∧ out = .string b ∧ i = .int .i64 j ∧ Kp (w.alloc (.cells #[.int .i64 3, .slice a l.length cap] 27)) wr) (fun _ i _ => l.length - (intOf i).toNat)
  case atStart => exact ⟨⟨#[]⟩, 0, Nat.zero_le _, Lib.hid (by simp [joinT]), by decide, rfl, rfl, Below.refl _ _⟩
  case round =>
    obtain ⟨b, j, hj, hl, hb, rfl, rfl, hk⟩ := hrel
    have hblk := boxK hk
    have hz := lt_of_block hblk
    obtain ⟨b0, b1, -⟩ := cell2 hblk
    have HBL := Lib.hid hblk
    clear hblk
    by_cases hlt : j < l.length
    · obtain ⟨x, hx0⟩ : ∃ x, l[j]? = some x := ⟨l[j], by simp [hlt]⟩
      obtain ⟨p0, off, rfl, hp0, q0, q1, hxin⟩ := T.atPart HIN.out hx0
      have hkw := kk (ka _ _) hk
      have r0 := kc hkw q0
      have r1 := kc hkw q1
      have hjl := joinT_len T.txt [32, 43, 32] l (j + 1)
      have hsn : joinT T.txt [32, 43, 32] (l.take (j + 1)) = if l.take j = [] then x.txt else joinT T.txt [32, 43, 32] (l.take j) ++ [32, 43, 32] ++ x.txt := by
        have h9 : l.take (j + 1) = l.take j ++ [x] := by
          rw [List.take_add_one, hx0]; rfl
        rw [h9, joinT_snoc]
      have hih := IH.out j x hx0 wr hkw
      generalize hX : x.txt = X at *
      have g0 : (0 : Int) ≤ (j : Int) := by omega
      have g1 : (j : Int) < (l.length : Int) := by omega
      have HK := Lib.hid hk
      have HIH := Lib.hid hih
      generalize x.k = xk at *
      generalize x.a = xa at *
      generalize x.l.length = xl at *
      generalize x.cap = xc at *
      by_cases h0 : j = 0
      · have hX2 : X.length ≤ 1000000 := by
          subst h0
          simp at hsn
          rw [hsn] at hjl; omega
        have HSN := Lib.hid (show joinT T.txt [32, 43, 32] (l.take (j + 1)) = b.data.toList ++ X by
          subst h0
          rw [hsn, hl.out]; simp [joinT])
        have hb0 : b.size = 0 := by have := hl.out; subst h0; simp [joinT] at this; rw [size_list]; simp [this]
        have hb1 : b.size ≤ 0 := by omega
        have g3 : decide (0 < j) = false := by subst h0; simp
        have HJ := Lib.hid h0
        clear h0 hsn hjl hb0 hk hih hX hx0 q0 q1 hxin hkw hl
        go_wp2_with fail
        refine HIH.out.mono ?_
        rintro e w1 ⟨c, rfl, hc, hk1⟩
        have hcs : c.size ≤ 1000000 := by rw [size_list, hc]; exact hX2
        have z1 : b.size + c.size ≤ 9223372036854775807 := by omega
        have e1 : (b ++ c).size ≤ 1000000 := by rw [ByteArray.size_append]; omega
        have E1 := Lib.hid e1
        have HC := Lib.hid hc
        have HK1 := Lib.hid (kk HK.out hk1)
        clear hk1 hc e1 r0 r1 b0 b1
        go_wp2_with fail
        go_roundw
        case rel => exact ⟨_, j + 1, by omega, Lib.hid (by rw [app_list, HC.out, HSN.out]), E1.out, rfl, by go_num, HK1.out⟩
        case measure => simp [intOf]; omega
      · have hne : l.take j ≠ [] := by intro e; have := congrArg List.length e; rw [List.length_take] at this; simp only [List.length_nil] at this; omega
        rw [if_neg hne] at hsn
        have hX2 : b.size + 3 + X.length ≤ 1000000 := by
          rw [hsn, ← hl.out] at hjl
          simp only [List.length_append, List.length_cons, List.length_nil] at hjl
          rw [size_list]; omega
        have HSN := Lib.hid (show joinT T.txt [32, 43, 32] (l.take (j + 1)) = b.data.toList ++ [32, 43, 32] ++ X by rw [hsn, hl.out])
        have g3 : decide (0 < j) = true := by simp; omega
        have z0 : b.size + (⟨#[32, 43, 32]⟩ : ByteArray).size ≤ 9223372036854775807 := by show b.size + 3 ≤ _; omega
        have HJ := Lib.hid h0
        clear h0 hsn hjl hk hih hX hx0 q0 q1 hxin hkw hl hne
        go_wp2_with fail
        refine HIH.out.mono ?_
        rintro e w1 ⟨c, rfl, hc, hk1⟩
        have hcs : c.size = X.length := by rw [size_list, hc]
        have e0 : (b ++ (⟨#[32, 43, 32]⟩ : ByteArray)).size = b.size + 3 := by rw [ByteArray.size_append]; rfl
        have z1 : (b ++ (⟨#[32, 43, 32]⟩ : ByteArray)).size + c.size ≤ 9223372036854775807 := by omega
        have e1 : (b ++ (⟨#[32, 43, 32]⟩ : ByteArray) ++ c).size ≤ 1000000 := by rw [ByteArray.size_append]; omega
        have E1 := Lib.hid e1
        have HC := Lib.hid hc
        have HK1 := Lib.hid (kk HK.out hk1)
        clear hk1 hc e1 e0 hcs r0 r1 b0 b1
        go_wp2_with fail
        go_roundw
        case rel => exact ⟨_, j + 1, by omega, Lib.hid (by rw [app_list, app_list, HC.out, HSN.out]), E1.out, rfl, by go_num, HK1.out⟩
        case measure => simp [intOf]; omega
    · have hjj : j = l.length := by omega
      subst hjj
      have z1 : (⟨#[91]⟩ : ByteArray).size + b.size ≤ 9223372036854775807 := by show 1 + b.size ≤ _; omega
      have e1 : ((⟨#[91]⟩ : ByteArray) ++ b).size = 1 + b.size := by rw [ByteArray.size_append]; rfl
      have z2 : ((⟨#[91]⟩ : ByteArray) ++ b).size + (⟨#[93]⟩ : ByteArray).size ≤ 9223372036854775807 := by rw [e1]; show 1 + b.size + 1 ≤ _; omega
      have HK := Lib.hid (kk (ka _ _) hk)
      clear e1 hk
      go_wp2_with fail
      go_ret
      refine ⟨_, rfl, ?_, HK.out⟩
      rw [app_list, app_list, hl.out, List.take_of_length_le (Nat.le_refl _)]
      rfl

set_option maxRecDepth 100000 in
set_option maxHeartbeats 1000000 in
theorem writeT_int (a : Option Addr) (len cap : Nat) (w : World) : Calls Tryz.prog 72 #[.agg #[.int .i64 0, .slice a len cap]] w (Str w [105, 110, 116]) := by
  go_enter Tryz.func72, Tryz.ntmps72
  go_wp2_with fail
  go_ret
  exact ⟨_, rfl, rfl, ka _ _⟩

set_option maxRecDepth 100000 in
set_option maxHeartbeats 1000000 in
theorem writeT_text (a : Option Addr) (len cap : Nat) (w : World) : Calls Tryz.prog 72 #[.agg #[.int .i64 1, .slice a len cap]] w (Str w [116, 101, 120, 116]) := by
  go_enter Tryz.func72, Tryz.ntmps72
  go_wp2_with fail
  go_ret
  exact ⟨_, rfl, rfl, ka _ _⟩

/-- The specification's text of a type. -/
theorem writeTR : ∀ (N : Nat) (v : T) (d : Nat) (w : World), v.rank ≤ N → v.sh d = true → v.In w w.heap.size → v.txt.length ≤ 1000000 →
    Calls Tryz.prog 72 #[.agg #[.int .i64 v.k, .slice v.a v.l.length v.cap]] w (Str w v.txt) := by
  intro N
  induction N with
  | zero => intro v d w h; have := v.rank_pos; omega
  | succ N ih =>
    intro v d w hN hsh hin hx
    cases v with
    | mk k a cap l =>
    cases d with
    | zero => simp [T.sh] at hsh
    | succ d =>
    simp [T.sh] at hsh
    obtain ⟨hf, hp⟩ := hsh
    show Calls Tryz.prog 72 #[.agg #[.int .i64 k, .slice a l.length cap]] w _
    have part : ∀ (sep : List UInt8), (T.txtL sep l).length ≤ 1000000 → ∀ (j : Nat) (x : T), l[j]? = some x → ∀ w1 : World, Kp w w1 → Calls Tryz.prog 72 #[.agg #[.int .i64 x.k, .slice x.a x.l.length x.cap]] w1 (Str w1 x.txt) := fun sep hxl j x hj w1 hk => by
      obtain ⟨b0, off, -, -, -, -, hxin⟩ := T.atPart hin hj
      have hrk := T.rank_part (v := .mk k a cap l) (j := j) (x := x) hj
      refine ih x d w1 (by omega) (shLT_at hp hj) (hxin.keep hk.size hk) ?_
      have h9 : l.take (j + 1) = l.take j ++ [x] := by
        rw [List.take_add_one, hj]; rfl
      have hjl := joinT_len T.txt sep l (j + 1)
      rw [← T.txtL_join sep l, h9, joinT_snoc] at hjl
      split at hjl
      · omega
      · simp at hjl; omega
    by_cases k0 : k = 0
    · subst k0
      have e : (T.mk 0 a cap l).txt = [105, 110, 116] := by simp [T.txt]
      rw [e]
      exact writeT_int a l.length cap w
    by_cases k1 : k = 1
    · subst k1
      have e : (T.mk 1 a cap l).txt = [116, 101, 120, 116] := by simp [T.txt]
      rw [e]
      exact writeT_text a l.length cap w
    by_cases k2 : k = 2
    · subst k2
      have e : (T.mk 2 a cap l).txt = 40 :: T.txtL [44, 32] l ++ [41] := by simp [T.txt]
      rw [e] at hx ⊢
      have hxl : (T.txtL [44, 32] l).length ≤ 1000000 := by simp at hx; omega
      exact writeT_tuple a cap l w hin hxl (part _ hxl)
    by_cases k3 : k = 3
    · subst k3
      have e : (T.mk 3 a cap l).txt = 91 :: T.txtL [32, 43, 32] l ++ [93] := by simp [T.txt]
      rw [e] at hx ⊢
      have hxl : (T.txtL [32, 43, 32] l).length ≤ 1000000 := by simp at hx; omega
      exact writeT_sum a cap l w hin hxl (part _ hxl)
    · simp [fitsT, k0, k1, k2, k3] at hf

/-- What TypeText answers. -/
def typeTextOut (v : T) : Value := if v.valid then .tuple #[.string ⟨v.txt.toArray⟩, .int .i64 0] else .tuple #[.string ⟨#[]⟩, .int .i64 1]

theorem str_eqT {b : ByteArray} {l : List UInt8} (h : b.data.toList = l) : b = ⟨l.toArray⟩ := by
  subst h
  cases b; simp

set_option maxRecDepth 100000 in
set_option maxHeartbeats 2000000 in
theorem typeTextTopR (k : Int) (a : Option Addr) (cap : Nat) (l : List T) (w : World) (hin : (T.mk k a cap l).In w w.heap.size) :
    Calls Tryz.prog 30 #[.agg #[.int .i64 k, .slice a l.length cap]] w fun e w' => e = .returned (typeTextOut (T.mk k a cap l)) ∧ Kp w w' := by
  have C := fun (w1 : World) (h : Kp w w1) => validT_ref k a cap l w1 (hin.keep h.size h)
  cases hv : (T.mk k a cap l).valid with
  | false =>
    rw [typeTextOut, hv]
    rw [hv] at C
    have HC := Lib.hid C
    clear C hin hv
    go_enter Tryz.func30, Tryz.ntmps30
    go_wp2_with fail
    refine (HC.out _ (ka _ _)).mono ?_
    rintro e w1 ⟨rfl, hk⟩
    have HK := Lib.hid (kk (ka _ _) hk)
    clear hk
    go_wp2_with fail
    go_ret2
    exact ⟨rfl, HK.out⟩
  | true =>
    have hsh : (T.mk k a cap l).sh 6 = true := by simp [T.valid] at hv; exact hv.1
    have hrk : (T.mk k a cap l).rank ≤ 40 := by simp [T.valid] at hv; exact hv.2
    have hlen := T.txt_len _ 6 hsh
    have K1 := fun (w1 : World) (h : Kp w w1) => writeTR _ (T.mk k a cap l) 6 w1 (Nat.le_refl _) hsh (hin.keep h.size h) (by omega)
    rw [typeTextOut, hv]
    rw [hv] at C
    simp only [T.k, T.a, T.l, T.cap] at K1
    have HC := Lib.hid C
    have HK1 := Lib.hid K1
    generalize (T.mk k a cap l).txt = B at *
    clear C K1 hin hv hsh hrk hlen
    go_enter Tryz.func30, Tryz.ntmps30
    go_wp2_with fail
    refine (HC.out _ (ka _ _)).mono ?_
    rintro e w1 ⟨rfl, hk⟩
    obtain ⟨c0, c1, -⟩ := cell2 (boxK hk)
    have HK := Lib.hid (kk (ka _ _) hk)
    clear hk
    go_wp2_with fail
    refine (HK1.out _ HK.out).mono ?_
    rintro e w2 ⟨b, rfl, hb, hk⟩
    have HB := Lib.hid (str_eqT hb)
    have HK2 := Lib.hid (kk HK.out hk)
    clear hk hb
    go_wp2_with fail
    go_ret2
    exact ⟨by rw [HB.out]; rfl, HK2.out⟩

end Go.Proofs.YtkfmgafgokpjhaaGreatDoor

/-
  THE SPECIFICATION's begins, digits.
-/
namespace Go.Proofs.YtkfmgafgokpjhaaGreatDoor
open Go.RowKit

/-- Does a text begin with another one? -/
def preB (s f : ByteArray) : Bool := decide (f.data.toList <+: s.data.toList)

theorem tail_list (s : ByteArray) (j : Nat) : (s.extract j s.size).data.toList = s.data.toList.drop j := by
  rw [ByteArray.data_extract, Array.toList_extract]
  simp only [List.extract]
  rw [List.take_of_length_le (by simp)]

theorem front_list (s : ByteArray) (j : Nat) : (s.extract 0 j).data.toList = s.data.toList.take j := by
  rw [ByteArray.data_extract, Array.toList_extract]
  simp [List.extract]

theorem pre_cut {s f : ByteArray} : ((s.extract 0 f.size).toList == f.toList) = preB s f := by
  rw [ByteArray.toList_eq, ByteArray.toList_eq, front_list, preB, Bool.eq_iff_iff, beq_iff_eq, decide_eq_true_iff, size_list]
  exact ⟨fun h => by rw [← h]; exact List.take_prefix _ _, fun h => (List.prefix_iff_eq_take.1 h).symm⟩

theorem pre_short {s f : ByteArray} (h : s.size < f.size) : preB s f = false := by
  rw [preB, decide_eq_false_iff_not]
  intro h2
  have := h2.length_le
  rw [← size_list, ← size_list] at this
  omega

set_option maxHeartbeats 1000000 in
theorem beginsR (s f : ByteArray) (_hs : s.size ≤ 1000000) (hf : f.size ≤ 1000000) (w : World) :
    Calls Tryz.prog 121 #[.string s, .string f] w fun e w' => e = .returned (.bool (preB s f)) ∧ w = w' := by
  rcases Nat.lt_or_ge s.size f.size with h | h
  · have g : decide (f.size ≤ s.size) = false := decide_eq_false (by omega)
    rw [pre_short h]
    go_enter Tryz.func121, Tryz.ntmps121
    go_wp2_with fail
    go_ret
    exact ⟨rfl, rfl⟩
  · have g : decide (f.size ≤ s.size) = true := decide_eq_true (by omega)
    have g2 : (f.size : Int) ≤ (s.size : Int) := by omega
    have g3 : (0 : Int) ≤ (f.size : Int) := by omega
    have hp := @pre_cut s f
    generalize preB s f = B at *
    go_enter Tryz.func121, Tryz.ntmps121
    go_wp2_with fail
    go_ret
    exact ⟨rfl, rfl⟩

def figC (c : UInt8) : Bool := decide (48 ≤ c.toNat) && decide (c.toNat ≤ 57)

set_option maxHeartbeats 1000000 in
theorem digitsR (s : ByteArray) (hs : s.size ≤ 1000000) (w : World) :
    Calls Tryz.prog 133 #[.string s] w fun e w' => (∃ k : Nat, e = .returned (.int .i64 k) ∧ k ≤ s.size ∧ (∀ c ∈ s.data.toList.take k, figC c = true) ∧ (∀ h : k < s.size, figC s[k] = false)) ∧ w = w' := by
  go_enter Tryz.func133, Tryz.ntmps133
  go_wp2_with fail
  go_loop [3] (fun i => ∃ (j : Nat), j ≤ s.size ∧ Hid (∀ c ∈ s.data.toList.take j, figC c = true) ∧ i = .int .i64 j) (fun i => s.size - (intOf i).toNat)
  case atStart => exact ⟨0, by omega, Lib.hid (by simp), rfl⟩
  case round =>
    obtain ⟨j, hj, h0, rfl⟩ := hrel
    by_cases hlt : j < s.size
    · have hb8 := s[j].toNat_lt
      by_cases hd : 48 ≤ s[j].toNat ∧ s[j].toNat ≤ 57
      · have HS := Lib.hid (show ∀ c ∈ s.data.toList.take (j + 1), figC c = true by
          intro c hc
          rw [take_snocB s j hlt] at hc
          rcases List.mem_append.1 hc with hc | hc
          · exact h0.out c hc
          · simp at hc; rw [hc]; simp [figC, hd])
        have g1 : (48 : Int) ≤ ((s[j].toNat : Nat) : Int) := by omega
        have g2 : ((s[j].toNat : Nat) : Int) ≤ 57 := by omega
        go_wp2_with fail
        go_round
        case rel => exact ⟨j + 1, by omega, HS, by go_num⟩
        case measure => simp [intOf]; omega
      · have HS := Lib.hid (show ∀ h : j < s.size, figC s[j] = false by
          intro _; rw [Bool.eq_false_iff]; intro h; simp [figC] at h; exact hd h)
        by_cases h48 : 48 ≤ s[j].toNat
        · have g1 : (48 : Int) ≤ ((s[j].toNat : Nat) : Int) := by omega
          have g2 : decide (((s[j].toNat : Nat) : Int) ≤ 57) = false := decide_eq_false (by omega)
          go_wp2_with fail
          go_ret
          exact ⟨⟨j, rfl, hj, h0.out, HS.out⟩, rfl⟩
        · have g1 : decide ((48 : Int) ≤ ((s[j].toNat : Nat) : Int)) = false := decide_eq_false (by omega)
          go_wp2_with fail
          go_ret
          exact ⟨⟨j, rfl, hj, h0.out, HS.out⟩, rfl⟩
    · have hjj : j = s.size := by omega
      subst hjj
      go_wp2_with fail
      go_ret
      exact ⟨⟨s.size, rfl, Nat.le_refl _, h0.out, fun h => absurd h (by omega)⟩, rfl⟩

end Go.Proofs.YtkfmgafgokpjhaaGreatDoor

/-
  THE SPECIFICATION's word.
-/
namespace Go.Proofs.YtkfmgafgokpjhaaGreatDoor
open Go.RowKit

/-- The number of digits. -/
def decV (l : List UInt8) : Int := l.foldl (fun (n : Int) (c : UInt8) => 10 * n + ((c.toNat : Int) - 48)) 0
theorem decV_snoc (l : List UInt8) (c : UInt8) : decV (l ++ [c]) = 10 * decV l + ((c.toNat : Int) - 48) := by simp [decV]

theorem decV_dec : ∀ (u : Nat), decV (Lib.decDigits u) = (u : Int) := by
  intro u
  induction u using Nat.strongRecOn with
  | ind u ih =>
    rw [Lib.decDigits]
    by_cases h : u < 10
    · rw [dif_pos h]
      have := digit_val u h
      simp only [decV, List.foldl_cons, List.foldl_nil, this]; omega
    · rw [dif_neg h, decV_snoc, ih (u / 10) (by omega), digit_val (u % 10) (by omega)]; omega

theorem dec_len : ∀ (k u : Nat), 1 ≤ k → u < 10 ^ k → (Lib.decDigits u).length ≤ k := by
  intro k
  induction k with
  | zero => intro u h; omega
  | succ k ih =>
    intro u _ hu
    rw [Lib.decDigits]
    by_cases h : u < 10
    · rw [dif_pos h]; simp
    · rw [dif_neg h]
      have hk : 1 ≤ k := by
        rcases Nat.eq_zero_or_pos k with h0 | h0
        · subst h0; simp at hu; omega
        · exact h0
      have := ih (u / 10) hk (by rw [Nat.pow_succ] at hu; omega)
      simp; omega

theorem figs_bound : ∀ (l : List UInt8) (k : Nat), l.length = k → (∀ c ∈ l, figC c = true) → 0 ≤ decV l ∧ decV l < 10 ^ k := by
  intro l k
  induction k generalizing l with
  | zero => intro h _; have : l = [] := List.length_eq_zero_iff.1 h; subst this; simp [decV]
  | succ k ih =>
    intro h ha
    have hne : l ≠ [] := by intro e; subst e; simp at h
    have hd := List.dropLast_concat_getLast hne
    have h1 := ih l.dropLast (by simp [h]) (fun c hc => ha c (List.dropLast_subset _ hc))
    have h2 := ha (l.getLast hne) (List.getLast_mem hne)
    simp [figC] at h2
    rw [← hd, decV_snoc]
    have : (10 : Int) ^ (k + 1) = 10 * 10 ^ k := by rw [Int.pow_succ]; omega
    omega

theorem num_fig {c : UInt8} (h : figC c = true) : numC c = true := by
  simp [figC] at h; simp [numC, h]

/-- As many digits as a text begins with. -/
theorem figs_len {s : ByteArray} {k : Nat} {a r : List UInt8} (hk : k ≤ s.size) (hall : ∀ c ∈ s.data.toList.take k, figC c = true) (hst : ∀ h : k < s.size, figC s[k] = false)
    (h : s.data.toList = a ++ r) (ha : ∀ c ∈ a, figC c = true) (hr : StopL r) : k = a.length := by
  have hlen := congrArg List.length h
  rw [← size_list, List.length_append] at hlen
  have hat : ∀ (i : Nat) (hi : i < s.size), s.data.toList[i]? = some s[i] := fun i hi => by
    have : i < s.data.toList.length := by simpa using hi
    rw [List.getElem?_eq_getElem this]; rfl
  rcases Nat.lt_trichotomy k a.length with h1 | h1 | h1
  · have hks : k < s.size := by omega
    have h2 := hat k hks
    rw [h, List.getElem?_append_left h1] at h2
    have h3 := ha _ (List.mem_of_getElem? h2)
    rw [hst hks] at h3; cases h3
  · exact h1
  · have hks : a.length < s.size := by omega
    have h2 := hat a.length hks
    have h3 : s[a.length] ∈ s.data.toList.take k := by
      refine List.mem_of_getElem? (i := a.length) ?_
      rw [List.getElem?_take_of_lt h1, h2]
    have h4 := num_fig (hall _ h3)
    rw [h, List.getElem?_append_right (Nat.le_refl _), Nat.sub_self] at h2
    have h5 := hr s[a.length] (by rw [← List.head?_eq_getElem?] at h2; exact h2)
    rw [h4] at h5; cases h5

theorem dec_fig (u : Nat) : ∀ c ∈ Lib.decDigits u, figC c = true := fun c hc => by
  have := dec_digit u c hc
  simp [figC, this]

theorem itoa_pos {n : Int} (h : 0 ≤ n) : Lib.itoa n = Lib.decDigits n.toNat := by unfold Lib.itoa; rw [if_neg (by omega)]
theorem itoa_minus {n : Int} (h : n < 0) : Lib.itoa n = 45 :: Lib.decDigits n.natAbs := by unfold Lib.itoa; rw [if_pos h]

/-- What word tells: a number, and what is behind it; of a number that is written, itself. -/
def OutW (w : World) (s : ByteArray) (e : Ending) (w' : World) : Prop :=
  ∃ (n : Int) (rs : ByteArray) (ok : Bool), e = .returned (.tuple #[.int .i64 n, .string rs, .bool ok]) ∧ -10000000000 < n ∧ n < 10000000000 ∧ (ok = true → rs.size < s.size) ∧
    (∀ (n' : Int) (r : List UInt8), -2147483648 ≤ n' ∧ n' ≤ 2147483647 → s.data.toList = Lib.itoa n' ++ r → StopL r → ok = true ∧ n = n' ∧ rs.data.toList = r) ∧ Kp w w'

theorem pre_minus (s : ByteArray) : preB s ⟨#[45]⟩ = decide (s.data.toList.head? = some 45) := by
  unfold preB
  show decide ([45] <+: s.data.toList) = _
  cases s.data.toList with
  | nil => simp
  | cons c l =>
    simp [List.cons_prefix_cons, eq_comm]

theorem cons_rest2 (s : ByteArray) (h : 0 < s.size) : s.data.toList = s[0] :: (s.extract 1 s.size).data.toList := by
  rw [tail_list]
  have h1 : 0 < s.data.toList.length := by simpa using h
  conv => lhs; rw [← List.drop_zero (l := s.data.toList), List.drop_eq_getElem_cons h1]
  rfl

set_option maxRecDepth 100000 in
set_option maxHeartbeats 4000000 in
theorem word_neg (s : ByteArray) (hs : s.size ≤ 1000000) (w : World) (hp : preB s ⟨#[45]⟩ = true) : Calls Tryz.prog 120 #[.string s] w (OutW w s) := by
  have hhd : s.data.toList.head? = some 45 := by rw [pre_minus] at hp; simpa using hp
  have hs0 : 0 < s.size := by
    rw [size_list]; cases h : s.data.toList with
    | nil => rw [h] at hhd; simp at hhd
    | cons _ _ => simp
  have hcr := cons_rest2 s hs0
  have hC : ∀ (n' : Int) (r : List UInt8), -2147483648 ≤ n' ∧ n' ≤ 2147483647 → s.data.toList = Lib.itoa n' ++ r → ∃ u : Nat, n' = -1 * (u : Int) ∧ u < 10 ^ 10 ∧ (s.extract 1 s.size).data.toList = Lib.decDigits u ++ r := by
    intro n' r hn h
    rcases Int.lt_or_le n' 0 with h0 | h0
    · rw [itoa_minus h0, hcr] at h
      simp only [List.cons_append, List.cons.injEq] at h
      exact ⟨n'.natAbs, by omega, by omega, h.2⟩
    · exfalso
      rw [itoa_pos h0] at h
      cases hd : Lib.decDigits n'.toNat with
      | nil => exact dec_ne _ hd
      | cons c t =>
        rw [hd] at h
        rw [h] at hhd
        simp at hhd
        have := dec_digit n'.toNat c (by rw [hd]; simp)
        rw [hhd] at this
        simp at this
  have hz : (s.extract 1 s.size).size + 1 = s.size := by simp; omega
  have HC := Lib.hid hC
  have HZ := Lib.hid hz
  have g1 : (1 : Int) ≤ (s.size : Int) := by omega
  clear hC hhd hcr hz
  go_enter Tryz.func120, Tryz.ntmps120
  go_wp2_with fail
  refine (beginsR s ⟨#[45]⟩ hs (by decide) _).mono ?_
  rintro e w1 ⟨rfl, rfl⟩
  rw [hp]
  clear hp
  go_wp2_with fail
  go_quiet (fail)
  have hz := HZ.out
  generalize s.extract 1 s.size = s1 at *
  have hs1 : s1.size ≤ 1000000 := by omega
  have hss : s1.size ≤ s.size := by omega
  have HS := Lib.hid hz
  clear HZ hz hs0
  have hKW : Kp w (w.drewN nq) := kpDN
  generalize w.drewN nq = W at *
  have HKW := Lib.hid hKW
  clear hKW
  go_wp2_with fail
  refine (digitsR s1 hs1 _).mono ?_
  rintro e w1 ⟨⟨k, rfl, hk, hall, hst⟩, rfl⟩
  have HALL := Lib.hid hall
  have HST := Lib.hid hst
  clear hall hst
  go_wp2_with fail
  by_cases hk1 : 1 ≤ k ∧ k ≤ 10
  · have g3 : decide ((1 : Int) ≤ (k : Int)) = true := decide_eq_true (by omega)
    have g4 : decide ((k : Int) ≤ 10) = true := decide_eq_true (by omega)
    refine (lies_any _ _ _ _).mono ?_
    rintro e w1 ⟨rfl, rfl⟩
    rw [g3, g4]
    clear g3 g4
    go_wp2_with fail
    go_loop [5, 8] (fun nn i => ∃ (j : Nat), j ≤ k ∧ nn = .int .i64 (decV (s1.data.toList.take j)) ∧ i = .int .i64 j) (fun _ i => k - (intOf i).toNat)
    case atStart => exact ⟨0, by omega, rfl, rfl⟩
    case round =>
      obtain ⟨j, hj, rfl, rfl⟩ := hrel
      have hlen : (s1.data.toList.take j).length = j := by rw [List.length_take, ← size_list]; omega
      obtain ⟨hv0, hv1⟩ := figs_bound (s1.data.toList.take j) j hlen (fun c hc => HALL.out c (List.mem_of_mem_take (i := j) (by rw [List.take_take, Nat.min_eq_left hj]; exact hc)))
      by_cases hlt : j < k
      · have hjs : j < s1.size := by omega
        have hv2 : decV (s1.data.toList.take j) < 1000000000 := by
          have : (10 : Int) ^ j ≤ 10 ^ 9 := by
            have h9 : (10 : Nat) ^ j ≤ 10 ^ 9 := Nat.pow_le_pow_right (by omega) (by omega)
            exact_mod_cast h9
          omega
        have hf : figC s1[j] = true := HALL.out _ (by
          refine List.mem_of_getElem? (i := j) ?_
          rw [List.getElem?_take_of_lt hlt, List.getElem?_eq_getElem (by simpa using hjs)]; rfl)
        have HT := Lib.hid (show decV (s1.data.toList.take (j + 1)) = 10 * decV (s1.data.toList.take j) + (((s1[j].toNat : Nat) : Int) - 48) by rw [take_snocB s1 j hjs, decV_snoc])
        simp [figC] at hf
        have hf1 : (48 : Int) ≤ ((s1[j].toNat : Nat) : Int) := by omega
        have hf2 : ((s1[j].toNat : Nat) : Int) ≤ 57 := by omega
        have g7 : decide (j < k) = true := decide_eq_true hlt
        clear hv1 hlen hf
        generalize decV (s1.data.toList.take j) = n at *
        go_wp2_with fail
        go_round
        case rel => exact ⟨j + 1, by omega, by rw [HT.out], by go_num⟩
        case measure => simp [intOf]; omega
      · obtain rfl : k = j := by omega
        have g7 : decide (k < k) = false := decide_eq_false (by omega)
        have hv2 : decV (s1.data.toList.take k) < 10000000000 := by
          have : (10 : Int) ^ k ≤ 10 ^ 10 := by
            have h9 : (10 : Nat) ^ k ≤ 10 ^ 10 := Nat.pow_le_pow_right (by omega) (by omega)
            exact_mod_cast h9
          omega
        have HR := Lib.hid (show ∀ (n' : Int) (r : List UInt8), -2147483648 ≤ n' ∧ n' ≤ 2147483647 → s.data.toList = Lib.itoa n' ++ r → StopL r → true = true ∧ (-1) * decV (s1.data.toList.take k) = n' ∧ (s1.extract k s1.size).data.toList = r by
          intro n' r hn h hr
          obtain ⟨u, hu, -, h2⟩ := HC.out n' r hn h
          have hkl := figs_len hk HALL.out HST.out h2 (dec_fig u) hr
          have h3 : s1.data.toList.take k = Lib.decDigits u := by rw [h2, hkl, List.take_left']; rfl
          refine ⟨rfl, by rw [h3, decV_dec, hu], ?_⟩
          rw [tail_list, h2, hkl, List.drop_left']; rfl)
        clear hv1 hlen
        generalize decV (s1.data.toList.take k) = n at *
        have g5 : (0 : Int) ≤ (k : Int) := by omega
        have g6 : (k : Int) ≤ (s1.size : Int) := by omega
        have e1 : IntKind.i64.wrap ((-1) * n) = (-1) * n := IntWalk.i64_in _ (by omega)
        go_wp2_with fail
        go_quiet (fail)
        go_wp2_with fail
        refine bodyPost_ret (v := .tuple #[.int .i64 ((-1) * n), .string (s1.extract k s1.size), .bool true]) (by simp [results, Tryz.results120, go_sem]) rfl
          ⟨(-1) * n, s1.extract k s1.size, true, rfl, by omega, by omega, (fun _ => by simp; omega), (fun n' r hn h hr => ⟨rfl, (HR.out n' r hn h hr).2⟩), kk HKW.out kpDN⟩
  · have g3 : (decide ((1 : Int) ≤ (k : Int)) && decide ((k : Int) ≤ 10)) = false := by
      rw [Bool.eq_false_iff]; intro h; simp at h; omega
    refine (lies_any _ _ _ _).mono ?_
    rintro e w1 ⟨rfl, rfl⟩
    rw [g3]
    have HR := Lib.hid (show ∀ (n' : Int) (r : List UInt8), -2147483648 ≤ n' ∧ n' ≤ 2147483647 → s.data.toList = Lib.itoa n' ++ r → StopL r → False by
      intro n' r hn h hr
      obtain ⟨u, hu, hu2, h2⟩ := HC.out n' r hn h
      have hkl := figs_len hk HALL.out HST.out h2 (dec_fig u) hr
      have h3 := dec_len 10 u (by omega) hu2
      have h4 : 0 < (Lib.decDigits u).length := List.length_pos_iff.2 (dec_ne u)
      omega)
    clear g3 hk1
    go_wp2_with fail
    exact bodyPost_ret (v := .tuple #[.int .i64 0, .string s1, .bool false]) (by simp [results, Tryz.results120, go_sem]) rfl
      ⟨0, s1, false, rfl, by omega, by omega, (fun h => by cases h), fun n' r hn h hr => (HR.out n' r hn h hr).elim, HKW.out⟩

set_option maxRecDepth 100000 in
set_option maxHeartbeats 4000000 in
theorem word_pos (s : ByteArray) (hs : s.size ≤ 1000000) (w : World) (hp : preB s ⟨#[45]⟩ = false) : Calls Tryz.prog 120 #[.string s] w (OutW w s) := by
  have hhd : s.data.toList.head? ≠ some 45 := by rw [pre_minus] at hp; simpa using hp
  have hC : ∀ (n' : Int) (r : List UInt8), -2147483648 ≤ n' ∧ n' ≤ 2147483647 → s.data.toList = Lib.itoa n' ++ r → ∃ u : Nat, n' = 1 * (u : Int) ∧ u < 10 ^ 10 ∧ s.data.toList = Lib.decDigits u ++ r := by
    intro n' r hn h
    rcases Int.lt_or_le n' 0 with h0 | h0
    · exfalso
      rw [itoa_minus h0] at h
      rw [h] at hhd
      simp at hhd
    · rw [itoa_pos h0] at h
      exact ⟨n'.toNat, by omega, by omega, h⟩
  have HC := Lib.hid hC
  clear hC hhd
  go_enter Tryz.func120, Tryz.ntmps120
  go_wp2_with fail
  refine (beginsR s ⟨#[45]⟩ hs (by decide) _).mono ?_
  rintro e w1 ⟨rfl, rfl⟩
  rw [hp]
  clear hp
  go_wp2_with fail
  obtain ⟨s1, hs1e⟩ : ∃ s1, s1 = s := ⟨s, rfl⟩
  subst hs1e
  have hs1 := hs
  have hss := Nat.le_refl s1.size
  obtain ⟨W, hWe⟩ : ∃ W, W = w := ⟨w, rfl⟩
  have HKW := Lib.hid (show Kp w W by rw [hWe]; exact Below.refl _ _)
  rw [← hWe]
  clear hWe
  refine (digitsR s1 hs1 _).mono ?_
  rintro e w1 ⟨⟨k, rfl, hk, hall, hst⟩, rfl⟩
  have HALL := Lib.hid hall
  have HST := Lib.hid hst
  clear hall hst
  go_wp2_with fail
  by_cases hk1 : 1 ≤ k ∧ k ≤ 10
  · have g3 : decide ((1 : Int) ≤ (k : Int)) = true := decide_eq_true (by omega)
    have g4 : decide ((k : Int) ≤ 10) = true := decide_eq_true (by omega)
    refine (lies_any _ _ _ _).mono ?_
    rintro e w1 ⟨rfl, rfl⟩
    rw [g3, g4]
    clear g3 g4
    go_wp2_with fail
    go_loop [5, 8] (fun nn i => ∃ (j : Nat), j ≤ k ∧ nn = .int .i64 (decV (s1.data.toList.take j)) ∧ i = .int .i64 j) (fun _ i => k - (intOf i).toNat)
    case atStart => exact ⟨0, by omega, rfl, rfl⟩
    case round =>
      obtain ⟨j, hj, rfl, rfl⟩ := hrel
      have hlen : (s1.data.toList.take j).length = j := by rw [List.length_take, ← size_list]; omega
      obtain ⟨hv0, hv1⟩ := figs_bound (s1.data.toList.take j) j hlen (fun c hc => HALL.out c (List.mem_of_mem_take (i := j) (by rw [List.take_take, Nat.min_eq_left hj]; exact hc)))
      by_cases hlt : j < k
      · have hjs : j < s1.size := by omega
        have hv2 : decV (s1.data.toList.take j) < 1000000000 := by
          have : (10 : Int) ^ j ≤ 10 ^ 9 := by
            have h9 : (10 : Nat) ^ j ≤ 10 ^ 9 := Nat.pow_le_pow_right (by omega) (by omega)
            exact_mod_cast h9
          omega
        have hf : figC s1[j] = true := HALL.out _ (by
          refine List.mem_of_getElem? (i := j) ?_
          rw [List.getElem?_take_of_lt hlt, List.getElem?_eq_getElem (by simpa using hjs)]; rfl)
        have HT := Lib.hid (show decV (s1.data.toList.take (j + 1)) = 10 * decV (s1.data.toList.take j) + (((s1[j].toNat : Nat) : Int) - 48) by rw [take_snocB s1 j hjs, decV_snoc])
        simp [figC] at hf
        have hf1 : (48 : Int) ≤ ((s1[j].toNat : Nat) : Int) := by omega
        have hf2 : ((s1[j].toNat : Nat) : Int) ≤ 57 := by omega
        have g7 : decide (j < k) = true := decide_eq_true hlt
        clear hv1 hlen hf
        generalize decV (s1.data.toList.take j) = n at *
        go_wp2_with fail
        go_round
        case rel => exact ⟨j + 1, by omega, by rw [HT.out], by go_num⟩
        case measure => simp [intOf]; omega
      · obtain rfl : k = j := by omega
        have g7 : decide (k < k) = false := decide_eq_false (by omega)
        have hv2 : decV (s1.data.toList.take k) < 10000000000 := by
          have : (10 : Int) ^ k ≤ 10 ^ 10 := by
            have h9 : (10 : Nat) ^ k ≤ 10 ^ 10 := Nat.pow_le_pow_right (by omega) (by omega)
            exact_mod_cast h9
          omega
        have HR := Lib.hid (show ∀ (n' : Int) (r : List UInt8), -2147483648 ≤ n' ∧ n' ≤ 2147483647 → s1.data.toList = Lib.itoa n' ++ r → StopL r → true = true ∧ 1 * decV (s1.data.toList.take k) = n' ∧ (s1.extract k s1.size).data.toList = r by
          intro n' r hn h hr
          obtain ⟨u, hu, -, h2⟩ := HC.out n' r hn h
          have hkl := figs_len hk HALL.out HST.out h2 (dec_fig u) hr
          have h3 : s1.data.toList.take k = Lib.decDigits u := by rw [h2, hkl, List.take_left']; rfl
          refine ⟨rfl, by rw [h3, decV_dec, hu], ?_⟩
          rw [tail_list, h2, hkl, List.drop_left']; rfl)
        clear hv1 hlen
        generalize decV (s1.data.toList.take k) = n at *
        have g5 : (0 : Int) ≤ (k : Int) := by omega
        have g6 : (k : Int) ≤ (s1.size : Int) := by omega
        have e1 : IntKind.i64.wrap (1 * n) = 1 * n := IntWalk.i64_in _ (by omega)
        go_wp2_with fail
        go_quiet (fail)
        go_wp2_with fail
        refine bodyPost_ret (v := .tuple #[.int .i64 (1 * n), .string (s1.extract k s1.size), .bool true]) (by simp [results, Tryz.results120, go_sem]) rfl
          ⟨1 * n, s1.extract k s1.size, true, rfl, by omega, by omega, (fun _ => by simp; omega), (fun n' r hn h hr => ⟨rfl, (HR.out n' r hn h hr).2⟩), kk HKW.out kpDN⟩
  · have g3 : (decide ((1 : Int) ≤ (k : Int)) && decide ((k : Int) ≤ 10)) = false := by
      rw [Bool.eq_false_iff]; intro h; simp at h; omega
    refine (lies_any _ _ _ _).mono ?_
    rintro e w1 ⟨rfl, rfl⟩
    rw [g3]
    have HR := Lib.hid (show ∀ (n' : Int) (r : List UInt8), -2147483648 ≤ n' ∧ n' ≤ 2147483647 → s1.data.toList = Lib.itoa n' ++ r → StopL r → False by
      intro n' r hn h hr
      obtain ⟨u, hu, hu2, h2⟩ := HC.out n' r hn h
      have hkl := figs_len hk HALL.out HST.out h2 (dec_fig u) hr
      have h3 := dec_len 10 u (by omega) hu2
      have h4 : 0 < (Lib.decDigits u).length := List.length_pos_iff.2 (dec_ne u)
      omega)
    clear g3 hk1
    go_wp2_with fail
    exact bodyPost_ret (v := .tuple #[.int .i64 0, .string s1, .bool false]) (by simp [results, Tryz.results120, go_sem]) rfl
      ⟨0, s1, false, rfl, by omega, by omega, (fun h => by cases h), fun n' r hn h hr => (HR.out n' r hn h hr).elim, HKW.out⟩

theorem wordR (s : ByteArray) (hs : s.size ≤ 1000000) (w : World) : Calls Tryz.prog 120 #[.string s] w (OutW w s) := by
  cases hp : preB s ⟨#[45]⟩ with
  | true => exact word_neg s hs w hp
  | false => exact word_pos s hs w hp

end Go.Proofs.YtkfmgafgokpjhaaGreatDoor
