/-
  Proved: the statement ValueTexts (value.Text of any value, value.TypeText of any type, value.Parse and value.TypeParse of any text answer as the specification's do, and the chapter's examples hold), as its tied card says it, with no condition beyond the card's own.
  Part 4 of 5.
-/
import Derived.Test.YtkfmgafgokpjhaaGreatDoorLt01
import Derived.Test.YtkfmgafgokpjhaaGreatDoorLt02
import Derived.Test.YtkfmgafgokpjhaaGreatDoorLt03
import Derived.Test.YtkfmgafgokpjhaaGreatDoorBc12
/-
  THE SPECIFICATION's readType.
-/
namespace Go.Proofs.YtkfmgafgokpjhaaGreatDoor
open Go.RowKit

theorem sh_type {k : Int} {a : Option Addr} {cap : Nat} {l : List T} {d : Nat} (h : (T.mk k a cap l).sh d = true) :
    (k = 0 ∧ l = []) ∨ (k = 1 ∧ l = []) ∨ (k = 2 ∧ ∃ d', d = d' + 1 ∧ T.shL l d' = true) ∨ (k = 3 ∧ l ≠ [] ∧ ∃ d', d = d' + 1 ∧ T.shL l d' = true) := by
  cases d with
  | zero => simp [T.sh] at h
  | succ d =>
    simp [T.sh] at h
    obtain ⟨hf, hl⟩ := h
    by_cases k0 : k = 0
    · subst k0; exact .inl ⟨rfl, by simpa [fitsT] using hf⟩
    by_cases k1 : k = 1
    · subst k1; exact .inr (.inl ⟨rfl, by simpa [fitsT] using hf⟩)
    by_cases k2 : k = 2
    · subst k2; exact .inr (.inr (.inl ⟨rfl, d, rfl, hl⟩))
    by_cases k3 : k = 3
    · subst k3
      refine .inr (.inr (.inr ⟨rfl, ?_, d, rfl, hl⟩))
      intro e; subst e; simp [fitsT] at hf
    · simp [fitsT, k0, k1, k2, k3] at hf

/-- How the text of a type begins. -/
theorem ttxt_inv {y : T} {r l : List UInt8} {d : Nat} (hsh : y.sh d = true) (h : l = y.txt ++ r) :
    (∃ a cap, y = .mk 0 a cap [] ∧ l = [105, 110, 116] ++ r) ∨ (∃ a cap, y = .mk 1 a cap [] ∧ l = [116, 101, 120, 116] ++ r) ∨
    (∃ a cap ys d', d = d' + 1 ∧ y = .mk 2 a cap ys ∧ T.shL ys d' = true ∧ l = 40 :: (T.txtL [44, 32] ys ++ 41 :: r)) ∨
    (∃ a cap ys d', d = d' + 1 ∧ y = .mk 3 a cap ys ∧ T.shL ys d' = true ∧ l = 91 :: (T.txtL [32, 43, 32] ys ++ 93 :: r)) := by
  cases y with
  | mk k a cap yl =>
  rcases sh_type hsh with ⟨rfl, rfl⟩ | ⟨rfl, rfl⟩ | ⟨rfl, d', rfl, hl⟩ | ⟨rfl, -, d', rfl, hl⟩
  · exact .inl ⟨a, cap, rfl, by rw [h]; simp [T.txt]⟩
  · exact .inr (.inl ⟨a, cap, rfl, by rw [h]; simp [T.txt]⟩)
  · exact .inr (.inr (.inl ⟨a, cap, yl, d', rfl, rfl, hl, by rw [h]; simp [T.txt]⟩))
  · exact .inr (.inr (.inr ⟨a, cap, yl, d', rfl, rfl, hl, by rw [h]; simp [T.txt]⟩))

theorem ttxt_head {y : T} {d : Nat} (hsh : y.sh d = true) : ∃ c t, y.txt = c :: t ∧ c ≠ 41 ∧ c ≠ 93 := by
  cases y with
  | mk k a cap yl =>
  rcases sh_type hsh with ⟨rfl, rfl⟩ | ⟨rfl, rfl⟩ | ⟨rfl, d', rfl, hl⟩ | ⟨rfl, -, d', rfl, hl⟩
  · exact ⟨105, _, by simp [T.txt]; rfl, by decide, by decide⟩
  · exact ⟨116, _, by simp [T.txt]; rfl, by decide, by decide⟩
  · exact ⟨40, _, by simp [T.txt]; rfl, by decide, by decide⟩
  · exact ⟨91, _, by simp [T.txt]; rfl, by decide, by decide⟩

/-- The type that was read, and what is behind it; of a type that is written, itself. -/
def OutTt (w : World) (d : Nat) (l : List UInt8) (e : Ending) (w' : World) : Prop :=
  ∃ (k : Int) (a : Option Addr) (m c : Nat) (rs : ByteArray) (ok : Bool), e = .returned (.tuple #[.agg #[.int .i64 k, .slice a m c], .string rs, .bool ok]) ∧ Kp w w' ∧
    ∃ vl : List T, m = vl.length ∧ (ok = true → rs.size < l.length ∧ (T.mk k a c vl).In w' w'.heap.size ∧ (T.mk k a c vl).foot (fun b => w.heap.size ≤ b)) ∧
      ∀ (y : T) (r : List UInt8), y.sh d = true → l = y.txt ++ r → ok = true ∧ rs.data.toList = r ∧ (T.mk k a c vl).same y = true

theorem pre_iffB {s f : ByteArray} : preB s f = true ↔ ∃ r, s.data.toList = f.data.toList ++ r := by
  unfold preB
  rw [decide_eq_true_iff]
  exact ⟨fun ⟨r, h⟩ => ⟨r, h.symm⟩, fun ⟨r, h⟩ => ⟨r, h.symm⟩⟩

theorem pre_size {s f : ByteArray} (h : preB s f = true) : f.size ≤ s.size := by
  obtain ⟨r, hr⟩ := pre_iffB.1 h
  rw [size_list, size_list, hr]; simp

theorem pre_tail {s f : ByteArray} {r : List UInt8} (hr : s.data.toList = f.data.toList ++ r) : (s.extract f.size s.size).data.toList = r := by
  rw [tail_list, hr, size_list, List.drop_left]

theorem pre_oneB (s : ByteArray) (c : UInt8) : preB s ⟨#[c]⟩ = decide (s.data.toList.head? = some c) := by
  unfold preB
  show decide ([c] <+: s.data.toList) = _
  cases s.data.toList with
  | nil => simp
  | cons b l => simp [List.cons_prefix_cons, eq_comm]

theorem leafT {w : World} (k : Int) (hk : k = 0 ∨ k = 1 ∨ k = 2 ∨ k = 3) : (T.mk k none 0 []).In w w.heap.size := inTLeaf k (by unfold I64; omega)

set_option maxRecDepth 100000 in
set_option maxHeartbeats 1000000 in
theorem readT_zero (w : World) (s : ByteArray) : Calls Tryz.prog 78 #[.string s, .int .i64 0] w (OutTt w 0 s.data.toList) := by
  have hR : ∀ w', Kp w w' → OutTt w 0 s.data.toList (.returned (.tuple #[.agg #[.int .i64 0, .slice none 0 0], .string s, .bool false])) w' := fun w' hk =>
    ⟨0, none, 0, 0, s, false, rfl, hk, [], rfl, (fun h => by cases h), fun y r h => by cases y; simp [T.sh] at h⟩
  have HR := Lib.hid hR
  clear hR
  go_enter Tryz.func78, Tryz.ntmps78
  go_wp2_with fail
  exact bodyPost_ret (v := .tuple #[.agg #[.int .i64 0, .slice none 0 0], .string s, .bool false]) (by simp [results, Tryz.results78, go_sem]) rfl (HR.out _ (kk (ka _ _) (ka _ _)))

set_option maxRecDepth 100000 in
set_option maxHeartbeats 4000000 in
theorem readT_int (w : World) (s : ByteArray) (d : Nat) (m : Int) (hm : 1 ≤ m ∧ m ≤ 100) (hs : s.size ≤ 1000000) (hp : preB s ⟨#[105, 110, 116]⟩ = true) : Calls Tryz.prog 78 #[.string s, .int .i64 m] w (OutTt w d s.data.toList) := by
  have hm0 : (m == 0) = false := by rw [beq_eq_false_iff_ne]; omega
  have hz : 3 ≤ s.size := pre_size hp
  obtain ⟨q, hq⟩ := pre_iffB.1 hp
  have ht : (s.extract 3 s.size).data.toList = q := pre_tail (f := ⟨#[105, 110, 116]⟩) hq
  have HC := Lib.hid (show ∀ (y : T) (r : List UInt8), y.sh d = true → s.data.toList = y.txt ++ r → (s.extract 3 s.size).data.toList = r ∧ (T.mk 0 none 0 []).same y = true by
    intro y r hsh h
    rw [ht]
    rw [hq] at h
    rcases ttxt_inv hsh h with ⟨a, cap, rfl, h2⟩ | ⟨a, cap, rfl, h2⟩ | ⟨a, cap, ys, d', -, rfl, -, h2⟩ | ⟨a, cap, ys, d', -, rfl, -, h2⟩
    · exact ⟨List.append_cancel_left h2, by simp [T.same, T.sameL]⟩
    · simp at h2
    · simp at h2
    · simp at h2)
  have HB := Lib.hid (fun (w1 : World) => beginsR s ⟨#[105, 110, 116]⟩ hs (by decide) w1)
  have g3 : (3 : Int) ≤ (s.size : Int) := by omega
  clear hq ht
  go_enter Tryz.func78, Tryz.ntmps78
  go_wp2_with fail
  refine (HB.out _).mono ?_
  rintro e w1 ⟨rfl, rfl⟩
  rw [hp]
  have HK := Lib.hid (kk (ka w (.cells #[.int .i64 0, .slice none 0 0] 27)) (ka _ (.cells #[.int .i64 0, .slice none 0 0] 27)))
  clear hp
  go_wp2_with fail
  go_region
  all_goals
    go_wp2_with fail
    refine bodyPost_ret (v := .tuple #[.agg #[.int .i64 0, .slice none 0 0], .string (s.extract 3 s.size), .bool true]) (by simp [results, Tryz.results78, go_sem]) rfl
      ⟨_, _, _, _, _, _, rfl, kk HK.out kpD, [], rfl, (fun _ => ⟨by rw [← size_list]; simp; omega, leafT 0 (by simp), T.foot_leaf _ _ _⟩), fun y r hsh h => ⟨rfl, HC.out y r hsh h⟩⟩

set_option maxRecDepth 100000 in
set_option maxHeartbeats 4000000 in
theorem readT_text (w : World) (s : ByteArray) (d : Nat) (m : Int) (hm : 1 ≤ m ∧ m ≤ 100) (hs : s.size ≤ 1000000) (hi : preB s ⟨#[105, 110, 116]⟩ = false) (hp : preB s ⟨#[116, 101, 120, 116]⟩ = true) : Calls Tryz.prog 78 #[.string s, .int .i64 m] w (OutTt w d s.data.toList) := by
  have hm0 : (m == 0) = false := by rw [beq_eq_false_iff_ne]; omega
  have hz : 4 ≤ s.size := pre_size hp
  obtain ⟨q, hq⟩ := pre_iffB.1 hp
  have ht : (s.extract 4 s.size).data.toList = q := pre_tail (f := ⟨#[116, 101, 120, 116]⟩) hq
  have HC := Lib.hid (show ∀ (y : T) (r : List UInt8), y.sh d = true → s.data.toList = y.txt ++ r → (s.extract 4 s.size).data.toList = r ∧ (T.mk 1 none 0 []).same y = true by
    intro y r hsh h
    rw [ht]
    rw [hq] at h
    rcases ttxt_inv hsh h with ⟨a, cap, rfl, h2⟩ | ⟨a, cap, rfl, h2⟩ | ⟨a, cap, ys, d', -, rfl, -, h2⟩ | ⟨a, cap, ys, d', -, rfl, -, h2⟩
    · simp at h2
    · exact ⟨List.append_cancel_left h2, by simp [T.same, T.sameL]⟩
    · simp at h2
    · simp at h2)
  have HB := Lib.hid (fun (w1 : World) => beginsR s ⟨#[105, 110, 116]⟩ hs (by decide) w1)
  have HB2 := Lib.hid (fun (w1 : World) => beginsR s ⟨#[116, 101, 120, 116]⟩ hs (by decide) w1)
  have g3 : (4 : Int) ≤ (s.size : Int) := by omega
  clear hq ht
  go_enter Tryz.func78, Tryz.ntmps78
  go_wp2_with fail
  refine (HB.out _).mono ?_
  rintro e w1 ⟨rfl, rfl⟩
  rw [hi]
  clear hi
  go_wp2_with fail
  refine (HB2.out _).mono ?_
  rintro e w1 ⟨rfl, rfl⟩
  rw [hp]
  clear hp
  go_wp2_with fail
  go_region
  all_goals
    go_wp2_with fail
    refine bodyPost_ret (v := .tuple #[.agg #[.int .i64 1, .slice none 0 0], .string (s.extract 4 s.size), .bool true]) (by simp [results, Tryz.results78, go_sem]) rfl
      ⟨_, _, _, _, _, _, rfl, kk (kk (ka _ _) (ka _ _)) kpD, [], rfl, (fun _ => ⟨by rw [← size_list]; simp; omega, leafT 1 (by simp), T.foot_leaf _ _ _⟩), fun y r hsh h => ⟨rfl, HC.out y r hsh h⟩⟩

/-- What is left to read, behind the parts that were read. -/
def LeftT (bt : List UInt8) (en : UInt8) (d : Nat) (l : List UInt8) (r : ByteArray) (vs : List T) : Prop :=
  ∀ (ys : List T) (q : List UInt8), T.shL ys d = true → l = T.txtL bt ys ++ en :: q → ∃ pre z zs, ys = pre ++ z :: zs ∧ T.sameL vs pre = true ∧ r.data.toList = z.txt ++ (tailT bt zs ++ en :: q)

theorem shLT_mid {d : Nat} {pre zs : List T} {z : T} (h : T.shL (pre ++ z :: zs) d = true) : z.sh d = true := by
  refine shLT_at h (j := pre.length) ?_
  rw [List.getElem?_append_right (Nat.le_refl _)]; simp

/-- The type as it stands: what is returned. -/
theorem tupT_told {w w' : World} {vb : Nat} {k : Int} {vs : List T} {sl : Value} (hk : I64 k) (htp : TupAtT w' vb k sl vs) (hvb : w.heap.size < vb) (v0 v1 : Value) :
    ∃ a cap, sl = .slice a vs.length cap ∧ (T.mk k a cap vs).In (put2 w' w.heap.size v0 v1) (put2 w' w.heap.size v0 v1).heap.size ∧ (T.mk k a cap vs).foot (fun b => w.heap.size ≤ b) := by
  obtain ⟨a, cap, rfl, hin, hft⟩ := htp.value hk
  have hS : (put2 w' w.heap.size v0 v1).heap.size = w'.heap.size := by simp [World.setCell]
  exact ⟨a, cap, rfl, by rw [hS]; exact T.In.move (Nat.le_refl _) (fun i _ hi => put2_other (by omega)) _ hin hft, T.foot.mono (fun i hi => by omega) _ hft⟩

set_option maxRecDepth 100000 in
set_option maxHeartbeats 8000000 in
theorem readT_tuple (w : World) (s : ByteArray) (d : Nat) (m : Int) (hm : 1 ≤ m ∧ m ≤ 100) (hs : s.size ≤ 1000000) (hi' : preB s ⟨#[105, 110, 116]⟩ = false) (hx' : preB s ⟨#[116, 101, 120, 116]⟩ = false) (h91 : preB s ⟨#[91]⟩ = false) (h40 : preB s ⟨#[40]⟩ = true)
    (ih : ∀ (s1 : ByteArray) (w1 : World), s1.size < s.size → Calls Tryz.prog 78 #[.string s1, .int .i64 (m - 1)] w1 (OutTt w1 d s1.data.toList)) :
    Calls Tryz.prog 78 #[.string s, .int .i64 m] w (OutTt w (d + 1) s.data.toList) := by
  obtain ⟨i0, hi, hz0, hz1, hz2⟩ := info_parts infoT
  have hm0 : (m == 0) = false := by rw [beq_eq_false_iff_ne]; omega
  have hs0 : 1 ≤ s.size := pre_size h40
  have hcr := cons_rest2 s hs0
  have hb : s[0] = 40 := by rw [pre_oneB, hcr] at h40; simpa using h40
  rw [hb] at hcr
  have e9 : (s.extract 1 s.size).size + 1 = s.size := by simp; omega
  have HI := Lib.hid ih
  have HB1 := Lib.hid (fun (w1 : World) => beginsR s ⟨#[105, 110, 116]⟩ hs (by decide) w1)
  have HB2 := Lib.hid (fun (w1 : World) => beginsR s ⟨#[116, 101, 120, 116]⟩ hs (by decide) w1)
  have HB3 := Lib.hid (fun (w1 : World) => beginsR s ⟨#[91]⟩ hs (by decide) w1)
  have HB4 := Lib.hid (fun (w1 : World) => beginsR s ⟨#[40]⟩ hs (by decide) w1)
  have HB5 := Lib.hid (fun (w1 : World) => beginsR (s.extract 1 s.size) ⟨#[41]⟩ (by omega) (by decide) w1)
  have HC := Lib.hid (show ∀ (y : T) (r : List UInt8), y.sh (d + 1) = true → s.data.toList = y.txt ++ r → ∃ a cap ys, y = .mk 2 a cap ys ∧ T.shL ys d = true ∧ (s.extract 1 s.size).data.toList = T.txtL [44, 32] ys ++ 41 :: r by
    intro y r hsh h
    rw [hcr] at h
    rcases ttxt_inv hsh h with ⟨a, cap, rfl, h2⟩ | ⟨a, cap, rfl, h2⟩ | ⟨a, cap, ys, d', hd, rfl, hl, h2⟩ | ⟨a, cap, ys, d', hd, rfl, hl, h2⟩
    · simp at h2
    · simp at h2
    · injection h2 with _ h2; obtain rfl : d = d' := (by omega); exact ⟨a, cap, ys, rfl, hl, h2⟩
    · injection h2 with h2 _; exact absurd h2 (by decide))
  have HE := Lib.hid e9
  have g1 : (1 : Int) ≤ (s.size : Int) := by omega
  clear ih hcr hb e9
  go_enter Tryz.func78, Tryz.ntmps78
  go_wp2_with fail
  refine (HB1.out _).mono ?_
  rintro e w1 ⟨rfl, rfl⟩
  rw [hi']
  go_wp2_with fail
  refine (HB2.out _).mono ?_
  rintro e w1 ⟨rfl, rfl⟩
  rw [hx']
  go_wp2_with fail
  refine (HB3.out _).mono ?_
  rintro e w1 ⟨rfl, rfl⟩
  rw [h91]
  go_wp2_with fail
  refine (HB4.out _).mono ?_
  rintro e w1 ⟨rfl, rfl⟩
  rw [h40]
  go_wp2_with fail
  have hkW := kk (ka w (.cells #[.int .i64 0, .slice none 0 0] 27)) (ka _ (.cells #[.int .i64 2, .slice none 0 0] 27))
  have hblk : ((w.alloc (.cells #[.int .i64 0, .slice none 0 0] 27)).alloc (.cells #[.int .i64 2, .slice none 0 0] 27)).heap[w.heap.size]? = some (.cells #[.int .i64 0, .slice none 0 0] 27 (0, 0)) := blockPast (blockHere rfl)
  have htup : TupAtT ((w.alloc (.cells #[.int .i64 0, .slice none 0 0] 27)).alloc (.cells #[.int .i64 2, .slice none 0 0] 27)) (w.heap.size + 1) 2 (.slice none 0 0) [] := ⟨blockHere (by simp), World.ownsRow_nil _ _ _ _, trivial, trivial⟩
  generalize (w.alloc (.cells #[.int .i64 0, .slice none 0 0] 27)).alloc (.cells #[.int .i64 2, .slice none 0 0] 27) = W2 at *
  have hvw : w.heap.size < w.heap.size + 1 := by omega
  have HBL := Lib.hid hblk
  have HK2 := Lib.hid hkW
  have HTU := Lib.hid htup
  have hI64 : I64 2 := by unfold I64; omega
  have HI64 := Lib.hid hI64
  clear hkW hblk htup hI64 hi' hx' h91 h40
  refine (HB5.out _).mono ?_
  rintro e w3 ⟨rfl, rfl⟩
  have hE := HE.out
  generalize s.extract 1 s.size = s1 at *
  have hs1 : s1.size ≤ 1000000 := by omega
  have hss : s1.size < s.size := by omega
  have HS1 := Lib.hid hE
  clear hE
  cases hp : preB s1 ⟨#[41]⟩ with
  | true =>
    have hs10 : 1 ≤ s1.size := pre_size hp
    have hcr := cons_rest2 s1 hs10
    have hb : s1[0] = 41 := by rw [pre_oneB, hcr] at hp; simpa using hp
    have HC2 := Lib.hid (show ∀ (y : T) (r : List UInt8), y.sh (d + 1) = true → s.data.toList = y.txt ++ r → (s1.extract 1 s1.size).data.toList = r ∧ (T.mk 2 none 0 []).same y = true by
      intro y r hsh h
      obtain ⟨a, cap, ys, rfl, hl, h2⟩ := HC.out y r hsh h
      rw [hcr, hb] at h2
      cases ys with
      | nil =>
        simp only [T.txtL, List.nil_append] at h2
        injection h2 with _ h2
        exact ⟨h2, T.same_node (T.sameL_refl _)⟩
      | cons z zs =>
        exfalso
        obtain ⟨c', t, hc, hn, hn2⟩ := ttxt_head (shLT_at hl (j := 0) (x := z) rfl)
        rw [txtLT_tail, hc] at h2
        injection h2 with h2 _
        exact hn h2.symm)
    have g2 : (1 : Int) ≤ (s1.size : Int) := by omega
    obtain ⟨a, cap, hsl, hin, hft⟩ := tupT_told (w := w) HI64.out HTU.out hvw (.int .i64 2) (.slice none 0 0)
    injection hsl with ha hl hc
    subst ha hc
    obtain ⟨b0, b1, -⟩ := cell2 HTU.out.box
    obtain ⟨c0, c1, f0, f1⟩ := cell2 HBL.out
    have HIN := Lib.hid hin
    have HFT := Lib.hid hft
    clear hin hft hp hcr hb hl
    go_wp2_with fail
    go_region
    all_goals
      go_wp2_with fail
      obtain ⟨d0, d1, -⟩ := cell2 (put2_block (v0 := .int .i64 2) (v1 := .slice none 0 0) HBL.out)
      exact bodyPost_ret (v := .tuple #[.agg #[.int .i64 2, .slice none 0 0], .string (s1.extract 1 s1.size), .bool true]) (by simp [results, Tryz.results78, go_sem, d0, d1]) rfl
        ⟨_, _, _, _, _, _, rfl, kk (put2_kp HK2.out (Nat.le_refl _)) kpD, [], rfl, (fun _ => ⟨by rw [← size_list]; simp; omega, HIN.out.keep (Nat.le_refl _) kpD, HFT.out⟩), fun y r hsh h => ⟨rfl, HC2.out y r hsh h⟩⟩
  | false =>
    have HL0 := Lib.hid (show LeftT [44, 32] 41 d s1.data.toList s1 [] by
      intro ys q hsh h
      cases ys with
      | nil =>
        rw [pre_oneB, h] at hp
        simp [T.txtL] at hp
      | cons y ys => exact ⟨[], y, ys, rfl, rfl, by rw [h, txtLT_tail, List.append_assoc]⟩)
    clear hp
    go_wp2_with fail
    go_loopw [0] (fun rr wr => ∃ (r : ByteArray) (sl : Value) (vs : List T), rr = .string r ∧ r.size ≤ s1.size ∧ vs.length ≤ s1.size - r.size ∧ Hid (LeftT [44, 32] 41 d s1.data.toList r vs) ∧ TupAtT wr (w.heap.size + 1) 2 sl vs ∧ Kp w wr ∧ wr.heap[w.heap.size]? = some (.cells #[.int .i64 0, .slice none 0 0] 27 (0, 0))) (fun rr _ => strSize rr)
    case atStart => exact ⟨s1, _, [], rfl, Nat.le_refl _, by simp, HL0, HTU.out, HK2.out, HBL.out⟩
    case round =>
      obtain ⟨r, sl, vs, rfl, hrz, hvl, hre, htp, hk, hres⟩ := hrel
      have HTP := Lib.hid htp
      have HK := Lib.hid hk
      have HRS := Lib.hid hres
      have HRE := Lib.hid hre.out
      have hvbw := htp.lt
      have nres : some w.heap.size ≠ sl.ownBlock := fun e => by have := (htp.own.lt _ e.symm).1; omega
      have nvb : some (w.heap.size + 1) ≠ sl.ownBlock := fun e => by have := (htp.own.lt _ e.symm).1; omega
      have hrs : r.size < s.size := by omega
      clear htp hk hres hre
      go_wp2_with fail
      refine (HI.out r wr hrs).mono ?_
      rintro e w3 ⟨k, a, mm, c, r2, ok, rfl, hk3, vl, rfl, hok, hco⟩
      have HK3 := Lib.hid hk3
      have hres3 := (hk3.block _ (lt_of_block HRS.out)).trans HRS.out
      have HR3 := Lib.hid hres3
      have hz3 := lt_of_block hres3
      have HCO := Lib.hid hco
      have HOK := Lib.hid hok
      cases ok with
      | false =>
        have HN := Lib.hid (show ∀ (y : T) (q : List UInt8), y.sh (d + 1) = true → s.data.toList = y.txt ++ q → False by
          intro y q hsh h
          obtain ⟨a, cap, ys, rfl, hl, h2⟩ := HC.out y q hsh h
          obtain ⟨pre, z, zs, rfl, -, h3⟩ := HRE.out ys q hl h2
          have := (hco z _ (shLT_mid hl) h3).1
          cases this)
        have hb3 := (hk3.block _ hvbw).trans HTP.out.box
        have hvb3 := lt_of_block hb3
        obtain ⟨b0, b1, -⟩ := cell2 hb3
        obtain ⟨c0, c1, f0, f1⟩ := cell2 hres3
        obtain ⟨a', cap', rfl, -⟩ := HTP.out.value HI64.out
        clear hk3 hres3 hco hok hb3
        go_wp2_with fail
        obtain ⟨d0, d1, -⟩ := cell2 (blockPast (o := .cells #[.int .i64 k, .slice a vl.length c] 27) (put2_block (v0 := .int .i64 2) (v1 := .slice a' vs.length cap') HR3.out))
        exact bodyPost_ret (v := .tuple #[.agg #[.int .i64 2, .slice a' vs.length cap'], .string r, .bool false]) (by simp [results, Tryz.results78, go_sem, d0, d1]) rfl
          ⟨_, _, _, _, _, _, rfl, kk (put2_kp (kk HK.out HK3.out) (Nat.le_refl _)) (ka _ _), vs, rfl, (fun h => by cases h), fun y q hsh h => (HN.out y q hsh h).elim⟩
      | true =>
        obtain ⟨hrs2, hin, hft⟩ := hok rfl
        rw [← size_list] at hrs2
        have hb3 := (hk3.block _ hvbw).trans HTP.out.box
        have hvb3 := lt_of_block hb3
        have q3 : w3.cell? ⟨w.heap.size + 1, 1, none⟩ = some sl := cellOf hb3 rfl
        have HB3' := Lib.hid hb3
        have HZI := Lib.hid hin
        have HZF := Lib.hid hft
        clear hk3 hres3 hco hok hb3 hin hft
        go_wp2_with (at_builtin; refine wpList_append_lies _ rfl _ _ 25 rfl (w.heap.size + 1 + 1) 27 i0 _ 2 32 Tryz.underlying25 hi hz0 hz1 hz2 rfl (by decide) _ _ _ rfl (((ownsRow_kp HTP.out.own HK3.out).alloc _).alloc _) ⟨w3.heap.size + 1, 0, none⟩ 1 1 [.int .i64 k, .slice a vl.length c] rfl rfl ?a1 ?a2 (by decide) ?a3 ?a4 ?a5 (w3.heap.size + 1 + 1) (by simp) ?_)
        case a1 =>
          intro j u hj
          match j, hj with
          | 0, hj => simp at hj; subst hj; simp [Addr.add]
          | 1, hj => simp at hj; subst hj; simp [Addr.add]
        case a2 => intro u hu; simp at hu; rcases hu with rfl | rfl <;> rfl
        case a3 => unfold maxLen; omega
        case a4 => omega
        case a5 => simp; omega
        intro gg gcap w4 hown1 hgrow hat hltg
        have hka2 := ka w3 (.cells #[.int .i64 k, .slice a vl.length c] 27)
        have hkc := kk hka2 (ka (w3.alloc (.cells #[.int .i64 k, .slice a vl.length c] 27)) (.cells #[.int .i64 k, .slice a vl.length c] 27))
        have hb4 := (hgrow.block (w.heap.size + 1) (by simp; omega) nvb).trans (blockPast (blockPast HB3'.out))
        have p3 : w4.cell? ⟨w.heap.size + 1, 1, none⟩ = some sl := cellOf hb4 rfl
        have pf3 : w4.frozen? ⟨w.heap.size + 1, 1, none⟩ = false := freeOf hb4
        have HST := Lib.hid (HTP.out.step HK3.out HZI.out HZF.out hkc hown1 hgrow (by simpa using hat))
        have HK4 := Lib.hid (put1_kp (i := 1) (v := .slice (some ⟨gg, 0, none⟩) (vs.length + 1) gcap) (kp_grown (kk (kk HK.out HK3.out) hkc) hgrow (fun k e => by have := (HTP.out.own.lt k e).1; omega)) (by omega : w.heap.size ≤ w.heap.size + 1))
        have HR4 := Lib.hid (step_block (i := 1) (u := .slice (some ⟨gg, 0, none⟩) (vs.length + 1) gcap) HK3.out hkc hgrow nres (by omega : w.heap.size ≠ w.heap.size + 1) HRS.out)
        clear hka2 hkc hb4 hown1 hgrow hat q3
        go_wp2_with fail
        generalize w4.setCell ⟨w.heap.size + 1, 1, none⟩ (.slice (some ⟨gg, 0, none⟩) (vs.length + 1) gcap) = W5 at *
        refine (beginsR r2 ⟨#[41]⟩ (by omega) (by decide) _).mono ?_
        rintro e w6 ⟨rfl, rfl⟩
        have hvW := HST.out.lt
        cases hpe : preB r2 ⟨#[41]⟩ with
        | true =>
          have hr0 : 1 ≤ r2.size := pre_size hpe
          have hcr := cons_rest2 r2 hr0
          have hb : r2[0] = 41 := by rw [pre_oneB, hcr] at hpe; simpa using hpe
          have HC2 := Lib.hid (show ∀ (y : T) (q : List UInt8), y.sh (d + 1) = true → s.data.toList = y.txt ++ q → (r2.extract 1 r2.size).data.toList = q ∧ ∀ (ba : Option Addr) (bc : Nat), (T.mk 2 ba bc (vs ++ [T.mk k a c vl])).same y = true by
            intro y q hsh h
            obtain ⟨a, cap, ys, rfl, hl, h2⟩ := HC.out y q hsh h
            obtain ⟨pre, z, zs, rfl, hpre, h3⟩ := HRE.out ys q hl h2
            obtain ⟨-, h4, h5⟩ := HCO.out z _ (shLT_mid hl) h3
            rw [hcr, hb] at h4
            cases zs with
            | nil =>
              simp only [tailT, List.nil_append] at h4
              injection h4 with _ h4
              exact ⟨h4, fun ba bc => T.same_node (T.sameL_snoc hpre h5)⟩
            | cons z2 zs => simp [tailT] at h4)
          have g2 : (1 : Int) ≤ (r2.size : Int) := by omega
          obtain ⟨a2, cap2, hsl, hin, hft⟩ := tupT_told (w := w) HI64.out HST.out hvw (.int .i64 2) (.slice (some ⟨gg, 0, none⟩) (vs.length + 1) gcap)
          injection hsl with ha hl hc
          subst ha hc
          obtain ⟨b0, b1, -⟩ := cell2 HST.out.box
          obtain ⟨c0, c1, f0, f1⟩ := cell2 HR4.out
          have HIN := Lib.hid hin
          have HFT := Lib.hid hft
          clear hin hft hpe hcr hb hl
          go_wp2_with fail
          go_region
          all_goals
            go_wp2_with fail
            obtain ⟨d0, d1, -⟩ := cell2 (put2_block (v0 := .int .i64 2) (v1 := .slice (some ⟨gg, 0, none⟩) (vs.length + 1) gcap) HR4.out)
            exact bodyPost_ret (v := .tuple #[.agg #[.int .i64 2, .slice (some ⟨gg, 0, none⟩) (vs.length + 1) gcap], .string (r2.extract 1 r2.size), .bool true]) (by simp [results, Tryz.results78, go_sem, d0, d1]) rfl
              ⟨_, _, _, _, _, _, rfl, kk (put2_kp HK4.out (Nat.le_refl _)) kpD, vs ++ [T.mk k a c vl], by simp, (fun _ => ⟨by rw [← size_list]; simp; omega, HIN.out.keep (Nat.le_refl _) kpD, HFT.out⟩), fun y q hsh h => ⟨rfl, (HC2.out y q hsh h).1, (HC2.out y q hsh h).2 _ _⟩⟩
        | false =>
          have HL := Lib.hid (show ∀ (ys : List T) (q : List UInt8), T.shL ys d = true → s1.data.toList = T.txtL [44, 32] ys ++ 41 :: q → ∃ pre z zs, ys = pre ++ z :: zs ∧ T.sameL (vs ++ [T.mk k a c vl]) pre = true ∧ r2.data.toList = [44, 32] ++ (z.txt ++ (tailT [44, 32] zs ++ 41 :: q)) by
            intro ys q hsh h
            obtain ⟨pre, z, zs, rfl, hpre, h3⟩ := HRE.out ys q hsh h
            obtain ⟨-, h4, h5⟩ := HCO.out z _ (shLT_mid hsh) h3
            cases zs with
            | nil =>
              rw [pre_oneB, h4] at hpe
              simp [tailT] at hpe
            | cons z2 zs =>
              refine ⟨pre ++ [z], z2, zs, by simp, T.sameL_snoc hpre h5, ?_⟩
              rw [h4]; simp [tailT])
          clear hpe
          go_wp2_with fail
          refine (beginsR r2 ⟨#[44, 32]⟩ (by omega) (by decide) _).mono ?_
          rintro e w6 ⟨rfl, rfl⟩
          cases hpb : preB r2 ⟨#[44, 32]⟩ with
          | false =>
            have HN := Lib.hid (show ∀ (y : T) (q : List UInt8), y.sh (d + 1) = true → s.data.toList = y.txt ++ q → False by
              intro y q hsh h
              obtain ⟨a, cap, ys, rfl, hl, h2⟩ := HC.out y q hsh h
              obtain ⟨pre, z, zs, -, -, h3⟩ := HL.out ys q hl h2
              have := (pre_iffB (s := r2) (f := ⟨#[44, 32]⟩)).2 ⟨_, h3⟩
              rw [hpb] at this; cases this)
            obtain ⟨b0, b1, -⟩ := cell2 HST.out.box
            obtain ⟨c0, c1, f0, f1⟩ := cell2 HR4.out
            clear hpb
            go_wp2_with fail
            obtain ⟨d0, d1, -⟩ := cell2 (put2_block (v0 := .int .i64 2) (v1 := .slice (some ⟨gg, 0, none⟩) (vs.length + 1) gcap) HR4.out)
            exact bodyPost_ret (v := .tuple #[.agg #[.int .i64 2, .slice (some ⟨gg, 0, none⟩) (vs.length + 1) gcap], .string r, .bool false]) (by simp [results, Tryz.results78, go_sem, d0, d1]) rfl
              ⟨_, _, _, _, _, _, rfl, put2_kp HK4.out (Nat.le_refl _), vs ++ [T.mk k a c vl], by simp, (fun h => by cases h), fun y q hsh h => (HN.out y q hsh h).elim⟩
          | true =>
            have hr2 : 2 ≤ r2.size := pre_size hpb
            have HLP := Lib.hid (show LeftT [44, 32] 41 d s1.data.toList (r2.extract 2 r2.size) (vs ++ [T.mk k a c vl]) by
              intro ys q hsh h
              obtain ⟨pre, z, zs, h1, h2, h3⟩ := HL.out ys q hsh h
              exact ⟨pre, z, zs, h1, h2, by rw [tail_list, h3]; rfl⟩)
            have e7 : (r2.extract 2 r2.size).size + 2 = r2.size := by simp; omega
            have HE7 := Lib.hid e7
            have g2 : (2 : Int) ≤ (r2.size : Int) := by omega
            clear hpb e7
            go_wp2_with fail
            go_roundw
            case rel => exact ⟨_, _, _, rfl, by have := HE7.out; omega, by have := HE7.out; simp only [List.length_append, List.length_cons, List.length_nil]; omega, HLP, by simpa using HST.out, HK4.out, HR4.out⟩
            case measure => simp only [strSize]; have := HE7.out; omega

set_option maxRecDepth 100000 in
set_option maxHeartbeats 8000000 in
theorem readT_sum (w : World) (s : ByteArray) (d : Nat) (m : Int) (hm : 1 ≤ m ∧ m ≤ 100) (hs : s.size ≤ 1000000) (hi' : preB s ⟨#[105, 110, 116]⟩ = false) (hx' : preB s ⟨#[116, 101, 120, 116]⟩ = false) (h91 : preB s ⟨#[91]⟩ = true)
    (ih : ∀ (s1 : ByteArray) (w1 : World), s1.size < s.size → Calls Tryz.prog 78 #[.string s1, .int .i64 (m - 1)] w1 (OutTt w1 d s1.data.toList)) :
    Calls Tryz.prog 78 #[.string s, .int .i64 m] w (OutTt w (d + 1) s.data.toList) := by
  obtain ⟨i0, hi, hz0, hz1, hz2⟩ := info_parts infoT
  have hm0 : (m == 0) = false := by rw [beq_eq_false_iff_ne]; omega
  have hs0 : 1 ≤ s.size := pre_size h91
  have hcr := cons_rest2 s hs0
  have hb : s[0] = 91 := by rw [pre_oneB, hcr] at h91; simpa using h91
  rw [hb] at hcr
  have e9 : (s.extract 1 s.size).size + 1 = s.size := by simp; omega
  have HI := Lib.hid ih
  have HB1 := Lib.hid (fun (w1 : World) => beginsR s ⟨#[105, 110, 116]⟩ hs (by decide) w1)
  have HB2 := Lib.hid (fun (w1 : World) => beginsR s ⟨#[116, 101, 120, 116]⟩ hs (by decide) w1)
  have HB3 := Lib.hid (fun (w1 : World) => beginsR s ⟨#[91]⟩ hs (by decide) w1)
  have HB4 := Lib.hid (fun (w1 : World) => beginsR s ⟨#[40]⟩ hs (by decide) w1)
  have HB5 := Lib.hid (fun (w1 : World) => beginsR (s.extract 1 s.size) ⟨#[93]⟩ (by omega) (by decide) w1)
  have HC := Lib.hid (show ∀ (y : T) (r : List UInt8), y.sh (d + 1) = true → s.data.toList = y.txt ++ r → ∃ a cap ys, y = .mk 3 a cap ys ∧ T.shL ys d = true ∧ (s.extract 1 s.size).data.toList = T.txtL [32, 43, 32] ys ++ 93 :: r by
    intro y r hsh h
    rw [hcr] at h
    rcases ttxt_inv hsh h with ⟨a, cap, rfl, h2⟩ | ⟨a, cap, rfl, h2⟩ | ⟨a, cap, ys, d', hd, rfl, hl, h2⟩ | ⟨a, cap, ys, d', hd, rfl, hl, h2⟩
    · simp at h2
    · simp at h2
    · injection h2 with h2 _; exact absurd h2 (by decide)
    · injection h2 with _ h2; obtain rfl : d = d' := (by omega); exact ⟨a, cap, ys, rfl, hl, h2⟩)
  have HE := Lib.hid e9
  have g1 : (1 : Int) ≤ (s.size : Int) := by omega
  clear ih hcr hb e9
  go_enter Tryz.func78, Tryz.ntmps78
  go_wp2_with fail
  refine (HB1.out _).mono ?_
  rintro e w1 ⟨rfl, rfl⟩
  rw [hi']
  go_wp2_with fail
  refine (HB2.out _).mono ?_
  rintro e w1 ⟨rfl, rfl⟩
  rw [hx']
  go_wp2_with fail
  refine (HB3.out _).mono ?_
  rintro e w1 ⟨rfl, rfl⟩
  rw [h91]
  go_wp2_with fail
  have hkW := kk (ka w (.cells #[.int .i64 0, .slice none 0 0] 27)) (ka _ (.cells #[.int .i64 3, .slice none 0 0] 27))
  have hblk : ((w.alloc (.cells #[.int .i64 0, .slice none 0 0] 27)).alloc (.cells #[.int .i64 3, .slice none 0 0] 27)).heap[w.heap.size]? = some (.cells #[.int .i64 0, .slice none 0 0] 27 (0, 0)) := blockPast (blockHere rfl)
  have htup : TupAtT ((w.alloc (.cells #[.int .i64 0, .slice none 0 0] 27)).alloc (.cells #[.int .i64 3, .slice none 0 0] 27)) (w.heap.size + 1) 3 (.slice none 0 0) [] := ⟨blockHere (by simp), World.ownsRow_nil _ _ _ _, trivial, trivial⟩
  generalize (w.alloc (.cells #[.int .i64 0, .slice none 0 0] 27)).alloc (.cells #[.int .i64 3, .slice none 0 0] 27) = W2 at *
  have hvw : w.heap.size < w.heap.size + 1 := by omega
  have HBL := Lib.hid hblk
  have HK2 := Lib.hid hkW
  have HTU := Lib.hid htup
  have hI64 : I64 3 := by unfold I64; omega
  have HI64 := Lib.hid hI64
  clear hkW hblk htup hI64 hi' hx' h91
  refine (HB5.out _).mono ?_
  rintro e w3 ⟨rfl, rfl⟩
  have hE := HE.out
  generalize s.extract 1 s.size = s1 at *
  have hs1 : s1.size ≤ 1000000 := by omega
  have hss : s1.size < s.size := by omega
  have HS1 := Lib.hid hE
  clear hE
  cases hp : preB s1 ⟨#[93]⟩ with
  | true =>
    have hs10 : 1 ≤ s1.size := pre_size hp
    have hcr := cons_rest2 s1 hs10
    have hb : s1[0] = 93 := by rw [pre_oneB, hcr] at hp; simpa using hp
    have HC2 := Lib.hid (show ∀ (y : T) (r : List UInt8), y.sh (d + 1) = true → s.data.toList = y.txt ++ r → (s1.extract 1 s1.size).data.toList = r ∧ (T.mk 3 none 0 []).same y = true by
      intro y r hsh h
      obtain ⟨a, cap, ys, rfl, hl, h2⟩ := HC.out y r hsh h
      rw [hcr, hb] at h2
      cases ys with
      | nil =>
        simp only [T.txtL, List.nil_append] at h2
        injection h2 with _ h2
        exact ⟨h2, T.same_node (T.sameL_refl _)⟩
      | cons z zs =>
        exfalso
        obtain ⟨c', t, hc, hn, hn2⟩ := ttxt_head (shLT_at hl (j := 0) (x := z) rfl)
        rw [txtLT_tail, hc] at h2
        injection h2 with h2 _
        exact hn2 h2.symm)
    have g2 : (1 : Int) ≤ (s1.size : Int) := by omega
    obtain ⟨a, cap, hsl, hin, hft⟩ := tupT_told (w := w) HI64.out HTU.out hvw (.int .i64 3) (.slice none 0 0)
    injection hsl with ha hl hc
    subst ha hc
    obtain ⟨b0, b1, -⟩ := cell2 HTU.out.box
    obtain ⟨c0, c1, f0, f1⟩ := cell2 HBL.out
    have HIN := Lib.hid hin
    have HFT := Lib.hid hft
    clear hin hft hp hcr hb hl
    go_wp2_with fail
    go_region
    all_goals
      go_wp2_with fail
      obtain ⟨d0, d1, -⟩ := cell2 (put2_block (v0 := .int .i64 3) (v1 := .slice none 0 0) HBL.out)
      exact bodyPost_ret (v := .tuple #[.agg #[.int .i64 3, .slice none 0 0], .string (s1.extract 1 s1.size), .bool true]) (by simp [results, Tryz.results78, go_sem, d0, d1]) rfl
        ⟨_, _, _, _, _, _, rfl, kk (put2_kp HK2.out (Nat.le_refl _)) kpD, [], rfl, (fun _ => ⟨by rw [← size_list]; simp; omega, HIN.out.keep (Nat.le_refl _) kpD, HFT.out⟩), fun y r hsh h => ⟨rfl, HC2.out y r hsh h⟩⟩
  | false =>
    have HL0 := Lib.hid (show LeftT [32, 43, 32] 93 d s1.data.toList s1 [] by
      intro ys q hsh h
      cases ys with
      | nil =>
        rw [pre_oneB, h] at hp
        simp [T.txtL] at hp
      | cons y ys => exact ⟨[], y, ys, rfl, rfl, by rw [h, txtLT_tail, List.append_assoc]⟩)
    clear hp
    go_wp2_with fail
    go_loopw [0] (fun rr wr => ∃ (r : ByteArray) (sl : Value) (vs : List T), rr = .string r ∧ r.size ≤ s1.size ∧ vs.length ≤ s1.size - r.size ∧ Hid (LeftT [32, 43, 32] 93 d s1.data.toList r vs) ∧ TupAtT wr (w.heap.size + 1) 3 sl vs ∧ Kp w wr ∧ wr.heap[w.heap.size]? = some (.cells #[.int .i64 0, .slice none 0 0] 27 (0, 0))) (fun rr _ => strSize rr)
    case atStart => exact ⟨s1, _, [], rfl, Nat.le_refl _, by simp, HL0, HTU.out, HK2.out, HBL.out⟩
    case round =>
      obtain ⟨r, sl, vs, rfl, hrz, hvl, hre, htp, hk, hres⟩ := hrel
      have HTP := Lib.hid htp
      have HK := Lib.hid hk
      have HRS := Lib.hid hres
      have HRE := Lib.hid hre.out
      have hvbw := htp.lt
      have nres : some w.heap.size ≠ sl.ownBlock := fun e => by have := (htp.own.lt _ e.symm).1; omega
      have nvb : some (w.heap.size + 1) ≠ sl.ownBlock := fun e => by have := (htp.own.lt _ e.symm).1; omega
      have hrs : r.size < s.size := by omega
      clear htp hk hres hre
      go_wp2_with fail
      refine (HI.out r wr hrs).mono ?_
      rintro e w3 ⟨k, a, mm, c, r2, ok, rfl, hk3, vl, rfl, hok, hco⟩
      have HK3 := Lib.hid hk3
      have hres3 := (hk3.block _ (lt_of_block HRS.out)).trans HRS.out
      have HR3 := Lib.hid hres3
      have hz3 := lt_of_block hres3
      have HCO := Lib.hid hco
      have HOK := Lib.hid hok
      cases ok with
      | false =>
        have HN := Lib.hid (show ∀ (y : T) (q : List UInt8), y.sh (d + 1) = true → s.data.toList = y.txt ++ q → False by
          intro y q hsh h
          obtain ⟨a, cap, ys, rfl, hl, h2⟩ := HC.out y q hsh h
          obtain ⟨pre, z, zs, rfl, -, h3⟩ := HRE.out ys q hl h2
          have := (hco z _ (shLT_mid hl) h3).1
          cases this)
        have hb3 := (hk3.block _ hvbw).trans HTP.out.box
        have hvb3 := lt_of_block hb3
        obtain ⟨b0, b1, -⟩ := cell2 hb3
        obtain ⟨c0, c1, f0, f1⟩ := cell2 hres3
        obtain ⟨a', cap', rfl, -⟩ := HTP.out.value HI64.out
        clear hk3 hres3 hco hok hb3
        go_wp2_with fail
        obtain ⟨d0, d1, -⟩ := cell2 (blockPast (o := .cells #[.int .i64 k, .slice a vl.length c] 27) (put2_block (v0 := .int .i64 3) (v1 := .slice a' vs.length cap') HR3.out))
        exact bodyPost_ret (v := .tuple #[.agg #[.int .i64 3, .slice a' vs.length cap'], .string r, .bool false]) (by simp [results, Tryz.results78, go_sem, d0, d1]) rfl
          ⟨_, _, _, _, _, _, rfl, kk (put2_kp (kk HK.out HK3.out) (Nat.le_refl _)) (ka _ _), vs, rfl, (fun h => by cases h), fun y q hsh h => (HN.out y q hsh h).elim⟩
      | true =>
        obtain ⟨hrs2, hin, hft⟩ := hok rfl
        rw [← size_list] at hrs2
        have hb3 := (hk3.block _ hvbw).trans HTP.out.box
        have hvb3 := lt_of_block hb3
        have q3 : w3.cell? ⟨w.heap.size + 1, 1, none⟩ = some sl := cellOf hb3 rfl
        have HB3' := Lib.hid hb3
        have HZI := Lib.hid hin
        have HZF := Lib.hid hft
        clear hk3 hres3 hco hok hb3 hin hft
        go_wp2_with (at_builtin; refine wpList_append_lies _ rfl _ _ 25 rfl (w.heap.size + 1 + 1) 27 i0 _ 2 32 Tryz.underlying25 hi hz0 hz1 hz2 rfl (by decide) _ _ _ rfl (((ownsRow_kp HTP.out.own HK3.out).alloc _).alloc _) ⟨w3.heap.size + 1, 0, none⟩ 1 1 [.int .i64 k, .slice a vl.length c] rfl rfl ?a1 ?a2 (by decide) ?a3 ?a4 ?a5 (w3.heap.size + 1 + 1) (by simp) ?_)
        case a1 =>
          intro j u hj
          match j, hj with
          | 0, hj => simp at hj; subst hj; simp [Addr.add]
          | 1, hj => simp at hj; subst hj; simp [Addr.add]
        case a2 => intro u hu; simp at hu; rcases hu with rfl | rfl <;> rfl
        case a3 => unfold maxLen; omega
        case a4 => omega
        case a5 => simp; omega
        intro gg gcap w4 hown1 hgrow hat hltg
        have hka2 := ka w3 (.cells #[.int .i64 k, .slice a vl.length c] 27)
        have hkc := kk hka2 (ka (w3.alloc (.cells #[.int .i64 k, .slice a vl.length c] 27)) (.cells #[.int .i64 k, .slice a vl.length c] 27))
        have hb4 := (hgrow.block (w.heap.size + 1) (by simp; omega) nvb).trans (blockPast (blockPast HB3'.out))
        have p3 : w4.cell? ⟨w.heap.size + 1, 1, none⟩ = some sl := cellOf hb4 rfl
        have pf3 : w4.frozen? ⟨w.heap.size + 1, 1, none⟩ = false := freeOf hb4
        have HST := Lib.hid (HTP.out.step HK3.out HZI.out HZF.out hkc hown1 hgrow (by simpa using hat))
        have HK4 := Lib.hid (put1_kp (i := 1) (v := .slice (some ⟨gg, 0, none⟩) (vs.length + 1) gcap) (kp_grown (kk (kk HK.out HK3.out) hkc) hgrow (fun k e => by have := (HTP.out.own.lt k e).1; omega)) (by omega : w.heap.size ≤ w.heap.size + 1))
        have HR4 := Lib.hid (step_block (i := 1) (u := .slice (some ⟨gg, 0, none⟩) (vs.length + 1) gcap) HK3.out hkc hgrow nres (by omega : w.heap.size ≠ w.heap.size + 1) HRS.out)
        clear hka2 hkc hb4 hown1 hgrow hat q3
        go_wp2_with fail
        generalize w4.setCell ⟨w.heap.size + 1, 1, none⟩ (.slice (some ⟨gg, 0, none⟩) (vs.length + 1) gcap) = W5 at *
        refine (beginsR r2 ⟨#[93]⟩ (by omega) (by decide) _).mono ?_
        rintro e w6 ⟨rfl, rfl⟩
        have hvW := HST.out.lt
        cases hpe : preB r2 ⟨#[93]⟩ with
        | true =>
          have hr0 : 1 ≤ r2.size := pre_size hpe
          have hcr := cons_rest2 r2 hr0
          have hb : r2[0] = 93 := by rw [pre_oneB, hcr] at hpe; simpa using hpe
          have HC2 := Lib.hid (show ∀ (y : T) (q : List UInt8), y.sh (d + 1) = true → s.data.toList = y.txt ++ q → (r2.extract 1 r2.size).data.toList = q ∧ ∀ (ba : Option Addr) (bc : Nat), (T.mk 3 ba bc (vs ++ [T.mk k a c vl])).same y = true by
            intro y q hsh h
            obtain ⟨a, cap, ys, rfl, hl, h2⟩ := HC.out y q hsh h
            obtain ⟨pre, z, zs, rfl, hpre, h3⟩ := HRE.out ys q hl h2
            obtain ⟨-, h4, h5⟩ := HCO.out z _ (shLT_mid hl) h3
            rw [hcr, hb] at h4
            cases zs with
            | nil =>
              simp only [tailT, List.nil_append] at h4
              injection h4 with _ h4
              exact ⟨h4, fun ba bc => T.same_node (T.sameL_snoc hpre h5)⟩
            | cons z2 zs => simp [tailT] at h4)
          have g2 : (1 : Int) ≤ (r2.size : Int) := by omega
          obtain ⟨a2, cap2, hsl, hin, hft⟩ := tupT_told (w := w) HI64.out HST.out hvw (.int .i64 3) (.slice (some ⟨gg, 0, none⟩) (vs.length + 1) gcap)
          injection hsl with ha hl hc
          subst ha hc
          obtain ⟨b0, b1, -⟩ := cell2 HST.out.box
          obtain ⟨c0, c1, f0, f1⟩ := cell2 HR4.out
          have HIN := Lib.hid hin
          have HFT := Lib.hid hft
          clear hin hft hpe hcr hb hl
          go_wp2_with fail
          go_region
          all_goals
            go_wp2_with fail
            obtain ⟨d0, d1, -⟩ := cell2 (put2_block (v0 := .int .i64 3) (v1 := .slice (some ⟨gg, 0, none⟩) (vs.length + 1) gcap) HR4.out)
            exact bodyPost_ret (v := .tuple #[.agg #[.int .i64 3, .slice (some ⟨gg, 0, none⟩) (vs.length + 1) gcap], .string (r2.extract 1 r2.size), .bool true]) (by simp [results, Tryz.results78, go_sem, d0, d1]) rfl
              ⟨_, _, _, _, _, _, rfl, kk (put2_kp HK4.out (Nat.le_refl _)) kpD, vs ++ [T.mk k a c vl], by simp, (fun _ => ⟨by rw [← size_list]; simp; omega, HIN.out.keep (Nat.le_refl _) kpD, HFT.out⟩), fun y q hsh h => ⟨rfl, (HC2.out y q hsh h).1, (HC2.out y q hsh h).2 _ _⟩⟩
        | false =>
          have HL := Lib.hid (show ∀ (ys : List T) (q : List UInt8), T.shL ys d = true → s1.data.toList = T.txtL [32, 43, 32] ys ++ 93 :: q → ∃ pre z zs, ys = pre ++ z :: zs ∧ T.sameL (vs ++ [T.mk k a c vl]) pre = true ∧ r2.data.toList = [32, 43, 32] ++ (z.txt ++ (tailT [32, 43, 32] zs ++ 93 :: q)) by
            intro ys q hsh h
            obtain ⟨pre, z, zs, rfl, hpre, h3⟩ := HRE.out ys q hsh h
            obtain ⟨-, h4, h5⟩ := HCO.out z _ (shLT_mid hsh) h3
            cases zs with
            | nil =>
              rw [pre_oneB, h4] at hpe
              simp [tailT] at hpe
            | cons z2 zs =>
              refine ⟨pre ++ [z], z2, zs, by simp, T.sameL_snoc hpre h5, ?_⟩
              rw [h4]; simp [tailT])
          clear hpe
          go_wp2_with fail
          refine (beginsR r2 ⟨#[32, 43, 32]⟩ (by omega) (by decide) _).mono ?_
          rintro e w6 ⟨rfl, rfl⟩
          cases hpb : preB r2 ⟨#[32, 43, 32]⟩ with
          | false =>
            have HN := Lib.hid (show ∀ (y : T) (q : List UInt8), y.sh (d + 1) = true → s.data.toList = y.txt ++ q → False by
              intro y q hsh h
              obtain ⟨a, cap, ys, rfl, hl, h2⟩ := HC.out y q hsh h
              obtain ⟨pre, z, zs, -, -, h3⟩ := HL.out ys q hl h2
              have := (pre_iffB (s := r2) (f := ⟨#[32, 43, 32]⟩)).2 ⟨_, h3⟩
              rw [hpb] at this; cases this)
            obtain ⟨b0, b1, -⟩ := cell2 HST.out.box
            obtain ⟨c0, c1, f0, f1⟩ := cell2 HR4.out
            clear hpb
            go_wp2_with fail
            obtain ⟨d0, d1, -⟩ := cell2 (put2_block (v0 := .int .i64 3) (v1 := .slice (some ⟨gg, 0, none⟩) (vs.length + 1) gcap) HR4.out)
            exact bodyPost_ret (v := .tuple #[.agg #[.int .i64 3, .slice (some ⟨gg, 0, none⟩) (vs.length + 1) gcap], .string r, .bool false]) (by simp [results, Tryz.results78, go_sem, d0, d1]) rfl
              ⟨_, _, _, _, _, _, rfl, put2_kp HK4.out (Nat.le_refl _), vs ++ [T.mk k a c vl], by simp, (fun h => by cases h), fun y q hsh h => (HN.out y q hsh h).elim⟩
          | true =>
            have hr2 : 3 ≤ r2.size := pre_size hpb
            have HLP := Lib.hid (show LeftT [32, 43, 32] 93 d s1.data.toList (r2.extract 3 r2.size) (vs ++ [T.mk k a c vl]) by
              intro ys q hsh h
              obtain ⟨pre, z, zs, h1, h2, h3⟩ := HL.out ys q hsh h
              exact ⟨pre, z, zs, h1, h2, by rw [tail_list, h3]; rfl⟩)
            have e7 : (r2.extract 3 r2.size).size + 3 = r2.size := by simp; omega
            have HE7 := Lib.hid e7
            have g2 : (3 : Int) ≤ (r2.size : Int) := by omega
            clear hpb e7
            go_wp2_with fail
            go_roundw
            case rel => exact ⟨_, _, _, rfl, by have := HE7.out; omega, by have := HE7.out; simp only [List.length_append, List.length_cons, List.length_nil]; omega, HLP, by simpa using HST.out, HK4.out, HR4.out⟩
            case measure => simp only [strSize]; have := HE7.out; omega

set_option maxRecDepth 100000 in
set_option maxHeartbeats 4000000 in
theorem readT_bad (w : World) (s : ByteArray) (d : Nat) (m : Int) (hm : 1 ≤ m ∧ m ≤ 100) (hs : s.size ≤ 1000000) (hi' : preB s ⟨#[105, 110, 116]⟩ = false) (hx' : preB s ⟨#[116, 101, 120, 116]⟩ = false) (h91 : preB s ⟨#[91]⟩ = false) (h40 : preB s ⟨#[40]⟩ = false) :
    Calls Tryz.prog 78 #[.string s, .int .i64 m] w (OutTt w d s.data.toList) := by
  have hm0 : (m == 0) = false := by rw [beq_eq_false_iff_ne]; omega
  have HN := Lib.hid (show ∀ (y : T) (r : List UInt8), y.sh d = true → s.data.toList = y.txt ++ r → False by
    intro y r hsh h
    have nn : ∀ (f : ByteArray), preB s f = false → ∀ q, s.data.toList ≠ f.data.toList ++ q := fun f hf q hq => by
      rw [pre_iffB.2 ⟨q, hq⟩] at hf; cases hf
    rcases ttxt_inv hsh h with ⟨a, cap, rfl, h2⟩ | ⟨a, cap, rfl, h2⟩ | ⟨a, cap, ys, d', hd, rfl, hl, h2⟩ | ⟨a, cap, ys, d', hd, rfl, hl, h2⟩
    · exact nn _ hi' _ h2
    · exact nn _ hx' _ h2
    · exact nn _ h40 _ h2
    · exact nn _ h91 _ h2)
  have HB1 := Lib.hid (fun (w1 : World) => beginsR s ⟨#[105, 110, 116]⟩ hs (by decide) w1)
  have HB2 := Lib.hid (fun (w1 : World) => beginsR s ⟨#[116, 101, 120, 116]⟩ hs (by decide) w1)
  have HB3 := Lib.hid (fun (w1 : World) => beginsR s ⟨#[91]⟩ hs (by decide) w1)
  have HB4 := Lib.hid (fun (w1 : World) => beginsR s ⟨#[40]⟩ hs (by decide) w1)
  go_enter Tryz.func78, Tryz.ntmps78
  go_wp2_with fail
  refine (HB1.out _).mono ?_
  rintro e w1 ⟨rfl, rfl⟩
  rw [hi']
  go_wp2_with fail
  refine (HB2.out _).mono ?_
  rintro e w1 ⟨rfl, rfl⟩
  rw [hx']
  go_wp2_with fail
  refine (HB3.out _).mono ?_
  rintro e w1 ⟨rfl, rfl⟩
  rw [h91]
  go_wp2_with fail
  refine (HB4.out _).mono ?_
  rintro e w1 ⟨rfl, rfl⟩
  rw [h40]
  clear hi' hx' h91 h40
  go_wp2_with fail
  exact bodyPost_ret (v := .tuple #[.agg #[.int .i64 2, .slice none 0 0], .string s, .bool false]) (by simp [results, Tryz.results78, go_sem]) rfl
    ⟨_, _, _, _, _, _, rfl, kk (ka _ _) (ka _ _), [], rfl, (fun h => by cases h), fun y q hsh h => (HN.out y q hsh h).elim⟩

theorem readTR : ∀ (d : Nat) (m : Int) (s : ByteArray) (w : World), m = (d : Int) → d ≤ 6 → s.size ≤ 1000000 → Calls Tryz.prog 78 #[.string s, .int .i64 m] w (OutTt w d s.data.toList) := by
  intro d
  induction d with
  | zero => intro m s w hm _ _; subst hm; exact readT_zero w s
  | succ d ih =>
    intro m s w hm hd hs
    have hm1 : 1 ≤ m ∧ m ≤ 100 := by omega
    have hih : ∀ (s1 : ByteArray) (w1 : World), s1.size < s.size → Calls Tryz.prog 78 #[.string s1, .int .i64 (m - 1)] w1 (OutTt w1 d s1.data.toList) := fun s1 w1 h => ih (m - 1) s1 w1 (by omega) (by omega) (by omega)
    cases h1 : preB s ⟨#[105, 110, 116]⟩ with
    | true => exact readT_int w s (d + 1) m hm1 hs h1
    | false =>
    cases h2 : preB s ⟨#[116, 101, 120, 116]⟩ with
    | true => exact readT_text w s (d + 1) m hm1 hs h1 h2
    | false =>
    cases h3 : preB s ⟨#[91]⟩ with
    | true => exact readT_sum w s d m hm1 hs h1 h2 h3 hih
    | false =>
    cases h4 : preB s ⟨#[40]⟩ with
    | true => exact readT_tuple w s d m hm1 hs h1 h2 h3 h4 hih
    | false => exact readT_bad w s (d + 1) m hm1 hs h1 h2 h3 h4

end Go.Proofs.YtkfmgafgokpjhaaGreatDoor

/-
  THE SPECIFICATION's read OF ANY BYTES; its Parse, Text.
-/
namespace Go.Proofs.YtkfmgafgokpjhaaGreatDoor
open Go.RowKit

theorem readR : ∀ (d : Nat) (m : Int) (s : ByteArray) (w : World), m = (d : Int) → d ≤ 6 → s.size ≤ 1000000 → Calls Tryz.prog 75 #[.string s, .int .i64 m] w (OutRd w d s.data.toList) := by
  intro d
  induction d with
  | zero => intro m s w hm _ _; subst hm; exact read_zero w s
  | succ d ih =>
    intro m s w hm hd hs
    have hm1 : 1 ≤ m ∧ m ≤ 100 := by omega
    have hih : ∀ (s1 : ByteArray) (w1 : World), s1.size < s.size → Calls Tryz.prog 75 #[.string s1, .int .i64 (m - 1)] w1 (OutRd w1 d s1.data.toList) := fun s1 w1 h => ih (m - 1) s1 w1 (by omega) (by omega) (by omega)
    rcases Nat.eq_zero_or_pos s.size with h0 | h0
    · exact read_empty w s (d + 1) m hm1 h0
    by_cases b34 : s[0] = 34
    · exact read_text w s d m hm1 h0 hs b34
    by_cases b35 : s[0] = 35
    · exact read_tag w s d m hm1 h0 hs b35 hih
    by_cases b40 : s[0] = 40
    · exact read_tuple w s d m hm1 h0 hs b40 fun s1 w1 h1 => partsR w1 s1 d (m - 1) (by omega) fun s2 w2 h2 => hih s2 w2 (by omega)
    · exact read_word w s d m hm1 h0 hs b34 b35 b40

mutual
theorem same_txt : ∀ (x y : V), x.same y = true → x.txt = y.txt
  | .mk k n s a cap l, .mk k' n' s' a' cap' l', h => by
    simp [V.same] at h
    obtain ⟨rfl, rfl, h3, h4⟩ := h
    have hs : s.data.toList = s'.data.toList := by rw [← ByteArray.toList_eq, ← ByteArray.toList_eq]; exact h3
    simp only [V.txt, hs, same_txtL l l' h4, same_txtH l l' h4]
theorem same_txtL : ∀ (l m : List V), V.sameL l m = true → V.txtL l = V.txtL m
  | [], [], _ => rfl
  | [], _ :: _, h => by simp [V.sameL] at h
  | _ :: _, [], h => by simp [V.sameL] at h
  | [x], [y], h => by simp [V.sameL] at h; simp [V.txtL, same_txt x y h]
  | [_], _ :: _ :: _, h => by simp [V.sameL] at h
  | _ :: _ :: _, [_], h => by simp [V.sameL] at h
  | x :: x2 :: xs, y :: y2 :: ys, h => by
    simp only [V.sameL, Bool.and_eq_true] at h
    have := same_txtL (x2 :: xs) (y2 :: ys) (by simp only [V.sameL, Bool.and_eq_true]; exact h.2)
    rw [V.txtL, V.txtL, same_txt x y h.1, this]
theorem same_txtH : ∀ (l m : List V), V.sameL l m = true → V.txtH l = V.txtH m
  | [], [], _ => rfl
  | [], _ :: _, h => by simp [V.sameL] at h
  | _ :: _, [], h => by simp [V.sameL] at h
  | x :: xs, y :: ys, h => by
    simp only [V.sameL, Bool.and_eq_true] at h
    simp only [V.txtH, same_txt x y h.1]
end

/-- What Parse answers: the value whose text it is, or that there is none. -/
def OutPs (w : World) (s : ByteArray) (e : Ending) (w' : World) : Prop :=
  (∃ x : V, x.valid = true ∧ s.data.toList = x.txt ∧ (∀ y : V, y.valid = true → s.data.toList = y.txt → x.same y = true) ∧ e = .returned (.tuple #[x.val, .int .i64 0]) ∧ x.In w' w'.heap.size ∧ x.foot (fun b => w.heap.size ≤ b) ∧ Kp w w') ∨
  ((∀ y : V, y.valid = true → s.data.toList ≠ y.txt) ∧ e = .returned (.tuple #[.agg zero4, .int .i64 8]) ∧ Kp w w')

theorem valid_sh {y : V} (h : y.valid = true) : y.sh 6 = true ∧ y.rank ≤ 60 := by simpa [V.valid] using h

set_option maxRecDepth 100000 in
set_option maxHeartbeats 2000000 in
theorem parseR_long (w : World) (s : ByteArray) (h : 13000 < s.size) (hs : s.size ≤ 9223372036854775807) :
    Calls Tryz.prog 32 #[.string s] w fun e w' => e = .returned (.tuple #[.agg zero4, .int .i64 3]) ∧ Kp w w' := by
  have g : (13000 : Int) < (s.size : Int) := by omega
  go_enter Tryz.func32, Tryz.ntmps32
  go_wp2_with fail
  exact bodyPost_ret (v := .tuple #[.agg zero4, .int .i64 3]) (by simp [results, Tryz.results32, go_sem]) rfl ⟨rfl, ka _ _⟩

set_option maxRecDepth 100000 in
set_option maxHeartbeats 4000000 in
theorem parseR (w : World) (s : ByteArray) (hs : s.size ≤ 13000) (tb : Tb w w.heap.size) : Calls Tryz.prog 32 #[.string s] w (OutPs w s) := by
  have g : (s.size : Int) ≤ 13000 := by omega
  have K := fun (w1 : World) => readR 6 6 s w1 rfl (Nat.le_refl _) (by omega)
  have HK := Lib.hid K
  have HTB := Lib.hid tb
  clear K tb
  go_enter Tryz.func32, Tryz.ntmps32
  go_wp2_with fail
  refine (HK.out _).mono ?_
  rintro e w2 ⟨k, n, t, a, mm, c, r2, ok, rfl, hk2, vl, rfl, hok, hco⟩
  have hblk := boxK hk2
  have HBL := Lib.hid hblk
  have hkW := kk (ka _ _) hk2
  have HK2 := Lib.hid hkW
  have hz2 := lt_of_block hblk
  have HCO := Lib.hid (show ∀ (y : V), y.valid = true → s.data.toList = y.txt → ok = true ∧ r2.data.toList = [] ∧ (V.mk k n t a c vl).same y = true from fun y hv h => hco y [] (valid_sh hv).1 (by rw [List.append_nil]; exact h) stop_nil)
  have HOK := Lib.hid hok
  clear hk2 hco hok
  obtain ⟨c0, c1, c2, c3, f0, f1, f2, f3⟩ := cell4 hblk
  clear hblk
  cases ok with
  | false =>
    have HN := Lib.hid (show ∀ y : V, y.valid = true → s.data.toList ≠ y.txt from fun y hv h => by have := (HCO.out y hv h).1; cases this)
    clear hkW
    go_wp2_with fail
    obtain ⟨d0, d1, d2, d3, -⟩ := cell4 (blockPast (o := .cells #[.int .i64 k, .int .i64 n, .string t, .slice a vl.length c] 24) (put4_block (v0 := .int .i64 0) (v1 := .int .i64 0) (v2 := .string ⟨#[]⟩) (v3 := .slice none 0 0) HBL.out))
    exact bodyPost_ret (v := .tuple #[.agg zero4, .int .i64 8]) (by simp [results, Tryz.results32, go_sem, d0, d1, d2, d3]) rfl (.inr ⟨HN.out, rfl, kk (put4_kp HK2.out (Nat.le_refl _)) (ka _ _)⟩)
  | true =>
    obtain ⟨-, hin, hft⟩ := HOK.out rfl
    by_cases hr : r2.data.toList = []
    · have hr2 : r2 = ⟨#[]⟩ := by
        have := Array.toList_eq_nil_iff.1 hr
        cases r2; simp at this; subst this; rfl
      subst hr2
      have hka := ka w2 (.cells #[.int .i64 k, .int .i64 n, .string t, .slice a vl.length c] 24)
      have hin2 := hin.keep hka.size hka
      have HV := Lib.hid (valid_ref k n t a c vl _ hin2)
      have HFT := Lib.hid hft
      have HIN := Lib.hid hin2
      cases hv : (V.mk k n t a c vl).valid with
      | false =>
        rw [hv] at HV
        have HN := Lib.hid (show ∀ y : V, y.valid = true → s.data.toList ≠ y.txt from fun y hvy h => by
          have := same_valid (HCO.out y hvy h).2.2
          rw [hv, hvy] at this; cases this)
        clear hv hin hft hin2 hka hr hkW
        go_wp2_with fail
        refine HV.out.mono ?_
        rintro e w3 ⟨rfl, hk3⟩
        have hR := (hk3.block w.heap.size (by simp; omega)).trans (blockPast HBL.out)
        obtain ⟨c0, c1, c2, c3, f0, f1, f2, f3⟩ := cell4 hR
        have HRR := Lib.hid hR
        have HK3 := Lib.hid (kk HK2.out (kk (ka _ _) hk3))
        clear hR hk3
        go_wp2_with fail
        obtain ⟨d0, d1, d2, d3, -⟩ := cell4 (put4_block (v0 := .int .i64 0) (v1 := .int .i64 0) (v2 := .string ⟨#[]⟩) (v3 := .slice none 0 0) HRR.out)
        exact bodyPost_ret (v := .tuple #[.agg zero4, .int .i64 8]) (by simp [results, Tryz.results32, go_sem, d0, d1, d2, d3]) rfl (.inr ⟨HN.out, rfl, put4_kp HK3.out (Nat.le_refl _)⟩)
      | true =>
        rw [hv] at HV
        obtain ⟨hsh, hrk⟩ := valid_sh hv
        have hlen := V.txt_len _ 6 hsh
        have HW := Lib.hid (fun (w1 : World) (h : Kp (w2.alloc (.cells #[.int .i64 k, .int .i64 n, .string t, .slice a vl.length c] 24)) w1) =>
          writeR _ (V.mk k n t a c vl) 6 w1 (Nat.le_refl _) hsh (hin2.keep h.size h) (HTB.out.keep (kk hkW (kk hka h)) (kk hkW (kk hka h)).size) (by omega))
        have HVV := Lib.hid hv
        generalize hT : (V.mk k n t a c vl).txt = T at *
        have HTT := Lib.hid hT
        clear hv hin hft hin2 hka hr hkW hT hlen hsh hrk
        go_wp2_with fail
        refine HV.out.mono ?_
        rintro e w3 ⟨rfl, hk3⟩
        have hN := (hk3.block w2.heap.size (by simp)).trans (blockHere (w := w2) rfl)
        obtain ⟨b0, b1, b2, b3, -⟩ := cell4 hN
        have HN3 := Lib.hid hN
        have HK3 := Lib.hid hk3
        clear hN hk3
        go_wp2_with fail
        refine (HW.out _ HK3.out).mono ?_
        rintro e w4 ⟨b, rfl, hb, hk4⟩
        have hk34 := kk HK3.out hk4
        have hR := (hk34.block w.heap.size (by simp; omega)).trans (blockPast HBL.out)
        obtain ⟨c0, c1, c2, c3, f0, f1, f2, f3⟩ := cell4 hR
        have hN := (hk4.block _ (lt_of_block HN3.out)).trans HN3.out
        have HRR := Lib.hid hR
        have HK4 := Lib.hid (kk HK2.out (kk (ka _ _) hk34))
        have HI4 := Lib.hid (HIN.out.keep hk34.size hk34)
        clear b0 b1 b2 b3
        obtain ⟨b0, b1, b2, b3, -⟩ := cell4 hN
        by_cases hbs : b.data.toList = s.data.toList
        · have hcmp : (b.toList == s.toList) = true := by rw [ByteArray.toList_eq, ByteArray.toList_eq, beq_iff_eq]; exact hbs
          have HS := Lib.hid (show s.data.toList = (V.mk k n t a c vl).txt by rw [HTT.out, ← hb, hbs])
          clear hb hk34 hk4 hR hN hbs
          go_wp2_with fail
          obtain ⟨d0, d1, d2, d3, -⟩ := cell4 (put4_block (v0 := .int .i64 k) (v1 := .int .i64 n) (v2 := .string t) (v3 := .slice a vl.length c) HRR.out)
          refine bodyPost_ret (v := .tuple #[.agg #[.int .i64 k, .int .i64 n, .string t, .slice a vl.length c], .int .i64 0]) (by simp [results, Tryz.results32, go_sem, d0, d1, d2, d3]) rfl ?_
          have hf1 : (V.mk k n t a c vl).foot (fun b => w.heap.size + 1 ≤ b) := V.foot.mono (fun b hb => by simpa using hb) _ HFT.out
          have hS : (put4 w4 w.heap.size (.int .i64 k) (.int .i64 n) (.string t) (.slice a vl.length c)).heap.size = w4.heap.size := by simp [World.setCell]
          exact .inl ⟨.mk k n t a c vl, HVV.out, HS.out, fun y hv h => (HCO.out y hv h).2.2, rfl, by rw [hS]; exact V.In.move (Nat.le_refl _) (fun b _ hb => put4_other (by omega)) _ HI4.out hf1, V.foot.mono (fun b hb => by omega) _ hf1, put4_kp HK4.out (Nat.le_refl _)⟩
        · have hcmp : (b.toList == s.toList) = false := by rw [ByteArray.toList_eq, ByteArray.toList_eq, beq_eq_false_iff_ne]; exact hbs
          have HN := Lib.hid (show ∀ y : V, y.valid = true → s.data.toList ≠ y.txt from fun y hvy h => by
            have := same_txt _ _ (HCO.out y hvy h).2.2
            rw [HTT.out, ← h, ← hb] at this
            exact hbs this)
          clear hb hk34 hk4 hR hN hbs
          go_wp2_with fail
          obtain ⟨d0, d1, d2, d3, -⟩ := cell4 (put4_block (v0 := .int .i64 0) (v1 := .int .i64 0) (v2 := .string ⟨#[]⟩) (v3 := .slice none 0 0) HRR.out)
          exact bodyPost_ret (v := .tuple #[.agg zero4, .int .i64 8]) (by simp [results, Tryz.results32, go_sem, d0, d1, d2, d3]) rfl (.inr ⟨HN.out, rfl, put4_kp HK4.out (Nat.le_refl _)⟩)
    · have HN := Lib.hid (show ∀ y : V, y.valid = true → s.data.toList ≠ y.txt from fun y hv h => hr (HCO.out y hv h).2.1)
      have e1 : r2.toList.isEmpty = false := by rw [ByteArray.toList_eq]; cases h : r2.data.toList with
        | nil => exact absurd h hr
        | cons _ _ => rfl
      have e2 : (r2.toList == ([] : List UInt8)) = false := by rw [ByteArray.toList_eq, beq_eq_false_iff_ne]; exact hr
      clear hin hft hr hkW
      go_wp2_with fail
      obtain ⟨d0, d1, d2, d3, -⟩ := cell4 (blockPast (o := .cells #[.int .i64 k, .int .i64 n, .string t, .slice a vl.length c] 24) (put4_block (v0 := .int .i64 0) (v1 := .int .i64 0) (v2 := .string ⟨#[]⟩) (v3 := .slice none 0 0) HBL.out))
      exact bodyPost_ret (v := .tuple #[.agg zero4, .int .i64 8]) (by simp [results, Tryz.results32, go_sem, d0, d1, d2, d3]) rfl (.inr ⟨HN.out, rfl, kk (put4_kp HK2.out (Nat.le_refl _)) (ka _ _)⟩)

/-- What Text answers. -/
def textOut (v : V) : Value := if v.valid then .tuple #[.string ⟨v.txt.toArray⟩, .int .i64 0] else .tuple #[.string ⟨#[]⟩, .int .i64 1]

theorem str_eq {b : ByteArray} {l : List UInt8} (h : b.data.toList = l) : b = ⟨l.toArray⟩ := by
  subst h
  cases b; simp

set_option maxRecDepth 100000 in
set_option maxHeartbeats 2000000 in
theorem textTopR (k n : Int) (s : ByteArray) (a : Option Addr) (cap : Nat) (l : List V) (w : World) (hin : (V.mk k n s a cap l).In w w.heap.size) (tb : Tb w w.heap.size) :
    Calls Tryz.prog 28 #[.agg #[.int .i64 k, .int .i64 n, .string s, .slice a l.length cap]] w fun e w' => e = .returned (textOut (V.mk k n s a cap l)) ∧ Kp w w' := by
  have C := fun (w1 : World) (h : Kp w w1) => valid_ref k n s a cap l w1 (hin.keep h.size h)
  cases hv : (V.mk k n s a cap l).valid with
  | false =>
    rw [textOut, hv]
    rw [hv] at C
    have HC := Lib.hid C
    clear C hin hv tb
    go_enter Tryz.func28, Tryz.ntmps28
    go_wp2_with fail
    refine (HC.out _ (ka _ _)).mono ?_
    rintro e w1 ⟨rfl, hk⟩
    have HK := Lib.hid (kk (ka _ _) hk)
    clear hk
    go_wp2_with fail
    go_ret2
    exact ⟨rfl, HK.out⟩
  | true =>
    obtain ⟨hsh, hrk⟩ := valid_sh hv
    have hlen := V.txt_len _ 6 hsh
    have K1 := fun (w1 : World) (h : Kp w w1) => writeR _ (V.mk k n s a cap l) 6 w1 (Nat.le_refl _) hsh (hin.keep h.size h) (tb.keep h h.size) (by omega)
    rw [textOut, hv]
    rw [hv] at C
    simp only [V.k, V.n, V.s, V.a, V.l, V.cap] at K1
    have HC := Lib.hid C
    have HK1 := Lib.hid K1
    generalize (V.mk k n s a cap l).txt = B at *
    clear C K1 hin hv tb hsh hrk hlen
    go_enter Tryz.func28, Tryz.ntmps28
    go_wp2_with fail
    refine (HC.out _ (ka _ _)).mono ?_
    rintro e w1 ⟨rfl, hk⟩
    obtain ⟨c0, c1, c2, c3, -⟩ := cell4 (boxK hk)
    have HK := Lib.hid (kk (ka _ _) hk)
    clear hk
    go_wp2_with fail
    refine (HK1.out _ HK.out).mono ?_
    rintro e w2 ⟨b, rfl, hb, hk⟩
    have HB := Lib.hid (str_eq hb)
    have HK2 := Lib.hid (kk HK.out hk)
    clear hk hb
    go_wp2_with fail
    go_ret2
    exact ⟨by rw [HB.out]; rfl, HK2.out⟩

end Go.Proofs.YtkfmgafgokpjhaaGreatDoor

/-
  THE SPECIFICATION's TypeParse; what the program's readers read is what was written; too long texts.
-/
namespace Go.Proofs.YtkfmgafgokpjhaaGreatDoor
open Go.RowKit

mutual
theorem same_txtT : ∀ (x y : T), x.same y = true → x.txt = y.txt
  | .mk k a cap l, .mk k' a' cap' l', h => by
    simp [T.same] at h
    obtain ⟨rfl, h4⟩ := h
    simp only [T.txt, same_txtTL [44, 32] l l' h4, same_txtTL [32, 43, 32] l l' h4]
theorem same_txtTL : ∀ (bt : List UInt8) (l m : List T), T.sameL l m = true → T.txtL bt l = T.txtL bt m
  | _, [], [], _ => rfl
  | _, [], _ :: _, h => by simp [T.sameL] at h
  | _, _ :: _, [], h => by simp [T.sameL] at h
  | _, [x], [y], h => by simp [T.sameL] at h; simp [T.txtL, same_txtT x y h]
  | _, [_], _ :: _ :: _, h => by simp [T.sameL] at h
  | _, _ :: _ :: _, [_], h => by simp [T.sameL] at h
  | bt, x :: x2 :: xs, y :: y2 :: ys, h => by
    simp only [T.sameL, Bool.and_eq_true] at h
    have := same_txtTL bt (x2 :: xs) (y2 :: ys) (by simp only [T.sameL, Bool.and_eq_true]; exact h.2)
    rw [T.txtL, T.txtL, same_txtT x y h.1, this]
end

/-- What TypeParse answers: the type whose text it is, or that there is none. -/
def OutPsT (w : World) (s : ByteArray) (e : Ending) (w' : World) : Prop :=
  (∃ x : T, x.valid = true ∧ s.data.toList = x.txt ∧ (∀ y : T, y.valid = true → s.data.toList = y.txt → x.same y = true) ∧ e = .returned (.tuple #[x.val, .int .i64 0]) ∧ x.In w' w'.heap.size ∧ x.foot (fun b => w.heap.size ≤ b) ∧ Kp w w') ∨
  ((∀ y : T, y.valid = true → s.data.toList ≠ y.txt) ∧ e = .returned (.tuple #[.agg #[.int .i64 0, .slice none 0 0], .int .i64 8]) ∧ Kp w w')

theorem validT_sh {y : T} (h : y.valid = true) : y.sh 6 = true ∧ y.rank ≤ 40 := by simpa [T.valid] using h

set_option maxRecDepth 100000 in
set_option maxHeartbeats 2000000 in
theorem typeParseR_long (w : World) (s : ByteArray) (h : 1000 < s.size) (hs : s.size ≤ 9223372036854775807) :
    Calls Tryz.prog 34 #[.string s] w fun e w' => e = .returned (.tuple #[.agg #[.int .i64 0, .slice none 0 0], .int .i64 3]) ∧ Kp w w' := by
  have g : (1000 : Int) < (s.size : Int) := by omega
  go_enter Tryz.func34, Tryz.ntmps34
  go_wp2_with fail
  exact bodyPost_ret (v := .tuple #[.agg #[.int .i64 0, .slice none 0 0], .int .i64 3]) (by simp [results, Tryz.results34, go_sem]) rfl ⟨rfl, ka _ _⟩

set_option maxRecDepth 100000 in
set_option maxHeartbeats 4000000 in
theorem typeParseR (w : World) (s : ByteArray) (hs : s.size ≤ 1000) : Calls Tryz.prog 34 #[.string s] w (OutPsT w s) := by
  have g : (s.size : Int) ≤ 1000 := by omega
  have K := fun (w1 : World) => readTR 6 6 s w1 rfl (Nat.le_refl _) (by omega)
  have HK := Lib.hid K
  clear K
  go_enter Tryz.func34, Tryz.ntmps34
  go_wp2_with fail
  refine (HK.out _).mono ?_
  rintro e w2 ⟨k, a, mm, c, r2, ok, rfl, hk2, vl, rfl, hok, hco⟩
  have hblk := boxK hk2
  have HBL := Lib.hid hblk
  have hkW := kk (ka _ _) hk2
  have HK2 := Lib.hid hkW
  have hz2 := lt_of_block hblk
  have HCO := Lib.hid (show ∀ (y : T), y.valid = true → s.data.toList = y.txt → ok = true ∧ r2.data.toList = [] ∧ (T.mk k a c vl).same y = true from fun y hv h => hco y [] (validT_sh hv).1 (by rw [List.append_nil]; exact h))
  have HOK := Lib.hid hok
  clear hk2 hco hok
  obtain ⟨c0, c1, f0, f1⟩ := cell2 hblk
  clear hblk
  cases ok with
  | false =>
    have HN := Lib.hid (show ∀ y : T, y.valid = true → s.data.toList ≠ y.txt from fun y hv h => by have := (HCO.out y hv h).1; cases this)
    clear hkW
    go_wp2_with fail
    obtain ⟨d0, d1, -⟩ := cell2 (blockPast (o := .cells #[.int .i64 k, .slice a vl.length c] 27) (put2_block (v0 := .int .i64 0) (v1 := .slice none 0 0) HBL.out))
    exact bodyPost_ret (v := .tuple #[.agg #[.int .i64 0, .slice none 0 0], .int .i64 8]) (by simp [results, Tryz.results34, go_sem, d0, d1]) rfl (.inr ⟨HN.out, rfl, kk (put2_kp HK2.out (Nat.le_refl _)) (ka _ _)⟩)
  | true =>
    obtain ⟨-, hin, hft⟩ := HOK.out rfl
    by_cases hr : r2.data.toList = []
    · have hr2 : r2 = ⟨#[]⟩ := by
        have := Array.toList_eq_nil_iff.1 hr
        cases r2; simp at this; subst this; rfl
      subst hr2
      have hka := ka w2 (.cells #[.int .i64 k, .slice a vl.length c] 27)
      have hin2 := hin.keep hka.size hka
      have HV := Lib.hid (validT_ref k a c vl _ hin2)
      have HFT := Lib.hid hft
      have HIN := Lib.hid hin2
      cases hv : (T.mk k a c vl).valid with
      | false =>
        rw [hv] at HV
        have HN := Lib.hid (show ∀ y : T, y.valid = true → s.data.toList ≠ y.txt from fun y hvy h => by
          have := T.same_valid (HCO.out y hvy h).2.2
          rw [hv, hvy] at this; cases this)
        clear hv hin hft hin2 hka hr hkW
        go_wp2_with fail
        refine HV.out.mono ?_
        rintro e w3 ⟨rfl, hk3⟩
        have hR := (hk3.block w.heap.size (by simp; omega)).trans (blockPast HBL.out)
        obtain ⟨c0, c1, f0, f1⟩ := cell2 hR
        have HRR := Lib.hid hR
        have HK3 := Lib.hid (kk HK2.out (kk (ka _ _) hk3))
        clear hR hk3
        go_wp2_with fail
        obtain ⟨d0, d1, -⟩ := cell2 (put2_block (v0 := .int .i64 0) (v1 := .slice none 0 0) HRR.out)
        exact bodyPost_ret (v := .tuple #[.agg #[.int .i64 0, .slice none 0 0], .int .i64 8]) (by simp [results, Tryz.results34, go_sem, d0, d1]) rfl (.inr ⟨HN.out, rfl, put2_kp HK3.out (Nat.le_refl _)⟩)
      | true =>
        rw [hv] at HV
        obtain ⟨hsh, hrk⟩ := validT_sh hv
        have hlen := T.txt_len _ 6 hsh
        have HW := Lib.hid (fun (w1 : World) (h : Kp (w2.alloc (.cells #[.int .i64 k, .slice a vl.length c] 27)) w1) =>
          writeTR _ (T.mk k a c vl) 6 w1 (Nat.le_refl _) hsh (hin2.keep h.size h) (by omega))
        have HVV := Lib.hid hv
        generalize hT : (T.mk k a c vl).txt = X at *
        have HTT := Lib.hid hT
        clear hv hin hft hin2 hka hr hkW hT hlen hsh hrk
        go_wp2_with fail
        refine HV.out.mono ?_
        rintro e w3 ⟨rfl, hk3⟩
        have hN := (hk3.block w2.heap.size (by simp)).trans (blockHere (w := w2) rfl)
        obtain ⟨b0, b1, -⟩ := cell2 hN
        have HN3 := Lib.hid hN
        have HK3 := Lib.hid hk3
        clear hN hk3
        go_wp2_with fail
        refine (HW.out _ HK3.out).mono ?_
        rintro e w4 ⟨b, rfl, hb, hk4⟩
        have hk34 := kk HK3.out hk4
        have hR := (hk34.block w.heap.size (by simp; omega)).trans (blockPast HBL.out)
        obtain ⟨c0, c1, f0, f1⟩ := cell2 hR
        have hN := (hk4.block _ (lt_of_block HN3.out)).trans HN3.out
        have HRR := Lib.hid hR
        have HK4 := Lib.hid (kk HK2.out (kk (ka _ _) hk34))
        have HI4 := Lib.hid (HIN.out.keep hk34.size hk34)
        clear b0 b1
        obtain ⟨b0, b1, -⟩ := cell2 hN
        by_cases hbs : b.data.toList = s.data.toList
        · have hcmp : (b.toList == s.toList) = true := by rw [ByteArray.toList_eq, ByteArray.toList_eq, beq_iff_eq]; exact hbs
          have HS := Lib.hid (show s.data.toList = (T.mk k a c vl).txt by rw [HTT.out, ← hb, hbs])
          clear hb hk34 hk4 hR hN hbs
          go_wp2_with fail
          obtain ⟨d0, d1, -⟩ := cell2 (put2_block (v0 := .int .i64 k) (v1 := .slice a vl.length c) HRR.out)
          refine bodyPost_ret (v := .tuple #[.agg #[.int .i64 k, .slice a vl.length c], .int .i64 0]) (by simp [results, Tryz.results34, go_sem, d0, d1]) rfl ?_
          have hf1 : (T.mk k a c vl).foot (fun b => w.heap.size + 1 ≤ b) := T.foot.mono (fun b hb => by simpa using hb) _ HFT.out
          have hS : (put2 w4 w.heap.size (.int .i64 k) (.slice a vl.length c)).heap.size = w4.heap.size := by simp [World.setCell]
          exact .inl ⟨.mk k a c vl, HVV.out, HS.out, fun y hv h => (HCO.out y hv h).2.2, rfl, by rw [hS]; exact T.In.move (Nat.le_refl _) (fun b _ hb => put2_other (by omega)) _ HI4.out hf1, T.foot.mono (fun b hb => by omega) _ hf1, put2_kp HK4.out (Nat.le_refl _)⟩
        · have hcmp : (b.toList == s.toList) = false := by rw [ByteArray.toList_eq, ByteArray.toList_eq, beq_eq_false_iff_ne]; exact hbs
          have HN := Lib.hid (show ∀ y : T, y.valid = true → s.data.toList ≠ y.txt from fun y hvy h => by
            have := same_txtT _ _ (HCO.out y hvy h).2.2
            rw [HTT.out, ← h, ← hb] at this
            exact hbs this)
          clear hb hk34 hk4 hR hN hbs
          go_wp2_with fail
          obtain ⟨d0, d1, -⟩ := cell2 (put2_block (v0 := .int .i64 0) (v1 := .slice none 0 0) HRR.out)
          exact bodyPost_ret (v := .tuple #[.agg #[.int .i64 0, .slice none 0 0], .int .i64 8]) (by simp [results, Tryz.results34, go_sem, d0, d1]) rfl (.inr ⟨HN.out, rfl, put2_kp HK4.out (Nat.le_refl _)⟩)
    · have HN := Lib.hid (show ∀ y : T, y.valid = true → s.data.toList ≠ y.txt from fun y hv h => hr (HCO.out y hv h).2.1)
      have e1 : r2.toList.isEmpty = false := by rw [ByteArray.toList_eq]; cases h : r2.data.toList with
        | nil => exact absurd h hr
        | cons _ _ => rfl
      have e2 : (r2.toList == ([] : List UInt8)) = false := by rw [ByteArray.toList_eq, beq_eq_false_iff_ne]; exact hr
      clear hin hft hr hkW
      go_wp2_with fail
      obtain ⟨d0, d1, -⟩ := cell2 (blockPast (o := .cells #[.int .i64 k, .slice a vl.length c] 27) (put2_block (v0 := .int .i64 0) (v1 := .slice none 0 0) HBL.out))
      exact bodyPost_ret (v := .tuple #[.agg #[.int .i64 0, .slice none 0 0], .int .i64 8]) (by simp [results, Tryz.results34, go_sem, d0, d1]) rfl (.inr ⟨HN.out, rfl, kk (put2_kp HK2.out (Nat.le_refl _)) (ka _ _)⟩)

theorem pN_sound {l r : List UInt8} {n : Int} (h : pN l = some (n, r)) : l = Lib.itoa n ++ r := by
  unfold pN at h
  split at h
  · split at h
    · next h2 =>
      injection h with h
      injection h with h3 h4
      subst h3 h4
      rw [h2, List.takeWhile_append_dropWhile]
    · cases h
  · cases h

theorem pE_sound : ∀ (l : List UInt8) (b : Bool) (t r : List UInt8), pE b l = some (t, r) → (b = false → l = esc t ++ 34 :: r) ∧ (b = true → 92 :: l = esc t ++ 34 :: r)
  | [], b, t, r, h => by cases b <;> simp [pE] at h
  | c :: l, true, t, r, h => by
    refine ⟨fun h2 => (by cases h2), fun _ => ?_⟩
    rw [pE] at h
    split at h
    · next hc =>
      obtain ⟨x, hx, hx2⟩ := Option.map_eq_some_iff.1 h
      injection hx2 with h3 h4
      subst h3 h4
      have := (pE_sound l false x.1 x.2 hx).1 rfl
      have e : esc (c :: x.1) = escB c ++ esc x.1 := by simp [esc]
      rw [e, this]
      unfold escB
      rw [if_pos hc]; simp
    · cases h
  | b :: l, false, t, r, h => by
    refine ⟨fun _ => ?_, fun h2 => (by cases h2)⟩
    rw [pE] at h
    split at h
    · next hb =>
      injection h with h
      injection h with h3 h4
      subst h3 h4
      rw [hb]; rfl
    · split at h
      · next hb => rw [hb]; exact (pE_sound l true t r h).2 rfl
      · next h1 h2 =>
        obtain ⟨x, hx, hx2⟩ := Option.map_eq_some_iff.1 h
        injection hx2 with h3 h4
        subst h3 h4
        have := (pE_sound l false x.1 x.2 hx).1 rfl
        have e : esc (b :: x.1) = escB b ++ esc x.1 := by simp [esc]
        rw [e, this]
        unfold escB
        rw [if_neg (by intro h; rcases h with h | h; exact h1 h; exact h2 h)]; simp

mutual
theorem pv_sound : ∀ {l : List UInt8} {o : Option (V × List UInt8)}, PV l o → ∀ (y : V) (r : List UInt8), o = some (y, r) → l = y.txt ++ r
  | _, _, .quoted (r := r0), y, r, h => by
    obtain ⟨x, hx, hx2⟩ := Option.map_eq_some_iff.1 h
    injection hx2 with h3 h4
    subst h3 h4
    have := (pE_sound r0 false x.1 x.2 hx).1 rfl
    rw [this]; simp [V.txt]
  | _, _, .tuple (o := o) hl, y, r, h => by
    cases o with
    | none => cases h
    | some x =>
      simp only [Option.map_some, Option.some.injEq, Prod.mk.injEq] at h
      obtain ⟨rfl, rfl⟩ := h
      have := (pl_sound hl x.1 x.2 rfl).1 rfl
      rw [this]; simp [V.txt]
  | _, _, .tag0 _, _, _, h => by cases h
  | _, _, .tag1 _ _, _, _, h => by cases h
  | _, _, .tag2 (o := o) hn hv, y, r, h => by
    cases o with
    | none => cases h
    | some x =>
      simp only [Option.map_some, Option.some.injEq, Prod.mk.injEq] at h
      obtain ⟨rfl, rfl⟩ := h
      have h1 := pN_sound hn
      have h2 := pv_sound hv x.1 x.2 rfl
      rw [h1, h2]; simp [V.txt, V.txtH]
  | _, _, .word _ _ _, y, r, h => by
    obtain ⟨x, hx, hx2⟩ := Option.map_eq_some_iff.1 h
    injection hx2 with h3 h4
    subst h3 h4
    have := pN_sound (n := x.1) (r := x.2) hx
    rw [this]; simp [V.txt]
theorem pl_sound : ∀ {j : Nat} {l : List UInt8} {o : Option (List V × List UInt8)}, PL j l o → ∀ (ys : List V) (r : List UInt8), o = some (ys, r) → (j = 0 → l = V.txtL ys ++ 41 :: r) ∧ (0 < j → l = tailL ys ++ 41 :: r)
  | _, _, _, .done, ys, r, h => by
    simp only [Option.some.injEq, Prod.mk.injEq] at h
    obtain ⟨rfl, rfl⟩ := h
    exact ⟨fun _ => by simp [V.txtL], fun _ => by simp [tailL]⟩
  | _, _, _, .wide _ _, _, _, h => by cases h
  | _, _, _, .first0 _ _, _, _, h => by cases h
  | _, _, _, .first1 (o := o) _ hx hl, ys, r, h => by
    cases o with
    | none => cases h
    | some x =>
      simp only [Option.map_some, Option.some.injEq, Prod.mk.injEq] at h
      obtain ⟨rfl, rfl⟩ := h
      have h1 := pv_sound hx _ _ rfl
      have h2 := (pl_sound hl x.1 x.2 rfl).2 (by omega)
      exact ⟨fun _ => by rw [h1, h2, txtL_tail, List.append_assoc], fun h => absurd h (by omega)⟩
  | _, _, _, .next0 _ _ _ _, _, _, h => by cases h
  | _, _, _, .next1 _ _ _, _, _, h => by cases h
  | _, _, _, .next2 (o := o) hj _ hx hl, ys, r, h => by
    cases o with
    | none => cases h
    | some x =>
      simp only [Option.map_some, Option.some.injEq, Prod.mk.injEq] at h
      obtain ⟨rfl, rfl⟩ := h
      have h1 := pv_sound hx _ _ rfl
      have h2 := (pl_sound hl x.1 x.2 rfl).2 (by omega)
      exact ⟨fun h => absurd h (by omega), fun _ => by rw [h1, h2]; simp [tailL]⟩
end

mutual
theorem pt_sound : ∀ {l : List UInt8} {o : Option (T × List UInt8)}, PT l o → ∀ (y : T) (r : List UInt8), o = some (y, r) → l = y.txt ++ r
  | _, _, .tuple (o := o) hl, y, r, h => by
    cases o with
    | none => cases h
    | some x =>
      simp only [Option.map_some, Option.some.injEq, Prod.mk.injEq] at h
      obtain ⟨rfl, rfl⟩ := h
      have := (ptl_sound hl x.1 x.2 rfl).1 rfl
      rw [this]; simp [T.txt]
  | _, _, .sum (o := o) hl, y, r, h => by
    cases o with
    | none => cases h
    | some x =>
      simp only [Option.map_some, Option.some.injEq, Prod.mk.injEq] at h
      obtain ⟨rfl, rfl⟩ := h
      have := (ptl_sound hl x.1 x.2 rfl).1 rfl
      rw [this]; simp [T.txt]
  | _, _, .text, y, r, h => by
    simp only [Option.some.injEq, Prod.mk.injEq] at h
    obtain ⟨rfl, rfl⟩ := h
    simp [T.txt]
  | _, _, .int, y, r, h => by
    simp only [Option.some.injEq, Prod.mk.injEq] at h
    obtain ⟨rfl, rfl⟩ := h
    simp [T.txt]
  | _, _, .bad _ _ _ _, _, _, h => by cases h
theorem ptl_sound : ∀ {bt : List UInt8} {en : UInt8} {j : Nat} {l : List UInt8} {o : Option (List T × List UInt8)}, PTL bt en j l o → ∀ (ys : List T) (r : List UInt8), o = some (ys, r) → (j = 0 → l = T.txtL bt ys ++ en :: r) ∧ (0 < j → l = tailT bt ys ++ en :: r)
  | _, _, _, _, _, .done, ys, r, h => by
    simp only [Option.some.injEq, Prod.mk.injEq] at h
    obtain ⟨rfl, rfl⟩ := h
    exact ⟨fun _ => by simp [T.txtL], fun _ => by simp [tailT]⟩
  | _, _, _, _, _, .wide _ _, _, _, h => by cases h
  | _, _, _, _, _, .first0 _ _, _, _, h => by cases h
  | _, _, _, _, _, .first1 (o := o) _ hx hl, ys, r, h => by
    cases o with
    | none => cases h
    | some x =>
      simp only [Option.map_some, Option.some.injEq, Prod.mk.injEq] at h
      obtain ⟨rfl, rfl⟩ := h
      have h1 := pt_sound hx _ _ rfl
      have h2 := (ptl_sound hl x.1 x.2 rfl).2 (by omega)
      exact ⟨fun _ => by rw [h1, h2, txtLT_tail, List.append_assoc], fun h => absurd h (by omega)⟩
  | _, _, _, _, _, .next0 _ _ _ _, _, _, h => by cases h
  | _, _, _, _, _, .next1 _ _ _ _ _, _, _, h => by cases h
  | _, _, _, _, _, .next2 (o := o) _ hj _ he hx hl, ys, r, h => by
    cases o with
    | none => cases h
    | some x =>
      simp only [Option.map_some, Option.some.injEq, Prod.mk.injEq] at h
      obtain ⟨rfl, rfl⟩ := h
      have h1 := pt_sound hx _ _ rfl
      have h2 := (ptl_sound hl x.1 x.2 rfl).2 (by omega)
      exact ⟨fun h => absurd h (by omega), fun _ => by rw [he, h1, h2]; simp [tailT]⟩
end

end Go.Proofs.YtkfmgafgokpjhaaGreatDoor
