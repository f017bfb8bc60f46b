/-
  Proved: the statement ValueKnown (what the chapter says of single values, types, texts and keys: valid ones are taken, each other one is refused with its error, and the chapter's examples hold), as its tied card says it, with no condition beyond the card's own.
  Part 4 of 6.
-/
import Derived.Test.YtkfmgafgokpjhaaGreatDoorBc12
import Derived.Test.YtkfmgafgokpjhaaGreatDoorBc07
/-
  OfKey AT A KEY WITH MORE BEHIND IT; KEYS AS BYTES, AGAINST THE ORDER OF VALUES.
-/
namespace Go.Proofs.YtkfmgafgokpjhaaGreatDoor
open Go.RowKit

set_option maxHeartbeats 2000000 in
theorem ofKey_no (w : World) (s : ByteArray) (C : ∀ w1 : World, Calls Tryz.prog 73 #[.string s, .int .i64 6500, .func (.func 81) #[] #[], .func (.func 19) #[] #[]] w1 fun e w' => e = .returned (.tuple #[.agg zero4, .int .i64 8]) ∧ Kp w1 w') :
    Calls Tryz.prog 38 #[.string s] w fun e w' => e = .returned (.tuple #[.agg zero4, .int .i64 8]) ∧ Kp w w' := by
  have HC := Lib.hid C
  clear C
  go_enter Tryz.func38, Tryz.ntmps38
  go_wp2_with fail
  refine (HC.out _).mono ?_
  rintro e w1 ⟨rfl, hk⟩
  have hblk := boxK hk
  have HK := Lib.hid (kk (ka _ _) hk)
  obtain ⟨c0, c1, c2, c3, f0, f1, f2, f3⟩ := cell4 hblk
  have HBL := Lib.hid hblk
  clear hk hblk
  go_wp2_with fail
  obtain ⟨d0, d1, d2, d3, -⟩ := cell4 (put4_block (v0 := .int .i64 0) (v1 := .int .i64 0) (v2 := .string ⟨#[]⟩) (v3 := .slice none 0 0) HBL.out)
  refine bodyPost_ret (v := .tuple #[.agg zero4, .int .i64 8]) (by simp [results, Tryz.results38, go_sem, d0, d1, d2, d3]) rfl
    ⟨rfl, put4_kp HK.out (Nat.le_refl _)⟩

/-- OfKey at a key with more behind it. -/
theorem ofKey_more (w : World) (y : V) (d : Nat) (s : ByteArray) (r : List UInt8) (hs : s.data.toList = y.keyB ++ r) (hr : r ≠ []) (hy : y.sh d = true) (hm : s.size ≤ 6500) :
    Calls Tryz.prog 38 #[.string s] w fun e w' => e = .returned (.tuple #[.agg zero4, .int .i64 8]) ∧ Kp w w' := by
  refine ofKey_no w s fun w1 => ?_
  have hl : s.size = y.keyB.length + r.length := by
    have := congrArg List.length hs
    simpa using this
  have hp : 0 < r.length := List.length_pos_iff.2 hr
  have := readK y.rank y d (readW w1 s) (w1.heap.size + 2) s 0 (Nat.le_refl _) hy (readW_reader w1 _) (by omega) ⟨r, by simpa using hs⟩
  exact readKey_more w1 s (0 + y.keyB.length) y (by omega) (by omega) this

theorem less_cb : ∀ x y : List UInt8, Op.bytesLess x y = decide (cb x y < 0)
  | [], [] => by simp [Op.bytesLess, Lib.compareBytes]
  | [], _ :: _ => by simp [Op.bytesLess, Lib.compareBytes]
  | _ :: _, [] => by simp [Op.bytesLess, Lib.compareBytes]
  | a :: x, b :: y => by
    rw [Op.bytesLess, cb_cons, less_cb x y]
    by_cases h : a < b
    · simp [h]
    · by_cases g : b < a
      · have : a ≠ b := by rintro rfl; exact h g
        simp [h, g, this]
      · have : a = b := by
          simp only [u8_lt] at h g
          exact UInt8.toNat_inj.1 (by omega)
        subst this
        simp [h]

theorem keys_cb (x y : V) (d d' : Nat) (hx : x.sh d = true) (hy : y.sh d' = true) : cb x.keyB y.keyB = x.ord y := by
  have := key_cmp x y d d' hx hy [] []
  simpa [lex_zero_r, Lib.compareBytes] using this

theorem keys_less (x y : V) (d d' : Nat) (hx : x.sh d = true) (hy : y.sh d' = true) : Op.bytesLess x.keyB y.keyB = decide (x.ord y < 0) := by
  rw [less_cb, keys_cb x y d d' hx hy]

theorem keys_eql (x y : V) (d d' : Nat) (hx : x.sh d = true) (hy : y.sh d' = true) : (x.keyB == y.keyB) = (x.ord y == 0) := by
  rw [Bool.eq_iff_iff, beq_iff_eq, beq_iff_eq, ← keys_cb x y d d' hx hy, cb_zero]

theorem keys_part (x y : V) (d d' : Nat) (hx : x.sh d = true) (hy : y.sh d' = true) (hn : x.ord y ≠ 0) : (x.keyB == y.keyB.take x.keyB.length) = false := by
  rw [beq_eq_false_iff_ne]
  intro h
  have hb : y.keyB = x.keyB ++ y.keyB.drop x.keyB.length := by
    conv => lhs; rw [← List.take_append_drop x.keyB.length y.keyB, ← h]
  have := key_cmp x y d d' hx hy (y.keyB.drop x.keyB.length) []
  rw [← hb, List.append_nil, (cb_zero _ _).2 rfl] at this
  unfold lex at this
  simp [hn] at this
  exact hn this.symm

/-- A slice of bytes: l lies from the beginning of it on. -/
def Bys (w : World) (B : Nat) (a : Option Addr) (cap : Nat) (l : List Int) : Prop :=
  l.length ≤ cap ∧ cap ≤ maxLen ∧ (l = [] ∨ ∃ b off, a = some ⟨b, off, none⟩ ∧ b < B ∧ ∀ (j : Nat) (n : Int), l[j]? = some n → w.cell? ⟨b, off + j, none⟩ = some (.int .u8 n))

theorem Bys.keep {w w' : World} {B C : Nat} {a : Option Addr} {cap : Nat} {l : List Int} (h : Bys w B a cap l) (hC : B ≤ C) (k : Below B w w') : Bys w' C a cap l := by
  obtain ⟨h1, h2, h4⟩ := h
  refine ⟨h1, h2, ?_⟩
  rcases h4 with h4 | ⟨b, off, ha, hb, hc⟩
  · exact .inl h4
  · exact .inr ⟨b, off, ha, by omega, fun j n hj => (k.cell (p := ⟨b, _, none⟩) hb).trans (hc j n hj)⟩

end Go.Proofs.YtkfmgafgokpjhaaGreatDoor
