/-
  Proved: the statement ValueKnown (what the chapter says of single values, types, texts and keys: valid ones are taken, each other one is refused with its error, and the chapter's examples hold), as its tied card says it, with no condition beyond the card's own.
  Part 3 of 6.
-/
import Derived.Test.YtkfmgafgokpjhaaGreatDoorBc11
import Derived.Test.YtkfmgafgokpjhaaGreatDoorBc12
import Derived.Test.YtkfmgafgokpjhaaGreatDoorLn01
import Derived.Test.YtkfmgafgokpjhaaGreatDoorLn02
import Derived.Test.YtkfmgafgokpjhaaGreatDoorBc10
import Derived.Test.YtkfmgafgokpjhaaGreatDoorBc07
import Derived.Laws.OwnMore
import Derived.Laws.IdiomStrings
/-
  ofKey, AT ANY BYTES.
-/
namespace Go.Proofs.YtkfmgafgokpjhaaGreatDoor
open Go.RowKit

mutual
/-- What the reader makes of the bytes of a key that come next: a value and what is behind it, or nothing. -/
inductive PK : List UInt8 → Option (V × List UInt8) → Prop
  | word {b0 b1 b2 b3 : UInt8} {r : List UInt8} : PK (1 :: b0 :: b1 :: b2 :: b3 :: r) (some (.mk 0 (((((b0.toNat : Int) * 256 + b1.toNat) * 256 + b2.toNat) * 256 + b3.toNat) + -2147483648) ⟨#[]⟩ none 0 [], r))
  | word0 {r : List UInt8} : r.length < 4 → PK (1 :: r) none
  | text {t r : List UInt8} : (∀ c ∈ t, c ≠ 0) → PK (2 :: (t ++ 0 :: r)) (some (.mk 1 0 ⟨t.toArray⟩ none 0 [], r))
  | text0 {r : List UInt8} : (∀ c ∈ r, c ≠ 0) → PK (2 :: r) none
  | tuple {r : List UInt8} {o : Option (List V × List UInt8)} : PKL 0 r o → PK (3 :: r) (o.map fun x => (.mk 2 0 ⟨#[]⟩ none 0 x.1, x.2))
  | tag0 : PK [4] none
  | tag {b : UInt8} {r : List UInt8} {o : Option (V × List UInt8)} : PK r o → PK (4 :: b :: r) (o.map fun x => (.mk 3 ((b.toNat : Int) - 1) ⟨#[]⟩ none 0 [x.1], x.2))
  | bad {l : List UInt8} : (∀ b, l.head? = some b → b.toNat = 0 ∨ 5 ≤ b.toNat) → PK l none
/-- The parts of a tuple from the j-th on. -/
inductive PKL : Nat → List UInt8 → Option (List V × List UInt8) → Prop
  | done {j : Nat} {r : List UInt8} : PKL j (0 :: r) (some ([], r))
  | wide {j : Nat} {l : List UInt8} : l.head? ≠ some 0 → j = 8 → PKL j l none
  | part0 {j : Nat} {l : List UInt8} : l.head? ≠ some 0 → j < 8 → PK l none → PKL j l none
  | part1 {j : Nat} {l r : List UInt8} {x : V} {o : Option (List V × List UInt8)} : l.head? ≠ some 0 → j < 8 → PK l (some (x, r)) → PKL (j + 1) r o → PKL j l (o.map fun y => (x :: y.1, y.2))
end

/-- What a reading tells: a value of which A holds, or it is refused and B holds. -/
def OutP (A : V → Nat → Prop) (B : Prop) (w : World) (R : Nat) (s : ByteArray) (e : Ending) (w' : World) : Prop :=
  (∃ y q, A y q ∧ q ≤ s.size ∧ ReadsV w R s q y e w') ∨ (B ∧ e = .panicked formP ∧ Bt R w w')

set_option maxRecDepth 100000 in
set_option maxHeartbeats 4000000 in
theorem ofKeyA_word (w : World) (R : Nat) (s : ByteArray) (p : Nat) (A : V → Nat → Prop) (B : Prop) (hr : Reader w R s p) (hs : s.size ≤ 1000000) (hp : p < s.size) (hb : s[p] = 1)
    (ih : ∀ w1 : World, Reader w1 R s (p + 1) → Calls Tryz.prog 86 #[.pointer (some ⟨R, 0, none⟩)] w1 (OutP A B w1 R s)) :
    Calls Tryz.prog 81 #[.pointer (some ⟨R, 0, none⟩)] w (OutP A B w R s) := by
  have HR := Lib.hid hr
  have hRl := lt_of_block hr
  have N : ∀ w1 : World, Reader w1 R s p → Calls Tryz.prog 125 #[.pointer (some ⟨R, 0, none⟩)] w1 fun e w' => e = .returned (.int .u8 1) ∧ Reader w' R s (p + 1) ∧ Bt R w1 w' := fun w1 hq => by
    have := next_yes w1 R s p hq hp hs
    rw [hb] at this
    exact this
  have HN := Lib.hid N
  have HC := Lib.hid ih
  clear hr N ih hb
  go_enter Tryz.func81, Tryz.ntmps81
  go_wp2_with fail
  refine (kinds_any _).mono ?_
  rintro e w1 ⟨rfl, hk⟩
  have HK := Lib.hid (kk (ka _ _) hk)
  have HRS0 := Lib.hid ((hk.block w.heap.size (by simp)).trans (blockHere (w := w) (o := .cells zero4 24 (0, 0)) rfl))
  have hz1 := lt_of_block HRS0.out
  clear hk
  go_wp2_with fail
  have hk2 : Kp w (w1.alloc (.cells kindsA 71)) := kk HK.out (ka _ _)
  refine (HN.out _ (HR.out.kp hk2)).mono ?_
  rintro e w3 ⟨rfl, hr3, hb3⟩
  have hblk := boxAny (R := R) (by omega) hb3
  have c5 := cellOf (i := 1) hblk rfl
  have hres := (hb3.block w.heap.size (by simp; omega) (by omega)).trans ((ka w1 (.cells kindsA 71)).block w.heap.size (by omega) |>.trans HRS0.out)
  have HR3 := Lib.hid hr3
  have HRS := Lib.hid hres
  have HB3 := Lib.hid ((Bt.kp (c := R) hk2).trans hb3)
  clear hr3 hb3 hblk hk2 hres
  go_wp2_with fail
  refine (HC.out _ HR3.out).mono ?_
  rintro e w4 (⟨y, q, hA, hq, x, rfl, hxi, hxf, hxs, hr4, hb4⟩ | ⟨hB, rfl, hb4⟩)
  rotate_left
  · exact ⟨rfl, .inr ⟨hB, rfl, HB3.out.trans hb4⟩⟩
  have hz3 := lt_of_block HRS.out
  have hxf2 : x.foot (fun b => w.heap.size + 1 ≤ b) := V.foot.mono (fun b hb => by omega) _ hxf
  have hblk := (hb4.block w.heap.size (by omega) (by omega)).trans HRS.out
  obtain ⟨d0, d1, d2, d3, g0, g1, g2, g3⟩ := cell4 hblk
  have HBL := Lib.hid hblk
  have HXI := Lib.hid hxi
  have HAA := Lib.hid hA
  have HXF := Lib.hid hxf2
  have HXS := Lib.hid hxs
  have HR4 := Lib.hid hr4
  have HB4 := Lib.hid (HB3.out.trans hb4)
  clear hA hxi hxf hxf2 hxs hr4 hb4 hblk
  cases x with
  | mk k n t a cap l =>
  simp only [V.val_mk]
  go_wp2_with fail
  obtain ⟨e0, e1, e2, e3, -⟩ := cell4 (put4_block (v0 := .int .i64 k) (v1 := .int .i64 n) (v2 := .string t) (v3 := .slice a l.length cap) HBL.out)
  refine bodyPost_ret (v := .agg #[.int .i64 k, .int .i64 n, .string t, .slice a l.length cap]) (by simp [results, Tryz.results81, go_sem, e0, e1, e2, e3]) rfl ?_
  have hS : (put4 w4 w.heap.size (.int .i64 k) (.int .i64 n) (.string t) (.slice a l.length cap)).heap.size = w4.heap.size := by simp [World.setCell]
  exact .inl ⟨y, q, HAA.out, hq, .mk k n t a cap l, rfl, by rw [hS]; exact V.In.move (Nat.le_refl _) (fun b _ hb => put4_other (by omega)) _ HXI.out HXF.out, V.foot.mono (fun b hb => by omega) _ HXF.out, HXS.out, (put4_other (by omega)).trans HR4.out, put4_bt HB4.out (Nat.le_refl _)⟩

set_option maxRecDepth 100000 in
set_option maxHeartbeats 4000000 in
theorem ofKeyA_text (w : World) (R : Nat) (s : ByteArray) (p : Nat) (A : V → Nat → Prop) (B : Prop) (hr : Reader w R s p) (hs : s.size ≤ 1000000) (hp : p < s.size) (hb : s[p] = 2)
    (ih : ∀ w1 : World, Reader w1 R s (p + 1) → Calls Tryz.prog 88 #[.pointer (some ⟨R, 0, none⟩)] w1 (OutP A B w1 R s)) :
    Calls Tryz.prog 81 #[.pointer (some ⟨R, 0, none⟩)] w (OutP A B w R s) := by
  have HR := Lib.hid hr
  have hRl := lt_of_block hr
  have N : ∀ w1 : World, Reader w1 R s p → Calls Tryz.prog 125 #[.pointer (some ⟨R, 0, none⟩)] w1 fun e w' => e = .returned (.int .u8 2) ∧ Reader w' R s (p + 1) ∧ Bt R w1 w' := fun w1 hq => by
    have := next_yes w1 R s p hq hp hs
    rw [hb] at this
    exact this
  have HN := Lib.hid N
  have HC := Lib.hid ih
  clear hr N ih hb
  go_enter Tryz.func81, Tryz.ntmps81
  go_wp2_with fail
  refine (kinds_any _).mono ?_
  rintro e w1 ⟨rfl, hk⟩
  have HK := Lib.hid (kk (ka _ _) hk)
  have HRS0 := Lib.hid ((hk.block w.heap.size (by simp)).trans (blockHere (w := w) (o := .cells zero4 24 (0, 0)) rfl))
  have hz1 := lt_of_block HRS0.out
  clear hk
  go_wp2_with fail
  have hk2 : Kp w (w1.alloc (.cells kindsA 71)) := kk HK.out (ka _ _)
  refine (HN.out _ (HR.out.kp hk2)).mono ?_
  rintro e w3 ⟨rfl, hr3, hb3⟩
  have hblk := boxAny (R := R) (by omega) hb3
  have c5 := cellOf (i := 3) hblk rfl
  have hres := (hb3.block w.heap.size (by simp; omega) (by omega)).trans ((ka w1 (.cells kindsA 71)).block w.heap.size (by omega) |>.trans HRS0.out)
  have HR3 := Lib.hid hr3
  have HRS := Lib.hid hres
  have HB3 := Lib.hid ((Bt.kp (c := R) hk2).trans hb3)
  clear hr3 hb3 hblk hk2 hres
  go_wp2_with fail
  refine (HC.out _ HR3.out).mono ?_
  rintro e w4 (⟨y, q, hA, hq, x, rfl, hxi, hxf, hxs, hr4, hb4⟩ | ⟨hB, rfl, hb4⟩)
  rotate_left
  · exact ⟨rfl, .inr ⟨hB, rfl, HB3.out.trans hb4⟩⟩
  have hz3 := lt_of_block HRS.out
  have hxf2 : x.foot (fun b => w.heap.size + 1 ≤ b) := V.foot.mono (fun b hb => by omega) _ hxf
  have hblk := (hb4.block w.heap.size (by omega) (by omega)).trans HRS.out
  obtain ⟨d0, d1, d2, d3, g0, g1, g2, g3⟩ := cell4 hblk
  have HBL := Lib.hid hblk
  have HXI := Lib.hid hxi
  have HAA := Lib.hid hA
  have HXF := Lib.hid hxf2
  have HXS := Lib.hid hxs
  have HR4 := Lib.hid hr4
  have HB4 := Lib.hid (HB3.out.trans hb4)
  clear hA hxi hxf hxf2 hxs hr4 hb4 hblk
  cases x with
  | mk k n t a cap l =>
  simp only [V.val_mk]
  go_wp2_with fail
  obtain ⟨e0, e1, e2, e3, -⟩ := cell4 (put4_block (v0 := .int .i64 k) (v1 := .int .i64 n) (v2 := .string t) (v3 := .slice a l.length cap) HBL.out)
  refine bodyPost_ret (v := .agg #[.int .i64 k, .int .i64 n, .string t, .slice a l.length cap]) (by simp [results, Tryz.results81, go_sem, e0, e1, e2, e3]) rfl ?_
  have hS : (put4 w4 w.heap.size (.int .i64 k) (.int .i64 n) (.string t) (.slice a l.length cap)).heap.size = w4.heap.size := by simp [World.setCell]
  exact .inl ⟨y, q, HAA.out, hq, .mk k n t a cap l, rfl, by rw [hS]; exact V.In.move (Nat.le_refl _) (fun b _ hb => put4_other (by omega)) _ HXI.out HXF.out, V.foot.mono (fun b hb => by omega) _ HXF.out, HXS.out, (put4_other (by omega)).trans HR4.out, put4_bt HB4.out (Nat.le_refl _)⟩

set_option maxRecDepth 100000 in
set_option maxHeartbeats 4000000 in
theorem ofKeyA_tuple (w : World) (R : Nat) (s : ByteArray) (p : Nat) (A : V → Nat → Prop) (B : Prop) (hr : Reader w R s p) (hs : s.size ≤ 1000000) (hp : p < s.size) (hb : s[p] = 3)
    (ih : ∀ w1 : World, Reader w1 R s (p + 1) → Calls Tryz.prog 90 #[.pointer (some ⟨R, 0, none⟩)] w1 (OutP A B w1 R s)) :
    Calls Tryz.prog 81 #[.pointer (some ⟨R, 0, none⟩)] w (OutP A B w R s) := by
  have HR := Lib.hid hr
  have hRl := lt_of_block hr
  have N : ∀ w1 : World, Reader w1 R s p → Calls Tryz.prog 125 #[.pointer (some ⟨R, 0, none⟩)] w1 fun e w' => e = .returned (.int .u8 3) ∧ Reader w' R s (p + 1) ∧ Bt R w1 w' := fun w1 hq => by
    have := next_yes w1 R s p hq hp hs
    rw [hb] at this
    exact this
  have HN := Lib.hid N
  have HC := Lib.hid ih
  clear hr N ih hb
  go_enter Tryz.func81, Tryz.ntmps81
  go_wp2_with fail
  refine (kinds_any _).mono ?_
  rintro e w1 ⟨rfl, hk⟩
  have HK := Lib.hid (kk (ka _ _) hk)
  have HRS0 := Lib.hid ((hk.block w.heap.size (by simp)).trans (blockHere (w := w) (o := .cells zero4 24 (0, 0)) rfl))
  have hz1 := lt_of_block HRS0.out
  clear hk
  go_wp2_with fail
  have hk2 : Kp w (w1.alloc (.cells kindsA 71)) := kk HK.out (ka _ _)
  refine (HN.out _ (HR.out.kp hk2)).mono ?_
  rintro e w3 ⟨rfl, hr3, hb3⟩
  have hblk := boxAny (R := R) (by omega) hb3
  have c5 := cellOf (i := 5) hblk rfl
  have hres := (hb3.block w.heap.size (by simp; omega) (by omega)).trans ((ka w1 (.cells kindsA 71)).block w.heap.size (by omega) |>.trans HRS0.out)
  have HR3 := Lib.hid hr3
  have HRS := Lib.hid hres
  have HB3 := Lib.hid ((Bt.kp (c := R) hk2).trans hb3)
  clear hr3 hb3 hblk hk2 hres
  go_wp2_with fail
  refine (HC.out _ HR3.out).mono ?_
  rintro e w4 (⟨y, q, hA, hq, x, rfl, hxi, hxf, hxs, hr4, hb4⟩ | ⟨hB, rfl, hb4⟩)
  rotate_left
  · exact ⟨rfl, .inr ⟨hB, rfl, HB3.out.trans hb4⟩⟩
  have hz3 := lt_of_block HRS.out
  have hxf2 : x.foot (fun b => w.heap.size + 1 ≤ b) := V.foot.mono (fun b hb => by omega) _ hxf
  have hblk := (hb4.block w.heap.size (by omega) (by omega)).trans HRS.out
  obtain ⟨d0, d1, d2, d3, g0, g1, g2, g3⟩ := cell4 hblk
  have HBL := Lib.hid hblk
  have HXI := Lib.hid hxi
  have HAA := Lib.hid hA
  have HXF := Lib.hid hxf2
  have HXS := Lib.hid hxs
  have HR4 := Lib.hid hr4
  have HB4 := Lib.hid (HB3.out.trans hb4)
  clear hA hxi hxf hxf2 hxs hr4 hb4 hblk
  cases x with
  | mk k n t a cap l =>
  simp only [V.val_mk]
  go_wp2_with fail
  obtain ⟨e0, e1, e2, e3, -⟩ := cell4 (put4_block (v0 := .int .i64 k) (v1 := .int .i64 n) (v2 := .string t) (v3 := .slice a l.length cap) HBL.out)
  refine bodyPost_ret (v := .agg #[.int .i64 k, .int .i64 n, .string t, .slice a l.length cap]) (by simp [results, Tryz.results81, go_sem, e0, e1, e2, e3]) rfl ?_
  have hS : (put4 w4 w.heap.size (.int .i64 k) (.int .i64 n) (.string t) (.slice a l.length cap)).heap.size = w4.heap.size := by simp [World.setCell]
  exact .inl ⟨y, q, HAA.out, hq, .mk k n t a cap l, rfl, by rw [hS]; exact V.In.move (Nat.le_refl _) (fun b _ hb => put4_other (by omega)) _ HXI.out HXF.out, V.foot.mono (fun b hb => by omega) _ HXF.out, HXS.out, (put4_other (by omega)).trans HR4.out, put4_bt HB4.out (Nat.le_refl _)⟩

set_option maxRecDepth 100000 in
set_option maxHeartbeats 4000000 in
theorem ofKeyA_tagged (w : World) (R : Nat) (s : ByteArray) (p : Nat) (A : V → Nat → Prop) (B : Prop) (hr : Reader w R s p) (hs : s.size ≤ 1000000) (hp : p < s.size) (hb : s[p] = 4)
    (ih : ∀ w1 : World, Reader w1 R s (p + 1) → Calls Tryz.prog 92 #[.pointer (some ⟨R, 0, none⟩)] w1 (OutP A B w1 R s)) :
    Calls Tryz.prog 81 #[.pointer (some ⟨R, 0, none⟩)] w (OutP A B w R s) := by
  have HR := Lib.hid hr
  have hRl := lt_of_block hr
  have N : ∀ w1 : World, Reader w1 R s p → Calls Tryz.prog 125 #[.pointer (some ⟨R, 0, none⟩)] w1 fun e w' => e = .returned (.int .u8 4) ∧ Reader w' R s (p + 1) ∧ Bt R w1 w' := fun w1 hq => by
    have := next_yes w1 R s p hq hp hs
    rw [hb] at this
    exact this
  have HN := Lib.hid N
  have HC := Lib.hid ih
  clear hr N ih hb
  go_enter Tryz.func81, Tryz.ntmps81
  go_wp2_with fail
  refine (kinds_any _).mono ?_
  rintro e w1 ⟨rfl, hk⟩
  have HK := Lib.hid (kk (ka _ _) hk)
  have HRS0 := Lib.hid ((hk.block w.heap.size (by simp)).trans (blockHere (w := w) (o := .cells zero4 24 (0, 0)) rfl))
  have hz1 := lt_of_block HRS0.out
  clear hk
  go_wp2_with fail
  have hk2 : Kp w (w1.alloc (.cells kindsA 71)) := kk HK.out (ka _ _)
  refine (HN.out _ (HR.out.kp hk2)).mono ?_
  rintro e w3 ⟨rfl, hr3, hb3⟩
  have hblk := boxAny (R := R) (by omega) hb3
  have c5 := cellOf (i := 7) hblk rfl
  have hres := (hb3.block w.heap.size (by simp; omega) (by omega)).trans ((ka w1 (.cells kindsA 71)).block w.heap.size (by omega) |>.trans HRS0.out)
  have HR3 := Lib.hid hr3
  have HRS := Lib.hid hres
  have HB3 := Lib.hid ((Bt.kp (c := R) hk2).trans hb3)
  clear hr3 hb3 hblk hk2 hres
  go_wp2_with fail
  refine (HC.out _ HR3.out).mono ?_
  rintro e w4 (⟨y, q, hA, hq, x, rfl, hxi, hxf, hxs, hr4, hb4⟩ | ⟨hB, rfl, hb4⟩)
  rotate_left
  · exact ⟨rfl, .inr ⟨hB, rfl, HB3.out.trans hb4⟩⟩
  have hz3 := lt_of_block HRS.out
  have hxf2 : x.foot (fun b => w.heap.size + 1 ≤ b) := V.foot.mono (fun b hb => by omega) _ hxf
  have hblk := (hb4.block w.heap.size (by omega) (by omega)).trans HRS.out
  obtain ⟨d0, d1, d2, d3, g0, g1, g2, g3⟩ := cell4 hblk
  have HBL := Lib.hid hblk
  have HXI := Lib.hid hxi
  have HAA := Lib.hid hA
  have HXF := Lib.hid hxf2
  have HXS := Lib.hid hxs
  have HR4 := Lib.hid hr4
  have HB4 := Lib.hid (HB3.out.trans hb4)
  clear hA hxi hxf hxf2 hxs hr4 hb4 hblk
  cases x with
  | mk k n t a cap l =>
  simp only [V.val_mk]
  go_wp2_with fail
  obtain ⟨e0, e1, e2, e3, -⟩ := cell4 (put4_block (v0 := .int .i64 k) (v1 := .int .i64 n) (v2 := .string t) (v3 := .slice a l.length cap) HBL.out)
  refine bodyPost_ret (v := .agg #[.int .i64 k, .int .i64 n, .string t, .slice a l.length cap]) (by simp [results, Tryz.results81, go_sem, e0, e1, e2, e3]) rfl ?_
  have hS : (put4 w4 w.heap.size (.int .i64 k) (.int .i64 n) (.string t) (.slice a l.length cap)).heap.size = w4.heap.size := by simp [World.setCell]
  exact .inl ⟨y, q, HAA.out, hq, .mk k n t a cap l, rfl, by rw [hS]; exact V.In.move (Nat.le_refl _) (fun b _ hb => put4_other (by omega)) _ HXI.out HXF.out, V.foot.mono (fun b hb => by omega) _ HXF.out, HXS.out, (put4_other (by omega)).trans HR4.out, put4_bt HB4.out (Nat.le_refl _)⟩


set_option maxRecDepth 100000 in
set_option maxHeartbeats 8000000 in
theorem keyText_any (w : World) (R : Nat) (s : ByteArray) (p : Nat) (hr : Reader w R s p) (hp : p ≤ s.size) (hs : s.size ≤ 1000000) :
    Calls Tryz.prog 88 #[.pointer (some ⟨R, 0, none⟩)] w (OutP (fun y q => PK (2 :: s.data.toList.drop p) (some (y, s.data.toList.drop q)) ∧ p < q) (PK (2 :: s.data.toList.drop p) none) w R s) := by
  have hRl := lt_of_block hr
  have HR := Lib.hid hr
  clear hr
  go_enter Tryz.func88, Tryz.ntmps88
  go_wp2_with fail
  refine (next_any _ R s p (HR.out.kp (kk (ka _ _) (ka _ _))) hp hs).mono ?_
  rintro e w1 (⟨b0, hb0, hlt0, rfl, hr1, hb1⟩ | ⟨h0, rfl, hb1⟩)
  rotate_left
  · exact ⟨rfl, .inr ⟨by rw [h0]; exact .text0 (by simp), rfl, (Bt.kp (c := R) (kk (ka _ _) (ka _ _))).trans hb1⟩⟩
  have hS0 : w1.heap[w.heap.size + 1]? = some (.cells #[.slice none 0 0] 97 (0, 0)) := (hb1.block _ (by simp) (by omega)).trans (blockHere (by simp))
  have hres := (hb1.block w.heap.size (by simp; omega) (by omega)).trans (blockPast (blockHere (w := w) (o := .cells zero4 24 (0, 0)) rfl))
  have HR1 := Lib.hid hr1
  have HS1 := Lib.hid (⟨.slice none 0 0, hS0, World.ownsRow_nil _ _ _ _⟩ : Sink w1 (w.heap.size + 1) [])
  have HC1 := Lib.hid (cell_of_one hS0)
  have HRS := Lib.hid hres
  have HB0 := Lib.hid hb0
  have HB1 := Lib.hid ((Bt.kp (c := R) (kk (ka w (.cells zero4 24)) (ka _ (.cells #[.slice none 0 0] 97)))).trans hb1)
  clear hr1 hb1 hS0 hres hb0
  go_wp2_with fail
  go_loopw [4] (fun bb wr => ∃ (q : Nat) (b : UInt8) (t : List UInt8), bb = .int .u8 (b.toNat : Int) ∧ p ≤ q ∧ q < s.size ∧ t.length ≤ q ∧ s.data.toList.drop q = b :: s.data.toList.drop (q + 1) ∧ Sink wr (w.heap.size + 1) t ∧ Reader wr R s (q + 1) ∧ Bt R w wr ∧ (t = [] → wr.cell? ⟨w.heap.size + 1, 0, none⟩ = some (.slice none 0 0)) ∧ wr.heap[w.heap.size]? = some (.cells zero4 24 (0, 0)) ∧ s.data.toList.drop p = t ++ s.data.toList.drop q ∧ ∀ c ∈ t, c ≠ 0) (fun _ wr => s.size + 1 - posOf wr R)
  case atStart => exact ⟨p, b0, [], rfl, Nat.le_refl _, hlt0, Nat.zero_le _, HB0.out, HS1.out, HR1.out, HB1.out, fun _ => HC1.out, HRS.out, rfl, by simp⟩
  case round =>
    obtain ⟨q, b, t, rfl, hpq, hqs, htq, hdr, hsk, hrd, hbt, hz, hres, hpQ, hnz⟩ := hrel
    have hps := posOf_reader hrd
    have HSK := Lib.hid hsk
    have HRD := Lib.hid hrd
    have HBT := Lib.hid hbt
    have HRS2 := Lib.hid hres
    have HPS := Lib.hid hps
    have HDR := Lib.hid hdr
    have HPQ := Lib.hid hpQ
    have HZ := Lib.hid hz
    have HNZ := Lib.hid hnz
    clear hsk hrd hbt hz hres hps hdr hpQ hnz
    by_cases h34 : b = 0
    · subst h34
      have hpq2 : PK (2 :: s.data.toList.drop p) (some (.mk 1 0 ⟨t.toArray⟩ none 0 [], s.data.toList.drop (q + 1))) := by
        rw [HPQ.out, HDR.out]; exact .text HNZ.out
      have HPQ2 := Lib.hid hpq2
      clear hpq2
      have hres := HRS2.out
      obtain ⟨d0, d1, d2, d3, f0, f1, f2, f3⟩ := cell4 hres
      clear hres
      by_cases hl0 : t = []
      · subst hl0
        have hz := HZ.out rfl
        go_wp2_with fail
        rw [run_convert_bytes_nil wr 57 5 Tryz.underlying57 Tryz.underlying5 0 0 9 Tryz.underlying9]
        go_wp2_with fail
        obtain ⟨g0, g1, g2, g3, -⟩ := cell4 (put4_block (v0 := .int .i64 1) (v1 := .int .i64 0) (v2 := .string ByteArray.empty) (v3 := .slice none 0 0) HRS2.out)
        refine bodyPost_ret (v := .agg #[.int .i64 1, .int .i64 0, .string ByteArray.empty, .slice none 0 0]) (by simp [results, Tryz.results88, go_sem, g0, g1, g2, g3]) rfl ?_
        exact .inl ⟨_, q + 1, ⟨HPQ2.out, by omega⟩, by omega, .mk 1 0 ⟨#[]⟩ none 0 [], rfl, inLeaf _ _ _ (by unfold I64; omega) (by unfold I64; omega) (by decide), V.foot_leaf _ _ _ _ _, V.same_refl _, (put4_other (by omega)).trans HRD.out, put4_bt HBT.out (Nat.le_refl _)⟩
      · have hsk := HSK.out
        obtain ⟨g, cap3, hc3, hcv⟩ := hsk.out hl0
        clear hsk
        go_wp2_with fail
        obtain ⟨g0, g1, g2, g3, -⟩ := cell4 (put4_block (v0 := .int .i64 1) (v1 := .int .i64 0) (v2 := .string ⟨t.toArray⟩) (v3 := .slice none 0 0) HRS2.out)
        refine bodyPost_ret (v := .agg #[.int .i64 1, .int .i64 0, .string ⟨t.toArray⟩, .slice none 0 0]) (by simp [results, Tryz.results88, go_sem, g0, g1, g2, g3]) rfl ?_
        exact .inl ⟨_, q + 1, ⟨HPQ2.out, by omega⟩, by omega, .mk 1 0 ⟨t.toArray⟩ none 0 [], rfl, inLeaf _ _ _ (by unfold I64; omega) (by unfold I64; omega) (show t.length ≤ maxLen by unfold maxLen; omega), V.foot_leaf _ _ _ _ _, V.same_refl _, (put4_other (by omega)).trans HRD.out, put4_bt HBT.out (Nat.le_refl _)⟩
    · have n34 : ((b.toNat : Int) != 0) = true := by
        rw [bne_iff_ne]; intro h; exact h34 (UInt8.toNat_inj.1 (show b.toNat = 0 by omega))
      have hpq3 : s.data.toList.drop p = (t ++ [b]) ++ s.data.toList.drop (q + 1) := by
        rw [HPQ.out, HDR.out]; simp
      have hnz3 : ∀ c ∈ t ++ [b], c ≠ 0 := fun c hc => by
        rw [List.mem_append] at hc
        rcases hc with hc | hc
        · exact HNZ.out c hc
        · simp only [List.mem_cons, List.not_mem_nil, or_false] at hc
          subst hc
          exact h34
      have HPQ3 := Lib.hid hpq3
      have HNZ3 := Lib.hid hnz3
      clear hpq3 hnz3
      go_wp2_with fail
      refine (take_any _ (w.heap.size + 1) t _ b rfl HSK.out (by omega)).mono ?_
      rintro e w3 ⟨rfl, hs3, hk3⟩
      have hbl := hk3.below HSK.out
      have HS3 := Lib.hid hs3
      have HR3 := Lib.hid (show Reader w3 R s (q + 1) from (hbl.block R (by omega)).trans HRD.out)
      have HBT3 := Lib.hid (bt_below HBT.out hbl (by omega))
      have HRS4 := Lib.hid ((hbl.block w.heap.size (by omega)).trans HRS2.out)
      clear hs3 hk3 hbl
      go_wp2_with fail
      refine (next_any _ R s (q + 1) HR3.out (by omega) hs).mono ?_
      rintro e w4 (⟨b4, hb4, hlt4, rfl, hr4, hk4⟩ | ⟨hb4, rfl, hk4⟩)
      rotate_left
      · exact ⟨rfl, .inr ⟨by rw [HPQ3.out, hb4, List.append_nil]; exact .text0 HNZ3.out, rfl, HBT3.out.trans hk4⟩⟩
      have hps4 := posOf_reader hr4
      have HS4 := Lib.hid (HS3.out.bt hk4 (by omega))
      have HRS5 := Lib.hid ((hk4.block w.heap.size (lt_of_block HRS4.out) (by omega)).trans HRS4.out)
      have HBT4 := Lib.hid (HBT3.out.trans hk4)
      have HR4 := Lib.hid hr4
      have HB4 := Lib.hid hb4
      clear hr4 hk4 hb4
      go_wp2_with fail
      go_roundw
      case rel => exact ⟨q + 1, b4, t ++ [b], rfl, by omega, hlt4, by simp; omega, HB4.out, HS4.out, HR4.out, HBT4.out, (fun h => by simp at h), HRS5.out, HPQ3.out, HNZ3.out⟩
      case measure => rw [HPS.out, hps4]; omega

set_option maxRecDepth 100000 in
set_option maxHeartbeats 8000000 in
theorem keyWord_any (w : World) (R : Nat) (s : ByteArray) (p : Nat) (hr : Reader w R s p) (hp : p ≤ s.size) (hs : s.size ≤ 1000000) :
    Calls Tryz.prog 86 #[.pointer (some ⟨R, 0, none⟩)] w (OutP (fun y q => PK (1 :: s.data.toList.drop p) (some (y, s.data.toList.drop q)) ∧ p < q) (PK (1 :: s.data.toList.drop p) none) w R s) := by
  have hRl := lt_of_block hr
  have HR := Lib.hid hr
  clear hr
  go_enter Tryz.func86, Tryz.ntmps86
  go_wp2_with fail
  refine wp_loop_rounds (0 + 1 + 1 + 1 + 1 + 1) ?_
  rw [rounds_succ]
  go_wp2_with fail
  refine (next_any _ R s (p) (HR.out.kp (ka _ _)) hp hs).mono ?_
  rintro e w1 (⟨c1, hc1, hl1, rfl, hr1, hb1⟩ | ⟨hc1, rfl, hb1⟩)
  rotate_left
  · refine ⟨rfl, .inr ⟨.word0 ?_, rfl, (Bt.kp (c := R) (ka w (.cells zero4 24))).trans hb1⟩⟩
    have hlen := congrArg List.length hc1
    rw [List.length_drop, List.length_nil] at hlen
    rw [List.length_drop]
    omega
  have HR1 := Lib.hid hr1
  have HB1 := Lib.hid hb1
  have HC1 := Lib.hid hc1
  have k1 := c1.toNat_lt
  clear hr1 hb1 hc1
  go_wp2_with fail
  rw [or_low 0 _ (by omega) (by omega) (by omega) ⟨by omega, by omega⟩, Int.zero_add]
  rw [rounds_succ]
  go_wp2_with fail
  refine (next_any _ R s (p + 1) (HR1.out) (by omega) hs).mono ?_
  rintro e w2 (⟨c2, hc2, hl2, rfl, hr2, hb2⟩ | ⟨hc2, rfl, hb2⟩)
  rotate_left
  · refine ⟨rfl, .inr ⟨.word0 ?_, rfl, (Bt.kp (c := R) (ka w (.cells zero4 24))).trans (HB1.out.trans hb2)⟩⟩
    have hlen := congrArg List.length hc2
    rw [List.length_drop, List.length_nil] at hlen
    rw [List.length_drop]
    omega
  have HR2 := Lib.hid hr2
  have HB2 := Lib.hid (HB1.out.trans hb2)
  have HC2 := Lib.hid hc2
  have k2 := c2.toNat_lt
  clear hr2 hb2 hc2
  go_wp2_with fail
  rw [or_low _ _ (by omega) (by omega) (by omega) ⟨by omega, by omega⟩]
  rw [rounds_succ]
  go_wp2_with fail
  refine (next_any _ R s (p + 1 + 1) (HR2.out) (by omega) hs).mono ?_
  rintro e w3 (⟨c3, hc3, hl3, rfl, hr3, hb3⟩ | ⟨hc3, rfl, hb3⟩)
  rotate_left
  · refine ⟨rfl, .inr ⟨.word0 ?_, rfl, (Bt.kp (c := R) (ka w (.cells zero4 24))).trans (HB2.out.trans hb3)⟩⟩
    have hlen := congrArg List.length hc3
    rw [List.length_drop, List.length_nil] at hlen
    rw [List.length_drop]
    omega
  have HR3 := Lib.hid hr3
  have HB3 := Lib.hid (HB2.out.trans hb3)
  have HC3 := Lib.hid hc3
  have k3 := c3.toNat_lt
  clear hr3 hb3 hc3
  go_wp2_with fail
  rw [or_low _ _ (by omega) (by omega) (by omega) ⟨by omega, by omega⟩]
  rw [rounds_succ]
  go_wp2_with fail
  refine (next_any _ R s (p + 1 + 1 + 1) (HR3.out) (by omega) hs).mono ?_
  rintro e w4 (⟨c4, hc4, hl4, rfl, hr4, hb4⟩ | ⟨hc4, rfl, hb4⟩)
  rotate_left
  · refine ⟨rfl, .inr ⟨.word0 ?_, rfl, (Bt.kp (c := R) (ka w (.cells zero4 24))).trans (HB3.out.trans hb4)⟩⟩
    have hlen := congrArg List.length hc4
    rw [List.length_drop, List.length_nil] at hlen
    rw [List.length_drop]
    omega
  have HR4 := Lib.hid hr4
  have HB4 := Lib.hid (HB3.out.trans hb4)
  have HC4 := Lib.hid hc4
  have k4 := c4.toNat_lt
  clear hr4 hb4 hc4
  have hpk : PK (1 :: s.data.toList.drop p) (some (.mk 0 (((((c1.toNat : Int) * 256 + c2.toNat) * 256 + c3.toNat) * 256 + c4.toNat) + -2147483648) ⟨#[]⟩ none 0 [], s.data.toList.drop (p + 1 + 1 + 1 + 1))) := by
    rw [HC1.out, HC2.out, HC3.out, HC4.out]; exact .word
  have HPK := Lib.hid hpk
  have hres := (HB4.out.block w.heap.size (by simp) (by omega)).trans (blockHere (w := w) (o := .cells zero4 24 (0, 0)) rfl)
  obtain ⟨d0, d1, d2, d3, f0, f1, f2, f3⟩ := cell4 hres
  have HRS := Lib.hid hres
  have HBE := Lib.hid ((Bt.kp (c := R) (ka w (.cells zero4 24))).trans HB4.out)
  clear hres hpk
  go_wp2_with fail
  rw [or_low _ _ (by omega) (by omega) (by omega) ⟨by omega, by omega⟩]
  rw [rounds_succ]
  go_wp2_with fail
  generalize hn : ((((c1.toNat : Int) * 256 + c2.toNat) * 256 + c3.toNat) * 256 + c4.toNat) + -2147483648 = n at *
  obtain ⟨g0, g1, g2, g3, -⟩ := cell4 (put4_block (v0 := .int .i64 0) (v1 := .int .i64 n) (v2 := .string ⟨#[]⟩) (v3 := .slice none 0 0) HRS.out)
  refine bodyPost_ret (v := .agg #[.int .i64 0, .int .i64 n, .string ⟨#[]⟩, .slice none 0 0]) (by simp [results, Tryz.results86, go_sem, g0, g1, g2, g3]) rfl ?_
  exact .inl ⟨_, _, ⟨HPK.out, by omega⟩, by omega, .mk 0 n ⟨#[]⟩ none 0 [], rfl, inLeaf _ _ _ (by unfold I64; omega) (by unfold I64; omega) (by decide), V.foot_leaf _ _ _ _ _, V.same_refl _, (put4_other (by omega)).trans HR4.out, put4_bt HBE.out (Nat.le_refl _)⟩

set_option maxRecDepth 100000 in
set_option maxHeartbeats 4000000 in
theorem keyTagged_any (w : World) (R : Nat) (s : ByteArray) (p : Nat) (hr : Reader w R s p) (hp : p ≤ s.size) (hs : s.size ≤ 1000000)
    (ih : ∀ w1 : World, p < s.size → Reader w1 R s (p + 1) → Calls Tryz.prog 81 #[.pointer (some ⟨R, 0, none⟩)] w1 (OutP (fun y q => PK (s.data.toList.drop (p + 1)) (some (y, s.data.toList.drop q)) ∧ p + 1 < q) (PK (s.data.toList.drop (p + 1)) none) w1 R s)) :
    Calls Tryz.prog 92 #[.pointer (some ⟨R, 0, none⟩)] w (OutP (fun y q => PK (4 :: s.data.toList.drop p) (some (y, s.data.toList.drop q)) ∧ p < q) (PK (4 :: s.data.toList.drop p) none) w R s) := by
  have hRl := lt_of_block hr
  have HR := Lib.hid hr
  have HC := Lib.hid ih
  clear hr ih
  go_enter Tryz.func92, Tryz.ntmps92
  go_wp2_with fail
  refine (next_any _ R s p (HR.out.kp (ka _ _)) hp hs).mono ?_
  rintro e w1 (⟨c0, hc0, hl0, rfl, hr1, hb1⟩ | ⟨hc0, rfl, hb1⟩)
  rotate_left
  · exact ⟨rfl, .inr ⟨by rw [hc0]; exact .tag0, rfl, (Bt.kp (c := R) (ka _ _)).trans hb1⟩⟩
  have HC0 := Lib.hid hc0
  have k0 := c0.toNat_lt
  clear hc0
  have hres := (hb1.block w.heap.size (by simp) (by omega)).trans (blockHere (w := w) (o := .cells zero4 24 (0, 0)) rfl)
  have hs1 := hb1.size
  simp at hs1
  have HR1 := Lib.hid hr1
  have HRS := Lib.hid hres
  have HB1 := Lib.hid ((Bt.kp (c := R) (ka w (.cells zero4 24))).trans hb1)
  clear hr1 hb1 hres
  go_wp2_with fail
  have hw : wrap64 (wrap64 (c0.toNat : Int) - 1) = (c0.toNat : Int) - 1 := by
    rw [IntWalk.wrap64_in (c0.toNat : Int) (by omega), IntWalk.wrap64_in _ (by omega)]
  clear hw
  generalize htag : (c0.toNat : Int) - 1 = tag at *
  refine (HC.out w1 hl0 HR1.out).mono ?_
  rintro e w2 (⟨y, q, ⟨hpk, hpq⟩, hq, z, rfl, hzi, hzf, hzs, hr2, hb2⟩ | ⟨hpk, rfl, hb2⟩)
  rotate_left
  · exact ⟨rfl, .inr ⟨by rw [HC0.out]; exact .tag hpk, rfl, HB1.out.trans hb2⟩⟩
  have HPK := Lib.hid (show PK (4 :: s.data.toList.drop p) (some (.mk 3 tag ⟨#[]⟩ none 0 [y], s.data.toList.drop q)) by
    rw [HC0.out, ← htag]; exact .tag hpk)
  clear hpk
  have hres := (hb2.block w.heap.size (by omega) (by omega)).trans HRS.out
  have hs2 := hb2.size
  have hzf2 : z.foot (fun b => w.heap.size + 1 ≤ b) := V.foot.mono (fun b hb => by omega) z hzf
  have HR2 := Lib.hid hr2
  have HRS2 := Lib.hid hres
  have HB2 := Lib.hid (HB1.out.trans hb2)
  have HZI := Lib.hid hzi
  have HZF := Lib.hid hzf2
  have HZS := Lib.hid hzs
  clear hr2 hb2 hres hzi hzf hzf2 hzs
  cases z with
  | mk k n t a cap zl =>
  simp only [V.val_mk]
  go_wp2_with fail
  refine (together_one _ w2.heap.size 0 1 (.int .i64 k) (.int .i64 n) (.string t) (.slice a zl.length cap) (here rfl rfl) (here rfl rfl) (here rfl rfl) (here rfl rfl) (by simp [Value.oneCell'])).mono ?_
  rintro e w3 ⟨g, rfl, hg, hgb, hk3⟩
  simp at hg
  have hk23 := kk (ka _ _) hk3
  have hblk := (hk23.block _ (lt_of_block HRS2.out)).trans HRS2.out
  obtain ⟨d0, d1, d2, d3, g0, g1, g2, g3⟩ := cell4 hblk
  have HBL := Lib.hid hblk
  have HR3 := Lib.hid (HR2.out.kp hk23)
  have HB3 := Lib.hid (HB2.out.trans (Bt.kp hk23))
  have HQ := Lib.hid hgb
  have HZ2 := Lib.hid (HZI.out.keep hk23.size hk23)
  clear hk3 hk23 hblk hgb
  go_wp2_with fail
  obtain ⟨e0, e1, e2, e3, -⟩ := cell4 (put4_block (v0 := .int .i64 3) (v1 := .int .i64 tag) (v2 := .string ⟨#[]⟩) (v3 := .slice (some ⟨g, 0, none⟩) 1 1) HBL.out)
  refine bodyPost_ret (v := .agg #[.int .i64 3, .int .i64 tag, .string ⟨#[]⟩, .slice (some ⟨g, 0, none⟩) 1 1]) (by simp [results, Tryz.results92, go_sem, e0, e1, e2, e3]) rfl ?_
  have hgs := lt_of_block HQ.out
  have hmv : ∀ b, b < w3.heap.size → w.heap.size + 1 ≤ b → (put4 w3 w.heap.size (.int .i64 3) (.int .i64 tag) (.string ⟨#[]⟩) (.slice (some ⟨g, 0, none⟩) 1 1)).heap[b]? = w3.heap[b]? := fun b _ hb => put4_other (by omega)
  have hS : (put4 w3 w.heap.size (.int .i64 3) (.int .i64 tag) (.string ⟨#[]⟩) (.slice (some ⟨g, 0, none⟩) 1 1)).heap.size = w3.heap.size := by simp [World.setCell]
  refine .inl ⟨_, q, ⟨HPK.out, by omega⟩, hq, .mk 3 tag ⟨#[]⟩ (some ⟨g, 0, none⟩) 1 [.mk k n t a cap zl], rfl, ?_, ?_, ?_, (put4_other (by omega)).trans HR3.out, put4_bt HB3.out (Nat.le_refl _)⟩
  · rw [hS]
    simp only [V.In, V.InL]
    refine ⟨by unfold I64; omega, by unfold I64; omega, by decide, Nat.le_refl _, by decide, .inr ⟨g, 0, rfl, hgs, ?_⟩, ?_, trivial⟩
    · exact At.of_block ((hmv g hgs (by omega)).trans HQ.out) rfl
    · exact V.In.move (Nat.le_refl _) hmv _ HZ2.out HZF.out
  · simp only [V.foot, V.footL]
    exact ⟨.inr ⟨g, 0, rfl, by omega⟩, V.foot.mono (fun b hb => by omega) _ HZF.out, trivial⟩
  · exact V.same_node (V.sameL_one HZS.out)

/-- What readList tells at a key. -/
def OutKL (w : World) (R : Nat) (s : ByteArray) (p : Nat) (e : Ending) (w' : World) : Prop :=
  (∃ (ys : List V) (q g : Nat) (vs : List V), PKL 0 (s.data.toList.drop p) (some (ys, s.data.toList.drop q)) ∧ p < q ∧ q ≤ s.size ∧ ys.length ≤ 8 ∧ e = .returned (.slice (some ⟨g, 0, none⟩) ys.length ys.length) ∧ w.heap.size ≤ g ∧ w'.heap[g]? = some (.cells (cellsL vs).toArray 24 (0, 0)) ∧
    V.sameL vs ys = true ∧ V.InL w' w'.heap.size vs ∧ V.footL (fun b => w.heap.size ≤ b) vs ∧ Reader w' R s q ∧ Bt R w w') ∨
  (PKL 0 (s.data.toList.drop p) none ∧ e = .panicked formP ∧ Bt R w w')

set_option maxRecDepth 100000 in
set_option maxHeartbeats 8000000 in
theorem keyList_any (w : World) (R : Nat) (s : ByteArray) (p : Nat) (hr : Reader w R s p) (hp : p ≤ s.size) (hs : s.size ≤ 1000000) 
    (ih : ∀ (q : Nat) (w1 : World), p ≤ q → q ≤ s.size → Reader w1 R s q → Calls Tryz.prog 81 #[.pointer (some ⟨R, 0, none⟩)] w1 (OutP (fun y q' => PK (s.data.toList.drop q) (some (y, s.data.toList.drop q')) ∧ q < q') (PK (s.data.toList.drop q) none) w1 R s)) :
    Calls Tryz.prog 116 #[.pointer (some ⟨R, 0, none⟩), .string ⟨#[]⟩, .string ⟨#[0]⟩, .func (.func 81) #[] #[]] w (OutKL w R s p) := by
  have hRl := lt_of_block hr
  have HR := Lib.hid hr
  have ih2 := fun (q : Nat) (w1 : World) (h1 : p ≤ q) (h2 : q ≤ s.size) (h3 : Reader w1 R s q) (_ : Bt R w w1) => ih q w1 h1 h2 h3
  have HI := Lib.hid ih2
  clear hr ih ih2
  go_enter Tryz.func116, Tryz.ntmps116
  go_wp2_with fail
  go_loopw [10] (fun i wr => ∃ (j q : Nat) (cs : Array Value) (vs ys : List V), j ≤ 8 ∧ ys.length = j ∧ i = .int .i64 j ∧ RowV wr w.heap.size ys j cs vs ∧ Bt R w wr ∧ Reader wr R s q ∧ p ≤ q ∧ q ≤ s.size ∧ (∀ o, PKL j (s.data.toList.drop q) o → PKL 0 (s.data.toList.drop p) (o.map fun x => (ys ++ x.1, x.2)))) (fun i _ => 9 - (intOf i).toNat)
  case atStart => exact ⟨0, p, _, [], [], Nat.zero_le _, rfl, rfl, ⟨blockHere rfl, rfl, by simp [cellsL], by simp [V.sameL], trivial, trivial⟩, Bt.kp (ka _ _), HR.out.kp (ka _ _), Nat.le_refl _, hp, fun o h => by cases o <;> simpa using h⟩
  case round =>
    obtain ⟨j, q, cs, vs, ys, hj, hyl, rfl, hrow, hbt, hrd, hpq, hqs, hPL⟩ := hrel
    have hgl := lt_of_block hrow.blk
    have HROW := Lib.hid hrow
    have HBT := Lib.hid hbt
    have HRD := Lib.hid hrd
    have HPL := Lib.hid hPL
    clear hrow hbt hrd hPL
    by_cases h41 : (s.data.toList.drop q).head? = some 0
    · obtain ⟨r, hr⟩ := head_yes h41
      obtain ⟨hr2, hq⟩ := drop_tail hr
      have hes : Lib.hasPrefix (s.extract q s.size).data.toList (⟨#[0]⟩ : ByteArray).data.toList = true := by
        rw [rest_eq, pre_one]; simpa using h41
      have hfin := HPL.out (some ([], s.data.toList.drop (q + 1))) (by rw [hr, ← hr2]; exact .done)
      rw [Option.map_some, List.append_nil] at hfin
      have hrow := HROW.out
      have hlv : vs.length = j := by
        have := congrArg List.length hrow.take
        have hcl : cs.toList.length = 8 * 4 := Array.length_toList.trans hrow.size
        rw [cellsL_length, List.length_take, hcl] at this
        omega
      have htg := fun (w1 : World) (h : Bt R wr w1) => together_rows w1 w.heap.size 8 j (cellsL vs) (by rw [cellsL_length, hlv]) (fun i v hv => by
        have h1 : cs[i]? = some v := by
          rw [← hrow.take] at hv
          rw [← Array.getElem?_toList]
          rw [List.getElem?_take] at hv
          split at hv
          · exact hv
          · cases hv
        exact cellOf ((hrow.bt h (by omega)).blk) h1) (cellsL_one vs) hj
      have HS := Lib.hid (fun (w1 : World) (h : Reader w1 R s _) => skip_yes w1 R s ⟨#[0]⟩ _ h (by omega) hs (by decide) hes)
      have HTG := Lib.hid htg
      have HFIN := Lib.hid hfin
      clear hes htg hrow hr hr2 h41 hfin
      go_wp2_with fail
      refine (HS.out _ HRD.out).mono ?_
      rintro e w1 ⟨rfl, hr1, hb1⟩
      have HR1 := Lib.hid hr1
      have HB1 := Lib.hid hb1
      clear hr1 hb1
      go_wp2_with fail
      rw [slice_arr w1 w.heap.size j hj]
      go_wp2_with fail
      refine (HTG.out _ HB1.out).mono ?_
      rintro e w2 ⟨g, rfl, hg, hgb, hk2⟩
      have HG := Lib.hid hgb
      have HK := Lib.hid hk2
      clear hgb hk2
      go_wp2_with fail
      go_ret
      have hh := HROW.out.bt HB1.out (by omega)
      have hz := HBT.out.size
      have hz1 := HB1.out.size
      have hsm := hh.same
      rw [List.take_of_length_le (by omega)] at hsm
      subst hyl
      exact .inl ⟨ys, q + 1, g, vs, HFIN.out, by omega, by omega, hj, rfl, by omega, HG.out, hsm, hh.hin.keep HK.out.size HK.out, V.footL.mono (fun b hb => by omega) _ hh.foot, HR1.out.kp HK.out, (HBT.out.trans HB1.out).trans (.kp HK.out)⟩
    · have hgo : Lib.hasPrefix (s.extract q s.size).data.toList (⟨#[0]⟩ : ByteArray).data.toList = false := by
        rw [rest_eq, pre_one]; simpa using h41
      have hsk := fun (w1 : World) (h : Reader w1 R s q) => skip_no w1 R s ⟨#[0]⟩ q h (by omega) hgo
      have HSK := Lib.hid hsk
      clear hsk hgo
      by_cases h8 : j = 8
      · have g8 : ((j : Int) == 8) = true := by subst h8; rfl
        have hfin := HPL.out none (.wide h41 h8)
        rw [Option.map_none] at hfin
        go_wp2_with fail
        refine (HSK.out _ HRD.out).mono ?_
        rintro e w1 ⟨rfl, hk1⟩
        have HB1 := Lib.hid (HBT.out.trans (Bt.kp hk1))
        clear hk1
        go_wp2_with fail
        refine (refuse_any _).mono ?_
        rintro e3 w3 ⟨rfl, rfl⟩
        exact ⟨rfl, .inr ⟨hfin, rfl, HB1.out⟩⟩
      · have g8 : ((j : Int) == 8) = false := by rw [beq_eq_false_iff_ne]; omega
        have hex := fun (w1 : World) (h : Reader w1 R s q) => expect_yes w1 R s ⟨#[]⟩ q h (by omega) hs (by decide) (by simp [Lib.hasPrefix])
        have HEX := Lib.hid hex
        clear hex
        by_cases h0 : j = 0
        · have g0 : decide ((0 : Int) < (j : Int)) = false := by subst h0; rfl
          have g1 : decide (0 < j) = false := by subst h0; rfl
          clear h0
          go_wp2_with fail
          refine (HSK.out _ HRD.out).mono ?_
          rintro e w1 ⟨rfl, hk1⟩
          have HB1 := Lib.hid (HBT.out.trans (Bt.kp hk1))
          have HR1 := Lib.hid (HRD.out.kp hk1)
          have HRW1 := Lib.hid (HROW.out.bt (Bt.kp (c := R) hk1) (by omega))
          clear hk1
          go_wp2_with fail
          refine (HI.out q _ hpq hqs HR1.out HB1.out).mono ?_
          rintro e w3 (⟨y, q3, ⟨hpv, hq3⟩, hq3s, z, rfl, hzi, hzf, hzs, hr3, hb3⟩ | ⟨hpv, rfl, hb3⟩)
          rotate_left
          · exact ⟨rfl, .inr ⟨by
              have := HPL.out none (.part0 h41 (by omega) hpv)
              simpa using this, rfl, HB1.out.trans hb3⟩⟩
          have hPL3 : ∀ o, PKL (j + 1) (s.data.toList.drop q3) o → PKL 0 (s.data.toList.drop p) (o.map fun x => ((ys ++ [y]) ++ x.1, x.2)) := fun o ho => by
            have := HPL.out _ (.part1 h41 (by omega) hpv ho)
            cases o <;> simpa using this
          have hgl1 := lt_of_block HRW1.out.blk
          have hst := (HRW1.out.grow hyl y).step (by omega) (by omega) hgl1 hb3 hzi (V.foot.mono (fun b hb => by omega) z hzf) hzs (show (ys ++ [y])[j]? = some y by rw [← hyl]; simp)
          have hb2 := (HRW1.out.bt hb3 (by omega)).blk
          have hsz := HRW1.out.size
          obtain ⟨u0, hu0⟩ : ∃ u, cs[j * 4]? = some u := ⟨cs[j * 4]'(by omega), by simp⟩
          obtain ⟨u1, hu1⟩ : ∃ u, cs[j * 4 + 1]? = some u := ⟨cs[j * 4 + 1]'(by omega), by simp⟩
          obtain ⟨u2, hu2⟩ : ∃ u, cs[j * 4 + 2]? = some u := ⟨cs[j * 4 + 2]'(by omega), by simp⟩
          obtain ⟨u3, hu3⟩ : ∃ u, cs[j * 4 + 3]? = some u := ⟨cs[j * 4 + 3]'(by omega), by simp⟩
          have m0 := cellOf hb2 hu0
          have m1 := cellOf hb2 hu1
          have m2 := cellOf hb2 hu2
          have m3 := cellOf hb2 hu3
          have n0 := freeOf (i := j * 4) hb2
          have n1 := freeOf (i := j * 4 + 1) hb2
          have n2 := freeOf (i := j * 4 + 2) hb2
          have n3 := freeOf (i := j * 4 + 3) hb2
          have HST := Lib.hid hst
          have HB3 := Lib.hid (HB1.out.trans hb3)
          have HR3 := Lib.hid hr3
          have HPL3 := Lib.hid hPL3
          clear hst hzi hzf hzs hb2 hu0 hu1 hu2 hu3 hr3 hb3 hPL3
          cases z with
          | mk k n t za zc zl =>
          simp only [V.val_mk]
          go_wp2_with fail
          go_roundw
          case rel => exact ⟨j + 1, q3, _, _, ys ++ [y], by omega, by simp; omega, by first | go_num | simp, HST.out, putAt_bt HB3.out (Nat.le_refl _), (putAt_other (by omega)).trans HR3.out, by omega, hq3s, HPL3.out⟩
          case measure => simp [intOf]; omega
        · have g0 : (0 : Int) < (j : Int) := by omega
          have g1 : decide ((0 : Int) < (j : Int)) = true := by simpa using g0
          go_wp2_with fail
          refine (HSK.out _ HRD.out).mono ?_
          rintro e w1 ⟨rfl, hk1⟩
          have HB0 := Lib.hid (HBT.out.trans (Bt.kp hk1))
          have HR0 := Lib.hid (HRD.out.kp hk1)
          have HRW0 := Lib.hid (HROW.out.bt (Bt.kp (c := R) hk1) (by omega))
          clear hk1
          go_wp2_with fail
          refine (HEX.out _ HR0.out).mono ?_
          rintro e w2 ⟨rfl, hr2, hb2⟩
          have HB1 := Lib.hid (HB0.out.trans hb2)
          have HR1 := Lib.hid (show Reader w2 R s q from hr2)
          have HRW1 := Lib.hid (HRW0.out.bt hb2 (by omega))
          clear hr2 hb2
          go_wp2_with fail
          refine (HI.out q _ hpq hqs HR1.out HB1.out).mono ?_
          rintro e w3 (⟨y, q3, ⟨hpv, hq3⟩, hq3s, z, rfl, hzi, hzf, hzs, hr3, hb3⟩ | ⟨hpv, rfl, hb3⟩)
          rotate_left
          · exact ⟨rfl, .inr ⟨by
              have := HPL.out none (.part0 h41 (by omega) hpv)
              simpa using this, rfl, HB1.out.trans hb3⟩⟩
          have hPL3 : ∀ o, PKL (j + 1) (s.data.toList.drop q3) o → PKL 0 (s.data.toList.drop p) (o.map fun x => ((ys ++ [y]) ++ x.1, x.2)) := fun o ho => by
            have := HPL.out _ (.part1 h41 (by omega) hpv ho)
            cases o <;> simpa using this
          have hgl1 := lt_of_block HRW1.out.blk
          have hst := (HRW1.out.grow hyl y).step (by omega) (by omega) hgl1 hb3 hzi (V.foot.mono (fun b hb => by omega) z hzf) hzs (show (ys ++ [y])[j]? = some y by rw [← hyl]; simp)
          have hb2 := (HRW1.out.bt hb3 (by omega)).blk
          have hsz := HRW1.out.size
          obtain ⟨u0, hu0⟩ : ∃ u, cs[j * 4]? = some u := ⟨cs[j * 4]'(by omega), by simp⟩
          obtain ⟨u1, hu1⟩ : ∃ u, cs[j * 4 + 1]? = some u := ⟨cs[j * 4 + 1]'(by omega), by simp⟩
          obtain ⟨u2, hu2⟩ : ∃ u, cs[j * 4 + 2]? = some u := ⟨cs[j * 4 + 2]'(by omega), by simp⟩
          obtain ⟨u3, hu3⟩ : ∃ u, cs[j * 4 + 3]? = some u := ⟨cs[j * 4 + 3]'(by omega), by simp⟩
          have m0 := cellOf hb2 hu0
          have m1 := cellOf hb2 hu1
          have m2 := cellOf hb2 hu2
          have m3 := cellOf hb2 hu3
          have n0 := freeOf (i := j * 4) hb2
          have n1 := freeOf (i := j * 4 + 1) hb2
          have n2 := freeOf (i := j * 4 + 2) hb2
          have n3 := freeOf (i := j * 4 + 3) hb2
          have HST := Lib.hid hst
          have HB3 := Lib.hid (HB1.out.trans hb3)
          have HR3 := Lib.hid hr3
          have HPL3 := Lib.hid hPL3
          clear hst hzi hzf hzs hb2 hu0 hu1 hu2 hu3 hr3 hb3 hPL3
          cases z with
          | mk k n t za zc zl =>
          simp only [V.val_mk]
          go_wp2_with fail
          go_roundw
          case rel => exact ⟨j + 1, q3, _, _, ys ++ [y], by omega, by simp; omega, by first | go_num | simp, HST.out, putAt_bt HB3.out (Nat.le_refl _), (putAt_other (by omega)).trans HR3.out, by omega, hq3s, HPL3.out⟩
          case measure => simp [intOf]; omega

set_option maxRecDepth 100000 in
set_option maxHeartbeats 4000000 in
theorem keyTuple_any (w : World) (R : Nat) (s : ByteArray) (p : Nat) (hr : Reader w R s p) (hp : p ≤ s.size) (hs : s.size ≤ 1000000)
    (ih : ∀ (q : Nat) (w1 : World), p ≤ q → q ≤ s.size → Reader w1 R s q → Calls Tryz.prog 81 #[.pointer (some ⟨R, 0, none⟩)] w1 (OutP (fun y q' => PK (s.data.toList.drop q) (some (y, s.data.toList.drop q')) ∧ q < q') (PK (s.data.toList.drop q) none) w1 R s)) :
    Calls Tryz.prog 90 #[.pointer (some ⟨R, 0, none⟩)] w (OutP (fun y q => PK (3 :: s.data.toList.drop p) (some (y, s.data.toList.drop q)) ∧ p < q) (PK (3 :: s.data.toList.drop p) none) w R s) := by
  have hRl := lt_of_block hr
  have HR := Lib.hid hr
  have HC := Lib.hid (fun (w1 : World) (hr : Reader w1 R s p) => keyList_any w1 R s p hr hp hs ih)
  clear hr ih
  go_enter Tryz.func90, Tryz.ntmps90
  go_wp2_with fail
  refine (HC.out _ (HR.out.kp (ka _ _))).mono ?_
  rintro e w1 (⟨ys, q, g, vs, hpk, hpq, hqs, hl8, rfl, hg, hgb, hsm, hvi, hvf, hr1, hb1⟩ | ⟨hpk, rfl, hb1⟩)
  rotate_left
  · exact ⟨rfl, .inr ⟨.tuple hpk, rfl, (Bt.kp (c := R) (ka w (.cells zero4 24))).trans hb1⟩⟩
  have HPK := Lib.hid (PK.tuple hpk)
  clear hpk
  simp at hg
  have hblk := (hb1.block w.heap.size (by simp) (by omega)).trans (blockHere (w := w) (o := .cells zero4 24 (0, 0)) rfl)
  obtain ⟨d0, d1, d2, d3, g0, g1, g2, g3⟩ := cell4 hblk
  have hvf2 : V.footL (fun b => w.heap.size + 1 ≤ b) vs := V.footL.mono (fun b hb => by simp at hb; omega) _ hvf
  have HBL := Lib.hid hblk
  have HR1 := Lib.hid hr1
  have HB1 := Lib.hid ((Bt.kp (c := R) (ka w (.cells zero4 24))).trans hb1)
  have HG := Lib.hid hgb
  have HSM := Lib.hid hsm
  have HVI := Lib.hid hvi
  have HVF := Lib.hid hvf2
  clear hblk hr1 hb1 hgb hsm hvi hvf hvf2
  go_wp2_with fail
  obtain ⟨e0, e1, e2, e3, -⟩ := cell4 (put4_block (v0 := .int .i64 2) (v1 := .int .i64 0) (v2 := .string ⟨#[]⟩) (v3 := .slice (some ⟨g, 0, none⟩) ys.length ys.length) HBL.out)
  refine bodyPost_ret (v := .agg #[.int .i64 2, .int .i64 0, .string ⟨#[]⟩, .slice (some ⟨g, 0, none⟩) ys.length ys.length]) (by simp [results, Tryz.results90, go_sem, e0, e1, e2, e3]) rfl ?_
  have hgs := lt_of_block HG.out
  have hlen : vs.length = ys.length := V.sameL_length _ _ HSM.out
  rw [← hlen]
  have hmv : ∀ b, b < w1.heap.size → w.heap.size + 1 ≤ b → (put4 w1 w.heap.size (.int .i64 2) (.int .i64 0) (.string ⟨#[]⟩) (.slice (some ⟨g, 0, none⟩) vs.length vs.length)).heap[b]? = w1.heap[b]? := fun b _ hb => put4_other (by omega)
  have hS : (put4 w1 w.heap.size (.int .i64 2) (.int .i64 0) (.string ⟨#[]⟩) (.slice (some ⟨g, 0, none⟩) vs.length vs.length)).heap.size = w1.heap.size := by simp [World.setCell]
  refine .inl ⟨_, q, ⟨HPK.out, hpq⟩, hqs, .mk 2 0 ⟨#[]⟩ (some ⟨g, 0, none⟩) vs.length vs, rfl, ?_, ?_, V.same_node HSM.out, (put4_other (by omega)).trans HR1.out, put4_bt HB1.out (Nat.le_refl _)⟩
  · rw [hS]
    simp only [V.In]
    refine ⟨by unfold I64; omega, by unfold I64; omega, by decide, Nat.le_refl _, by unfold maxLen; omega, .inr ⟨g, 0, rfl, hgs, ?_⟩, V.InL.move (Nat.le_refl _) (fun b h1 h2 => hmv b h1 h2) _ HVI.out HVF.out⟩
    exact At.of_block ((hmv g hgs (by omega)).trans HG.out) rfl
  · simp only [V.foot]
    exact ⟨.inr ⟨g, 0, rfl, by omega⟩, V.footL.mono (fun b hb => by omega) _ HVF.out⟩

set_option maxRecDepth 100000 in
set_option maxHeartbeats 4000000 in
theorem ofKeyA_bad (w : World) (R : Nat) (s : ByteArray) (p : Nat) (hr : Reader w R s p) (hp : p ≤ s.size) (hs : s.size ≤ 1000000) (hb : ∀ b, (s.data.toList.drop p).head? = some b → b.toNat = 0 ∨ 5 ≤ b.toNat) :
    Calls Tryz.prog 81 #[.pointer (some ⟨R, 0, none⟩)] w fun e w' => e = .panicked formP ∧ Bt R w w' := by
  have HR := Lib.hid hr
  have HBB := Lib.hid hb
  have hRl := lt_of_block hr
  clear hr hb
  go_enter Tryz.func81, Tryz.ntmps81
  go_wp2_with fail
  refine (kinds_any _).mono ?_
  rintro e w1 ⟨rfl, hk⟩
  have HK := Lib.hid (kk (ka _ _) hk)
  clear hk
  go_wp2_with fail
  have hk2 : Kp w (w1.alloc (.cells kindsA 71)) := kk HK.out (ka _ _)
  refine (next_any _ R s p (HR.out.kp hk2) hp hs).mono ?_
  rintro e w3 (⟨b, hb, hlt, rfl, hr3, hb3⟩ | ⟨hb, rfl, hb3⟩)
  rotate_left
  · exact ⟨rfl, rfl, (Bt.kp (c := R) hk2).trans hb3⟩
  have hbb := HBB.out b (by rw [hb]; rfl)
  have kb := b.toNat_lt
  have hw : wrap64 (wrap64 (b.toNat : Int) - 1) = (b.toNat : Int) - 1 := by
    rw [IntWalk.wrap64_in (b.toNat : Int) (by omega), IntWalk.wrap64_in _ (by omega)]
  have HB3 := Lib.hid ((Bt.kp (c := R) hk2).trans hb3)
  clear hr3 hb3 hb
  rcases hbb with h0 | h5
  · have e1 : decide ((b.toNat : Int) - 1 < 0) = true := by simp; omega
    go_wp2_with fail
    refine (refuse_any _).mono ?_
    rintro e3 w4 ⟨rfl, rfl⟩
    exact ⟨rfl, rfl, HB3.out⟩
  · have e1 : decide ((b.toNat : Int) - 1 < 0) = false := by simp; omega
    have e2 : decide ((4 : Int) ≤ (b.toNat : Int) - 1) = true := by simp; omega
    go_wp2_with fail
    refine (refuse_any _).mono ?_
    rintro e3 w4 ⟨rfl, rfl⟩
    exact ⟨rfl, rfl, HB3.out⟩

theorem ofKeyA_any : ∀ (N : Nat) (w : World) (R : Nat) (s : ByteArray) (p : Nat), s.size - p ≤ N → Reader w R s p → p ≤ s.size → s.size ≤ 1000000 →
    Calls Tryz.prog 81 #[.pointer (some ⟨R, 0, none⟩)] w (OutP (fun y q => PK (s.data.toList.drop p) (some (y, s.data.toList.drop q)) ∧ p < q) (PK (s.data.toList.drop p) none) w R s) := by
  intro N
  induction N using Nat.strongRecOn with
  | ind N IH =>
    intro w R s p hN hr hp hs
    have ih : ∀ (q : Nat) (w1 : World), p < q → q ≤ s.size → Reader w1 R s q → Calls Tryz.prog 81 #[.pointer (some ⟨R, 0, none⟩)] w1 (OutP (fun y q' => PK (s.data.toList.drop q) (some (y, s.data.toList.drop q')) ∧ q < q') (PK (s.data.toList.drop q) none) w1 R s) := fun q w1 h1 h2 h3 =>
      IH (s.size - q) (by omega) w1 R s q (Nat.le_refl _) h3 h2 hs
    have up : ∀ (c : UInt8) (w1 : World) (e : Ending) (w' : World), OutP (fun y q => PK (c :: s.data.toList.drop (p + 1)) (some (y, s.data.toList.drop q)) ∧ p + 1 < q) (PK (c :: s.data.toList.drop (p + 1)) none) w1 R s e w' →
        OutP (fun y q => PK (c :: s.data.toList.drop (p + 1)) (some (y, s.data.toList.drop q)) ∧ p < q) (PK (c :: s.data.toList.drop (p + 1)) none) w1 R s e w' := fun c w1 e w' h => by
      rcases h with ⟨y, q, ⟨h1, h2⟩, h3, h4⟩ | h
      · exact .inl ⟨y, q, ⟨h1, by omega⟩, h3, h4⟩
      · exact .inr h
    have at' : ∀ (c : UInt8) (r : List UInt8), s.data.toList.drop p = c :: r → ∃ h : p < s.size, s[p] = c ∧ s.data.toList.drop p = c :: s.data.toList.drop (p + 1) := fun c r h => by
      obtain ⟨h1, h2⟩ := drop_tail h
      refine ⟨h2, ?_, by rw [← h1]; exact h⟩
      have := List.drop_eq_getElem_cons (l := s.data.toList) (i := p) (by simpa using h2)
      rw [this] at h
      injection h with h3 _
    by_cases h1 : (s.data.toList.drop p).head? = some 1
    · obtain ⟨r, h⟩ := head_yes h1
      obtain ⟨hlt, hb, he⟩ := at' 1 r h
      rw [he]
      exact ofKeyA_word w R s p _ _ hr hs hlt hb fun w1 hr1 => (keyWord_any w1 R s (p + 1) hr1 (by omega) hs).mono (up 1 w1)
    by_cases h2 : (s.data.toList.drop p).head? = some 2
    · obtain ⟨r, h⟩ := head_yes h2
      obtain ⟨hlt, hb, he⟩ := at' 2 r h
      rw [he]
      exact ofKeyA_text w R s p _ _ hr hs hlt hb fun w1 hr1 => (keyText_any w1 R s (p + 1) hr1 (by omega) hs).mono (up 2 w1)
    by_cases h3 : (s.data.toList.drop p).head? = some 3
    · obtain ⟨r, h⟩ := head_yes h3
      obtain ⟨hlt, hb, he⟩ := at' 3 r h
      rw [he]
      exact ofKeyA_tuple w R s p _ _ hr hs hlt hb fun w1 hr1 => (keyTuple_any w1 R s (p + 1) hr1 (by omega) hs fun q w2 g1 g2 g3 => ih q w2 (by omega) g2 g3).mono (up 3 w1)
    by_cases h4 : (s.data.toList.drop p).head? = some 4
    · obtain ⟨r, h⟩ := head_yes h4
      obtain ⟨hlt, hb, he⟩ := at' 4 r h
      rw [he]
      exact ofKeyA_tagged w R s p _ _ hr hs hlt hb fun w1 hr1 => (keyTagged_any w1 R s (p + 1) hr1 (by omega) hs fun w2 g1 g2 => ih (p + 1 + 1) w2 (by omega) (by omega) g2).mono (up 4 w1)
    · have hbad : ∀ b, (s.data.toList.drop p).head? = some b → b.toNat = 0 ∨ 5 ≤ b.toNat := fun b hb => by
        have e : ∀ c : UInt8, (s.data.toList.drop p).head? ≠ some c → b.toNat ≠ c.toNat := fun c hc h => hc (by rw [hb, UInt8.toNat_inj.1 h])
        have := e 1 h1
        have := e 2 h2
        have := e 3 h3
        have := e 4 h4
        simp at *
        omega
      exact (ofKeyA_bad w R s p hr hp hs hbad).mono fun e w' ⟨h1, h2⟩ => .inr ⟨.bad hbad, h1, h2⟩

end Go.Proofs.YtkfmgafgokpjhaaGreatDoor

/-
  read OF A KEY, whatever the reading tells; OfKey OF ANY BYTES.
-/
namespace Go.Proofs.YtkfmgafgokpjhaaGreatDoor
open Go.RowKit

set_option maxRecDepth 100000 in
set_option maxHeartbeats 8000000 in
theorem readKA_any (w : World) (s : ByteArray) (A : V → Nat → Prop) (B : Prop) (hM : (s.size : Int) ≤ 6500)
    (hF : Calls Tryz.prog 81 #[.pointer (some ⟨w.heap.size + 2, 0, none⟩)] (readW w s) fun e w' => (∃ y q, A y q ∧ q ≤ s.size ∧ ReadsV (readW w s) (w.heap.size + 2) s q y e w') ∨ (B ∧ e = .panicked formP ∧ Bt (w.heap.size + 2) (readW w s) w')) :
    Calls Tryz.prog 73 #[.string s, .int .i64 6500, .func (.func 81) #[] #[], .func (.func 19) #[] #[]] w fun e w' =>
      (∃ y, A y s.size ∧ y.valid = true ∧ Gets w y e w') ∨ (((∃ y q, A y q ∧ (q = s.size → y.valid = false)) ∨ B) ∧ e = .returned (.tuple #[.agg zero4, .int .i64 8]) ∧ Kp w w') := by
  have HF := Lib.hid hF
  clear hF
  have hmf : ∀ (fn : Fn) (first cap : Array Value) (w : World), (Instr.makeFunc fn first cap).run Tryz.prog w = .ok (.func fn first cap) w := fun _ _ _ _ => rfl
  go_enter_defers Tryz.func73, Tryz.ntmps73
  go_wp2_with fail
  refine HF.out.mono ?_
  rintro e w1 (⟨y, q, hA, hq, x, rfl, hxi, hxf, hxs, hr1, hb1⟩ | ⟨hB, rfl, hb1⟩)
  rotate_left
  · have x0 : w1.heap[w.heap.size]? = some (.cells zero4 24 (0, 0)) := (hb1.block _ (by simp; omega) (by omega)).trans ((Below.heap_alloc _ _ _ (by simp; omega)).trans ((Below.heap_alloc _ _ _ (by simp)).trans (blockHere rfl)))
    have x1 : w1.heap[w.heap.size + 1]? = some (.cells #[.int .i64 0] 28 (0, 0)) := (hb1.block _ (by simp) (by omega)).trans ((Below.heap_alloc _ _ _ (by simp)).trans (blockHere (by simp)))
    have K1 : Kp w w1 := ⟨hb1.os, hb1.tape, hb1.output, by have := hb1.size; simp at this; omega, fun k hk => (hb1.block k (by simp; omega) (by omega)).trans ((readW_kp w s).block k hk)⟩
    refine leaves_cons (f := 112) (args := #[.pointer (some ⟨w.heap.size, 0, none⟩), .pointer (some ⟨w.heap.size + 1, 0, none⟩)]) (by simp) (by simp [go_sem]) ?_
    refine (catch_panicking w.heap.size (w.heap.size + 1) 28 (.int .i64 8) [] _ _ _ _ _ _ x0 x1 (by omega)).mono ?_
    rintro e u' w'' ⟨rfl, rfl, m0, m1, ho, h1, h2, h3, h4⟩
    obtain ⟨a0, a1, a2, a3, -⟩ := cell4 m0
    have b0 := cellOf (i := 0) m1 rfl
    exact ⟨.tuple #[.agg zero4, .int .i64 8], by simp [results, Tryz.results73, go_sem, a0, a1, a2, a3, b0], .inr ⟨.inr hB, rfl, h1.trans K1.os, h2.trans K1.tape, h3.trans K1.output, Nat.le_trans K1.size h4, fun k hk => (ho k (Nat.lt_of_lt_of_le hk K1.size) (by omega) (by omega)).trans (K1.block k hk)⟩⟩

  have x0 : w1.heap[w.heap.size]? = some (.cells zero4 24 (0, 0)) := (hb1.block _ (by simp; omega) (by omega)).trans ((Below.heap_alloc _ _ _ (by simp; omega)).trans ((Below.heap_alloc _ _ _ (by simp)).trans (blockHere rfl)))
  have x1 : w1.heap[w.heap.size + 1]? = some (.cells #[.int .i64 0] 28 (0, 0)) := (hb1.block _ (by simp) (by omega)).trans ((Below.heap_alloc _ _ _ (by simp)).trans (blockHere (by simp)))
  have hxf2 : x.foot (fun b => w.heap.size + 2 ≤ b) := V.foot.mono (fun b hb => by simp at hb; omega) _ hxf
  obtain ⟨c0, c1, c2, c3, f0, f1, f2, f3⟩ := cell4 x0
  have K1 : Kp w w1 := ⟨hb1.os, hb1.tape, hb1.output, by have := hb1.size; simp at this; omega, fun k hk => (hb1.block k (by simp; omega) (by omega)).trans ((readW_kp w s).block k hk)⟩
  have HK1 := Lib.hid K1
  have HX := Lib.hid hxi
  have HXF := Lib.hid hxf2
  have HXS := Lib.hid hxs
  have X0 := Lib.hid x0
  have X1 := Lib.hid x1
  have HAA := Lib.hid hA
  have r0 := hr1.c0
  have r1 := hr1.c1
  clear K1 hxi hxf hxf2 hxs hr1 x0 x1 hb1 hA
  have C := fun (w1 : World) hin => checkOk x w1 hin
  have hval := same_valid HXS.out
  rw [hval] at C
  cases x with
  | mk k n t a cap l =>
  simp only [V.val_mk] at C ⊢
  have HC2 := Lib.hid C
  clear C hval
  by_cases hlt : q < s.size
  · have g1 : (q : Int) < (s.size : Int) := by omega
    have g2 : decide ((q : Int) < (s.size : Int)) = true := by simpa using g1
    go_wp2_with fail
    refine (refuse_any _).mono ?_
    rintro e w2 ⟨rfl, rfl⟩
    have x0 := put4_block (v0 := .int .i64 k) (v1 := .int .i64 n) (v2 := .string t) (v3 := .slice a l.length cap) X0.out
    have x1 := (put4_other (w := w1) (b := w.heap.size) (v0 := .int .i64 k) (v1 := .int .i64 n) (v2 := .string t) (v3 := .slice a l.length cap) (by omega : w.heap.size + 1 ≠ w.heap.size)).trans X1.out
    have K1 := put4_kp (b := w.heap.size) (v0 := .int .i64 k) (v1 := .int .i64 n) (v2 := .string t) (v3 := .slice a l.length cap) HK1.out (Nat.le_refl _)
    refine leaves_cons (f := 112) (args := #[.pointer (some ⟨w.heap.size, 0, none⟩), .pointer (some ⟨w.heap.size + 1, 0, none⟩)]) (by simp) (by simp [go_sem]) ?_
    refine (catch_panicking w.heap.size (w.heap.size + 1) 28 (.int .i64 8) [] _ _ _ _ _ _ x0 x1 (by omega)).mono ?_
    rintro e u' w'' ⟨rfl, rfl, m0, m1, ho, h1, h2, h3, h4⟩
    obtain ⟨a0, a1, a2, a3, -⟩ := cell4 m0
    have b0 := cellOf (i := 0) m1 rfl
    exact ⟨.tuple #[.agg zero4, .int .i64 8], by simp [results, Tryz.results73, go_sem, a0, a1, a2, a3, b0], .inr ⟨.inl ⟨y, q, HAA.out, fun h => by omega⟩, rfl, h1.trans K1.os, h2.trans K1.tape, h3.trans K1.output, Nat.le_trans K1.size h4, fun k hk => (ho k (Nat.lt_of_lt_of_le hk K1.size) (by omega) (by omega)).trans (K1.block k hk)⟩⟩
  · obtain rfl : q = s.size := by omega
    have g2 : decide ((s.size : Int) < (s.size : Int)) = false := by simp
    go_wp2_with fail
    have hS : (put4 w1 w.heap.size (.int .i64 k) (.int .i64 n) (.string t) (.slice a l.length cap)).heap.size = w1.heap.size := by simp [World.setCell]
    have hin2 : (V.mk k n t a cap l).In (put4 w1 w.heap.size (.int .i64 k) (.int .i64 n) (.string t) (.slice a l.length cap)) w1.heap.size := V.In.move (Nat.le_refl _) (fun b _ hb => put4_other (by omega)) _ HX.out HXF.out
    have hin3 : (V.mk k n t a cap l).In (put4 w1 w.heap.size (.int .i64 k) (.int .i64 n) (.string t) (.slice a l.length cap)) (put4 w1 w.heap.size (.int .i64 k) (.int .i64 n) (.string t) (.slice a l.length cap)).heap.size := by rw [hS]; exact hin2
    refine (HC2.out _ hin3).mono ?_
    rintro e w2 ⟨rfl, hk2⟩
    have y0 : w2.heap[w.heap.size]? = some (.cells #[.int .i64 k, .int .i64 n, .string t, .slice a l.length cap] 24 (0, 0)) := (hk2.block _ (by have := lt_of_block X0.out; simpa [World.setCell] using this)).trans (put4_block X0.out)
    have y1 : w2.heap[w.heap.size + 1]? = some (.cells #[.int .i64 0] 28 (0, 0)) := (hk2.block _ (by have := lt_of_block X1.out; simpa [World.setCell] using this)).trans ((put4_other (by omega)).trans X1.out)
    have K2 := kk (put4_kp (b := w.heap.size) (v0 := .int .i64 k) (v1 := .int .i64 n) (v2 := .string t) (v3 := .slice a l.length cap) HK1.out (Nat.le_refl _)) hk2
    have q2 : (V.mk k n t a cap l).In w2 w2.heap.size := hin3.keep hk2.size hk2
    clear c0 c1 c2 c3 f0 f1 f2 f3
    obtain ⟨e0, e1, e2, e3, g0, g1, g3, g4⟩ := cell4 y0
    have z0 := cellOf (i := 0) y1 rfl
    have z1 := freeOf (i := 0) y1
    have HY0 := Lib.hid y0
    have HY1 := Lib.hid y1
    have HK2 := Lib.hid K2
    have HQ2 := Lib.hid q2
    clear K2 q2 y0 y1 hk2 hin2 hin3
    by_cases hv : y.valid = true
    · rw [if_pos hv]
      go_wp2_with fail
      refine leaves_cons (f := 112) (args := #[.pointer (some ⟨w.heap.size, 0, none⟩), .pointer (some ⟨w.heap.size + 1, 0, none⟩)]) (by simp) (by simp [go_sem]) ?_
      refine (catch_idle w.heap.size (w.heap.size + 1) _).mono ?_
      rintro e u' w'' ⟨rfl, rfl, rfl⟩
      have m0 := (Below.heap_setCell _ ⟨w.heap.size + 1, 0, none⟩ (Value.int .i64 0) w.heap.size (by simp)).trans (put4_block (v0 := .int .i64 k) (v1 := .int .i64 n) (v2 := .string t) (v3 := .slice a l.length cap) HY0.out)
      have m1 := heap_set (i := 0) (u := Value.int .i64 0) ((put4_other (v0 := .int .i64 k) (v1 := .int .i64 n) (v2 := .string t) (v3 := .slice a l.length cap) (by omega : w.heap.size + 1 ≠ w.heap.size)).trans HY1.out)
      obtain ⟨a0, a1, a2, a3, -⟩ := cell4 m0
      have b0 := cellOf (i := 0) m1 rfl
      have kz : Kp w ((put4 w2 w.heap.size (.int .i64 k) (.int .i64 n) (.string t) (.slice a l.length cap)).setCell ⟨w.heap.size + 1, 0, none⟩ (.int .i64 0)) := put1_kp (put4_kp HK2.out (Nat.le_refl _)) (by simp)
      refine ⟨.tuple #[.agg #[.int .i64 k, .int .i64 n, .string t, .slice a l.length cap], .int .i64 0], by simp [results, Tryz.results73, go_sem, a0, a1, a2, a3, b0], .inl ⟨y, HAA.out, hv, .mk k n t a cap l, rfl, ?_, V.foot.mono (fun b hb => by omega) _ HXF.out, HXS.out, kz⟩⟩
      have hZ : ((put4 w2 w.heap.size (.int .i64 k) (.int .i64 n) (.string t) (.slice a l.length cap)).setCell ⟨w.heap.size + 1, 0, none⟩ (.int .i64 0)).heap.size = w2.heap.size := by simp [World.setCell]
      rw [hZ]
      exact V.In.move (Nat.le_refl _) (fun b _ hb => (Below.heap_setCell _ _ _ _ (by simp; omega)).trans (put4_other (by omega))) _ HQ2.out HXF.out
    · have hv' : y.valid = false := by simpa using hv
      rw [if_neg hv]
      go_wp2_with fail
      refine (refuse_any _).mono ?_
      rintro e w3 ⟨rfl, rfl⟩
      have x0 := HY0.out
      have x1 := HY1.out
      have K1 := HK2.out
      refine leaves_cons (f := 112) (args := #[.pointer (some ⟨w.heap.size, 0, none⟩), .pointer (some ⟨w.heap.size + 1, 0, none⟩)]) (by simp) (by simp [go_sem]) ?_
      refine (catch_panicking w.heap.size (w.heap.size + 1) 28 (.int .i64 8) [] _ _ _ _ _ _ x0 x1 (by omega)).mono ?_
      rintro e u' w'' ⟨rfl, rfl, m0, m1, ho, h1, h2, h3, h4⟩
      obtain ⟨a0, a1, a2, a3, -⟩ := cell4 m0
      have b0 := cellOf (i := 0) m1 rfl
      exact ⟨.tuple #[.agg zero4, .int .i64 8], by simp [results, Tryz.results73, go_sem, a0, a1, a2, a3, b0], .inr ⟨.inl ⟨y, s.size, HAA.out, fun _ => hv'⟩, rfl, h1.trans K1.os, h2.trans K1.tape, h3.trans K1.output, Nat.le_trans K1.size h4, fun k hk => (ho k (Nat.lt_of_lt_of_le hk K1.size) (by omega) (by omega)).trans (K1.block k hk)⟩⟩

set_option maxHeartbeats 4000000 in
/-- What hands on what read returns. -/
theorem ofKey_hands (w : World) (s : ByteArray) (Y : V → Prop) (N : Prop)
    (hR : ∀ w1 : World, Kp w w1 → Calls Tryz.prog 73 #[.string s, .int .i64 6500, .func (.func 81) #[] #[], .func (.func 19) #[] #[]] w1 fun e w' => (∃ y, Y y ∧ Gets w1 y e w') ∨ (N ∧ e = .returned (.tuple #[.agg zero4, .int .i64 8]) ∧ Kp w1 w')) :
    Calls Tryz.prog 38 #[.string s] w fun e w' => (∃ y, Y y ∧ Gets w y e w') ∨ (N ∧ e = .returned (.tuple #[.agg zero4, .int .i64 8]) ∧ Kp w w') := by
  have HC := Lib.hid hR
  clear hR
  go_enter Tryz.func38, Tryz.ntmps38
  go_wp2_with fail
  refine (HC.out _ (ka _ _)).mono ?_
  rintro e w1 (⟨y, hY, x, rfl, hxi, hxf, hxs, hk⟩ | ⟨hN, rfl, hk⟩)
  · have hblk := boxK hk
    have hxf2 : x.foot (fun b => w.heap.size + 1 ≤ b) := V.foot.mono (fun b hb => by simp at hb; omega) _ hxf
    have HK := Lib.hid (kk (ka _ _) hk)
    obtain ⟨c0, c1, c2, c3, f0, f1, f2, f3⟩ := cell4 hblk
    have HBL := Lib.hid hblk
    have HX := Lib.hid hxi
    have HXF := Lib.hid hxf2
    have HXS := Lib.hid hxs
    clear hk hblk hxi hxf hxf2 hxs
    cases x with
    | mk k n t a cap l =>
    simp only [V.val_mk]
    go_wp2_with fail
    obtain ⟨d0, d1, d2, d3, -⟩ := cell4 (put4_block (v0 := .int .i64 k) (v1 := .int .i64 n) (v2 := .string t) (v3 := .slice a l.length cap) HBL.out)
    have hS : (put4 w1 w.heap.size (.int .i64 k) (.int .i64 n) (.string t) (.slice a l.length cap)).heap.size = w1.heap.size := by simp [World.setCell]
    refine bodyPost_ret (v := .tuple #[.agg #[.int .i64 k, .int .i64 n, .string t, .slice a l.length cap], .int .i64 0]) (by simp [results, Tryz.results38, go_sem, d0, d1, d2, d3]) rfl ?_
    exact .inl ⟨y, hY, .mk k n t a cap l, rfl, by rw [hS]; exact V.In.move (Nat.le_refl _) (fun b _ hb => put4_other (by omega)) _ HX.out HXF.out, V.foot.mono (fun b hb => by omega) _ HXF.out, HXS.out, put4_kp HK.out (Nat.le_refl _)⟩
  · have hblk := boxK hk
    have HK := Lib.hid (kk (ka _ _) hk)
    obtain ⟨c0, c1, c2, c3, f0, f1, f2, f3⟩ := cell4 hblk
    have HBL := Lib.hid hblk
    clear hk hblk
    go_wp2_with fail
    obtain ⟨d0, d1, d2, d3, -⟩ := cell4 (put4_block (v0 := .int .i64 0) (v1 := .int .i64 0) (v2 := .string ⟨#[]⟩) (v3 := .slice none 0 0) HBL.out)
    refine bodyPost_ret (v := .tuple #[.agg zero4, .int .i64 8]) (by simp [results, Tryz.results38, go_sem, d0, d1, d2, d3]) rfl
      (.inr ⟨hN, rfl, put4_kp HK.out (Nat.le_refl _)⟩)

/-- OfKey of any bytes that are not too many: the value that is read, or none. -/
theorem ofKey_any (w : World) (s : ByteArray) (hs : s.size ≤ 6500) :
    Calls Tryz.prog 38 #[.string s] w fun e w' => (∃ y, (PK s.data.toList (some (y, [])) ∧ y.valid = true) ∧ Gets w y e w') ∨
      ((∃ o, PK s.data.toList o ∧ ∀ y, o = some (y, []) → y.valid = false) ∧ e = .returned (.tuple #[.agg zero4, .int .i64 8]) ∧ Kp w w') := by
  refine ofKey_hands w s _ _ fun w1 _ => ?_
  have hv := ofKeyA_any s.size (readW w1 s) (w1.heap.size + 2) s 0 (by omega) (readW_reader w1 s) (Nat.zero_le _) (by omega)
  refine (readKA_any w1 s (fun y q => PK s.data.toList (some (y, s.data.toList.drop q)) ∧ q ≤ s.size) (PK s.data.toList none) (by omega) (hv.mono ?_)).mono ?_
  · rintro e w' (⟨y, q, ⟨h1, h2⟩, h3, h4⟩ | ⟨h1, h2, h3⟩)
    · exact .inl ⟨y, q, ⟨by simpa using h1, h3⟩, h3, h4⟩
    · exact .inr ⟨by simpa using h1, h2, h3⟩
  · rintro e w' (⟨y, ⟨h1, -⟩, h2, h3⟩ | ⟨h1, h2, h3⟩)
    · left
      refine ⟨y, ⟨?_, h2⟩, h3⟩
      rwa [List.drop_of_length_le (by simp)] at h1
    · right
      refine ⟨?_, h2, h3⟩
      rcases h1 with ⟨y, q, ⟨h1, h4⟩, h5⟩ | h1
      · refine ⟨_, h1, fun y' hy => ?_⟩
        injection hy with hy
        injection hy with h6 h7
        subst h6
        refine h5 ?_
        have := congrArg List.length h7
        simp at this
        have e : s.data.size = s.size := rfl
        omega
      · exact ⟨none, h1, fun y hy => by cases hy⟩

end Go.Proofs.YtkfmgafgokpjhaaGreatDoor

/-
  What is too long is told so; Text of any value: for closed statements.
-/
namespace Go.Proofs.YtkfmgafgokpjhaaGreatDoor
open Go.RowKit

set_option maxRecDepth 100000 in
set_option maxHeartbeats 2000000 in
theorem readV_longZ (w : World) (s : ByteArray) (h : 13000 < s.size) (hs : s.size ≤ 9223372036854775807) :
    Calls Tryz.prog 73 #[.string s, .int .i64 13000, .func (.func 74) #[] #[], .func (.func 19) #[] #[]] w fun e w' => e = .returned (.tuple #[.agg zero4, .int .i64 3]) ∧ Kp w w' := by
  have g : (13000 : Int) < (s.size : Int) := by omega
  go_enter_defers Tryz.func73, Tryz.ntmps73
  go_wp2_with fail
  exact ⟨.tuple #[.agg zero4, .int .i64 3], by simp [results, Tryz.results73, go_sem], rfl, kk (ka _ _) (ka _ _)⟩

set_option maxHeartbeats 2000000 in
theorem parse_longZ (w : World) (s : ByteArray) (h : 13000 < s.size) (hs : s.size ≤ 9223372036854775807) :
    Calls Tryz.prog 31 #[.string s] w fun e w' => e = .returned (.tuple #[.agg zero4, .int .i64 3]) ∧ Kp w w' := by
  have C := fun (w1 : World) => readV_longZ w1 s h hs
  have HC := Lib.hid C
  clear C h
  go_enter Tryz.func31, Tryz.ntmps31
  go_wp2_with fail
  refine (HC.out _).mono ?_
  rintro e w1 ⟨rfl, hk⟩
  have hblk := boxK hk
  have HK := Lib.hid (kk (ka _ _) hk)
  obtain ⟨c0, c1, c2, c3, f0, f1, f2, f3⟩ := cell4 hblk
  have HBL := Lib.hid hblk
  clear hk hblk
  go_wp2_with fail
  obtain ⟨d0, d1, d2, d3, -⟩ := cell4 (put4_block (v0 := .int .i64 0) (v1 := .int .i64 0) (v2 := .string ⟨#[]⟩) (v3 := .slice none 0 0) HBL.out)
  exact bodyPost_ret (v := .tuple #[.agg zero4, .int .i64 3]) (by simp [results, Tryz.results31, go_sem, d0, d1, d2, d3]) rfl
    ⟨rfl, put4_kp HK.out (Nat.le_refl _)⟩

set_option maxRecDepth 100000 in
set_option maxHeartbeats 2000000 in
theorem readT_longZ (w : World) (s : ByteArray) (h : 1000 < s.size) (hs : s.size ≤ 9223372036854775807) :
    Calls Tryz.prog 76 #[.string s, .int .i64 1000, .func (.func 77) #[] #[], .func (.func 17) #[] #[]] w fun e w' => e = .returned (.tuple #[.agg #[.int .i64 0, .slice none 0 0], .int .i64 3]) ∧ Kp w w' := by
  have g : (1000 : Int) < (s.size : Int) := by omega
  go_enter_defers Tryz.func76, Tryz.ntmps76
  go_wp2_with fail
  exact ⟨.tuple #[.agg #[.int .i64 0, .slice none 0 0], .int .i64 3], by simp [results, Tryz.results76, go_sem], rfl, kk (ka _ _) (ka _ _)⟩

set_option maxHeartbeats 2000000 in
theorem typeParse_longZ (w : World) (s : ByteArray) (h : 1000 < s.size) (hs : s.size ≤ 9223372036854775807) :
    Calls Tryz.prog 33 #[.string s] w fun e w' => e = .returned (.tuple #[.agg #[.int .i64 0, .slice none 0 0], .int .i64 3]) ∧ Kp w w' := by
  have C := fun (w1 : World) => readT_longZ w1 s h hs
  have HC := Lib.hid C
  clear C h
  go_enter Tryz.func33, Tryz.ntmps33
  go_wp2_with fail
  refine (HC.out _).mono ?_
  rintro e w1 ⟨rfl, hk⟩
  have hblk := boxK hk
  have HK := Lib.hid (kk (ka _ _) hk)
  obtain ⟨c0, c1, f0, f1⟩ := cell2 hblk
  have HBL := Lib.hid hblk
  clear hk hblk
  go_wp2_with fail
  obtain ⟨d0, d1, -⟩ := cell2 (put2_block (v0 := .int .i64 0) (v1 := .slice none 0 0) HBL.out)
  exact bodyPost_ret (v := .tuple #[.agg #[.int .i64 0, .slice none 0 0], .int .i64 3]) (by simp [results, Tryz.results33, go_sem, d0, d1]) rfl
    ⟨rfl, put2_kp HK.out (Nat.le_refl _)⟩

set_option maxRecDepth 100000 in
set_option maxHeartbeats 2000000 in
theorem readK_longZ (w : World) (s : ByteArray) (h : 6500 < s.size) (hs : s.size ≤ 9223372036854775807) :
    Calls Tryz.prog 73 #[.string s, .int .i64 6500, .func (.func 81) #[] #[], .func (.func 19) #[] #[]] w fun e w' => e = .returned (.tuple #[.agg zero4, .int .i64 3]) ∧ Kp w w' := by
  have g : (6500 : Int) < (s.size : Int) := by omega
  go_enter_defers Tryz.func73, Tryz.ntmps73
  go_wp2_with fail
  exact ⟨.tuple #[.agg zero4, .int .i64 3], by simp [results, Tryz.results73, go_sem], rfl, kk (ka _ _) (ka _ _)⟩

set_option maxHeartbeats 2000000 in
theorem ofKey_longZ (w : World) (s : ByteArray) (h : 6500 < s.size) (hs : s.size ≤ 9223372036854775807) :
    Calls Tryz.prog 38 #[.string s] w fun e w' => e = .returned (.tuple #[.agg zero4, .int .i64 3]) ∧ Kp w w' := by
  have C := fun (w1 : World) => readK_longZ w1 s h hs
  have HC := Lib.hid C
  clear C h
  go_enter Tryz.func38, Tryz.ntmps38
  go_wp2_with fail
  refine (HC.out _).mono ?_
  rintro e w1 ⟨rfl, hk⟩
  have hblk := boxK hk
  have HK := Lib.hid (kk (ka _ _) hk)
  obtain ⟨c0, c1, c2, c3, f0, f1, f2, f3⟩ := cell4 hblk
  have HBL := Lib.hid hblk
  clear hk hblk
  go_wp2_with fail
  obtain ⟨d0, d1, d2, d3, -⟩ := cell4 (put4_block (v0 := .int .i64 0) (v1 := .int .i64 0) (v2 := .string ⟨#[]⟩) (v3 := .slice none 0 0) HBL.out)
  exact bodyPost_ret (v := .tuple #[.agg zero4, .int .i64 3]) (by simp [results, Tryz.results38, go_sem, d0, d1, d2, d3]) rfl
    ⟨rfl, put4_kp HK.out (Nat.le_refl _)⟩

def textOutZ (v : V) : Value := if v.valid then .tuple #[.string ⟨v.txt.toArray⟩, .int .i64 0] else .tuple #[.string ⟨#[]⟩, .int .i64 1]

set_option maxHeartbeats 1000000 in
/-- Text, for any value. -/
theorem textPZ (k n : Int) (s : ByteArray) (a : Option Addr) (cap : Nat) (l : List V) (w : World) (hin : (V.mk k n s a cap l).In w w.heap.size) (tb : Tb w w.heap.size) :
    Calls Tryz.prog 27 #[.agg #[.int .i64 k, .int .i64 n, .string s, .slice a l.length cap]] w fun e w' => e = .returned (textOutZ (V.mk k n s a cap l)) ∧ Kp w w' := by
  cases hv : (V.mk k n s a cap l).valid with
  | true =>
    rw [textOutZ, hv]
    have := textOk (V.mk k n s a cap l) w hin hv tb
    rwa [V.val_mk] at this
  | false =>
    rw [textOutZ, hv]
    have C : ∀ w1, Kp w w1 → Calls Tryz.prog 68 #[.agg #[.int .i64 k, .int .i64 n, .string s, .slice a l.length cap], .func (.methodOf 93 "deltaworks/value.text") #[] #[]] w1 fun e w' => e = .returned (.tuple #[.string ⟨#[]⟩, .int .i64 1]) ∧ Kp w1 w' := fun w1 h => written_bad k n s a cap l w1 _ (hin.keep h.size h) hv
    have CC := Lib.hid C
    clear C hin hv tb
    go_enter Tryz.func27, Tryz.ntmps27
    go_wp2_with fail
    refine (CC.out _ (ka _ _)).mono ?_
    rintro e w1 ⟨rfl, hk⟩
    have HK := Lib.hid (kk (ka _ _) hk)
    clear hk
    go_wp2_with fail
    go_ret2
    exact ⟨rfl, HK.out⟩

end Go.Proofs.YtkfmgafgokpjhaaGreatDoor

/-
  What the readers read of closed bytes: functions beside the relations.
-/
namespace Go.Proofs.YtkfmgafgokpjhaaGreatDoor
open Go.RowKit

mutual
def fV : Nat → List UInt8 → Option (Option (V × List UInt8))
  | 0, _ => none
  | f + 1, l =>
    if l.head? = some 34 then some ((pQ l.tail).map fun x => (.mk 1 0 ⟨x.1.toArray⟩ none 0 [], x.2))
    else if l.head? = some 40 then (fL f 0 l.tail).map fun o => o.map fun x => (.mk 2 0 ⟨#[]⟩ none 0 x.1, x.2)
    else if l.head? = some 35 then
      match pN l.tail with
      | none => some none
      | some (n, r1) => if r1.head? = some 32 then (fV f r1.tail).map fun o => o.map fun x => (.mk 3 n ⟨#[]⟩ none 0 [x.1], x.2) else some none
    else some ((pN l).map fun x => (.mk 0 x.1 ⟨#[]⟩ none 0 [], x.2))
def fL : Nat → Nat → List UInt8 → Option (Option (List V × List UInt8))
  | 0, _, _ => none
  | f + 1, j, l =>
    if l.head? = some 41 then some (some ([], l.tail))
    else if j = 8 then some none
    else if j = 0 then
      match fV f l with
      | none => none
      | some none => some none
      | some (some (x, r)) => (fL f 1 r).map fun o => o.map fun y => (x :: y.1, y.2)
    else if l.take 2 = [44, 32] then
      match fV f (l.drop 2) with
      | none => none
      | some none => some none
      | some (some (x, r)) => (fL f (j + 1) r).map fun o => o.map fun y => (x :: y.1, y.2)
    else some none
end

theorem fV_det : ∀ f, (∀ l o, fV f l = some o → ∀ o', PV l o' → o' = o) ∧ (∀ j l o, fL f j l = some o → ∀ o', PL j l o' → o' = o) := by
  intro f
  induction f with
  | zero => exact ⟨fun l o h => by simp [fV] at h, fun j l o h => by simp [fL] at h⟩
  | succ f ih =>
    refine ⟨fun l o h o' hp => ?_, fun j l o h o' hp => ?_⟩
    · cases hp with
      | quoted => simpa [fV] using h
      | tuple hL =>
        simp only [fV, List.head?_cons, List.tail_cons] at h
        simp at h
        obtain ⟨a, ha, rfl⟩ := h
        rw [ih.2 _ _ _ ha _ hL]
      | tag0 hn =>
        simp only [fV, List.head?_cons, List.tail_cons, hn] at h
        simpa using h
      | tag1 hn hne =>
        simp only [fV, List.head?_cons, List.tail_cons, hn] at h
        simpa [hne] using h
      | tag2 hn hV =>
        simp only [fV, List.head?_cons, List.tail_cons, hn] at h
        simp at h
        obtain ⟨a, ha, rfl⟩ := h
        rw [ih.1 _ _ ha _ hV]
      | word h1 h2 h3 =>
        simp only [fV, if_neg h1, if_neg h2, if_neg h3, Option.some.injEq] at h
        exact h
    · cases hp with
      | done => simpa [fL] using h
      | wide h1 h2 => simpa [fL, h1, h2] using h
      | first0 h1 hV =>
        simp only [fL, if_neg h1] at h
        cases hf : fV f l with
        | none => rw [hf] at h; simp at h
        | some a =>
          have := ih.1 _ _ hf _ hV
          subst this
          rw [hf] at h
          simpa using h
      | first1 h1 hV hL =>
        simp only [fL, if_neg h1] at h
        cases hf : fV f l with
        | none => rw [hf] at h; simp at h
        | some a =>
          have := ih.1 _ _ hf _ hV
          subst this
          rw [hf] at h
          simp at h
          obtain ⟨a, ha, rfl⟩ := h
          rw [ih.2 _ _ _ ha _ hL]
      | next0 h1 h2 h3 h4 =>
        have hp : l.take 2 ≠ [44, 32] := fun e => h4 ⟨l.drop 2, by rw [← e]; exact List.take_append_drop 2 l⟩
        simp only [fL, if_neg h1, if_neg (show ¬ j = 8 from by omega), if_neg (show ¬ j = 0 from by omega), if_neg hp, Option.some.injEq] at h
        exact h
      | next1 h2 h3 hV =>
        simp only [fL, List.head?_cons, if_neg (show ¬ j = 8 from by omega), if_neg (show ¬ j = 0 from by omega), List.take_succ_cons, List.take_zero, if_true, List.drop_succ_cons, List.drop_zero] at h
        rename_i r
        cases hf : fV f r with
        | none => rw [hf] at h; simp at h
        | some a =>
          have := ih.1 _ _ hf _ hV
          subst this
          rw [hf] at h
          simpa using h
      | next2 h2 h3 hV hL =>
        simp only [fL, List.head?_cons, if_neg (show ¬ j = 8 from by omega), if_neg (show ¬ j = 0 from by omega), List.take_succ_cons, List.take_zero, if_true, List.drop_succ_cons, List.drop_zero] at h
        rename_i r _ _ _
        cases hf : fV f r with
        | none => rw [hf] at h; simp at h
        | some a =>
          have := ih.1 _ _ hf _ hV
          subst this
          rw [hf] at h
          simp at h
          obtain ⟨a, ha, rfl⟩ := h
          rw [ih.2 _ _ _ ha _ hL]

/-- No valid value has this text. -/
def noV (l : List UInt8) : Bool := match fV 60 l with
  | some none => true
  | some (some (y, r)) => !r.isEmpty || !y.valid
  | none => false
theorem noV_spec {l : List UInt8} (h : noV l = true) (y : V) (hp : PV l (some (y, []))) : y.valid = false := by
  unfold noV at h
  cases hf : fV 60 l with
  | none => rw [hf] at h; cases h
  | some o =>
    have := (fV_det 60).1 _ _ hf _ hp
    subst this
    rw [hf] at h
    simpa using h

mutual
def fT : Nat → List UInt8 → Option (Option (T × List UInt8))
  | 0, _ => none
  | f + 1, l =>
    if l.head? = some 40 then (fTL f [44, 32] 41 0 l.tail).map fun o => o.map fun x => (.mk 2 none 0 x.1, x.2)
    else if l.head? = some 91 then (fTL f [32, 43, 32] 93 0 l.tail).map fun o => o.map fun x => (.mk 3 none 0 x.1, x.2)
    else if l.take 4 = [116, 101, 120, 116] then some (some (.mk 1 none 0 [], l.drop 4))
    else if l.take 3 = [105, 110, 116] then some (some (.mk 0 none 0 [], l.drop 3))
    else some none
def fTL : Nat → List UInt8 → UInt8 → Nat → List UInt8 → Option (Option (List T × List UInt8))
  | 0, _, _, _, _ => none
  | f + 1, bt, en, j, l =>
    if l.head? = some en then some (some ([], l.tail))
    else if j = 8 then some none
    else if j = 0 then
      match fT f l with
      | none => none
      | some none => some none
      | some (some (x, r)) => (fTL f bt en 1 r).map fun o => o.map fun y => (x :: y.1, y.2)
    else if l.take bt.length = bt then
      match fT f (l.drop bt.length) with
      | none => none
      | some none => some none
      | some (some (x, r)) => (fTL f bt en (j + 1) r).map fun o => o.map fun y => (x :: y.1, y.2)
    else some none
end

theorem take_not {l p : List UInt8} {n : Nat} (_hn : n = p.length) (h : ¬ p <+: l) : ¬ l.take n = p := fun e => h ⟨l.drop n, by rw [← e]; exact List.take_append_drop n l⟩

theorem fT_det : ∀ f, (∀ l o, fT f l = some o → ∀ o', PT l o' → o' = o) ∧ (∀ bt en j l o, fTL f bt en j l = some o → ∀ o', PTL bt en j l o' → o' = o) := by
  intro f
  induction f with
  | zero => exact ⟨fun l o h => by simp [fT] at h, fun bt en j l o h => by simp [fTL] at h⟩
  | succ f ih =>
    refine ⟨fun l o h o' hp => ?_, fun bt en j l o h o' hp => ?_⟩
    · cases hp with
      | tuple hL =>
        simp only [fT, List.head?_cons, List.tail_cons] at h
        simp at h
        obtain ⟨a, ha, rfl⟩ := h
        rw [ih.2 _ _ _ _ _ ha _ hL]
      | sum hL =>
        simp only [fT, List.head?_cons, List.tail_cons] at h
        simp at h
        obtain ⟨a, ha, rfl⟩ := h
        rw [ih.2 _ _ _ _ _ ha _ hL]
      | text => simpa [fT] using h
      | int => simpa [fT] using h
      | bad h1 h2 h3 h4 =>
        have h3' := take_not (n := 4) rfl h3
        have h4' := take_not (n := 3) rfl h4
        simp only [fT, if_neg h1, if_neg h2, if_neg h3', if_neg h4', Option.some.injEq] at h
        exact h
    · cases hp with
      | done => simpa [fTL] using h
      | wide h1 h2 => simpa [fTL, h1, h2] using h
      | first0 h1 hV =>
        simp only [fTL, if_neg h1] at h
        cases hf : fT f l with
        | none => rw [hf] at h; simp at h
        | some a =>
          have := ih.1 _ _ hf _ hV
          subst this
          rw [hf] at h
          simpa using h
      | first1 h1 hV hL =>
        simp only [fTL, if_neg h1] at h
        cases hf : fT f l with
        | none => rw [hf] at h; simp at h
        | some a =>
          have := ih.1 _ _ hf _ hV
          subst this
          rw [hf] at h
          simp at h
          obtain ⟨a, ha, rfl⟩ := h
          rw [ih.2 _ _ _ _ _ ha _ hL]
      | next0 h1 h2 h3 h4 =>
        simp only [fTL, if_neg h1, if_neg (show ¬ j = 8 from by omega), if_neg (show ¬ j = 0 from by omega), if_neg (take_not rfl h4), Option.some.injEq] at h
        exact h
      | next1 h1 h2 h3 he hV =>
        rename_i r
        subst he
        simp only [fTL, if_neg h1, if_neg (show ¬ j = 8 from by omega), if_neg (show ¬ j = 0 from by omega), List.take_left, if_true, List.drop_left] at h
        cases hf : fT f r with
        | none => rw [hf] at h; simp at h
        | some a =>
          have := ih.1 _ _ hf _ hV
          subst this
          rw [hf] at h
          simpa using h
      | next2 h1 h2 h3 he hV hL =>
        rename_i r _ _ _
        subst he
        simp only [fTL, if_neg h1, if_neg (show ¬ j = 8 from by omega), if_neg (show ¬ j = 0 from by omega), List.take_left, if_true, List.drop_left] at h
        cases hf : fT f r with
        | none => rw [hf] at h; simp at h
        | some a =>
          have := ih.1 _ _ hf _ hV
          subst this
          rw [hf] at h
          simp at h
          obtain ⟨a, ha, rfl⟩ := h
          rw [ih.2 _ _ _ _ _ ha _ hL]

def noT (l : List UInt8) : Bool := match fT 60 l with
  | some none => true
  | some (some (y, r)) => !r.isEmpty || !y.valid
  | none => false
theorem noT_spec {l : List UInt8} (h : noT l = true) (y : T) (hp : PT l (some (y, []))) : y.valid = false := by
  unfold noT at h
  cases hf : fT 60 l with
  | none => rw [hf] at h; cases h
  | some o =>
    have := (fT_det 60).1 _ _ hf _ hp
    subst this
    rw [hf] at h
    simpa using h

mutual
def fK : Nat → List UInt8 → Option (Option (V × List UInt8))
  | 0, _ => none
  | f + 1, l =>
    match l with
    | [] => some none
    | c :: r =>
      if c = 1 then
        match r with
        | b0 :: b1 :: b2 :: b3 :: r' => some (some (.mk 0 (((((b0.toNat : Int) * 256 + b1.toNat) * 256 + b2.toNat) * 256 + b3.toNat) + -2147483648) ⟨#[]⟩ none 0 [], r'))
        | _ => some none
      else if c = 2 then
        match r.dropWhile (fun c => c != 0) with
        | [] => some none
        | _ :: r' => some (some (.mk 1 0 ⟨(r.takeWhile (fun c => c != 0)).toArray⟩ none 0 [], r'))
      else if c = 3 then (fKL f 0 r).map fun o => o.map fun x => (.mk 2 0 ⟨#[]⟩ none 0 x.1, x.2)
      else if c = 4 then
        match r with
        | [] => some none
        | b :: r' => (fK f r').map fun o => o.map fun x => (.mk 3 ((b.toNat : Int) - 1) ⟨#[]⟩ none 0 [x.1], x.2)
      else some none
def fKL : Nat → Nat → List UInt8 → Option (Option (List V × List UInt8))
  | 0, _, _ => none
  | f + 1, j, l =>
    if l.head? = some 0 then some (some ([], l.tail))
    else if j = 8 then some none
    else
      match fK f l with
      | none => none
      | some none => some none
      | some (some (x, r)) => (fKL f (j + 1) r).map fun o => o.map fun y => (x :: y.1, y.2)
end

theorem drop0 {t r : List UInt8} (h : ∀ c ∈ t, c ≠ 0) : (t ++ 0 :: r).dropWhile (fun c => c != 0) = 0 :: r ∧ (t ++ 0 :: r).takeWhile (fun c => c != 0) = t := by
  induction t with
  | nil => simp
  | cons a t ih =>
    have ha : a ≠ 0 := h a (by simp)
    have := ih fun c hc => h c (by simp [hc])
    simp [ha, this]
theorem drop1 {t : List UInt8} (h : ∀ c ∈ t, c ≠ 0) : t.dropWhile (fun c => c != 0) = [] := by
  induction t with
  | nil => simp
  | cons a t ih =>
    have ha : a ≠ 0 := h a (by simp)
    have := ih fun c hc => h c (by simp [hc])
    simp [ha, this]

theorem fK_det : ∀ f, (∀ l o, fK f l = some o → ∀ o', PK l o' → o' = o) ∧ (∀ j l o, fKL f j l = some o → ∀ o', PKL j l o' → o' = o) := by
  intro f
  induction f with
  | zero => exact ⟨fun l o h => by simp [fK] at h, fun j l o h => by simp [fKL] at h⟩
  | succ f ih =>
    refine ⟨fun l o h o' hp => ?_, fun j l o h o' hp => ?_⟩
    · cases hp with
      | word => simpa [fK] using h
      | word0 hr =>
        rename_i r
        match r, hr with
        | [], _ => simpa [fK] using h
        | [_], _ => simpa [fK] using h
        | [_, _], _ => simpa [fK] using h
        | [_, _, _], _ => simpa [fK] using h
        | _ :: _ :: _ :: _ :: _, hr => simp at hr; omega
      | text ht => simpa [fK, drop0 ht] using h
      | text0 ht => simpa [fK, drop1 ht] using h
      | tuple hL =>
        simp [fK] at h
        obtain ⟨a, ha, rfl⟩ := h
        rw [ih.2 _ _ _ ha _ hL]
      | tag0 => simpa [fK] using h
      | tag hV =>
        simp [fK] at h
        obtain ⟨a, ha, rfl⟩ := h
        rw [ih.1 _ _ ha _ hV]
      | bad hb =>
        cases l with
        | nil => simpa [fK] using h
        | cons c r =>
          have hc := hb c rfl
          have n1 : c ≠ 1 := fun e => by subst e; simp at hc
          have n2 : c ≠ 2 := fun e => by subst e; simp at hc
          have n3 : c ≠ 3 := fun e => by subst e; simp at hc
          have n4 : c ≠ 4 := fun e => by subst e; simp at hc
          simpa [fK, n1, n2, n3, n4] using h
    · cases hp with
      | done => simpa [fKL] using h
      | wide h1 h2 => simpa [fKL, h1, h2] using h
      | part0 h1 h2 hV =>
        simp only [fKL, if_neg h1, if_neg (show ¬ j = 8 from by omega)] at h
        cases hf : fK f l with
        | none => rw [hf] at h; simp at h
        | some a =>
          have := ih.1 _ _ hf _ hV
          subst this
          rw [hf] at h
          simpa using h
      | part1 h1 h2 hV hL =>
        simp only [fKL, if_neg h1, if_neg (show ¬ j = 8 from by omega)] at h
        cases hf : fK f l with
        | none => rw [hf] at h; simp at h
        | some a =>
          have := ih.1 _ _ hf _ hV
          subst this
          rw [hf] at h
          simp at h
          obtain ⟨a, ha, rfl⟩ := h
          rw [ih.2 _ _ _ ha _ hL]

def noK (l : List UInt8) : Bool := match fK 60 l with
  | some none => true
  | some (some (y, r)) => !r.isEmpty || !y.valid
  | none => false
theorem noK_spec {l : List UInt8} (h : noK l = true) (y : V) (hp : PK l (some (y, []))) : y.valid = false := by
  unfold noK at h
  cases hf : fK 60 l with
  | none => rw [hf] at h; cases h
  | some o =>
    have := (fK_det 60).1 _ _ hf _ hp
    subst this
    rw [hf] at h
    simpa using h

/-- The three readers at such bytes. -/
theorem parse_none (w : World) (s : ByteArray) (hs : s.size ≤ 13000) (ht : Tb w w.heap.size) (he : Eb w w.heap.size) (h : noV s.data.toList = true) :
    Calls Tryz.prog 31 #[.string s] w fun e w' => e = .returned (.tuple #[.agg zero4, .int .i64 8]) ∧ Kp w w' := by
  refine (parse_any w s hs ht he).mono ?_
  rintro e w' (⟨y, ⟨hp, hv⟩, -⟩ | ⟨-, rfl, hk⟩)
  · rw [noV_spec h y hp] at hv; cases hv
  · exact ⟨rfl, hk⟩
theorem typeParse_none (w : World) (s : ByteArray) (hs : s.size ≤ 1000) (h : noT s.data.toList = true) :
    Calls Tryz.prog 33 #[.string s] w fun e w' => e = .returned (.tuple #[.agg #[.int .i64 0, .slice none 0 0], .int .i64 8]) ∧ Kp w w' := by
  refine (typeParse_any w s hs).mono ?_
  rintro e w' (⟨y, ⟨hp, hv⟩, -⟩ | ⟨-, rfl, hk⟩)
  · rw [noT_spec h y hp] at hv; cases hv
  · exact ⟨rfl, hk⟩
theorem ofKey_none (w : World) (s : ByteArray) (hs : s.size ≤ 6500) (h : noK s.data.toList = true) :
    Calls Tryz.prog 38 #[.string s] w fun e w' => e = .returned (.tuple #[.agg zero4, .int .i64 8]) ∧ Kp w w' := by
  refine (ofKey_any w s hs).mono ?_
  rintro e w' (⟨y, ⟨hp, hv⟩, -⟩ | ⟨-, rfl, hk⟩)
  · rw [noK_spec h y hp] at hv; cases hv
  · exact ⟨rfl, hk⟩

def types10 : List (List UInt8) := [[], [73, 78, 84], [105, 110, 116, 32], [91, 93], [91, 105, 110, 116, 43, 105, 110, 116, 93], [40, 105, 110, 116, 44, 105, 110, 116, 41], [40, 105, 110, 116], [91, 105, 110, 116, 32, 43, 32, 93], [116, 101, 120, 116, 32, 105, 110, 116], [40, 40, 40, 40, 40, 40, 105, 110, 116, 41, 41, 41, 41, 41, 41]]
theorem types10_ok : types10.all noT = true := by kernel_rfl
def keys10 : List (List UInt8) := [[], [1, 0, 0, 0], [1, 0, 0, 0, 0, 0], [2, 97], [2, 1, 0], [3], [4, 0, 3, 0], [4, 9, 3, 0], [5, 0], [0]]
theorem keys10_ok : keys10.all noK = true := by kernel_rfl

def texts28 : List (List UInt8) := [[], [32, 49], [49, 32], [48, 49], [45, 48], [43, 49], [45, 45, 49], [50, 49, 52, 55, 52, 56, 51, 54, 52, 56], [45, 50, 49, 52, 55, 52, 56, 51, 54, 52, 57], [57, 57, 57, 57, 57, 57, 57, 57, 57, 57, 57], [34], [34, 97], [34, 92, 110, 34], [34, 1, 34], [40], [40, 41, 40], [40, 49, 44, 50, 41], [40, 49, 44, 32, 50], [40, 44, 41], [40, 32, 41], [35], [35, 49], [35, 49, 32, 32, 50], [35, 56, 32, 49], [35, 45, 49, 32, 49], [35, 48, 49, 32, 49], [97], [40, 40, 40, 40, 40, 40, 49, 41, 41, 41, 41, 41, 41]]
theorem texts28_ok : texts28.all noV = true := by kernel_rfl

theorem texts28_len : texts28.all (fun l => decide (l.length ≤ 100)) = true := by kernel_rfl
theorem types10_len : types10.all (fun l => decide (l.length ≤ 100)) = true := by kernel_rfl
theorem keys10_len : keys10.all (fun l => decide (l.length ≤ 100)) = true := by kernel_rfl
theorem size_of (l : List UInt8) : (⟨l.toArray⟩ : ByteArray).size = l.length := by simp [ByteArray.size]

end Go.Proofs.YtkfmgafgokpjhaaGreatDoor

/-
  Texts of zeros.
-/
namespace Go.Proofs.YtkfmgafgokpjhaaGreatDoor
open Go.RowKit

def zeros (n : Nat) : ByteArray := ⟨(List.replicate n (0 : UInt8)).toArray⟩
theorem zeros_size (n : Nat) : (zeros n).size = n := by simp [zeros, ByteArray.size]
def zcells (n : Nat) : Array Value := madeCells #[.int .u8 0] n
theorem zcells_at {n j : Nat} (h : j < n) : (zcells n)[j]? = some (.int .u8 0) := by
  simp [zcells, madeCells, h, Nat.mod_one]

theorem infoB8 : (Tryz.prog.info? 5).map (fun i => (i.zero, i.size, i.bytes)) = some (some (.int .u8 0), 1, 1) := by kernel_rfl

theorem make_bytes (n : Nat) (N : Int) (hN : N = (n : Int)) (hn : n ≤ 1000000) (w : World) :
    (Instr.makeSlice 57 (.int .i64 N) (.int .i64 N)).run Tryz.prog w = .ok (.slice (some ⟨w.heap.size, 0, none⟩) n n) (w.alloc (.cells (zcells n) 5)) := by
  subst hN
  cases hi : Tryz.prog.info? 5 with
  | none => have := infoB8; rw [hi] at this; cases this
  | some i =>
    have h := infoB8
    rw [hi] at h
    simp only [Option.map_some, Option.some.injEq, Prod.mk.injEq] at h
    obtain ⟨h1, h2, h3⟩ := h
    have := run_make (P := Tryz.prog) (w := w) 57 5 i (.int .u8 0) Tryz.underlying57 hi h1 .i64 .i64 (n : Int) (n : Int) (by omega) (by omega) (by rw [h3]; omega) (by omega)
    rw [this, h2]
    simp [zcells, Value.cells]

theorem conv_bytes (n : Nat) (w : World) :
    (Go.convert 57 9 (.slice (some ⟨w.heap.size, 0, none⟩) n n)).run Tryz.prog (w.alloc (.cells (zcells n) 5)) = .ok (.string (zeros n)) (w.alloc (.cells (zcells n) 5)) := by
  have := run_convert_bytes_back (P := Tryz.prog) (w.alloc (.cells (zcells n) 5)) 57 9 5 ⟨w.heap.size, 0, none⟩ n (List.replicate n 0) Tryz.underlying57 Tryz.underlying5 Tryz.underlying9 (fun j hj => by
    have hj' : j < n := by simpa using hj
    rw [show (⟨w.heap.size, 0, none⟩ : Addr).add j = ⟨w.heap.size, j, none⟩ from by unfold Addr.add; split <;> simp_all]
    rw [List.getElem_replicate]
    exact cellOf (blockHere rfl) (zcells_at hj'))
  simpa [zeros] using this

theorem conv_at (n q : Nat) (w : World) (hq : q = w.heap.size) :
    (Go.convert 57 9 (.slice (some ⟨q, 0, none⟩) n n)).run Tryz.prog (w.alloc (.cells (zcells n) 5)) = .ok (.string (zeros n)) (w.alloc (.cells (zcells n) 5)) := hq ▸ conv_bytes n w

theorem zero_no {r : List UInt8} (y : V) : ¬ PV (0 :: r) (some (y, [])) := fun h => by
  have h0 : fV 1 (0 :: r) = some none := by
    simp [fV]
    rfl
  cases (fV_det 1).1 _ _ h0 _ h

theorem parse_zeros (w : World) (ht : Tb w w.heap.size) (he : Eb w w.heap.size) :
    Calls Tryz.prog 31 #[.string (zeros 13000)] w fun e w' => e = .returned (.tuple #[.agg zero4, .int .i64 8]) ∧ Kp w w' := by
  refine (parse_any w (zeros 13000) (by rw [zeros_size]; omega) ht he).mono ?_
  rintro e w' (⟨y, ⟨hp, hv⟩, -⟩ | ⟨-, rfl, hk⟩)
  · have hz : (zeros 13000).data.toList = 0 :: List.replicate 12999 0 := by
      show (List.replicate 13000 (0 : UInt8)).toArray.toList = _
      rw [List.toList_toArray]
      exact List.replicate_succ
    rw [hz] at hp
    exact (zero_no y hp).elim
  · exact ⟨rfl, hk⟩

theorem ofKey_empty (w : World) : Calls Tryz.prog 38 #[.string ⟨#[3, 0]⟩] w (Gets w (tupV [])) := by
  have h0 : fK 3 [3, 0] = some (some (.mk 2 0 ⟨#[]⟩ none 0 [], [])) := by kernel_rfl
  refine (ofKey_any w ⟨#[3, 0]⟩ (by decide)).mono ?_
  rintro e w' (⟨y, ⟨hp, hv⟩, hg⟩ | ⟨⟨o, hp, ho⟩, -⟩)
  · have := (fK_det 3).1 _ _ h0 _ hp
    simp only [Option.some.injEq, Prod.mk.injEq, and_true] at this
    subst this
    exact hg
  · have h1 := ho _ ((fK_det 3).1 _ _ h0 _ hp)
    rw [show (V.mk 2 0 ⟨#[]⟩ none 0 []).valid = true from by kernel_rfl] at h1
    cases h1

theorem keyOne (w : World) : Calls Tryz.prog 36 #[.agg #[.int .i64 0, .int .i64 1, .string ⟨#[]⟩, .slice none 0 0]] w fun e w' => e = .returned (.tuple #[.string ⟨#[1, 128, 0, 0, 1]⟩, .int .i64 0]) ∧ Kp w w' := by
  have := keyP 0 1 ⟨#[]⟩ none 0 [] w (inLeaf _ _ _ (by unfold I64; omega) (by unfold I64; omega) z0)
  rwa [show keyOut (V.mk 0 1 ⟨#[]⟩ none 0 []) = .tuple #[.string ⟨#[1, 128, 0, 0, 1]⟩, .int .i64 0] from by kernel_rfl] at this

end Go.Proofs.YtkfmgafgokpjhaaGreatDoor
