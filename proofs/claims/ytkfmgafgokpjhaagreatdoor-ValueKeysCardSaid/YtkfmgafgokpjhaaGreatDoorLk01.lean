/-
  Proved: the statement ValueKeys (value.Key of any value, and value.OfKey of any text, answer as the specification's do, and the chapter's examples hold), as its tied card says it, with no condition beyond the card's own.
  Part 1 of 3.
-/
import Derived.Test.YtkfmgafgokpjhaaGreatDoorBc11
import Derived.Test.YtkfmgafgokpjhaaGreatDoorBc12
/-
  ofKey, AT ANY BYTES.
-/
namespace Go.Proofs.YtkfmgafgokpjhaaGreatDoor
open Go.RowKit

mutual
/-- What the reader makes of the bytes of a key that come next: a value and what is behind it, or nothing. -/
inductive PK : List UInt8 → Option (V × List UInt8) → Prop
  | word {b0 b1 b2 b3 : UInt8} {r : List UInt8} : PK (1 :: b0 :: b1 :: b2 :: b3 :: r) (some (.mk 0 (((((b0.toNat : Int) * 256 + b1.toNat) * 256 + b2.toNat) * 256 + b3.toNat) + -2147483648) ⟨#[]⟩ none 0 [], r))
  | word0 {r : List UInt8} : r.length < 4 → PK (1 :: r) none
  | text {t r : List UInt8} : (∀ c ∈ t, c ≠ 0) → PK (2 :: (t ++ 0 :: r)) (some (.mk 1 0 ⟨t.toArray⟩ none 0 [], r))
  | text0 {r : List UInt8} : (∀ c ∈ r, c ≠ 0) → PK (2 :: r) none
  | tuple {r : List UInt8} {o : Option (List V × List UInt8)} : PKL 0 r o → PK (3 :: r) (o.map fun x => (.mk 2 0 ⟨#[]⟩ none 0 x.1, x.2))
  | tag0 : PK [4] none
  | tag {b : UInt8} {r : List UInt8} {o : Option (V × List UInt8)} : PK r o → PK (4 :: b :: r) (o.map fun x => (.mk 3 ((b.toNat : Int) - 1) ⟨#[]⟩ none 0 [x.1], x.2))
  | bad {l : List UInt8} : (∀ b, l.head? = some b → b.toNat = 0 ∨ 5 ≤ b.toNat) → PK l none
/-- The parts of a tuple from the j-th on. -/
inductive PKL : Nat → List UInt8 → Option (List V × List UInt8) → Prop
  | done {j : Nat} {r : List UInt8} : PKL j (0 :: r) (some ([], r))
  | wide {j : Nat} {l : List UInt8} : l.head? ≠ some 0 → j = 8 → PKL j l none
  | part0 {j : Nat} {l : List UInt8} : l.head? ≠ some 0 → j < 8 → PK l none → PKL j l none
  | part1 {j : Nat} {l r : List UInt8} {x : V} {o : Option (List V × List UInt8)} : l.head? ≠ some 0 → j < 8 → PK l (some (x, r)) → PKL (j + 1) r o → PKL j l (o.map fun y => (x :: y.1, y.2))
end

/-- What a reading tells: a value of which A holds, or it is refused and B holds. -/
def OutP (A : V → Nat → Prop) (B : Prop) (w : World) (R : Nat) (s : ByteArray) (e : Ending) (w' : World) : Prop :=
  (∃ y q, A y q ∧ q ≤ s.size ∧ ReadsV w R s q y e w') ∨ (B ∧ e = .panicked formP ∧ Bt R w w')

set_option maxRecDepth 100000 in
set_option maxHeartbeats 4000000 in
theorem ofKeyA_word (w : World) (R : Nat) (s : ByteArray) (p : Nat) (A : V → Nat → Prop) (B : Prop) (hr : Reader w R s p) (hs : s.size ≤ 1000000) (hp : p < s.size) (hb : s[p] = 1)
    (ih : ∀ w1 : World, Reader w1 R s (p + 1) → Calls Tryz.prog 86 #[.pointer (some ⟨R, 0, none⟩)] w1 (OutP A B w1 R s)) :
    Calls Tryz.prog 81 #[.pointer (some ⟨R, 0, none⟩)] w (OutP A B w R s) := by
  have HR := Lib.hid hr
  have hRl := lt_of_block hr
  have N : ∀ w1 : World, Reader w1 R s p → Calls Tryz.prog 125 #[.pointer (some ⟨R, 0, none⟩)] w1 fun e w' => e = .returned (.int .u8 1) ∧ Reader w' R s (p + 1) ∧ Bt R w1 w' := fun w1 hq => by
    have := next_yes w1 R s p hq hp hs
    rw [hb] at this
    exact this
  have HN := Lib.hid N
  have HC := Lib.hid ih
  clear hr N ih hb
  go_enter Tryz.func81, Tryz.ntmps81
  go_wp2_with fail
  refine (kinds_any _).mono ?_
  rintro e w1 ⟨rfl, hk⟩
  have HK := Lib.hid (kk (ka _ _) hk)
  have HRS0 := Lib.hid ((hk.block w.heap.size (by simp)).trans (blockHere (w := w) (o := .cells zero4 24 (0, 0)) rfl))
  have hz1 := lt_of_block HRS0.out
  clear hk
  go_wp2_with fail
  have hk2 : Kp w (w1.alloc (.cells kindsA 71)) := kk HK.out (ka _ _)
  refine (HN.out _ (HR.out.kp hk2)).mono ?_
  rintro e w3 ⟨rfl, hr3, hb3⟩
  have hblk := boxAny (R := R) (by omega) hb3
  have c5 := cellOf (i := 1) hblk rfl
  have hres := (hb3.block w.heap.size (by simp; omega) (by omega)).trans ((ka w1 (.cells kindsA 71)).block w.heap.size (by omega) |>.trans HRS0.out)
  have HR3 := Lib.hid hr3
  have HRS := Lib.hid hres
  have HB3 := Lib.hid ((Bt.kp (c := R) hk2).trans hb3)
  clear hr3 hb3 hblk hk2 hres
  go_wp2_with fail
  refine (HC.out _ HR3.out).mono ?_
  rintro e w4 (⟨y, q, hA, hq, x, rfl, hxi, hxf, hxs, hr4, hb4⟩ | ⟨hB, rfl, hb4⟩)
  rotate_left
  · exact ⟨rfl, .inr ⟨hB, rfl, HB3.out.trans hb4⟩⟩
  have hz3 := lt_of_block HRS.out
  have hxf2 : x.foot (fun b => w.heap.size + 1 ≤ b) := V.foot.mono (fun b hb => by omega) _ hxf
  have hblk := (hb4.block w.heap.size (by omega) (by omega)).trans HRS.out
  obtain ⟨d0, d1, d2, d3, g0, g1, g2, g3⟩ := cell4 hblk
  have HBL := Lib.hid hblk
  have HXI := Lib.hid hxi
  have HAA := Lib.hid hA
  have HXF := Lib.hid hxf2
  have HXS := Lib.hid hxs
  have HR4 := Lib.hid hr4
  have HB4 := Lib.hid (HB3.out.trans hb4)
  clear hA hxi hxf hxf2 hxs hr4 hb4 hblk
  cases x with
  | mk k n t a cap l =>
  simp only [V.val_mk]
  go_wp2_with fail
  obtain ⟨e0, e1, e2, e3, -⟩ := cell4 (put4_block (v0 := .int .i64 k) (v1 := .int .i64 n) (v2 := .string t) (v3 := .slice a l.length cap) HBL.out)
  refine bodyPost_ret (v := .agg #[.int .i64 k, .int .i64 n, .string t, .slice a l.length cap]) (by simp [results, Tryz.results81, go_sem, e0, e1, e2, e3]) rfl ?_
  have hS : (put4 w4 w.heap.size (.int .i64 k) (.int .i64 n) (.string t) (.slice a l.length cap)).heap.size = w4.heap.size := by simp [World.setCell]
  exact .inl ⟨y, q, HAA.out, hq, .mk k n t a cap l, rfl, by rw [hS]; exact V.In.move (Nat.le_refl _) (fun b _ hb => put4_other (by omega)) _ HXI.out HXF.out, V.foot.mono (fun b hb => by omega) _ HXF.out, HXS.out, (put4_other (by omega)).trans HR4.out, put4_bt HB4.out (Nat.le_refl _)⟩

set_option maxRecDepth 100000 in
set_option maxHeartbeats 4000000 in
theorem ofKeyA_text (w : World) (R : Nat) (s : ByteArray) (p : Nat) (A : V → Nat → Prop) (B : Prop) (hr : Reader w R s p) (hs : s.size ≤ 1000000) (hp : p < s.size) (hb : s[p] = 2)
    (ih : ∀ w1 : World, Reader w1 R s (p + 1) → Calls Tryz.prog 88 #[.pointer (some ⟨R, 0, none⟩)] w1 (OutP A B w1 R s)) :
    Calls Tryz.prog 81 #[.pointer (some ⟨R, 0, none⟩)] w (OutP A B w R s) := by
  have HR := Lib.hid hr
  have hRl := lt_of_block hr
  have N : ∀ w1 : World, Reader w1 R s p → Calls Tryz.prog 125 #[.pointer (some ⟨R, 0, none⟩)] w1 fun e w' => e = .returned (.int .u8 2) ∧ Reader w' R s (p + 1) ∧ Bt R w1 w' := fun w1 hq => by
    have := next_yes w1 R s p hq hp hs
    rw [hb] at this
    exact this
  have HN := Lib.hid N
  have HC := Lib.hid ih
  clear hr N ih hb
  go_enter Tryz.func81, Tryz.ntmps81
  go_wp2_with fail
  refine (kinds_any _).mono ?_
  rintro e w1 ⟨rfl, hk⟩
  have HK := Lib.hid (kk (ka _ _) hk)
  have HRS0 := Lib.hid ((hk.block w.heap.size (by simp)).trans (blockHere (w := w) (o := .cells zero4 24 (0, 0)) rfl))
  have hz1 := lt_of_block HRS0.out
  clear hk
  go_wp2_with fail
  have hk2 : Kp w (w1.alloc (.cells kindsA 71)) := kk HK.out (ka _ _)
  refine (HN.out _ (HR.out.kp hk2)).mono ?_
  rintro e w3 ⟨rfl, hr3, hb3⟩
  have hblk := boxAny (R := R) (by omega) hb3
  have c5 := cellOf (i := 3) hblk rfl
  have hres := (hb3.block w.heap.size (by simp; omega) (by omega)).trans ((ka w1 (.cells kindsA 71)).block w.heap.size (by omega) |>.trans HRS0.out)
  have HR3 := Lib.hid hr3
  have HRS := Lib.hid hres
  have HB3 := Lib.hid ((Bt.kp (c := R) hk2).trans hb3)
  clear hr3 hb3 hblk hk2 hres
  go_wp2_with fail
  refine (HC.out _ HR3.out).mono ?_
  rintro e w4 (⟨y, q, hA, hq, x, rfl, hxi, hxf, hxs, hr4, hb4⟩ | ⟨hB, rfl, hb4⟩)
  rotate_left
  · exact ⟨rfl, .inr ⟨hB, rfl, HB3.out.trans hb4⟩⟩
  have hz3 := lt_of_block HRS.out
  have hxf2 : x.foot (fun b => w.heap.size + 1 ≤ b) := V.foot.mono (fun b hb => by omega) _ hxf
  have hblk := (hb4.block w.heap.size (by omega) (by omega)).trans HRS.out
  obtain ⟨d0, d1, d2, d3, g0, g1, g2, g3⟩ := cell4 hblk
  have HBL := Lib.hid hblk
  have HXI := Lib.hid hxi
  have HAA := Lib.hid hA
  have HXF := Lib.hid hxf2
  have HXS := Lib.hid hxs
  have HR4 := Lib.hid hr4
  have HB4 := Lib.hid (HB3.out.trans hb4)
  clear hA hxi hxf hxf2 hxs hr4 hb4 hblk
  cases x with
  | mk k n t a cap l =>
  simp only [V.val_mk]
  go_wp2_with fail
  obtain ⟨e0, e1, e2, e3, -⟩ := cell4 (put4_block (v0 := .int .i64 k) (v1 := .int .i64 n) (v2 := .string t) (v3 := .slice a l.length cap) HBL.out)
  refine bodyPost_ret (v := .agg #[.int .i64 k, .int .i64 n, .string t, .slice a l.length cap]) (by simp [results, Tryz.results81, go_sem, e0, e1, e2, e3]) rfl ?_
  have hS : (put4 w4 w.heap.size (.int .i64 k) (.int .i64 n) (.string t) (.slice a l.length cap)).heap.size = w4.heap.size := by simp [World.setCell]
  exact .inl ⟨y, q, HAA.out, hq, .mk k n t a cap l, rfl, by rw [hS]; exact V.In.move (Nat.le_refl _) (fun b _ hb => put4_other (by omega)) _ HXI.out HXF.out, V.foot.mono (fun b hb => by omega) _ HXF.out, HXS.out, (put4_other (by omega)).trans HR4.out, put4_bt HB4.out (Nat.le_refl _)⟩

set_option maxRecDepth 100000 in
set_option maxHeartbeats 4000000 in
theorem ofKeyA_tuple (w : World) (R : Nat) (s : ByteArray) (p : Nat) (A : V → Nat → Prop) (B : Prop) (hr : Reader w R s p) (hs : s.size ≤ 1000000) (hp : p < s.size) (hb : s[p] = 3)
    (ih : ∀ w1 : World, Reader w1 R s (p + 1) → Calls Tryz.prog 90 #[.pointer (some ⟨R, 0, none⟩)] w1 (OutP A B w1 R s)) :
    Calls Tryz.prog 81 #[.pointer (some ⟨R, 0, none⟩)] w (OutP A B w R s) := by
  have HR := Lib.hid hr
  have hRl := lt_of_block hr
  have N : ∀ w1 : World, Reader w1 R s p → Calls Tryz.prog 125 #[.pointer (some ⟨R, 0, none⟩)] w1 fun e w' => e = .returned (.int .u8 3) ∧ Reader w' R s (p + 1) ∧ Bt R w1 w' := fun w1 hq => by
    have := next_yes w1 R s p hq hp hs
    rw [hb] at this
    exact this
  have HN := Lib.hid N
  have HC := Lib.hid ih
  clear hr N ih hb
  go_enter Tryz.func81, Tryz.ntmps81
  go_wp2_with fail
  refine (kinds_any _).mono ?_
  rintro e w1 ⟨rfl, hk⟩
  have HK := Lib.hid (kk (ka _ _) hk)
  have HRS0 := Lib.hid ((hk.block w.heap.size (by simp)).trans (blockHere (w := w) (o := .cells zero4 24 (0, 0)) rfl))
  have hz1 := lt_of_block HRS0.out
  clear hk
  go_wp2_with fail
  have hk2 : Kp w (w1.alloc (.cells kindsA 71)) := kk HK.out (ka _ _)
  refine (HN.out _ (HR.out.kp hk2)).mono ?_
  rintro e w3 ⟨rfl, hr3, hb3⟩
  have hblk := boxAny (R := R) (by omega) hb3
  have c5 := cellOf (i := 5) hblk rfl
  have hres := (hb3.block w.heap.size (by simp; omega) (by omega)).trans ((ka w1 (.cells kindsA 71)).block w.heap.size (by omega) |>.trans HRS0.out)
  have HR3 := Lib.hid hr3
  have HRS := Lib.hid hres
  have HB3 := Lib.hid ((Bt.kp (c := R) hk2).trans hb3)
  clear hr3 hb3 hblk hk2 hres
  go_wp2_with fail
  refine (HC.out _ HR3.out).mono ?_
  rintro e w4 (⟨y, q, hA, hq, x, rfl, hxi, hxf, hxs, hr4, hb4⟩ | ⟨hB, rfl, hb4⟩)
  rotate_left
  · exact ⟨rfl, .inr ⟨hB, rfl, HB3.out.trans hb4⟩⟩
  have hz3 := lt_of_block HRS.out
  have hxf2 : x.foot (fun b => w.heap.size + 1 ≤ b) := V.foot.mono (fun b hb => by omega) _ hxf
  have hblk := (hb4.block w.heap.size (by omega) (by omega)).trans HRS.out
  obtain ⟨d0, d1, d2, d3, g0, g1, g2, g3⟩ := cell4 hblk
  have HBL := Lib.hid hblk
  have HXI := Lib.hid hxi
  have HAA := Lib.hid hA
  have HXF := Lib.hid hxf2
  have HXS := Lib.hid hxs
  have HR4 := Lib.hid hr4
  have HB4 := Lib.hid (HB3.out.trans hb4)
  clear hA hxi hxf hxf2 hxs hr4 hb4 hblk
  cases x with
  | mk k n t a cap l =>
  simp only [V.val_mk]
  go_wp2_with fail
  obtain ⟨e0, e1, e2, e3, -⟩ := cell4 (put4_block (v0 := .int .i64 k) (v1 := .int .i64 n) (v2 := .string t) (v3 := .slice a l.length cap) HBL.out)
  refine bodyPost_ret (v := .agg #[.int .i64 k, .int .i64 n, .string t, .slice a l.length cap]) (by simp [results, Tryz.results81, go_sem, e0, e1, e2, e3]) rfl ?_
  have hS : (put4 w4 w.heap.size (.int .i64 k) (.int .i64 n) (.string t) (.slice a l.length cap)).heap.size = w4.heap.size := by simp [World.setCell]
  exact .inl ⟨y, q, HAA.out, hq, .mk k n t a cap l, rfl, by rw [hS]; exact V.In.move (Nat.le_refl _) (fun b _ hb => put4_other (by omega)) _ HXI.out HXF.out, V.foot.mono (fun b hb => by omega) _ HXF.out, HXS.out, (put4_other (by omega)).trans HR4.out, put4_bt HB4.out (Nat.le_refl _)⟩

set_option maxRecDepth 100000 in
set_option maxHeartbeats 4000000 in
theorem ofKeyA_tagged (w : World) (R : Nat) (s : ByteArray) (p : Nat) (A : V → Nat → Prop) (B : Prop) (hr : Reader w R s p) (hs : s.size ≤ 1000000) (hp : p < s.size) (hb : s[p] = 4)
    (ih : ∀ w1 : World, Reader w1 R s (p + 1) → Calls Tryz.prog 92 #[.pointer (some ⟨R, 0, none⟩)] w1 (OutP A B w1 R s)) :
    Calls Tryz.prog 81 #[.pointer (some ⟨R, 0, none⟩)] w (OutP A B w R s) := by
  have HR := Lib.hid hr
  have hRl := lt_of_block hr
  have N : ∀ w1 : World, Reader w1 R s p → Calls Tryz.prog 125 #[.pointer (some ⟨R, 0, none⟩)] w1 fun e w' => e = .returned (.int .u8 4) ∧ Reader w' R s (p + 1) ∧ Bt R w1 w' := fun w1 hq => by
    have := next_yes w1 R s p hq hp hs
    rw [hb] at this
    exact this
  have HN := Lib.hid N
  have HC := Lib.hid ih
  clear hr N ih hb
  go_enter Tryz.func81, Tryz.ntmps81
  go_wp2_with fail
  refine (kinds_any _).mono ?_
  rintro e w1 ⟨rfl, hk⟩
  have HK := Lib.hid (kk (ka _ _) hk)
  have HRS0 := Lib.hid ((hk.block w.heap.size (by simp)).trans (blockHere (w := w) (o := .cells zero4 24 (0, 0)) rfl))
  have hz1 := lt_of_block HRS0.out
  clear hk
  go_wp2_with fail
  have hk2 : Kp w (w1.alloc (.cells kindsA 71)) := kk HK.out (ka _ _)
  refine (HN.out _ (HR.out.kp hk2)).mono ?_
  rintro e w3 ⟨rfl, hr3, hb3⟩
  have hblk := boxAny (R := R) (by omega) hb3
  have c5 := cellOf (i := 7) hblk rfl
  have hres := (hb3.block w.heap.size (by simp; omega) (by omega)).trans ((ka w1 (.cells kindsA 71)).block w.heap.size (by omega) |>.trans HRS0.out)
  have HR3 := Lib.hid hr3
  have HRS := Lib.hid hres
  have HB3 := Lib.hid ((Bt.kp (c := R) hk2).trans hb3)
  clear hr3 hb3 hblk hk2 hres
  go_wp2_with fail
  refine (HC.out _ HR3.out).mono ?_
  rintro e w4 (⟨y, q, hA, hq, x, rfl, hxi, hxf, hxs, hr4, hb4⟩ | ⟨hB, rfl, hb4⟩)
  rotate_left
  · exact ⟨rfl, .inr ⟨hB, rfl, HB3.out.trans hb4⟩⟩
  have hz3 := lt_of_block HRS.out
  have hxf2 : x.foot (fun b => w.heap.size + 1 ≤ b) := V.foot.mono (fun b hb => by omega) _ hxf
  have hblk := (hb4.block w.heap.size (by omega) (by omega)).trans HRS.out
  obtain ⟨d0, d1, d2, d3, g0, g1, g2, g3⟩ := cell4 hblk
  have HBL := Lib.hid hblk
  have HXI := Lib.hid hxi
  have HAA := Lib.hid hA
  have HXF := Lib.hid hxf2
  have HXS := Lib.hid hxs
  have HR4 := Lib.hid hr4
  have HB4 := Lib.hid (HB3.out.trans hb4)
  clear hA hxi hxf hxf2 hxs hr4 hb4 hblk
  cases x with
  | mk k n t a cap l =>
  simp only [V.val_mk]
  go_wp2_with fail
  obtain ⟨e0, e1, e2, e3, -⟩ := cell4 (put4_block (v0 := .int .i64 k) (v1 := .int .i64 n) (v2 := .string t) (v3 := .slice a l.length cap) HBL.out)
  refine bodyPost_ret (v := .agg #[.int .i64 k, .int .i64 n, .string t, .slice a l.length cap]) (by simp [results, Tryz.results81, go_sem, e0, e1, e2, e3]) rfl ?_
  have hS : (put4 w4 w.heap.size (.int .i64 k) (.int .i64 n) (.string t) (.slice a l.length cap)).heap.size = w4.heap.size := by simp [World.setCell]
  exact .inl ⟨y, q, HAA.out, hq, .mk k n t a cap l, rfl, by rw [hS]; exact V.In.move (Nat.le_refl _) (fun b _ hb => put4_other (by omega)) _ HXI.out HXF.out, V.foot.mono (fun b hb => by omega) _ HXF.out, HXS.out, (put4_other (by omega)).trans HR4.out, put4_bt HB4.out (Nat.le_refl _)⟩


set_option maxRecDepth 100000 in
set_option maxHeartbeats 8000000 in
theorem keyText_any (w : World) (R : Nat) (s : ByteArray) (p : Nat) (hr : Reader w R s p) (hp : p ≤ s.size) (hs : s.size ≤ 1000000) :
    Calls Tryz.prog 88 #[.pointer (some ⟨R, 0, none⟩)] w (OutP (fun y q => PK (2 :: s.data.toList.drop p) (some (y, s.data.toList.drop q)) ∧ p < q) (PK (2 :: s.data.toList.drop p) none) w R s) := by
  have hRl := lt_of_block hr
  have HR := Lib.hid hr
  clear hr
  go_enter Tryz.func88, Tryz.ntmps88
  go_wp2_with fail
  refine (next_any _ R s p (HR.out.kp (kk (ka _ _) (ka _ _))) hp hs).mono ?_
  rintro e w1 (⟨b0, hb0, hlt0, rfl, hr1, hb1⟩ | ⟨h0, rfl, hb1⟩)
  rotate_left
  · exact ⟨rfl, .inr ⟨by rw [h0]; exact .text0 (by simp), rfl, (Bt.kp (c := R) (kk (ka _ _) (ka _ _))).trans hb1⟩⟩
  have hS0 : w1.heap[w.heap.size + 1]? = some (.cells #[.slice none 0 0] 97 (0, 0)) := (hb1.block _ (by simp) (by omega)).trans (blockHere (by simp))
  have hres := (hb1.block w.heap.size (by simp; omega) (by omega)).trans (blockPast (blockHere (w := w) (o := .cells zero4 24 (0, 0)) rfl))
  have HR1 := Lib.hid hr1
  have HS1 := Lib.hid (⟨.slice none 0 0, hS0, World.ownsRow_nil _ _ _ _⟩ : Sink w1 (w.heap.size + 1) [])
  have HC1 := Lib.hid (cell_of_one hS0)
  have HRS := Lib.hid hres
  have HB0 := Lib.hid hb0
  have HB1 := Lib.hid ((Bt.kp (c := R) (kk (ka w (.cells zero4 24)) (ka _ (.cells #[.slice none 0 0] 97)))).trans hb1)
  clear hr1 hb1 hS0 hres hb0
  go_wp2_with fail
  go_loopw [4] (fun bb wr => ∃ (q : Nat) (b : UInt8) (t : List UInt8), bb = .int .u8 (b.toNat : Int) ∧ p ≤ q ∧ q < s.size ∧ t.length ≤ q ∧ s.data.toList.drop q = b :: s.data.toList.drop (q + 1) ∧ Sink wr (w.heap.size + 1) t ∧ Reader wr R s (q + 1) ∧ Bt R w wr ∧ (t = [] → wr.cell? ⟨w.heap.size + 1, 0, none⟩ = some (.slice none 0 0)) ∧ wr.heap[w.heap.size]? = some (.cells zero4 24 (0, 0)) ∧ s.data.toList.drop p = t ++ s.data.toList.drop q ∧ ∀ c ∈ t, c ≠ 0) (fun _ wr => s.size + 1 - posOf wr R)
  case atStart => exact ⟨p, b0, [], rfl, Nat.le_refl _, hlt0, Nat.zero_le _, HB0.out, HS1.out, HR1.out, HB1.out, fun _ => HC1.out, HRS.out, rfl, by simp⟩
  case round =>
    obtain ⟨q, b, t, rfl, hpq, hqs, htq, hdr, hsk, hrd, hbt, hz, hres, hpQ, hnz⟩ := hrel
    have hps := posOf_reader hrd
    have HSK := Lib.hid hsk
    have HRD := Lib.hid hrd
    have HBT := Lib.hid hbt
    have HRS2 := Lib.hid hres
    have HPS := Lib.hid hps
    have HDR := Lib.hid hdr
    have HPQ := Lib.hid hpQ
    have HZ := Lib.hid hz
    have HNZ := Lib.hid hnz
    clear hsk hrd hbt hz hres hps hdr hpQ hnz
    by_cases h34 : b = 0
    · subst h34
      have hpq2 : PK (2 :: s.data.toList.drop p) (some (.mk 1 0 ⟨t.toArray⟩ none 0 [], s.data.toList.drop (q + 1))) := by
        rw [HPQ.out, HDR.out]; exact .text HNZ.out
      have HPQ2 := Lib.hid hpq2
      clear hpq2
      have hres := HRS2.out
      obtain ⟨d0, d1, d2, d3, f0, f1, f2, f3⟩ := cell4 hres
      clear hres
      by_cases hl0 : t = []
      · subst hl0
        have hz := HZ.out rfl
        go_wp2_with fail
        rw [run_convert_bytes_nil wr 57 5 Tryz.underlying57 Tryz.underlying5 0 0 9 Tryz.underlying9]
        go_wp2_with fail
        obtain ⟨g0, g1, g2, g3, -⟩ := cell4 (put4_block (v0 := .int .i64 1) (v1 := .int .i64 0) (v2 := .string ByteArray.empty) (v3 := .slice none 0 0) HRS2.out)
        refine bodyPost_ret (v := .agg #[.int .i64 1, .int .i64 0, .string ByteArray.empty, .slice none 0 0]) (by simp [results, Tryz.results88, go_sem, g0, g1, g2, g3]) rfl ?_
        exact .inl ⟨_, q + 1, ⟨HPQ2.out, by omega⟩, by omega, .mk 1 0 ⟨#[]⟩ none 0 [], rfl, inLeaf _ _ _ (by unfold I64; omega) (by unfold I64; omega) (by decide), V.foot_leaf _ _ _ _ _, V.same_refl _, (put4_other (by omega)).trans HRD.out, put4_bt HBT.out (Nat.le_refl _)⟩
      · have hsk := HSK.out
        obtain ⟨g, cap3, hc3, hcv⟩ := hsk.out hl0
        clear hsk
        go_wp2_with fail
        obtain ⟨g0, g1, g2, g3, -⟩ := cell4 (put4_block (v0 := .int .i64 1) (v1 := .int .i64 0) (v2 := .string ⟨t.toArray⟩) (v3 := .slice none 0 0) HRS2.out)
        refine bodyPost_ret (v := .agg #[.int .i64 1, .int .i64 0, .string ⟨t.toArray⟩, .slice none 0 0]) (by simp [results, Tryz.results88, go_sem, g0, g1, g2, g3]) rfl ?_
        exact .inl ⟨_, q + 1, ⟨HPQ2.out, by omega⟩, by omega, .mk 1 0 ⟨t.toArray⟩ none 0 [], rfl, inLeaf _ _ _ (by unfold I64; omega) (by unfold I64; omega) (show t.length ≤ maxLen by unfold maxLen; omega), V.foot_leaf _ _ _ _ _, V.same_refl _, (put4_other (by omega)).trans HRD.out, put4_bt HBT.out (Nat.le_refl _)⟩
    · have n34 : ((b.toNat : Int) != 0) = true := by
        rw [bne_iff_ne]; intro h; exact h34 (UInt8.toNat_inj.1 (show b.toNat = 0 by omega))
      have hpq3 : s.data.toList.drop p = (t ++ [b]) ++ s.data.toList.drop (q + 1) := by
        rw [HPQ.out, HDR.out]; simp
      have hnz3 : ∀ c ∈ t ++ [b], c ≠ 0 := fun c hc => by
        rw [List.mem_append] at hc
        rcases hc with hc | hc
        · exact HNZ.out c hc
        · simp only [List.mem_cons, List.not_mem_nil, or_false] at hc
          subst hc
          exact h34
      have HPQ3 := Lib.hid hpq3
      have HNZ3 := Lib.hid hnz3
      clear hpq3 hnz3
      go_wp2_with fail
      refine (take_any _ (w.heap.size + 1) t _ b rfl HSK.out (by omega)).mono ?_
      rintro e w3 ⟨rfl, hs3, hk3⟩
      have hbl := hk3.below HSK.out
      have HS3 := Lib.hid hs3
      have HR3 := Lib.hid (show Reader w3 R s (q + 1) from (hbl.block R (by omega)).trans HRD.out)
      have HBT3 := Lib.hid (bt_below HBT.out hbl (by omega))
      have HRS4 := Lib.hid ((hbl.block w.heap.size (by omega)).trans HRS2.out)
      clear hs3 hk3 hbl
      go_wp2_with fail
      refine (next_any _ R s (q + 1) HR3.out (by omega) hs).mono ?_
      rintro e w4 (⟨b4, hb4, hlt4, rfl, hr4, hk4⟩ | ⟨hb4, rfl, hk4⟩)
      rotate_left
      · exact ⟨rfl, .inr ⟨by rw [HPQ3.out, hb4, List.append_nil]; exact .text0 HNZ3.out, rfl, HBT3.out.trans hk4⟩⟩
      have hps4 := posOf_reader hr4
      have HS4 := Lib.hid (HS3.out.bt hk4 (by omega))
      have HRS5 := Lib.hid ((hk4.block w.heap.size (lt_of_block HRS4.out) (by omega)).trans HRS4.out)
      have HBT4 := Lib.hid (HBT3.out.trans hk4)
      have HR4 := Lib.hid hr4
      have HB4 := Lib.hid hb4
      clear hr4 hk4 hb4
      go_wp2_with fail
      go_roundw
      case rel => exact ⟨q + 1, b4, t ++ [b], rfl, by omega, hlt4, by simp; omega, HB4.out, HS4.out, HR4.out, HBT4.out, (fun h => by simp at h), HRS5.out, HPQ3.out, HNZ3.out⟩
      case measure => rw [HPS.out, hps4]; omega

set_option maxRecDepth 100000 in
set_option maxHeartbeats 8000000 in
theorem keyWord_any (w : World) (R : Nat) (s : ByteArray) (p : Nat) (hr : Reader w R s p) (hp : p ≤ s.size) (hs : s.size ≤ 1000000) :
    Calls Tryz.prog 86 #[.pointer (some ⟨R, 0, none⟩)] w (OutP (fun y q => PK (1 :: s.data.toList.drop p) (some (y, s.data.toList.drop q)) ∧ p < q) (PK (1 :: s.data.toList.drop p) none) w R s) := by
  have hRl := lt_of_block hr
  have HR := Lib.hid hr
  clear hr
  go_enter Tryz.func86, Tryz.ntmps86
  go_wp2_with fail
  refine wp_loop_rounds (0 + 1 + 1 + 1 + 1 + 1) ?_
  rw [rounds_succ]
  go_wp2_with fail
  refine (next_any _ R s (p) (HR.out.kp (ka _ _)) hp hs).mono ?_
  rintro e w1 (⟨c1, hc1, hl1, rfl, hr1, hb1⟩ | ⟨hc1, rfl, hb1⟩)
  rotate_left
  · refine ⟨rfl, .inr ⟨.word0 ?_, rfl, (Bt.kp (c := R) (ka w (.cells zero4 24))).trans hb1⟩⟩
    have hlen := congrArg List.length hc1
    rw [List.length_drop, List.length_nil] at hlen
    rw [List.length_drop]
    omega
  have HR1 := Lib.hid hr1
  have HB1 := Lib.hid hb1
  have HC1 := Lib.hid hc1
  have k1 := c1.toNat_lt
  clear hr1 hb1 hc1
  go_wp2_with fail
  rw [or_low 0 _ (by omega) (by omega) (by omega) ⟨by omega, by omega⟩, Int.zero_add]
  rw [rounds_succ]
  go_wp2_with fail
  refine (next_any _ R s (p + 1) (HR1.out) (by omega) hs).mono ?_
  rintro e w2 (⟨c2, hc2, hl2, rfl, hr2, hb2⟩ | ⟨hc2, rfl, hb2⟩)
  rotate_left
  · refine ⟨rfl, .inr ⟨.word0 ?_, rfl, (Bt.kp (c := R) (ka w (.cells zero4 24))).trans (HB1.out.trans hb2)⟩⟩
    have hlen := congrArg List.length hc2
    rw [List.length_drop, List.length_nil] at hlen
    rw [List.length_drop]
    omega
  have HR2 := Lib.hid hr2
  have HB2 := Lib.hid (HB1.out.trans hb2)
  have HC2 := Lib.hid hc2
  have k2 := c2.toNat_lt
  clear hr2 hb2 hc2
  go_wp2_with fail
  rw [or_low _ _ (by omega) (by omega) (by omega) ⟨by omega, by omega⟩]
  rw [rounds_succ]
  go_wp2_with fail
  refine (next_any _ R s (p + 1 + 1) (HR2.out) (by omega) hs).mono ?_
  rintro e w3 (⟨c3, hc3, hl3, rfl, hr3, hb3⟩ | ⟨hc3, rfl, hb3⟩)
  rotate_left
  · refine ⟨rfl, .inr ⟨.word0 ?_, rfl, (Bt.kp (c := R) (ka w (.cells zero4 24))).trans (HB2.out.trans hb3)⟩⟩
    have hlen := congrArg List.length hc3
    rw [List.length_drop, List.length_nil] at hlen
    rw [List.length_drop]
    omega
  have HR3 := Lib.hid hr3
  have HB3 := Lib.hid (HB2.out.trans hb3)
  have HC3 := Lib.hid hc3
  have k3 := c3.toNat_lt
  clear hr3 hb3 hc3
  go_wp2_with fail
  rw [or_low _ _ (by omega) (by omega) (by omega) ⟨by omega, by omega⟩]
  rw [rounds_succ]
  go_wp2_with fail
  refine (next_any _ R s (p + 1 + 1 + 1) (HR3.out) (by omega) hs).mono ?_
  rintro e w4 (⟨c4, hc4, hl4, rfl, hr4, hb4⟩ | ⟨hc4, rfl, hb4⟩)
  rotate_left
  · refine ⟨rfl, .inr ⟨.word0 ?_, rfl, (Bt.kp (c := R) (ka w (.cells zero4 24))).trans (HB3.out.trans hb4)⟩⟩
    have hlen := congrArg List.length hc4
    rw [List.length_drop, List.length_nil] at hlen
    rw [List.length_drop]
    omega
  have HR4 := Lib.hid hr4
  have HB4 := Lib.hid (HB3.out.trans hb4)
  have HC4 := Lib.hid hc4
  have k4 := c4.toNat_lt
  clear hr4 hb4 hc4
  have hpk : PK (1 :: s.data.toList.drop p) (some (.mk 0 (((((c1.toNat : Int) * 256 + c2.toNat) * 256 + c3.toNat) * 256 + c4.toNat) + -2147483648) ⟨#[]⟩ none 0 [], s.data.toList.drop (p + 1 + 1 + 1 + 1))) := by
    rw [HC1.out, HC2.out, HC3.out, HC4.out]; exact .word
  have HPK := Lib.hid hpk
  have hres := (HB4.out.block w.heap.size (by simp) (by omega)).trans (blockHere (w := w) (o := .cells zero4 24 (0, 0)) rfl)
  obtain ⟨d0, d1, d2, d3, f0, f1, f2, f3⟩ := cell4 hres
  have HRS := Lib.hid hres
  have HBE := Lib.hid ((Bt.kp (c := R) (ka w (.cells zero4 24))).trans HB4.out)
  clear hres hpk
  go_wp2_with fail
  rw [or_low _ _ (by omega) (by omega) (by omega) ⟨by omega, by omega⟩]
  rw [rounds_succ]
  go_wp2_with fail
  generalize hn : ((((c1.toNat : Int) * 256 + c2.toNat) * 256 + c3.toNat) * 256 + c4.toNat) + -2147483648 = n at *
  obtain ⟨g0, g1, g2, g3, -⟩ := cell4 (put4_block (v0 := .int .i64 0) (v1 := .int .i64 n) (v2 := .string ⟨#[]⟩) (v3 := .slice none 0 0) HRS.out)
  refine bodyPost_ret (v := .agg #[.int .i64 0, .int .i64 n, .string ⟨#[]⟩, .slice none 0 0]) (by simp [results, Tryz.results86, go_sem, g0, g1, g2, g3]) rfl ?_
  exact .inl ⟨_, _, ⟨HPK.out, by omega⟩, by omega, .mk 0 n ⟨#[]⟩ none 0 [], rfl, inLeaf _ _ _ (by unfold I64; omega) (by unfold I64; omega) (by decide), V.foot_leaf _ _ _ _ _, V.same_refl _, (put4_other (by omega)).trans HR4.out, put4_bt HBE.out (Nat.le_refl _)⟩

set_option maxRecDepth 100000 in
set_option maxHeartbeats 4000000 in
theorem keyTagged_any (w : World) (R : Nat) (s : ByteArray) (p : Nat) (hr : Reader w R s p) (hp : p ≤ s.size) (hs : s.size ≤ 1000000)
    (ih : ∀ w1 : World, p < s.size → Reader w1 R s (p + 1) → Calls Tryz.prog 81 #[.pointer (some ⟨R, 0, none⟩)] w1 (OutP (fun y q => PK (s.data.toList.drop (p + 1)) (some (y, s.data.toList.drop q)) ∧ p + 1 < q) (PK (s.data.toList.drop (p + 1)) none) w1 R s)) :
    Calls Tryz.prog 92 #[.pointer (some ⟨R, 0, none⟩)] w (OutP (fun y q => PK (4 :: s.data.toList.drop p) (some (y, s.data.toList.drop q)) ∧ p < q) (PK (4 :: s.data.toList.drop p) none) w R s) := by
  have hRl := lt_of_block hr
  have HR := Lib.hid hr
  have HC := Lib.hid ih
  clear hr ih
  go_enter Tryz.func92, Tryz.ntmps92
  go_wp2_with fail
  refine (next_any _ R s p (HR.out.kp (ka _ _)) hp hs).mono ?_
  rintro e w1 (⟨c0, hc0, hl0, rfl, hr1, hb1⟩ | ⟨hc0, rfl, hb1⟩)
  rotate_left
  · exact ⟨rfl, .inr ⟨by rw [hc0]; exact .tag0, rfl, (Bt.kp (c := R) (ka _ _)).trans hb1⟩⟩
  have HC0 := Lib.hid hc0
  have k0 := c0.toNat_lt
  clear hc0
  have hres := (hb1.block w.heap.size (by simp) (by omega)).trans (blockHere (w := w) (o := .cells zero4 24 (0, 0)) rfl)
  have hs1 := hb1.size
  simp at hs1
  have HR1 := Lib.hid hr1
  have HRS := Lib.hid hres
  have HB1 := Lib.hid ((Bt.kp (c := R) (ka w (.cells zero4 24))).trans hb1)
  clear hr1 hb1 hres
  go_wp2_with fail
  have hw : wrap64 (wrap64 (c0.toNat : Int) - 1) = (c0.toNat : Int) - 1 := by
    rw [IntWalk.wrap64_in (c0.toNat : Int) (by omega), IntWalk.wrap64_in _ (by omega)]
  clear hw
  generalize htag : (c0.toNat : Int) - 1 = tag at *
  refine (HC.out w1 hl0 HR1.out).mono ?_
  rintro e w2 (⟨y, q, ⟨hpk, hpq⟩, hq, z, rfl, hzi, hzf, hzs, hr2, hb2⟩ | ⟨hpk, rfl, hb2⟩)
  rotate_left
  · exact ⟨rfl, .inr ⟨by rw [HC0.out]; exact .tag hpk, rfl, HB1.out.trans hb2⟩⟩
  have HPK := Lib.hid (show PK (4 :: s.data.toList.drop p) (some (.mk 3 tag ⟨#[]⟩ none 0 [y], s.data.toList.drop q)) by
    rw [HC0.out, ← htag]; exact .tag hpk)
  clear hpk
  have hres := (hb2.block w.heap.size (by omega) (by omega)).trans HRS.out
  have hs2 := hb2.size
  have hzf2 : z.foot (fun b => w.heap.size + 1 ≤ b) := V.foot.mono (fun b hb => by omega) z hzf
  have HR2 := Lib.hid hr2
  have HRS2 := Lib.hid hres
  have HB2 := Lib.hid (HB1.out.trans hb2)
  have HZI := Lib.hid hzi
  have HZF := Lib.hid hzf2
  have HZS := Lib.hid hzs
  clear hr2 hb2 hres hzi hzf hzf2 hzs
  cases z with
  | mk k n t a cap zl =>
  simp only [V.val_mk]
  go_wp2_with fail
  refine (together_one _ w2.heap.size 0 1 (.int .i64 k) (.int .i64 n) (.string t) (.slice a zl.length cap) (here rfl rfl) (here rfl rfl) (here rfl rfl) (here rfl rfl) (by simp [Value.oneCell'])).mono ?_
  rintro e w3 ⟨g, rfl, hg, hgb, hk3⟩
  simp at hg
  have hk23 := kk (ka _ _) hk3
  have hblk := (hk23.block _ (lt_of_block HRS2.out)).trans HRS2.out
  obtain ⟨d0, d1, d2, d3, g0, g1, g2, g3⟩ := cell4 hblk
  have HBL := Lib.hid hblk
  have HR3 := Lib.hid (HR2.out.kp hk23)
  have HB3 := Lib.hid (HB2.out.trans (Bt.kp hk23))
  have HQ := Lib.hid hgb
  have HZ2 := Lib.hid (HZI.out.keep hk23.size hk23)
  clear hk3 hk23 hblk hgb
  go_wp2_with fail
  obtain ⟨e0, e1, e2, e3, -⟩ := cell4 (put4_block (v0 := .int .i64 3) (v1 := .int .i64 tag) (v2 := .string ⟨#[]⟩) (v3 := .slice (some ⟨g, 0, none⟩) 1 1) HBL.out)
  refine bodyPost_ret (v := .agg #[.int .i64 3, .int .i64 tag, .string ⟨#[]⟩, .slice (some ⟨g, 0, none⟩) 1 1]) (by simp [results, Tryz.results92, go_sem, e0, e1, e2, e3]) rfl ?_
  have hgs := lt_of_block HQ.out
  have hmv : ∀ b, b < w3.heap.size → w.heap.size + 1 ≤ b → (put4 w3 w.heap.size (.int .i64 3) (.int .i64 tag) (.string ⟨#[]⟩) (.slice (some ⟨g, 0, none⟩) 1 1)).heap[b]? = w3.heap[b]? := fun b _ hb => put4_other (by omega)
  have hS : (put4 w3 w.heap.size (.int .i64 3) (.int .i64 tag) (.string ⟨#[]⟩) (.slice (some ⟨g, 0, none⟩) 1 1)).heap.size = w3.heap.size := by simp [World.setCell]
  refine .inl ⟨_, q, ⟨HPK.out, by omega⟩, hq, .mk 3 tag ⟨#[]⟩ (some ⟨g, 0, none⟩) 1 [.mk k n t a cap zl], rfl, ?_, ?_, ?_, (put4_other (by omega)).trans HR3.out, put4_bt HB3.out (Nat.le_refl _)⟩
  · rw [hS]
    simp only [V.In, V.InL]
    refine ⟨by unfold I64; omega, by unfold I64; omega, by decide, Nat.le_refl _, by decide, .inr ⟨g, 0, rfl, hgs, ?_⟩, ?_, trivial⟩
    · exact At.of_block ((hmv g hgs (by omega)).trans HQ.out) rfl
    · exact V.In.move (Nat.le_refl _) hmv _ HZ2.out HZF.out
  · simp only [V.foot, V.footL]
    exact ⟨.inr ⟨g, 0, rfl, by omega⟩, V.foot.mono (fun b hb => by omega) _ HZF.out, trivial⟩
  · exact V.same_node (V.sameL_one HZS.out)

/-- What readList tells at a key. -/
def OutKL (w : World) (R : Nat) (s : ByteArray) (p : Nat) (e : Ending) (w' : World) : Prop :=
  (∃ (ys : List V) (q g : Nat) (vs : List V), PKL 0 (s.data.toList.drop p) (some (ys, s.data.toList.drop q)) ∧ p < q ∧ q ≤ s.size ∧ ys.length ≤ 8 ∧ e = .returned (.slice (some ⟨g, 0, none⟩) ys.length ys.length) ∧ w.heap.size ≤ g ∧ w'.heap[g]? = some (.cells (cellsL vs).toArray 24 (0, 0)) ∧
    V.sameL vs ys = true ∧ V.InL w' w'.heap.size vs ∧ V.footL (fun b => w.heap.size ≤ b) vs ∧ Reader w' R s q ∧ Bt R w w') ∨
  (PKL 0 (s.data.toList.drop p) none ∧ e = .panicked formP ∧ Bt R w w')

set_option maxRecDepth 100000 in
set_option maxHeartbeats 8000000 in
theorem keyList_any (w : World) (R : Nat) (s : ByteArray) (p : Nat) (hr : Reader w R s p) (hp : p ≤ s.size) (hs : s.size ≤ 1000000) 
    (ih : ∀ (q : Nat) (w1 : World), p ≤ q → q ≤ s.size → Reader w1 R s q → Calls Tryz.prog 81 #[.pointer (some ⟨R, 0, none⟩)] w1 (OutP (fun y q' => PK (s.data.toList.drop q) (some (y, s.data.toList.drop q')) ∧ q < q') (PK (s.data.toList.drop q) none) w1 R s)) :
    Calls Tryz.prog 116 #[.pointer (some ⟨R, 0, none⟩), .string ⟨#[]⟩, .string ⟨#[0]⟩, .func (.func 81) #[] #[]] w (OutKL w R s p) := by
  have hRl := lt_of_block hr
  have HR := Lib.hid hr
  have ih2 := fun (q : Nat) (w1 : World) (h1 : p ≤ q) (h2 : q ≤ s.size) (h3 : Reader w1 R s q) (_ : Bt R w w1) => ih q w1 h1 h2 h3
  have HI := Lib.hid ih2
  clear hr ih ih2
  go_enter Tryz.func116, Tryz.ntmps116
  go_wp2_with fail
  go_loopw [10] (fun i wr => ∃ (j q : Nat) (cs : Array Value) (vs ys : List V), j ≤ 8 ∧ ys.length = j ∧ i = .int .i64 j ∧ RowV wr w.heap.size ys j cs vs ∧ Bt R w wr ∧ Reader wr R s q ∧ p ≤ q ∧ q ≤ s.size ∧ (∀ o, PKL j (s.data.toList.drop q) o → PKL 0 (s.data.toList.drop p) (o.map fun x => (ys ++ x.1, x.2)))) (fun i _ => 9 - (intOf i).toNat)
  case atStart => exact ⟨0, p, _, [], [], Nat.zero_le _, rfl, rfl, ⟨blockHere rfl, rfl, by simp [cellsL], by simp [V.sameL], trivial, trivial⟩, Bt.kp (ka _ _), HR.out.kp (ka _ _), Nat.le_refl _, hp, fun o h => by cases o <;> simpa using h⟩
  case round =>
    obtain ⟨j, q, cs, vs, ys, hj, hyl, rfl, hrow, hbt, hrd, hpq, hqs, hPL⟩ := hrel
    have hgl := lt_of_block hrow.blk
    have HROW := Lib.hid hrow
    have HBT := Lib.hid hbt
    have HRD := Lib.hid hrd
    have HPL := Lib.hid hPL
    clear hrow hbt hrd hPL
    by_cases h41 : (s.data.toList.drop q).head? = some 0
    · obtain ⟨r, hr⟩ := head_yes h41
      obtain ⟨hr2, hq⟩ := drop_tail hr
      have hes : Lib.hasPrefix (s.extract q s.size).data.toList (⟨#[0]⟩ : ByteArray).data.toList = true := by
        rw [rest_eq, pre_one]; simpa using h41
      have hfin := HPL.out (some ([], s.data.toList.drop (q + 1))) (by rw [hr, ← hr2]; exact .done)
      rw [Option.map_some, List.append_nil] at hfin
      have hrow := HROW.out
      have hlv : vs.length = j := by
        have := congrArg List.length hrow.take
        have hcl : cs.toList.length = 8 * 4 := Array.length_toList.trans hrow.size
        rw [cellsL_length, List.length_take, hcl] at this
        omega
      have htg := fun (w1 : World) (h : Bt R wr w1) => together_rows w1 w.heap.size 8 j (cellsL vs) (by rw [cellsL_length, hlv]) (fun i v hv => by
        have h1 : cs[i]? = some v := by
          rw [← hrow.take] at hv
          rw [← Array.getElem?_toList]
          rw [List.getElem?_take] at hv
          split at hv
          · exact hv
          · cases hv
        exact cellOf ((hrow.bt h (by omega)).blk) h1) (cellsL_one vs) hj
      have HS := Lib.hid (fun (w1 : World) (h : Reader w1 R s _) => skip_yes w1 R s ⟨#[0]⟩ _ h (by omega) hs (by decide) hes)
      have HTG := Lib.hid htg
      have HFIN := Lib.hid hfin
      clear hes htg hrow hr hr2 h41 hfin
      go_wp2_with fail
      refine (HS.out _ HRD.out).mono ?_
      rintro e w1 ⟨rfl, hr1, hb1⟩
      have HR1 := Lib.hid hr1
      have HB1 := Lib.hid hb1
      clear hr1 hb1
      go_wp2_with fail
      rw [slice_arr w1 w.heap.size j hj]
      go_wp2_with fail
      refine (HTG.out _ HB1.out).mono ?_
      rintro e w2 ⟨g, rfl, hg, hgb, hk2⟩
      have HG := Lib.hid hgb
      have HK := Lib.hid hk2
      clear hgb hk2
      go_wp2_with fail
      go_ret
      have hh := HROW.out.bt HB1.out (by omega)
      have hz := HBT.out.size
      have hz1 := HB1.out.size
      have hsm := hh.same
      rw [List.take_of_length_le (by omega)] at hsm
      subst hyl
      exact .inl ⟨ys, q + 1, g, vs, HFIN.out, by omega, by omega, hj, rfl, by omega, HG.out, hsm, hh.hin.keep HK.out.size HK.out, V.footL.mono (fun b hb => by omega) _ hh.foot, HR1.out.kp HK.out, (HBT.out.trans HB1.out).trans (.kp HK.out)⟩
    · have hgo : Lib.hasPrefix (s.extract q s.size).data.toList (⟨#[0]⟩ : ByteArray).data.toList = false := by
        rw [rest_eq, pre_one]; simpa using h41
      have hsk := fun (w1 : World) (h : Reader w1 R s q) => skip_no w1 R s ⟨#[0]⟩ q h (by omega) hgo
      have HSK := Lib.hid hsk
      clear hsk hgo
      by_cases h8 : j = 8
      · have g8 : ((j : Int) == 8) = true := by subst h8; rfl
        have hfin := HPL.out none (.wide h41 h8)
        rw [Option.map_none] at hfin
        go_wp2_with fail
        refine (HSK.out _ HRD.out).mono ?_
        rintro e w1 ⟨rfl, hk1⟩
        have HB1 := Lib.hid (HBT.out.trans (Bt.kp hk1))
        clear hk1
        go_wp2_with fail
        refine (refuse_any _).mono ?_
        rintro e3 w3 ⟨rfl, rfl⟩
        exact ⟨rfl, .inr ⟨hfin, rfl, HB1.out⟩⟩
      · have g8 : ((j : Int) == 8) = false := by rw [beq_eq_false_iff_ne]; omega
        have hex := fun (w1 : World) (h : Reader w1 R s q) => expect_yes w1 R s ⟨#[]⟩ q h (by omega) hs (by decide) (by simp [Lib.hasPrefix])
        have HEX := Lib.hid hex
        clear hex
        by_cases h0 : j = 0
        · have g0 : decide ((0 : Int) < (j : Int)) = false := by subst h0; rfl
          have g1 : decide (0 < j) = false := by subst h0; rfl
          clear h0
          go_wp2_with fail
          refine (HSK.out _ HRD.out).mono ?_
          rintro e w1 ⟨rfl, hk1⟩
          have HB1 := Lib.hid (HBT.out.trans (Bt.kp hk1))
          have HR1 := Lib.hid (HRD.out.kp hk1)
          have HRW1 := Lib.hid (HROW.out.bt (Bt.kp (c := R) hk1) (by omega))
          clear hk1
          go_wp2_with fail
          refine (HI.out q _ hpq hqs HR1.out HB1.out).mono ?_
          rintro e w3 (⟨y, q3, ⟨hpv, hq3⟩, hq3s, z, rfl, hzi, hzf, hzs, hr3, hb3⟩ | ⟨hpv, rfl, hb3⟩)
          rotate_left
          · exact ⟨rfl, .inr ⟨by
              have := HPL.out none (.part0 h41 (by omega) hpv)
              simpa using this, rfl, HB1.out.trans hb3⟩⟩
          have hPL3 : ∀ o, PKL (j + 1) (s.data.toList.drop q3) o → PKL 0 (s.data.toList.drop p) (o.map fun x => ((ys ++ [y]) ++ x.1, x.2)) := fun o ho => by
            have := HPL.out _ (.part1 h41 (by omega) hpv ho)
            cases o <;> simpa using this
          have hgl1 := lt_of_block HRW1.out.blk
          have hst := (HRW1.out.grow hyl y).step (by omega) (by omega) hgl1 hb3 hzi (V.foot.mono (fun b hb => by omega) z hzf) hzs (show (ys ++ [y])[j]? = some y by rw [← hyl]; simp)
          have hb2 := (HRW1.out.bt hb3 (by omega)).blk
          have hsz := HRW1.out.size
          obtain ⟨u0, hu0⟩ : ∃ u, cs[j * 4]? = some u := ⟨cs[j * 4]'(by omega), by simp⟩
          obtain ⟨u1, hu1⟩ : ∃ u, cs[j * 4 + 1]? = some u := ⟨cs[j * 4 + 1]'(by omega), by simp⟩
          obtain ⟨u2, hu2⟩ : ∃ u, cs[j * 4 + 2]? = some u := ⟨cs[j * 4 + 2]'(by omega), by simp⟩
          obtain ⟨u3, hu3⟩ : ∃ u, cs[j * 4 + 3]? = some u := ⟨cs[j * 4 + 3]'(by omega), by simp⟩
          have m0 := cellOf hb2 hu0
          have m1 := cellOf hb2 hu1
          have m2 := cellOf hb2 hu2
          have m3 := cellOf hb2 hu3
          have n0 := freeOf (i := j * 4) hb2
          have n1 := freeOf (i := j * 4 + 1) hb2
          have n2 := freeOf (i := j * 4 + 2) hb2
          have n3 := freeOf (i := j * 4 + 3) hb2
          have HST := Lib.hid hst
          have HB3 := Lib.hid (HB1.out.trans hb3)
          have HR3 := Lib.hid hr3
          have HPL3 := Lib.hid hPL3
          clear hst hzi hzf hzs hb2 hu0 hu1 hu2 hu3 hr3 hb3 hPL3
          cases z with
          | mk k n t za zc zl =>
          simp only [V.val_mk]
          go_wp2_with fail
          go_roundw
          case rel => exact ⟨j + 1, q3, _, _, ys ++ [y], by omega, by simp; omega, by first | go_num | simp, HST.out, putAt_bt HB3.out (Nat.le_refl _), (putAt_other (by omega)).trans HR3.out, by omega, hq3s, HPL3.out⟩
          case measure => simp [intOf]; omega
        · have g0 : (0 : Int) < (j : Int) := by omega
          have g1 : decide ((0 : Int) < (j : Int)) = true := by simpa using g0
          go_wp2_with fail
          refine (HSK.out _ HRD.out).mono ?_
          rintro e w1 ⟨rfl, hk1⟩
          have HB0 := Lib.hid (HBT.out.trans (Bt.kp hk1))
          have HR0 := Lib.hid (HRD.out.kp hk1)
          have HRW0 := Lib.hid (HROW.out.bt (Bt.kp (c := R) hk1) (by omega))
          clear hk1
          go_wp2_with fail
          refine (HEX.out _ HR0.out).mono ?_
          rintro e w2 ⟨rfl, hr2, hb2⟩
          have HB1 := Lib.hid (HB0.out.trans hb2)
          have HR1 := Lib.hid (show Reader w2 R s q from hr2)
          have HRW1 := Lib.hid (HRW0.out.bt hb2 (by omega))
          clear hr2 hb2
          go_wp2_with fail
          refine (HI.out q _ hpq hqs HR1.out HB1.out).mono ?_
          rintro e w3 (⟨y, q3, ⟨hpv, hq3⟩, hq3s, z, rfl, hzi, hzf, hzs, hr3, hb3⟩ | ⟨hpv, rfl, hb3⟩)
          rotate_left
          · exact ⟨rfl, .inr ⟨by
              have := HPL.out none (.part0 h41 (by omega) hpv)
              simpa using this, rfl, HB1.out.trans hb3⟩⟩
          have hPL3 : ∀ o, PKL (j + 1) (s.data.toList.drop q3) o → PKL 0 (s.data.toList.drop p) (o.map fun x => ((ys ++ [y]) ++ x.1, x.2)) := fun o ho => by
            have := HPL.out _ (.part1 h41 (by omega) hpv ho)
            cases o <;> simpa using this
          have hgl1 := lt_of_block HRW1.out.blk
          have hst := (HRW1.out.grow hyl y).step (by omega) (by omega) hgl1 hb3 hzi (V.foot.mono (fun b hb => by omega) z hzf) hzs (show (ys ++ [y])[j]? = some y by rw [← hyl]; simp)
          have hb2 := (HRW1.out.bt hb3 (by omega)).blk
          have hsz := HRW1.out.size
          obtain ⟨u0, hu0⟩ : ∃ u, cs[j * 4]? = some u := ⟨cs[j * 4]'(by omega), by simp⟩
          obtain ⟨u1, hu1⟩ : ∃ u, cs[j * 4 + 1]? = some u := ⟨cs[j * 4 + 1]'(by omega), by simp⟩
          obtain ⟨u2, hu2⟩ : ∃ u, cs[j * 4 + 2]? = some u := ⟨cs[j * 4 + 2]'(by omega), by simp⟩
          obtain ⟨u3, hu3⟩ : ∃ u, cs[j * 4 + 3]? = some u := ⟨cs[j * 4 + 3]'(by omega), by simp⟩
          have m0 := cellOf hb2 hu0
          have m1 := cellOf hb2 hu1
          have m2 := cellOf hb2 hu2
          have m3 := cellOf hb2 hu3
          have n0 := freeOf (i := j * 4) hb2
          have n1 := freeOf (i := j * 4 + 1) hb2
          have n2 := freeOf (i := j * 4 + 2) hb2
          have n3 := freeOf (i := j * 4 + 3) hb2
          have HST := Lib.hid hst
          have HB3 := Lib.hid (HB1.out.trans hb3)
          have HR3 := Lib.hid hr3
          have HPL3 := Lib.hid hPL3
          clear hst hzi hzf hzs hb2 hu0 hu1 hu2 hu3 hr3 hb3 hPL3
          cases z with
          | mk k n t za zc zl =>
          simp only [V.val_mk]
          go_wp2_with fail
          go_roundw
          case rel => exact ⟨j + 1, q3, _, _, ys ++ [y], by omega, by simp; omega, by first | go_num | simp, HST.out, putAt_bt HB3.out (Nat.le_refl _), (putAt_other (by omega)).trans HR3.out, by omega, hq3s, HPL3.out⟩
          case measure => simp [intOf]; omega

set_option maxRecDepth 100000 in
set_option maxHeartbeats 4000000 in
theorem keyTuple_any (w : World) (R : Nat) (s : ByteArray) (p : Nat) (hr : Reader w R s p) (hp : p ≤ s.size) (hs : s.size ≤ 1000000)
    (ih : ∀ (q : Nat) (w1 : World), p ≤ q → q ≤ s.size → Reader w1 R s q → Calls Tryz.prog 81 #[.pointer (some ⟨R, 0, none⟩)] w1 (OutP (fun y q' => PK (s.data.toList.drop q) (some (y, s.data.toList.drop q')) ∧ q < q') (PK (s.data.toList.drop q) none) w1 R s)) :
    Calls Tryz.prog 90 #[.pointer (some ⟨R, 0, none⟩)] w (OutP (fun y q => PK (3 :: s.data.toList.drop p) (some (y, s.data.toList.drop q)) ∧ p < q) (PK (3 :: s.data.toList.drop p) none) w R s) := by
  have hRl := lt_of_block hr
  have HR := Lib.hid hr
  have HC := Lib.hid (fun (w1 : World) (hr : Reader w1 R s p) => keyList_any w1 R s p hr hp hs ih)
  clear hr ih
  go_enter Tryz.func90, Tryz.ntmps90
  go_wp2_with fail
  refine (HC.out _ (HR.out.kp (ka _ _))).mono ?_
  rintro e w1 (⟨ys, q, g, vs, hpk, hpq, hqs, hl8, rfl, hg, hgb, hsm, hvi, hvf, hr1, hb1⟩ | ⟨hpk, rfl, hb1⟩)
  rotate_left
  · exact ⟨rfl, .inr ⟨.tuple hpk, rfl, (Bt.kp (c := R) (ka w (.cells zero4 24))).trans hb1⟩⟩
  have HPK := Lib.hid (PK.tuple hpk)
  clear hpk
  simp at hg
  have hblk := (hb1.block w.heap.size (by simp) (by omega)).trans (blockHere (w := w) (o := .cells zero4 24 (0, 0)) rfl)
  obtain ⟨d0, d1, d2, d3, g0, g1, g2, g3⟩ := cell4 hblk
  have hvf2 : V.footL (fun b => w.heap.size + 1 ≤ b) vs := V.footL.mono (fun b hb => by simp at hb; omega) _ hvf
  have HBL := Lib.hid hblk
  have HR1 := Lib.hid hr1
  have HB1 := Lib.hid ((Bt.kp (c := R) (ka w (.cells zero4 24))).trans hb1)
  have HG := Lib.hid hgb
  have HSM := Lib.hid hsm
  have HVI := Lib.hid hvi
  have HVF := Lib.hid hvf2
  clear hblk hr1 hb1 hgb hsm hvi hvf hvf2
  go_wp2_with fail
  obtain ⟨e0, e1, e2, e3, -⟩ := cell4 (put4_block (v0 := .int .i64 2) (v1 := .int .i64 0) (v2 := .string ⟨#[]⟩) (v3 := .slice (some ⟨g, 0, none⟩) ys.length ys.length) HBL.out)
  refine bodyPost_ret (v := .agg #[.int .i64 2, .int .i64 0, .string ⟨#[]⟩, .slice (some ⟨g, 0, none⟩) ys.length ys.length]) (by simp [results, Tryz.results90, go_sem, e0, e1, e2, e3]) rfl ?_
  have hgs := lt_of_block HG.out
  have hlen : vs.length = ys.length := V.sameL_length _ _ HSM.out
  rw [← hlen]
  have hmv : ∀ b, b < w1.heap.size → w.heap.size + 1 ≤ b → (put4 w1 w.heap.size (.int .i64 2) (.int .i64 0) (.string ⟨#[]⟩) (.slice (some ⟨g, 0, none⟩) vs.length vs.length)).heap[b]? = w1.heap[b]? := fun b _ hb => put4_other (by omega)
  have hS : (put4 w1 w.heap.size (.int .i64 2) (.int .i64 0) (.string ⟨#[]⟩) (.slice (some ⟨g, 0, none⟩) vs.length vs.length)).heap.size = w1.heap.size := by simp [World.setCell]
  refine .inl ⟨_, q, ⟨HPK.out, hpq⟩, hqs, .mk 2 0 ⟨#[]⟩ (some ⟨g, 0, none⟩) vs.length vs, rfl, ?_, ?_, V.same_node HSM.out, (put4_other (by omega)).trans HR1.out, put4_bt HB1.out (Nat.le_refl _)⟩
  · rw [hS]
    simp only [V.In]
    refine ⟨by unfold I64; omega, by unfold I64; omega, by decide, Nat.le_refl _, by unfold maxLen; omega, .inr ⟨g, 0, rfl, hgs, ?_⟩, V.InL.move (Nat.le_refl _) (fun b h1 h2 => hmv b h1 h2) _ HVI.out HVF.out⟩
    exact At.of_block ((hmv g hgs (by omega)).trans HG.out) rfl
  · simp only [V.foot]
    exact ⟨.inr ⟨g, 0, rfl, by omega⟩, V.footL.mono (fun b hb => by omega) _ HVF.out⟩

set_option maxRecDepth 100000 in
set_option maxHeartbeats 4000000 in
theorem ofKeyA_bad (w : World) (R : Nat) (s : ByteArray) (p : Nat) (hr : Reader w R s p) (hp : p ≤ s.size) (hs : s.size ≤ 1000000) (hb : ∀ b, (s.data.toList.drop p).head? = some b → b.toNat = 0 ∨ 5 ≤ b.toNat) :
    Calls Tryz.prog 81 #[.pointer (some ⟨R, 0, none⟩)] w fun e w' => e = .panicked formP ∧ Bt R w w' := by
  have HR := Lib.hid hr
  have HBB := Lib.hid hb
  have hRl := lt_of_block hr
  clear hr hb
  go_enter Tryz.func81, Tryz.ntmps81
  go_wp2_with fail
  refine (kinds_any _).mono ?_
  rintro e w1 ⟨rfl, hk⟩
  have HK := Lib.hid (kk (ka _ _) hk)
  clear hk
  go_wp2_with fail
  have hk2 : Kp w (w1.alloc (.cells kindsA 71)) := kk HK.out (ka _ _)
  refine (next_any _ R s p (HR.out.kp hk2) hp hs).mono ?_
  rintro e w3 (⟨b, hb, hlt, rfl, hr3, hb3⟩ | ⟨hb, rfl, hb3⟩)
  rotate_left
  · exact ⟨rfl, rfl, (Bt.kp (c := R) hk2).trans hb3⟩
  have hbb := HBB.out b (by rw [hb]; rfl)
  have kb := b.toNat_lt
  have hw : wrap64 (wrap64 (b.toNat : Int) - 1) = (b.toNat : Int) - 1 := by
    rw [IntWalk.wrap64_in (b.toNat : Int) (by omega), IntWalk.wrap64_in _ (by omega)]
  have HB3 := Lib.hid ((Bt.kp (c := R) hk2).trans hb3)
  clear hr3 hb3 hb
  rcases hbb with h0 | h5
  · have e1 : decide ((b.toNat : Int) - 1 < 0) = true := by simp; omega
    go_wp2_with fail
    refine (refuse_any _).mono ?_
    rintro e3 w4 ⟨rfl, rfl⟩
    exact ⟨rfl, rfl, HB3.out⟩
  · have e1 : decide ((b.toNat : Int) - 1 < 0) = false := by simp; omega
    have e2 : decide ((4 : Int) ≤ (b.toNat : Int) - 1) = true := by simp; omega
    go_wp2_with fail
    refine (refuse_any _).mono ?_
    rintro e3 w4 ⟨rfl, rfl⟩
    exact ⟨rfl, rfl, HB3.out⟩

theorem ofKeyA_any : ∀ (N : Nat) (w : World) (R : Nat) (s : ByteArray) (p : Nat), s.size - p ≤ N → Reader w R s p → p ≤ s.size → s.size ≤ 1000000 →
    Calls Tryz.prog 81 #[.pointer (some ⟨R, 0, none⟩)] w (OutP (fun y q => PK (s.data.toList.drop p) (some (y, s.data.toList.drop q)) ∧ p < q) (PK (s.data.toList.drop p) none) w R s) := by
  intro N
  induction N using Nat.strongRecOn with
  | ind N IH =>
    intro w R s p hN hr hp hs
    have ih : ∀ (q : Nat) (w1 : World), p < q → q ≤ s.size → Reader w1 R s q → Calls Tryz.prog 81 #[.pointer (some ⟨R, 0, none⟩)] w1 (OutP (fun y q' => PK (s.data.toList.drop q) (some (y, s.data.toList.drop q')) ∧ q < q') (PK (s.data.toList.drop q) none) w1 R s) := fun q w1 h1 h2 h3 =>
      IH (s.size - q) (by omega) w1 R s q (Nat.le_refl _) h3 h2 hs
    have up : ∀ (c : UInt8) (w1 : World) (e : Ending) (w' : World), OutP (fun y q => PK (c :: s.data.toList.drop (p + 1)) (some (y, s.data.toList.drop q)) ∧ p + 1 < q) (PK (c :: s.data.toList.drop (p + 1)) none) w1 R s e w' →
        OutP (fun y q => PK (c :: s.data.toList.drop (p + 1)) (some (y, s.data.toList.drop q)) ∧ p < q) (PK (c :: s.data.toList.drop (p + 1)) none) w1 R s e w' := fun c w1 e w' h => by
      rcases h with ⟨y, q, ⟨h1, h2⟩, h3, h4⟩ | h
      · exact .inl ⟨y, q, ⟨h1, by omega⟩, h3, h4⟩
      · exact .inr h
    have at' : ∀ (c : UInt8) (r : List UInt8), s.data.toList.drop p = c :: r → ∃ h : p < s.size, s[p] = c ∧ s.data.toList.drop p = c :: s.data.toList.drop (p + 1) := fun c r h => by
      obtain ⟨h1, h2⟩ := drop_tail h
      refine ⟨h2, ?_, by rw [← h1]; exact h⟩
      have := List.drop_eq_getElem_cons (l := s.data.toList) (i := p) (by simpa using h2)
      rw [this] at h
      injection h with h3 _
    by_cases h1 : (s.data.toList.drop p).head? = some 1
    · obtain ⟨r, h⟩ := head_yes h1
      obtain ⟨hlt, hb, he⟩ := at' 1 r h
      rw [he]
      exact ofKeyA_word w R s p _ _ hr hs hlt hb fun w1 hr1 => (keyWord_any w1 R s (p + 1) hr1 (by omega) hs).mono (up 1 w1)
    by_cases h2 : (s.data.toList.drop p).head? = some 2
    · obtain ⟨r, h⟩ := head_yes h2
      obtain ⟨hlt, hb, he⟩ := at' 2 r h
      rw [he]
      exact ofKeyA_text w R s p _ _ hr hs hlt hb fun w1 hr1 => (keyText_any w1 R s (p + 1) hr1 (by omega) hs).mono (up 2 w1)
    by_cases h3 : (s.data.toList.drop p).head? = some 3
    · obtain ⟨r, h⟩ := head_yes h3
      obtain ⟨hlt, hb, he⟩ := at' 3 r h
      rw [he]
      exact ofKeyA_tuple w R s p _ _ hr hs hlt hb fun w1 hr1 => (keyTuple_any w1 R s (p + 1) hr1 (by omega) hs fun q w2 g1 g2 g3 => ih q w2 (by omega) g2 g3).mono (up 3 w1)
    by_cases h4 : (s.data.toList.drop p).head? = some 4
    · obtain ⟨r, h⟩ := head_yes h4
      obtain ⟨hlt, hb, he⟩ := at' 4 r h
      rw [he]
      exact ofKeyA_tagged w R s p _ _ hr hs hlt hb fun w1 hr1 => (keyTagged_any w1 R s (p + 1) hr1 (by omega) hs fun w2 g1 g2 => ih (p + 1 + 1) w2 (by omega) (by omega) g2).mono (up 4 w1)
    · have hbad : ∀ b, (s.data.toList.drop p).head? = some b → b.toNat = 0 ∨ 5 ≤ b.toNat := fun b hb => by
        have e : ∀ c : UInt8, (s.data.toList.drop p).head? ≠ some c → b.toNat ≠ c.toNat := fun c hc h => hc (by rw [hb, UInt8.toNat_inj.1 h])
        have := e 1 h1
        have := e 2 h2
        have := e 3 h3
        have := e 4 h4
        simp at *
        omega
      exact (ofKeyA_bad w R s p hr hp hs hbad).mono fun e w' ⟨h1, h2⟩ => .inr ⟨.bad hbad, h1, h2⟩

end Go.Proofs.YtkfmgafgokpjhaaGreatDoor

/-
  PLAIN MATHEMATICS: WHAT IS READ OF A KEY IS WHAT IT WAS WRITTEN OF.
-/
namespace Go.Proofs.YtkfmgafgokpjhaaGreatDoor
open Go.RowKit

theorem word_bytes (b0 b1 b2 b3 : UInt8) : wordBytes (((((b0.toNat : Int) * 256 + b1.toNat) * 256 + b2.toNat) * 256 + b3.toNat) + -2147483648) = [b0, b1, b2, b3] := by
  have k0 := b0.toNat_lt
  have k1 := b1.toNat_lt
  have k2 := b2.toNat_lt
  have k3 := b3.toNat_lt
  have hb : ∀ (m : Int) (j : Nat) (b : UInt8), (m / 2 ^ (24 - 8 * j)) % 256 = (b.toNat : Int) → byteAt m j = b := fun m j b h => by
    have := byteAt_val m j
    rw [h] at this
    exact (UInt8.toNat_inj.1 (by omega)).symm
  unfold wordBytes
  rw [show (((((b0.toNat : Int) * 256 + b1.toNat) * 256 + b2.toNat) * 256 + b3.toNat) + -2147483648) + 2147483648 = ((((b0.toNat : Int) * 256 + b1.toNat) * 256 + b2.toNat) * 256 + b3.toNat) by omega]
  rw [hb _ 0 b0 (by simp; omega), hb _ 1 b1 (by simp; omega), hb _ 2 b2 (by simp; omega), hb _ 3 b3 (by simp; omega)]

theorem pk_inv {l : List UInt8} {o : Option (V × List UInt8)} (h : PK l o) :
    (∃ b0 b1 b2 b3 r, l = 1 :: b0 :: b1 :: b2 :: b3 :: r ∧ o = some (.mk 0 (((((b0.toNat : Int) * 256 + b1.toNat) * 256 + b2.toNat) * 256 + b3.toNat) + -2147483648) ⟨#[]⟩ none 0 [], r)) ∨
    (∃ r, l = 1 :: r ∧ r.length < 4 ∧ o = none) ∨
    (∃ t r, l = 2 :: (t ++ 0 :: r) ∧ (∀ c ∈ t, c ≠ 0) ∧ o = some (.mk 1 0 ⟨t.toArray⟩ none 0 [], r)) ∨
    (∃ r, l = 2 :: r ∧ (∀ c ∈ r, c ≠ 0) ∧ o = none) ∨
    (∃ r o', l = 3 :: r ∧ PKL 0 r o' ∧ o = o'.map fun x => (.mk 2 0 ⟨#[]⟩ none 0 x.1, x.2)) ∨
    (l = [4] ∧ o = none) ∨
    (∃ b r o', l = 4 :: b :: r ∧ PK r o' ∧ o = o'.map fun x => (.mk 3 ((b.toNat : Int) - 1) ⟨#[]⟩ none 0 [x.1], x.2)) ∨
    ((∀ b, l.head? = some b → b.toNat = 0 ∨ 5 ≤ b.toNat) ∧ o = none) := by
  cases h with
  | word => exact .inl ⟨_, _, _, _, _, rfl, rfl⟩
  | word0 h => exact .inr (.inl ⟨_, rfl, h, rfl⟩)
  | text h => exact .inr (.inr (.inl ⟨_, _, rfl, h, rfl⟩))
  | text0 h => exact .inr (.inr (.inr (.inl ⟨_, rfl, h, rfl⟩)))
  | tuple h => exact .inr (.inr (.inr (.inr (.inl ⟨_, _, rfl, h, rfl⟩))))
  | tag0 => exact .inr (.inr (.inr (.inr (.inr (.inl ⟨rfl, rfl⟩)))))
  | tag h => exact .inr (.inr (.inr (.inr (.inr (.inr (.inl ⟨_, _, _, rfl, h, rfl⟩))))))
  | bad h => exact .inr (.inr (.inr (.inr (.inr (.inr (.inr ⟨h, rfl⟩))))))

theorem pkl_inv {j : Nat} {l : List UInt8} {o : Option (List V × List UInt8)} (h : PKL j l o) :
    (∃ r, l = 0 :: r ∧ o = some ([], r)) ∨ (l.head? ≠ some 0 ∧ j = 8 ∧ o = none) ∨
    (l.head? ≠ some 0 ∧ j < 8 ∧ ((PK l none ∧ o = none) ∨ ∃ x r o', PK l (some (x, r)) ∧ PKL (j + 1) r o' ∧ o = o'.map fun y => (x :: y.1, y.2))) := by
  cases h with
  | done => exact .inl ⟨_, rfl, rfl⟩
  | wide h1 h2 => exact .inr (.inl ⟨h1, h2, rfl⟩)
  | part0 h1 h2 h3 => exact .inr (.inr ⟨h1, h2, .inl ⟨h3, rfl⟩⟩)
  | part1 h1 h2 h3 h4 => exact .inr (.inr ⟨h1, h2, .inr ⟨_, _, _, h3, h4, rfl⟩⟩)

mutual
/-- What was read is what the key was written of. -/
theorem pk_sound : ∀ {l : List UInt8} {o : Option (V × List UInt8)}, PK l o → ∀ (y : V) (r : List UInt8), o = some (y, r) → l = y.keyB ++ r
  | _, _, .word, y, r, h => by
    simp only [Option.some.injEq, Prod.mk.injEq] at h
    obtain ⟨rfl, rfl⟩ := h
    simp [V.keyB, word_bytes]
  | _, _, .word0 _, _, _, h => by cases h
  | _, _, .text _, y, r, h => by
    simp only [Option.some.injEq, Prod.mk.injEq] at h
    obtain ⟨rfl, rfl⟩ := h
    simp [V.keyB]
  | _, _, .text0 _, _, _, h => by cases h
  | _, _, .tuple (o := o) hl, y, r, h => by
    cases o with
    | none => cases h
    | some x =>
      simp only [Option.map_some, Option.some.injEq, Prod.mk.injEq] at h
      obtain ⟨rfl, rfl⟩ := h
      have := pkl_sound hl x.1 x.2 rfl
      simp [V.keyB, this]
  | _, _, .tag0, _, _, h => by cases h
  | _, _, .tag (b := b) (o := o) hk, y, r, h => by
    cases o with
    | none => cases h
    | some x =>
      simp only [Option.map_some, Option.some.injEq, Prod.mk.injEq] at h
      obtain ⟨rfl, rfl⟩ := h
      have := pk_sound hk x.1 x.2 rfl
      have e : ((b.toNat : Int) - 1 + 1).toNat = b.toNat := by omega
      simp [V.keyB, V.keyBH, this]
  | _, _, .bad _, _, _, h => by cases h
theorem pkl_sound : ∀ {j : Nat} {l : List UInt8} {o : Option (List V × List UInt8)}, PKL j l o → ∀ (ys : List V) (r : List UInt8), o = some (ys, r) → l = V.keyBL ys ++ 0 :: r
  | _, _, _, .done, ys, r, h => by
    simp only [Option.some.injEq, Prod.mk.injEq] at h
    obtain ⟨rfl, rfl⟩ := h
    simp [V.keyBL]
  | _, _, _, .wide _ _, _, _, h => by cases h
  | _, _, _, .part0 _ _ _, _, _, h => by cases h
  | _, _, _, .part1 (o := o) _ _ hk hl, ys, r, h => by
    cases o with
    | none => cases h
    | some x =>
      simp only [Option.map_some, Option.some.injEq, Prod.mk.injEq] at h
      obtain ⟨rfl, rfl⟩ := h
      have h1 := pk_sound hk _ _ rfl
      have h2 := pkl_sound hl x.1 x.2 rfl
      rw [h1, h2]
      simp [V.keyBL]
end

end Go.Proofs.YtkfmgafgokpjhaaGreatDoor

/-
  PLAIN MATHEMATICS: THE KEY OF A VALUE IS READ AS A VALUE THAT IS THE SAME; what the specification's reader makes of bytes (KD).
-/
namespace Go.Proofs.YtkfmgafgokpjhaaGreatDoor
open Go.RowKit

theorem split0 : ∀ (a b r q : List UInt8), (∀ c ∈ a, c ≠ 0) → (∀ c ∈ b, c ≠ 0) → a ++ 0 :: r = b ++ 0 :: q → a = b ∧ r = q
  | [], [], r, q, _, _, h => by simpa using h
  | [], y :: ys, r, q, _, hb, h => by simp at h; exact absurd h.1.symm (hb y (by simp))
  | x :: xs, [], r, q, ha, _, h => by simp at h; exact absurd h.1 (ha x (by simp))
  | x :: xs, y :: ys, r, q, ha, hb, h => by
    simp only [List.cons_append, List.cons.injEq] at h
    obtain ⟨h1, h2⟩ := split0 xs ys r q (fun c hc => ha c (by simp [hc])) (fun c hc => hb c (by simp [hc])) h.2
    exact ⟨by rw [h.1, h1], h2⟩

theorem no_split0 : ∀ (a r q : List UInt8), (∀ c ∈ q, c ≠ 0) → a ++ 0 :: r ≠ q := fun a r q hq h => hq 0 (by rw [← h]; simp) rfl

theorem word_of (n : Int) (hn : -2147483648 ≤ n ∧ n ≤ 2147483647) {b0 b1 b2 b3 : UInt8} {r q : List UInt8} (h : wordBytes n ++ r = b0 :: b1 :: b2 :: b3 :: q) :
    (((((b0.toNat : Int) * 256 + b1.toNat) * 256 + b2.toNat) * 256 + b3.toNat) + -2147483648) = n ∧ r = q := by
  simp only [wordBytes, List.cons_append, List.nil_append, List.cons.injEq] at h
  obtain ⟨h0, h1, h2, h3, h4⟩ := h
  have k0 := byteAt_val (n + 2147483648) 0
  have k1 := byteAt_val (n + 2147483648) 1
  have k2 := byteAt_val (n + 2147483648) 2
  have k3 := byteAt_val (n + 2147483648) 3
  rw [h0] at k0
  rw [h1] at k1
  rw [h2] at k2
  rw [h3] at k3
  simp at k0 k1 k2 k3
  exact ⟨by omega, h4⟩

theorem chars_no0 {s : ByteArray} (h : charsB s = true) : ∀ c ∈ s.data.toList, c ≠ 0 := by
  intro c hc e
  have := List.all_eq_true.1 h c hc
  subst e
  simp [byteB] at this

/-- The first byte of a key. -/
theorem keyB_head4 (y : V) : ∃ b t, y.keyB = b :: t ∧ 1 ≤ b.toNat ∧ b.toNat ≤ 4 := by
  cases y with
  | mk k n s a cap l =>
  by_cases k1 : k = 1
  · exact ⟨2, _, by simp [V.keyB, k1]; rfl, by decide, by decide⟩
  by_cases k2 : k = 2
  · exact ⟨3, _, by simp [V.keyB, k2]; rfl, by decide, by decide⟩
  by_cases k3 : k = 3
  · exact ⟨4, _, by simp [V.keyB, k3]; rfl, by decide, by decide⟩
  · exact ⟨1, _, by simp [V.keyB, k1, k2, k3]; rfl, by decide, by decide⟩

theorem keyBL_head (ys : List V) (r : List UInt8) (h : ys ≠ []) : (V.keyBL ys ++ 0 :: r).head? ≠ some 0 := by
  cases ys with
  | nil => exact absurd rfl h
  | cons y ys =>
    obtain ⟨b, t, hb, h1, h2⟩ := keyB_head4 y
    simp [V.keyBL, hb]
    intro e
    subst e
    simp at h1

/-- Its key is read as a value that is the same. -/
def KeyedP (y : V) : Prop := ∀ (r : List UInt8) o, PK (y.keyB ++ r) o → ∃ y', o = some (y', r) ∧ y'.same y = true

theorem pkl_all : ∀ (ys : List V) (j : Nat), j + ys.length ≤ 8 → (∀ y ∈ ys, KeyedP y) → ∀ (r : List UInt8) o, PKL j (V.keyBL ys ++ 0 :: r) o → ∃ ys', o = some (ys', r) ∧ V.sameL ys' ys = true
  | [], j, _, _, r, o, h => by
    rcases pkl_inv h with ⟨r', h1, rfl⟩ | ⟨h1, -⟩ | ⟨h1, -⟩
    · simp only [V.keyBL, List.nil_append, List.cons.injEq, true_and] at h1
      exact ⟨[], by rw [h1], by simp [V.sameL]⟩
    · exact absurd rfl h1
    · exact absurd rfl h1
  | y :: ys, j, hl, hy, r, o, h => by
    have hl' : j + (ys.length + 1) ≤ 8 := hl
    have hh := keyBL_head (y :: ys) r (by simp)
    rcases pkl_inv h with ⟨r', h1, rfl⟩ | ⟨h1, h2, -⟩ | ⟨-, h2, h3⟩
    · rw [h1] at hh; simp at hh
    · omega
    · rw [V.keyBL, List.append_assoc] at h3
      rcases h3 with ⟨h3, -⟩ | ⟨x, r1, o', h3, h4, rfl⟩
      · obtain ⟨y', h5, -⟩ := hy y (by simp) _ _ h3
        cases h5
      · obtain ⟨y', h5, hs⟩ := hy y (by simp) _ _ h3
        injection h5 with h5
        injection h5 with h6 h7
        subst h6 h7
        obtain ⟨ys', rfl, hs'⟩ := pkl_all ys (j + 1) (by omega) (fun z hz => hy z (by simp [hz])) r o' h4
        exact ⟨x :: ys', rfl, by simp [V.sameL, hs, hs']⟩

theorem pk_all : ∀ (N : Nat) (y : V) (d : Nat), y.rank ≤ N → y.sh d = true → KeyedP y := by
  intro N
  induction N with
  | zero => intro y d h; have := y.rank_pos; omega
  | succ N IH =>
    intro y d hN hsh r o h
    cases y with
    | mk k n s a cap l =>
    by_cases k1 : k = 1
    · subst k1
      obtain ⟨rfl, rfl, -, hc⟩ := sh_text hsh
      have e : (V.mk 1 0 s a cap []).keyB ++ r = 2 :: (s.data.toList ++ 0 :: r) := by simp [V.keyB]
      rw [e] at h
      rcases pk_inv h with ⟨_, _, _, _, _, h1, -⟩ | ⟨_, h1, -⟩ | ⟨t, q, h1, h2, rfl⟩ | ⟨q, h1, h2, -⟩ | ⟨_, _, h1, -⟩ | ⟨h1, -⟩ | ⟨_, _, _, h1, -⟩ | ⟨h1, -⟩
      · simp at h1
      · simp at h1
      · simp only [List.cons.injEq, true_and] at h1
        obtain ⟨rfl, rfl⟩ := split0 _ _ _ _ (chars_no0 hc) h2 h1
        exact ⟨_, rfl, by simp [V.same, V.sameL]⟩
      · simp only [List.cons.injEq, true_and] at h1
        exact absurd h1 (no_split0 _ _ _ h2)
      · simp at h1
      · simp at h1
      · simp at h1
      · have := h1 2 rfl; simp at this
    by_cases k2 : k = 2
    · subst k2
      obtain ⟨rfl, rfl, hl8, d', rfl, hl⟩ := sh_tuple hsh
      have e : (V.mk 2 0 ⟨#[]⟩ a cap l).keyB ++ r = 3 :: (V.keyBL l ++ 0 :: r) := by simp [V.keyB]
      rw [e] at h
      have part : ∀ x ∈ l, KeyedP x := fun x hx => by
        obtain ⟨j, hj⟩ := List.getElem?_of_mem hx
        have := V.rank_part (v := .mk 2 0 ⟨#[]⟩ a cap l) (j := j) (x := x) hj
        exact IH x d' (by omega) (shLK_at hl hj)
      rcases pk_inv h with ⟨_, _, _, _, _, h1, -⟩ | ⟨_, h1, -⟩ | ⟨_, _, h1, -⟩ | ⟨_, h1, -⟩ | ⟨q, o', h1, h2, rfl⟩ | ⟨h1, -⟩ | ⟨_, _, _, h1, -⟩ | ⟨h1, -⟩
      · simp at h1
      · simp at h1
      · simp at h1
      · simp at h1
      · simp only [List.cons.injEq, true_and] at h1
        subst h1
        obtain ⟨ys', rfl, hs⟩ := pkl_all l 0 (by omega) part r o' h2
        exact ⟨_, rfl, by simp [V.same, hs]⟩
      · simp at h1
      · simp at h1
      · have := h1 3 rfl; simp at this
    by_cases k3 : k = 3
    · subst k3
      obtain ⟨hn0, hn8, rfl, x, d', rfl, rfl, hx⟩ := sh_tag hsh
      have e : (V.mk 3 n ⟨#[]⟩ a cap [x]).keyB ++ r = 4 :: UInt8.ofNat (n + 1).toNat :: (x.keyB ++ r) := by simp [V.keyB, V.keyBH]
      rw [e] at h
      have hrk := V.rank_part (v := .mk 3 n ⟨#[]⟩ a cap [x]) (j := 0) (x := x) rfl
      rcases pk_inv h with ⟨_, _, _, _, _, h1, -⟩ | ⟨_, h1, -⟩ | ⟨_, _, h1, -⟩ | ⟨_, h1, -⟩ | ⟨_, _, h1, -⟩ | ⟨h1, -⟩ | ⟨b, q, o', h1, h2, rfl⟩ | ⟨h1, -⟩
      · simp at h1
      · simp at h1
      · simp at h1
      · simp at h1
      · simp at h1
      · simp at h1
      · simp only [List.cons.injEq, true_and] at h1
        obtain ⟨rfl, rfl⟩ := h1
        obtain ⟨y', rfl, hs⟩ := IH x d' (by omega) hx r o' h2
        refine ⟨_, rfl, ?_⟩
        have e1 : ((UInt8.ofNat (n + 1).toNat).toNat : Int) - 1 = n := by simp; omega
        simp [V.same, V.sameL, hs]
        omega
      · have := h1 4 rfl; simp at this
    · obtain ⟨rfl, hn1, hn2, rfl, rfl⟩ := sh_word hsh k1 k2 k3
      have e : (V.mk 0 n ⟨#[]⟩ a cap []).keyB ++ r = 1 :: (wordBytes n ++ r) := by simp [V.keyB]
      rw [e] at h
      rcases pk_inv h with ⟨b0, b1, b2, b3, q, h1, rfl⟩ | ⟨q, h1, h2, -⟩ | ⟨_, _, h1, -⟩ | ⟨_, h1, -⟩ | ⟨_, _, h1, -⟩ | ⟨h1, -⟩ | ⟨_, _, _, h1, -⟩ | ⟨h1, -⟩
      · simp only [List.cons.injEq, true_and] at h1
        obtain ⟨h2, rfl⟩ := word_of n ⟨hn1, hn2⟩ h1
        exact ⟨_, rfl, by simp [V.same, V.sameL, h2]⟩
      · simp only [List.cons.injEq, true_and] at h1
        rw [← h1] at h2
        simp [wordBytes] at h2
        omega
      · simp at h1
      · simp at h1
      · simp at h1
      · simp at h1
      · simp at h1
      · have := h1 1 rfl; simp at this

mutual
/-- What the specification's reader makes of the bytes of a key, at most so deep: a value and what is behind it, or nothing. -/
inductive KD : Nat → List UInt8 → Option (V × List UInt8) → Prop
  | zero {l : List UInt8} : KD 0 l none
  | short {d : Nat} {l : List UInt8} : l.length < 2 → KD d l none
  | word {d : Nat} {b0 b1 b2 b3 : UInt8} {r : List UInt8} : KD (d + 1) (1 :: b0 :: b1 :: b2 :: b3 :: r) (some (.mk 0 (((((b0.toNat : Int) * 256 + b1.toNat) * 256 + b2.toNat) * 256 + b3.toNat) + -2147483648) ⟨#[]⟩ none 0 [], r))
  | word0 {d : Nat} {r : List UInt8} : r.length < 4 → KD d (1 :: r) none
  | text {d : Nat} {t r : List UInt8} : (∀ c ∈ t, c ≠ 0) → KD (d + 1) (2 :: (t ++ 0 :: r)) (some (.mk 1 0 ⟨t.toArray⟩ none 0 [], r))
  | text0 {d : Nat} {r : List UInt8} : (∀ c ∈ r, c ≠ 0) → KD d (2 :: r) none
  | tuple {d : Nat} {r : List UInt8} {o : Option (List V × List UInt8)} : KDL d r o → KD (d + 1) (3 :: r) (o.map fun x => (.mk 2 0 ⟨#[]⟩ none 0 x.1, x.2))
  | tag {d : Nat} {b : UInt8} {r : List UInt8} {o : Option (V × List UInt8)} : KD d r o → KD (d + 1) (4 :: b :: r) (o.map fun x => (.mk 3 ((b.toNat : Int) - 1) ⟨#[]⟩ none 0 [x.1], x.2))
  | bad {d : Nat} {l : List UInt8} : (∀ b, l.head? = some b → b.toNat = 0 ∨ 5 ≤ b.toNat) → KD d l none
/-- The parts of a tuple. -/
inductive KDL : Nat → List UInt8 → Option (List V × List UInt8) → Prop
  | done {d : Nat} {r : List UInt8} : KDL d (0 :: r) (some ([], r))
  | gone {d : Nat} : KDL d [] none
  | part0 {d : Nat} {l : List UInt8} : l.head? ≠ some 0 → KD d l none → KDL d l none
  | part1 {d : Nat} {l r : List UInt8} {x : V} {o : Option (List V × List UInt8)} : l.head? ≠ some 0 → KD d l (some (x, r)) → KDL d r o → KDL d l (o.map fun y => (x :: y.1, y.2))
end

theorem kd_inv {d : Nat} {l : List UInt8} {o : Option (V × List UInt8)} (h : KD d l o) :
    ((d = 0 ∨ l.length < 2) ∧ o = none) ∨ ∃ d', (d = d' + 1 ∨ o = none) ∧ (
    (∃ b0 b1 b2 b3 r, l = 1 :: b0 :: b1 :: b2 :: b3 :: r ∧ o = some (.mk 0 (((((b0.toNat : Int) * 256 + b1.toNat) * 256 + b2.toNat) * 256 + b3.toNat) + -2147483648) ⟨#[]⟩ none 0 [], r)) ∨
    (∃ r, l = 1 :: r ∧ r.length < 4 ∧ o = none) ∨
    (∃ t r, l = 2 :: (t ++ 0 :: r) ∧ (∀ c ∈ t, c ≠ 0) ∧ o = some (.mk 1 0 ⟨t.toArray⟩ none 0 [], r)) ∨
    (∃ r, l = 2 :: r ∧ (∀ c ∈ r, c ≠ 0) ∧ o = none) ∨
    (∃ r o', d = d' + 1 ∧ l = 3 :: r ∧ KDL d' r o' ∧ o = o'.map fun x => (.mk 2 0 ⟨#[]⟩ none 0 x.1, x.2)) ∨
    (∃ b r o', d = d' + 1 ∧ l = 4 :: b :: r ∧ KD d' r o' ∧ o = o'.map fun x => (.mk 3 ((b.toNat : Int) - 1) ⟨#[]⟩ none 0 [x.1], x.2)) ∨
    ((∀ b, l.head? = some b → b.toNat = 0 ∨ 5 ≤ b.toNat) ∧ o = none)) := by
  cases h with
  | zero => exact .inl ⟨.inl rfl, rfl⟩
  | short h => exact .inl ⟨.inr h, rfl⟩
  | word => exact .inr ⟨_, .inl rfl, .inl ⟨_, _, _, _, _, rfl, rfl⟩⟩
  | word0 h => exact .inr ⟨0, .inr rfl, .inr (.inl ⟨_, rfl, h, rfl⟩)⟩
  | text h => exact .inr ⟨_, .inl rfl, .inr (.inr (.inl ⟨_, _, rfl, h, rfl⟩))⟩
  | text0 h => exact .inr ⟨0, .inr rfl, .inr (.inr (.inr (.inl ⟨_, rfl, h, rfl⟩)))⟩
  | tuple h => exact .inr ⟨_, .inl rfl, .inr (.inr (.inr (.inr (.inl ⟨_, _, rfl, rfl, h, rfl⟩))))⟩
  | tag h => exact .inr ⟨_, .inl rfl, .inr (.inr (.inr (.inr (.inr (.inl ⟨_, _, _, rfl, rfl, h, rfl⟩)))))⟩
  | bad h => exact .inr ⟨0, .inr rfl, .inr (.inr (.inr (.inr (.inr (.inr ⟨h, rfl⟩)))))⟩

theorem kdl_inv {d : Nat} {l : List UInt8} {o : Option (List V × List UInt8)} (h : KDL d l o) :
    (∃ r, l = 0 :: r ∧ o = some ([], r)) ∨ (l = [] ∧ o = none) ∨
    (l.head? ≠ some 0 ∧ ((KD d l none ∧ o = none) ∨ ∃ x r o', KD d l (some (x, r)) ∧ KDL d r o' ∧ o = o'.map fun y => (x :: y.1, y.2))) := by
  cases h with
  | done => exact .inl ⟨_, rfl, rfl⟩
  | gone => exact .inr (.inl ⟨rfl, rfl⟩)
  | part0 h1 h2 => exact .inr (.inr ⟨h1, .inl ⟨h2, rfl⟩⟩)
  | part1 h1 h2 h3 => exact .inr (.inr ⟨h1, .inr ⟨_, _, _, h2, h3, rfl⟩⟩)

mutual
theorem kd_sound : ∀ {d : Nat} {l : List UInt8} {o : Option (V × List UInt8)}, KD d l o → ∀ (y : V) (r : List UInt8), o = some (y, r) → l = y.keyB ++ r
  | _, _, _, .zero, _, _, h => by cases h
  | _, _, _, .short _, _, _, h => by cases h
  | _, _, _, .word, y, r, h => by
    simp only [Option.some.injEq, Prod.mk.injEq] at h
    obtain ⟨rfl, rfl⟩ := h
    simp [V.keyB, word_bytes]
  | _, _, _, .word0 _, _, _, h => by cases h
  | _, _, _, .text _, y, r, h => by
    simp only [Option.some.injEq, Prod.mk.injEq] at h
    obtain ⟨rfl, rfl⟩ := h
    simp [V.keyB]
  | _, _, _, .text0 _, _, _, h => by cases h
  | _, _, _, .tuple (o := o) hl, y, r, h => by
    cases o with
    | none => cases h
    | some x =>
      simp only [Option.map_some, Option.some.injEq, Prod.mk.injEq] at h
      obtain ⟨rfl, rfl⟩ := h
      have := kdl_sound hl x.1 x.2 rfl
      simp [V.keyB, this]
  | _, _, _, .tag (b := b) (o := o) hk, y, r, h => by
    cases o with
    | none => cases h
    | some x =>
      simp only [Option.map_some, Option.some.injEq, Prod.mk.injEq] at h
      obtain ⟨rfl, rfl⟩ := h
      have := kd_sound hk x.1 x.2 rfl
      have e : ((b.toNat : Int) - 1 + 1).toNat = b.toNat := by omega
      simp [V.keyB, V.keyBH, this]
  | _, _, _, .bad _, _, _, h => by cases h
theorem kdl_sound : ∀ {d : Nat} {l : List UInt8} {o : Option (List V × List UInt8)}, KDL d l o → ∀ (ys : List V) (r : List UInt8), o = some (ys, r) → l = V.keyBL ys ++ 0 :: r
  | _, _, _, .done, ys, r, h => by
    simp only [Option.some.injEq, Prod.mk.injEq] at h
    obtain ⟨rfl, rfl⟩ := h
    simp [V.keyBL]
  | _, _, _, .gone, _, _, h => by cases h
  | _, _, _, .part0 _ _, _, _, h => by cases h
  | _, _, _, .part1 (o := o) _ hk hl, ys, r, h => by
    cases o with
    | none => cases h
    | some x =>
      simp only [Option.map_some, Option.some.injEq, Prod.mk.injEq] at h
      obtain ⟨rfl, rfl⟩ := h
      have h1 := kd_sound hk _ _ rfl
      have h2 := kdl_sound hl x.1 x.2 rfl
      rw [h1, h2]
      simp [V.keyBL]
end

/-- The specification reads its key, so deep, as a value that is the same. -/
def KeyedD (d : Nat) (y : V) : Prop := ∀ (r : List UInt8) o, KD d (y.keyB ++ r) o → ∃ y', o = some (y', r) ∧ y'.same y = true

theorem kdl_all {d : Nat} : ∀ (ys : List V), (∀ y ∈ ys, KeyedD d y) → ∀ (r : List UInt8) o, KDL d (V.keyBL ys ++ 0 :: r) o → ∃ ys', o = some (ys', r) ∧ V.sameL ys' ys = true
  | [], _, r, o, h => by
    rcases kdl_inv h with ⟨r', h1, rfl⟩ | ⟨h1, -⟩ | ⟨h1, -⟩
    · simp only [V.keyBL, List.nil_append, List.cons.injEq, true_and] at h1
      exact ⟨[], by rw [h1], by simp [V.sameL]⟩
    · simp at h1
    · exact absurd rfl h1
  | y :: ys, hy, r, o, h => by
    have hh := keyBL_head (y :: ys) r (by simp)
    rcases kdl_inv h with ⟨r', h1, rfl⟩ | ⟨h1, -⟩ | ⟨-, h3⟩
    · rw [h1] at hh; simp at hh
    · simp at h1
    · rw [V.keyBL, List.append_assoc] at h3
      rcases h3 with ⟨h3, -⟩ | ⟨x, r1, o', h3, h4, rfl⟩
      · obtain ⟨y', h5, -⟩ := hy y (by simp) _ _ h3
        cases h5
      · obtain ⟨y', h5, hs⟩ := hy y (by simp) _ _ h3
        injection h5 with h5
        injection h5 with h6 h7
        subst h6 h7
        obtain ⟨ys', rfl, hs'⟩ := kdl_all ys (fun z hz => hy z (by simp [hz])) r o' h4
        exact ⟨x :: ys', rfl, by simp [V.sameL, hs, hs']⟩

theorem keyB_len (y : V) (d : Nat) (h : y.sh d = true) : 2 ≤ y.keyB.length := by
  cases y with
  | mk k n s a cap l =>
  by_cases k1 : k = 1
  · simp [V.keyB, k1]
  by_cases k2 : k = 2
  · simp [V.keyB, k2]
  by_cases k3 : k = 3
  · simp [V.keyB, k3]
  · simp [V.keyB, k1, k2, k3, wordBytes]

theorem kd_all : ∀ (d : Nat) (y : V), y.sh d = true → KeyedD d y := by
  intro d
  induction d with
  | zero => intro y h; cases y; simp [V.sh] at h
  | succ d IH =>
    intro y hsh r o h
    have hlen := keyB_len y _ hsh
    cases y with
    | mk k n s a cap l =>
    rcases kd_inv h with ⟨h1 | h1, -⟩ | ⟨d', hd, h0⟩
    · omega
    · simp at h1; omega
    by_cases k1 : k = 1
    · subst k1
      obtain ⟨rfl, rfl, -, hc⟩ := sh_text hsh
      have e : (V.mk 1 0 s a cap []).keyB ++ r = 2 :: (s.data.toList ++ 0 :: r) := by simp [V.keyB]
      rw [e] at h0
      rcases h0 with ⟨_, _, _, _, _, h1, -⟩ | ⟨_, h1, -⟩ | ⟨t, q, h1, h2, rfl⟩ | ⟨q, h1, h2, -⟩ | ⟨_, _, -, h1, -⟩ | ⟨_, _, _, -, h1, -⟩ | ⟨h1, -⟩
      · simp at h1
      · simp at h1
      · simp only [List.cons.injEq, true_and] at h1
        obtain ⟨rfl, rfl⟩ := split0 _ _ _ _ (chars_no0 hc) h2 h1
        exact ⟨_, rfl, by simp [V.same, V.sameL]⟩
      · simp only [List.cons.injEq, true_and] at h1
        exact absurd h1 (no_split0 _ _ _ h2)
      · simp at h1
      · simp at h1
      · have := h1 2 rfl; simp at this
    by_cases k2 : k = 2
    · subst k2
      obtain ⟨rfl, rfl, hl8, d2, hd2, hl⟩ := sh_tuple hsh
      obtain rfl : d = d2 := by omega
      have e : (V.mk 2 0 ⟨#[]⟩ a cap l).keyB ++ r = 3 :: (V.keyBL l ++ 0 :: r) := by simp [V.keyB]
      rw [e] at h0
      have part : ∀ x ∈ l, KeyedD d x := fun x hx => by
        obtain ⟨j, hj⟩ := List.getElem?_of_mem hx
        exact IH x (shLK_at hl hj)
      rcases h0 with ⟨_, _, _, _, _, h1, -⟩ | ⟨_, h1, -⟩ | ⟨_, _, h1, -⟩ | ⟨_, h1, -⟩ | ⟨q, o', h3, h1, h2, rfl⟩ | ⟨_, _, _, -, h1, -⟩ | ⟨h1, -⟩
      · simp at h1
      · simp at h1
      · simp at h1
      · simp at h1
      · simp only [List.cons.injEq, true_and] at h1
        subst h1
        obtain rfl : d = d' := by omega
        obtain ⟨ys', rfl, hs⟩ := kdl_all l part r o' h2
        exact ⟨_, rfl, by simp [V.same, hs]⟩
      · simp at h1
      · have := h1 3 rfl; simp at this
    by_cases k3 : k = 3
    · subst k3
      obtain ⟨hn0, hn8, rfl, x, d2, rfl, hd2, hx⟩ := sh_tag hsh
      obtain rfl : d = d2 := by omega
      have e : (V.mk 3 n ⟨#[]⟩ a cap [x]).keyB ++ r = 4 :: UInt8.ofNat (n + 1).toNat :: (x.keyB ++ r) := by simp [V.keyB, V.keyBH]
      rw [e] at h0
      rcases h0 with ⟨_, _, _, _, _, h1, -⟩ | ⟨_, h1, -⟩ | ⟨_, _, h1, -⟩ | ⟨_, h1, -⟩ | ⟨_, _, -, h1, -⟩ | ⟨b, q, o', h3, h1, h2, rfl⟩ | ⟨h1, -⟩
      · simp at h1
      · simp at h1
      · simp at h1
      · simp at h1
      · simp at h1
      · simp only [List.cons.injEq, true_and] at h1
        obtain ⟨rfl, rfl⟩ := h1
        obtain rfl : d = d' := by omega
        obtain ⟨y', rfl, hs⟩ := IH x hx r o' h2
        refine ⟨_, rfl, ?_⟩
        simp [V.same, V.sameL, hs]
        omega
      · have := h1 4 rfl; simp at this
    · obtain ⟨rfl, hn1, hn2, rfl, rfl⟩ := sh_word hsh k1 k2 k3
      have e : (V.mk 0 n ⟨#[]⟩ a cap []).keyB ++ r = 1 :: (wordBytes n ++ r) := by simp [V.keyB]
      rw [e] at h0
      rcases h0 with ⟨b0, b1, b2, b3, q, h1, rfl⟩ | ⟨q, h1, h2, -⟩ | ⟨_, _, h1, -⟩ | ⟨_, h1, -⟩ | ⟨_, _, -, h1, -⟩ | ⟨_, _, _, -, h1, -⟩ | ⟨h1, -⟩
      · simp only [List.cons.injEq, true_and] at h1
        obtain ⟨h2, rfl⟩ := word_of n ⟨hn1, hn2⟩ h1
        exact ⟨_, rfl, by simp [V.same, V.sameL, h2]⟩
      · simp only [List.cons.injEq, true_and] at h1
        rw [← h1] at h2
        simp [wordBytes] at h2
        omega
      · simp at h1
      · simp at h1
      · simp at h1
      · simp at h1
      · have := h1 1 rfl; simp at this

end Go.Proofs.YtkfmgafgokpjhaaGreatDoor
