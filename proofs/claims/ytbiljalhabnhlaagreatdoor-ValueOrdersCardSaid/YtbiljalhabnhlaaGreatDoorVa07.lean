/-
  Proved: the statement ValueOrders (value.Compare answers as the specification's Compare, and the chapter's examples hold, for every two values), as its tied card says it, with no condition beyond the card's own.
  Part 7 of 7.
-/
import Derived.Test.YtbiljalhabnhlaaGreatDoorVa03
import Derived.Test.YtbiljalhabnhlaaGreatDoorVa06
import Derived.Deep.Slices
import Derived.Test.YtbiljalhabnhlaaGreatDoorCards
import Derived.Test.YtbiljalhabnhlaaGreatDoorTie
import Derived.ProofKit
import Derived.OpenShut
import Derived.ReadAgain
import Derived.Deep.Onto
import Derived.Deep.DeepHandedRow
import Derived.Lib.LaidTab
import Derived.Lib.LaidIn
import Derived.Deep.DeepWitnessRowRef
/-
  THE WALKS OF THE TEXT OF A TYPE.
-/
namespace Go.Proofs.YtbiljalhabnhlaaGreatDoor
open Go.RowKit

/-- The texts of a list, with others between. -/
def joinT (f : T → List UInt8) (sep : List UInt8) : List T → List UInt8
  | [] => []
  | [x] => f x
  | x :: y :: ys => f x ++ sep ++ joinT f sep (y :: ys)

theorem joinT_snoc (f : T → List UInt8) (sep : List UInt8) : ∀ (l : List T) (x : T), joinT f sep (l ++ [x]) = if l = [] then f x else joinT f sep l ++ sep ++ f x
  | [], x => by simp [joinT]
  | [y], x => by simp [joinT]
  | y :: z :: zs, x => by
    have ih := joinT_snoc f sep (z :: zs) x
    simp only [List.cons_append, joinT] at ih ⊢
    simp at ih ⊢
    rw [ih]
theorem joinT_pre (f : T → List UInt8) (sep : List UInt8) : ∀ (a b : List T), ∃ r, joinT f sep (a ++ b) = joinT f sep a ++ r
  | [], b => ⟨_, rfl⟩
  | [x], [] => ⟨[], by simp [joinT]⟩
  | [x], y :: ys => ⟨sep ++ joinT f sep (y :: ys), by simp [joinT]⟩
  | x :: y :: ys, b => by
    obtain ⟨r, hr⟩ := joinT_pre f sep (y :: ys) b
    refine ⟨r, ?_⟩
    simp only [List.cons_append, joinT] at hr ⊢
    rw [hr]; simp
theorem joinT_len (f : T → List UInt8) (sep : List UInt8) (l : List T) (j : Nat) : (joinT f sep (l.take j)).length ≤ (joinT f sep l).length := by
  obtain ⟨r, hr⟩ := joinT_pre f sep (l.take j) (l.drop j)
  rw [List.take_append_drop] at hr
  rw [hr]; simp

set_option maxHeartbeats 2000000 in
theorem listTextT (f : T → List UInt8) (w : World) (S b0 off : Nat) (a : Option Addr) (cap : Nat) (l : List T) (xs : List UInt8) (op bt en : ByteArray) (ha : l ≠ [] → a = some ⟨b0, off, none⟩) (hl : l.length ≤ 9223372036854775807) (hs : Sink w S xs)
    (H : ∀ (j : Nat) (x : T), l[j]? = some x → ∀ (w1 : World) (xs1 : List UInt8), Sk S w w1 → Sink w1 S xs1 → xs1.length + (f x).length ≤ 1000000000000 →
      Calls Tryz.prog 70 #[.pointer (some ⟨b0, off + j * 2, none⟩), takeF S] w1 fun e w' => e = .returned (.tuple #[]) ∧ Sink w' S (xs1 ++ f x) ∧ Sk S w1 w')
    (hx : xs.length + op.size + (joinT f bt.data.toList l).length + en.size ≤ 1000000000000) :
    Calls Tryz.prog 111 #[takeF S, .string op, .string bt, .string en, .slice a l.length cap, .func (.func 70) #[] #[]] w fun e w' =>
      e = .returned (.tuple #[]) ∧ Sink w' S (xs ++ op.data.toList ++ joinT f bt.data.toList l ++ en.data.toList) ∧ Sk S w w' := by
  have HS := Lib.hid hs
  have HH := Lib.hid H
  have HX := Lib.hid hx
  have HA := Lib.hid ha
  have zop : op.data.toList.length = op.size := by simp
  have ZOP := Lib.hid zop
  have zbt : bt.data.toList.length = bt.size := by simp
  have ZBT := Lib.hid zbt
  clear hs H hx ha zop zbt
  go_enter Tryz.func111, Tryz.ntmps111
  go_wp2_with fail
  refine (puts_any w S xs op HS.out (by have := HX.out; omega)).mono ?_
  rintro e w1 ⟨rfl, hs1, hk1⟩
  have HS1 := Lib.hid hs1
  have HK1 := Lib.hid hk1
  clear hs1 hk1
  go_wp2_with fail
  go_loopw [18] (fun i wr => ∃ j : Nat, j ≤ l.length ∧ i = .int .i64 j ∧ Sink wr S (xs ++ op.data.toList ++ joinT f bt.data.toList (l.take j)) ∧ Sk S w wr) (fun i _ => l.length - (intOf i).toNat)
  case atStart => exact ⟨0, Nat.zero_le _, rfl, by simpa [joinT] using HS1.out, HK1.out⟩
  case round =>
    obtain ⟨j, hj, rfl, hsk, hk⟩ := hrel
    have HSK := Lib.hid hsk
    have HK := Lib.hid hk
    clear hsk hk
    by_cases hlt : j < l.length
    · obtain ⟨x, hxj⟩ : ∃ x, l[j]? = some x := ⟨l[j], by simp [hlt]⟩
      have HXJ := Lib.hid hxj
      obtain rfl := HA.out (by rintro rfl; simp at hlt)
      have hb := joinT_len f bt.data.toList l (j + 1)
      have hts := take_snocT hxj
      have hjn := joinT_snoc f bt.data.toList (l.take j) x
      rw [← hts] at hjn
      have HB := Lib.hid hb
      have HJ := Lib.hid hjn
      clear hxj hb hts hjn
      by_cases h0 : j = 0
      · subst h0
        have hj1 : joinT f bt.data.toList (l.take (0 + 1)) = f x := by rw [HJ.out]; simp
        have HJ1 := Lib.hid hj1
        clear hj1
        go_wp2_with fail
        refine (HH.out 0 x HXJ.out _ _ HK.out HSK.out (by have := HX.out; have := HB.out; rw [HJ1.out] at this; simp [joinT]; have := ZOP.out; simp at this; omega)).mono ?_
        rintro e w2 ⟨rfl, hs2, hk2⟩
        have HS2 := Lib.hid hs2
        have HK2 := Lib.hid (HK.out.trans hk2)
        clear hs2 hk2
        go_wp2_with fail
        go_roundw
        case rel => exact ⟨1, by omega, by go_num, by have := HS2.out; rw [HJ1.out]; simpa [joinT] using this, HK2.out⟩
        case measure => simp [intOf]; omega
      · have hne : ¬ l.take j = [] := by
          intro h; have := congrArg List.length h; simp at this; rcases this with h | h; omega; subst h; simp at hlt
        have hj1 : joinT f bt.data.toList (l.take (j + 1)) = joinT f bt.data.toList (l.take j) ++ bt.data.toList ++ f x := by rw [HJ.out, if_neg hne]
        have HJ1 := Lib.hid hj1
        have hlen : (xs ++ op.data.toList ++ joinT f bt.data.toList (l.take j)).length + bt.size + (f x).length ≤ 1000000000000 := by
          have h1 := HX.out; have h2 := HB.out; rw [hj1] at h2; have h3 := ZOP.out; have h4 := ZBT.out
          simp only [List.length_append] at h2 ⊢; omega
        have HLEN := Lib.hid hlen
        have hpos : (0 : Int) < (j : Int) := by omega
        clear hj1 hne hlen
        generalize joinT f bt.data.toList (l.take j) = J at *
        go_wp2_with fail
        refine (puts_any _ S _ bt HSK.out (by have := HLEN.out; omega)).mono ?_
        rintro e w2 ⟨rfl, hs2, hk2⟩
        have HS2 := Lib.hid hs2
        have HK2 := Lib.hid (HK.out.trans hk2)
        clear hs2 hk2
        go_wp2_with fail
        refine (HH.out j x HXJ.out _ _ HK2.out HS2.out (by have := HLEN.out; have := ZBT.out; simp only [List.length_append] at *; omega)).mono ?_
        rintro e w3 ⟨rfl, hs3, hk3⟩
        have HS3 := Lib.hid hs3
        have HK3 := Lib.hid (HK2.out.trans hk3)
        clear hs3 hk3
        go_wp2_with fail
        go_roundw
        case rel => exact ⟨j + 1, by omega, by go_num, by have := HS3.out; rw [HJ1.out]; simpa using this, HK3.out⟩
        case measure => simp [intOf]; omega
    · have hjl : j = l.length := by omega
      subst hjl
      rw [List.take_length] at HSK
      generalize hJ : joinT f bt.data.toList l = J at *
      go_wp2_with fail
      refine (puts_any _ S _ en HSK.out (by have := HX.out; have := ZOP.out; simp only [List.length_append] at *; omega)).mono ?_
      rintro e w2 ⟨rfl, hs2, hk2⟩
      have HS2 := Lib.hid hs2
      have HK2 := Lib.hid (HK.out.trans hk2)
      clear hs2 hk2
      go_wp2_with fail
      go_end0
      exact ⟨rfl, by subst hJ; exact HS2.out, HK2.out⟩


mutual
/-- The text of a type. -/
def T.txt : T → List UInt8
  | .mk k _ _ l => if k = 0 then [105, 110, 116] else if k = 1 then [116, 101, 120, 116] else if k = 2 then 40 :: T.txtL [44, 32] l ++ [41] else if k = 3 then 91 :: T.txtL [32, 43, 32] l ++ [93] else []
def T.txtL : List UInt8 → List T → List UInt8
  | _, [] => []
  | sep, x :: xs => match xs with
    | [] => x.txt
    | y :: ys => x.txt ++ sep ++ T.txtL sep (y :: ys)
end
theorem T.txtL_join (sep : List UInt8) : ∀ (l : List T), T.txtL sep l = joinT T.txt sep l
  | [] => by simp [T.txtL, joinT]
  | [x] => by simp [T.txtL, joinT]
  | x :: y :: ys => by
    have := T.txtL_join sep (y :: ys)
    simp only [joinT]
    rw [← this]
    conv => lhs; unfold T.txtL

/-- A type's two cells lie at an address. -/
structure PtrAtT (w : World) (b off : Nat) (k : Int) (sl : Value) : Prop where
  c0 : w.cell? ⟨b, off, none⟩ = some (.int .i64 k)
  c1 : w.cell? ⟨b, off + 1, none⟩ = some sl
theorem PtrAtT.keep {w w' : World} {b off B : Nat} {k : Int} {sl : Value} (h : PtrAtT w b off k sl) (hb : b < B) (hk : Below B w w') : PtrAtT w' b off k sl :=
  ⟨(hk.cell (p := ⟨b, _, none⟩) hb).trans h.c0, (hk.cell (p := ⟨b, _, none⟩) hb).trans h.c1⟩

theorem T.ptrPart {w : World} {B : Nat} {k : Int} {a : Option Addr} {cap : Nat} {l : List T} (hin : (T.mk k a cap l).In w B) (hl : l ≠ []) :
    ∃ b0 off, a = some ⟨b0, off, none⟩ ∧ b0 < B ∧ ∀ (j : Nat) (x : T), l[j]? = some x → PtrAtT w b0 (off + j * 2) x.k (.slice x.a x.l.length x.cap) ∧ x.In w B := by
  rw [T.In_def] at hin
  obtain ⟨_, _, _, hat, hparts⟩ := hin
  simp only [T.l, T.a] at hat hparts
  rcases hat with h | ⟨b0, off, h, hb0, hat⟩
  · exact absurd h hl
  · exact ⟨b0, off, h, hb0, fun j x hx => ⟨⟨(hat j x hx).1, (hat j x hx).2⟩, T.InL_iff.1 hparts j x hx⟩⟩

set_option maxHeartbeats 1000000 in
theorem writeType_int (w : World) (S b off : Nat) (xs : List UInt8) (sl : Value) (hs : Sink w S xs) (hp : PtrAtT w b off 0 sl) (hx : xs.length + 3 ≤ 1000000000000) :
    Calls Tryz.prog 70 #[.pointer (some ⟨b, off, none⟩), takeF S] w fun e w' => e = .returned (.tuple #[]) ∧ Sink w' S (xs ++ [105, 110, 116]) ∧ Sk S w w' := by
  have h0 := hp.c0
  have CC := Lib.hid (puts_any w S xs ⟨#[105, 110, 116]⟩ hs (by simp [ByteArray.size]; omega))
  clear hs hp hx
  go_enter Tryz.func70, Tryz.ntmps70
  go_wp2_with fail
  refine CC.out.mono ?_
  rintro e w2 ⟨rfl, hs2, hk2⟩
  have HK2 := Lib.hid hk2
  have HS2 := Lib.hid hs2
  clear hs2 hk2
  go_wp2_with fail
  go_end0
  exact ⟨rfl, HS2.out, HK2.out⟩

set_option maxHeartbeats 1000000 in
theorem writeType_text (w : World) (S b off : Nat) (xs : List UInt8) (sl : Value) (hs : Sink w S xs) (hp : PtrAtT w b off 1 sl) (hx : xs.length + 4 ≤ 1000000000000) :
    Calls Tryz.prog 70 #[.pointer (some ⟨b, off, none⟩), takeF S] w fun e w' => e = .returned (.tuple #[]) ∧ Sink w' S (xs ++ [116, 101, 120, 116]) ∧ Sk S w w' := by
  have h0 := hp.c0
  have CC := Lib.hid (puts_any w S xs ⟨#[116, 101, 120, 116]⟩ hs (by simp [ByteArray.size]; omega))
  clear hs hp hx
  go_enter Tryz.func70, Tryz.ntmps70
  go_wp2_with fail
  refine CC.out.mono ?_
  rintro e w2 ⟨rfl, hs2, hk2⟩
  have HK2 := Lib.hid hk2
  have HS2 := Lib.hid hs2
  clear hs2 hk2
  go_wp2_with fail
  go_end0
  exact ⟨rfl, HS2.out, HK2.out⟩

set_option maxHeartbeats 1000000 in
theorem writeType_tuple (w : World) (S b off : Nat) (xs E : List UInt8) (a : Option Addr) (len cap : Nat) (hp : PtrAtT w b off 2 (.slice a len cap))
    (C : Calls Tryz.prog 111 #[takeF S, .string ⟨#[40]⟩, .string ⟨#[44, 32]⟩, .string ⟨#[41]⟩, .slice a len cap, .func (.func 70) #[] #[]] w fun e w' => e = .returned (.tuple #[]) ∧ Sink w' S (xs ++ E) ∧ Sk S w w') :
    Calls Tryz.prog 70 #[.pointer (some ⟨b, off, none⟩), takeF S] w fun e w' => e = .returned (.tuple #[]) ∧ Sink w' S (xs ++ E) ∧ Sk S w w' := by
  have h0 := hp.c0
  have h1 := hp.c1
  have CC := Lib.hid C
  clear C hp
  go_enter Tryz.func70, Tryz.ntmps70
  go_wp2_with fail
  refine CC.out.mono ?_
  rintro e w2 ⟨rfl, hs2, hk2⟩
  have HK2 := Lib.hid hk2
  have HS2 := Lib.hid hs2
  clear hs2 hk2
  go_wp2_with fail
  go_end0
  exact ⟨rfl, HS2.out, HK2.out⟩

set_option maxHeartbeats 1000000 in
theorem writeType_sum (w : World) (S b off : Nat) (xs E : List UInt8) (a : Option Addr) (len cap : Nat) (hp : PtrAtT w b off 3 (.slice a len cap))
    (C : Calls Tryz.prog 111 #[takeF S, .string ⟨#[91]⟩, .string ⟨#[32, 43, 32]⟩, .string ⟨#[93]⟩, .slice a len cap, .func (.func 70) #[] #[]] w fun e w' => e = .returned (.tuple #[]) ∧ Sink w' S (xs ++ E) ∧ Sk S w w') :
    Calls Tryz.prog 70 #[.pointer (some ⟨b, off, none⟩), takeF S] w fun e w' => e = .returned (.tuple #[]) ∧ Sink w' S (xs ++ E) ∧ Sk S w w' := by
  have h0 := hp.c0
  have h1 := hp.c1
  have CC := Lib.hid C
  clear C hp
  go_enter Tryz.func70, Tryz.ntmps70
  go_wp2_with fail
  refine CC.out.mono ?_
  rintro e w2 ⟨rfl, hs2, hk2⟩
  have HK2 := Lib.hid hk2
  have HS2 := Lib.hid hs2
  clear hs2 hk2
  go_wp2_with fail
  go_end0
  exact ⟨rfl, HS2.out, HK2.out⟩

set_option maxHeartbeats 1000000 in
theorem writeType_none (w : World) (S b off : Nat) (xs : List UInt8) (k : Int) (sl : Value) (hs : Sink w S xs) (hp : PtrAtT w b off k sl) (h : ¬ k = 0 ∧ ¬ k = 1 ∧ ¬ k = 2 ∧ ¬ k = 3) :
    Calls Tryz.prog 70 #[.pointer (some ⟨b, off, none⟩), takeF S] w fun e w' => e = .returned (.tuple #[]) ∧ Sink w' S (xs ++ []) ∧ Sk S w w' := by
  have h0 := hp.c0
  have HS := Lib.hid hs
  have g0 : (k == 0) = false := by simpa using h.1
  have g1 : (k == 1) = false := by simpa using h.2.1
  have g2 : (k == 2) = false := by simpa using h.2.2.1
  have g3 : (k == 3) = false := by simpa using h.2.2.2
  clear hs hp h
  go_enter Tryz.func70, Tryz.ntmps70
  go_wp2_with fail
  go_end0
  exact ⟨rfl, by simpa using HS.out, Sk.refl _ _⟩

theorem textT : ∀ (N : Nat) (v : T) (w : World) (S b off : Nat) (xs : List UInt8), v.rank ≤ N → v.In w S → PtrAtT w b off v.k (.slice v.a v.l.length v.cap) → b < S → Sink w S xs → xs.length + v.txt.length ≤ 1000000000000 →
    Calls Tryz.prog 70 #[.pointer (some ⟨b, off, none⟩), takeF S] w fun e w' => e = .returned (.tuple #[]) ∧ Sink w' S (xs ++ v.txt) ∧ Sk S w w' := by
  intro N
  induction N with
  | zero => intro v w S b off xs h; have := v.rank_pos; omega
  | succ N ih =>
    intro v w S b off xs hN hin hp hb hs hx
    cases v with
    | mk k a cap l =>
    simp only [T.k, T.a, T.l, T.cap] at hp
    have hll := T.lenLe hin
    have part : ∀ (b0 off0 : Nat), (∀ (j : Nat) (x : T), l[j]? = some x → PtrAtT w b0 (off0 + j * 2) x.k (.slice x.a x.l.length x.cap) ∧ x.In w S) → b0 < S →
        ∀ (j : Nat) (x : T), l[j]? = some x → ∀ (w1 : World) (xs1 : List UInt8), Sk S w w1 → Sink w1 S xs1 → xs1.length + x.txt.length ≤ 1000000000000 →
          Calls Tryz.prog 70 #[.pointer (some ⟨b0, off0 + j * 2, none⟩), takeF S] w1 fun e w' => e = .returned (.tuple #[]) ∧ Sink w' S (xs1 ++ x.txt) ∧ Sk S w1 w' := by
      intro b0 off0 hpt hb0 j x hj w1 xs1 hk1 hs1 hx1
      have hrk := T.rank_part (v := .mk k a cap l) (j := j) (x := x) hj
      have hbl := hk1.below hs
      exact ih x w1 S b0 (off0 + j * 2) xs1 (by omega) ((hpt j x hj).2.keep (Nat.le_refl _) hbl) ((hpt j x hj).1.keep hb0 hbl) hb0 hs1 hx1
    by_cases h0 : k = 0
    · subst h0
      have e : (T.mk 0 a cap l).txt = [105, 110, 116] := by simp [T.txt]
      rw [e] at hx ⊢
      exact writeType_int w S b off xs _ hs hp (by simpa using hx)
    by_cases h1 : k = 1
    · subst h1
      have e : (T.mk 1 a cap l).txt = [116, 101, 120, 116] := by simp [T.txt]
      rw [e] at hx ⊢
      exact writeType_text w S b off xs _ hs hp (by simpa using hx)
    by_cases h2 : k = 2
    · subst h2
      have e : (T.mk 2 a cap l).txt = 40 :: joinT T.txt [44, 32] l ++ [41] := by simp [T.txt, T.txtL_join]
      rw [e] at hx ⊢
      refine writeType_tuple w S b off xs _ a l.length cap hp ?_
      by_cases hl : l = []
      · simpa using listTextT T.txt w S 0 0 a cap l xs ⟨#[40]⟩ ⟨#[44, 32]⟩ ⟨#[41]⟩ (fun h => absurd hl h) hll hs (fun j x hj => by subst hl; simp at hj) (by simp at hx; simp [ByteArray.size]; omega)
      · obtain ⟨b0, off0, ha, hb0, hpt⟩ := T.ptrPart hin hl
        simpa using listTextT T.txt w S b0 off0 a cap l xs ⟨#[40]⟩ ⟨#[44, 32]⟩ ⟨#[41]⟩ (fun _ => ha) hll hs (part b0 off0 hpt hb0) (by simp at hx; simp [ByteArray.size]; omega)
    by_cases h3 : k = 3
    · subst h3
      have e : (T.mk 3 a cap l).txt = 91 :: joinT T.txt [32, 43, 32] l ++ [93] := by simp [T.txt, T.txtL_join]
      rw [e] at hx ⊢
      refine writeType_sum w S b off xs _ a l.length cap hp ?_
      by_cases hl : l = []
      · simpa using listTextT T.txt w S 0 0 a cap l xs ⟨#[91]⟩ ⟨#[32, 43, 32]⟩ ⟨#[93]⟩ (fun h => absurd hl h) hll hs (fun j x hj => by subst hl; simp at hj) (by simp at hx; simp [ByteArray.size]; omega)
      · obtain ⟨b0, off0, ha, hb0, hpt⟩ := T.ptrPart hin hl
        simpa using listTextT T.txt w S b0 off0 a cap l xs ⟨#[91]⟩ ⟨#[32, 43, 32]⟩ ⟨#[93]⟩ (fun _ => ha) hll hs (part b0 off0 hpt hb0) (by simp at hx; simp [ByteArray.size]; omega)
    have e : (T.mk k a cap l).txt = [] := by simp [T.txt, h0, h1, h2, h3]
    rw [e]
    exact writeType_none w S b off xs k _ hs hp ⟨h0, h1, h2, h3⟩

set_option maxHeartbeats 1000000 in
theorem typeText (k : Int) (a : Option Addr) (cap : Nat) (l : List T) (w : World) (hin : (T.mk k a cap l).In w w.heap.size) (hc : ¬ (T.mk k a cap l).cnt = 0) (hne : (T.mk k a cap l).txt ≠ [])
    (hx : (T.mk k a cap l).txt.length ≤ 1000000000000) :
    Calls Tryz.prog 29 #[.agg #[.int .i64 k, .slice a l.length cap]] w fun e w' =>
      e = .returned (.tuple #[.string ⟨(T.mk k a cap l).txt.toArray⟩, .int .i64 0]) ∧ Kp w w' := by
  have C := fun w1 (h : Kp w w1) => typeV k a cap l w1 (hin.keep h.size h)
  rw [bad1 hc] at C
  have CC := Lib.hid C
  have D : ∀ (w1 : World) (S b : Nat), Kp w w1 → w.heap.size ≤ S → PtrAtT w1 b 0 k (.slice a l.length cap) → b < S → Sink w1 S [] →
      Calls Tryz.prog 70 #[.pointer (some ⟨b, 0, none⟩), takeF S] w1 fun e w' => e = .returned (.tuple #[]) ∧ Sink w' S (T.mk k a cap l).txt ∧ Sk S w1 w' := by
    intro w1 S b hk hS hp hb hs
    simpa using textT _ (.mk k a cap l) w1 S b 0 [] (Nat.le_refl _) (hin.keep hS hk) hp hb hs (by simpa using hx)
  have DD := Lib.hid D
  have HNE := Lib.hid hne
  generalize (T.mk k a cap l).txt = E at *
  clear C D hin hc hx hne
  go_enter Tryz.func29, Tryz.ntmps29
  go_wp2_with fail
  refine (CC.out _ (ka _ _)).mono ?_
  rintro e w1 ⟨rfl, hk⟩
  obtain ⟨b0, b1, hz⟩ := box2 hk
  have HK := Lib.hid (kk (ka _ _) hk)
  have HP := Lib.hid (⟨b0, b1⟩ : PtrAtT w1 w.heap.size 0 k (.slice a l.length cap))
  clear hk b0 b1
  go_wp2_with fail
  refine (DD.out _ w1.heap.size w.heap.size (kk HK.out (ka _ _)) (by omega) (HP.out.keep hz (ka _ _)) hz ⟨.slice none 0 0, blockHere rfl, World.ownsRow_nil _ _ _ _⟩).mono ?_
  rintro e w3 ⟨rfl, hs3, hk3⟩
  obtain ⟨g, cap3, hc3, hcv⟩ := hs3.out HNE.out
  have HK3 := Lib.hid (HK.out.trans ((Below.alloc (Below.refl _ _) (by omega) _).trans ((hk3.below (S := w1.heap.size) (xs := []) ⟨.slice none 0 0, blockHere rfl, World.ownsRow_nil _ _ _ _⟩).mono (by omega))))
  clear hs3 hk3
  go_wp2_with fail
  go_ret2
  exact ⟨rfl, HK3.out⟩

end Go.Proofs.YtbiljalhabnhlaaGreatDoor

/-
  THE WALKS OF SameValue AND SameValues, by recursion.
-/
namespace Go.Proofs.YtbiljalhabnhlaaGreatDoor
open Go.RowKit

mutual
/-- Are two values the same? -/
def V.same : V → V → Bool
  | .mk k n s _ _ l, .mk k' n' s' _ _ l' => decide (k = k') && (decide (n = n') && (decide (s.toList = s'.toList) && V.sameL l l'))
def V.sameL : List V → List V → Bool
  | [], [] => true
  | x :: xs, y :: ys => x.same y && V.sameL xs ys
  | _, _ => false
end

theorem V.sameL_len : ∀ {l m : List V}, V.sameL l m = true → l.length = m.length
  | [], [], _ => rfl
  | x :: xs, y :: ys, h => by simp [V.sameL] at h; simp [V.sameL_len h.2]
  | [], _ :: _, h => by simp [V.sameL] at h
  | _ :: _, [], h => by simp [V.sameL] at h

/-- Two lists are the same up to a place. -/
def SameUpto (l m : List V) (j : Nat) : Prop := ∀ i x y, i < j → l[i]? = some x → m[i]? = some y → x.same y = true
theorem SameUpto.succ {l m : List V} {j : Nat} {x y : V} (h : SameUpto l m j) (hx : l[j]? = some x) (hy : m[j]? = some y) (h0 : x.same y = true) : SameUpto l m (j + 1) := by
  intro i a b hi ha hb
  rcases Nat.lt_succ_iff_lt_or_eq.1 hi with h1 | rfl
  · exact h i a b h1 ha hb
  · rw [hx] at ha; rw [hy] at hb; cases ha; cases hb; exact h0
theorem SameUpto.all : ∀ {l m : List V}, l.length = m.length → SameUpto l m l.length → V.sameL l m = true
  | [], [], _, _ => rfl
  | x :: xs, y :: ys, hl, h => by
    simp only [V.sameL, h 0 x y (by simp) (by simp) (by simp), Bool.true_and]
    exact SameUpto.all (by simpa using hl) fun i a b hi ha hb => h (i + 1) a b (by simpa using hi) (by simpa using ha) (by simpa using hb)
  | [], _ :: _, hl, _ => by simp at hl
  | _ :: _, [], hl, _ => by simp at hl
theorem V.sameL_not : ∀ {l m : List V} {j : Nat} {x y : V}, l[j]? = some x → m[j]? = some y → x.same y = false → V.sameL l m = false
  | [], _, _, _, _, h, _, _ => by simp at h
  | _, [], _, _, _, _, h, _ => by simp at h
  | x :: xs, y :: ys, 0, a, b, h, h', h0 => by simp at h h'; subst h; subst h'; simp [V.sameL, h0]
  | x :: xs, y :: ys, j + 1, a, b, h, h', h0 => by
    simp only [V.sameL]
    rw [V.sameL_not (l := xs) (m := ys) (j := j) (by simpa using h) (by simpa using h') h0]; simp

set_option maxRecDepth 100000 in
set_option maxHeartbeats 4000000 in
theorem samesV (N : Nat) (ih : ∀ (x y : V) (w : World), x.rank ≤ N → x.In w w.heap.size → y.In w w.heap.size → Calls Tryz.prog 23 #[x.val, y.val] w fun e w' => e = .returned (.bool (x.same y)) ∧ Kp w w')
    (k n : Int) (s : ByteArray) (a : Option Addr) (cap : Nat) (l : List V) (k' n' : Int) (s' : ByteArray) (a' : Option Addr) (cap' : Nat) (m : List V) (w : World) (hr : (V.mk k n s a cap l).rank ≤ N + 1)
    (hin : (V.mk k n s a cap l).In w w.heap.size) (hin' : (V.mk k' n' s' a' cap' m).In w w.heap.size) :
    Calls Tryz.prog 63 #[.slice a l.length cap, .slice a' m.length cap'] w fun e w' => e = .returned (.bool (V.sameL l m)) ∧ Kp w w' := by
  have hl := V.lenLe hin
  have hm := V.lenLe hin'
  have IH := Lib.hid ih
  have HIN := Lib.hid hin
  have HIN' := Lib.hid hin'
  have HR := Lib.hid hr
  clear ih hin hin' hr
  by_cases hlen : l.length = m.length
  · have g1 : (((l.length : Nat) : Int) != ((m.length : Nat) : Int)) = false := by simp [hlen]
    have HLEN := Lib.hid hlen
    clear hlen
    go_enter Tryz.func63, Tryz.ntmps63
    go_wp2_with fail
    go_loopw [5] (fun i wr => ∃ j : Nat, j ≤ l.length ∧ i = .int .i64 j ∧ SameUpto l m j ∧ Kp w wr) (fun i _ => l.length - (intOf i).toNat)
    case atStart => exact ⟨0, Nat.zero_le _, rfl, fun i _ _ h => absurd h (by omega), Below.refl _ _⟩
    case round =>
      obtain ⟨j, hj, rfl, heq, hk⟩ := hrel
      by_cases hlt : j < l.length
      · obtain ⟨x, hx⟩ : ∃ x, l[j]? = some x := ⟨l[j], by simp [hlt]⟩
        have hlt' : j < m.length := by rw [← HLEN.out]; exact hlt
        obtain ⟨y, hy⟩ : ∃ y, m[j]? = some y := ⟨m[j], by simp [hlt']⟩
        obtain ⟨b0, off, rfl, hb0, q0, q1, q2, q3, hxin⟩ := V.atPart HIN.out hx
        have r0 := kc hk q0
        have r1 := kc hk q1
        have r2 := kc hk q2
        have r3 := kc hk q3
        have HX := Lib.hid hx
        have HXI := Lib.hid hxin
        clear q0 q1 q2 q3 hx hxin
        obtain ⟨b1, off', rfl, hb1, q0, q1, q2, q3, hyin⟩ := V.atPart HIN'.out hy
        have t0 := kc hk q0
        have t1 := kc hk q1
        have t2 := kc hk q2
        have t3 := kc hk q3
        have HY := Lib.hid hy
        have HYI := Lib.hid hyin
        have HK := Lib.hid hk
        have hz := hk.size
        have C := fun w1 (h : Kp w w1) => IH.out x y w1 (by have := V.rank_part (v := .mk k n s (some ⟨b0, off, none⟩) cap l) HX.out; have := HR.out; omega) (HXI.out.keep h.size h) (HYI.out.keep h.size h)
        generalize hc : x.same y = c at C
        have CC := Lib.hid C
        have HC := Lib.hid hc
        clear q0 q1 q2 q3 hy hyin hk C hc
        have gi0 : (0 : Int) ≤ (j : Int) := by omega
        have gi1 : (j : Int) < (l.length : Int) := by omega
        have gi2 : (j : Int) < (m.length : Int) := by omega
        go_wp2_with fail
        go_region_held3 (fun w' => w'.cell? ⟨b0, off + j * 4, none⟩ = some (.int .i64 x.k) ∧ w'.cell? ⟨b0, off + j * 4 + 1, none⟩ = some (.int .i64 x.n) ∧ w'.cell? ⟨b0, off + j * 4 + 2, none⟩ = some (.string x.s) ∧ w'.cell? ⟨b0, off + j * 4 + 3, none⟩ = some (.slice x.a x.l.length x.cap) ∧
          w'.cell? ⟨b1, off' + j * 4, none⟩ = some (.int .i64 y.k) ∧ w'.cell? ⟨b1, off' + j * 4 + 1, none⟩ = some (.int .i64 y.n) ∧ w'.cell? ⟨b1, off' + j * 4 + 2, none⟩ = some (.string y.s) ∧ w'.cell? ⟨b1, off' + j * 4 + 3, none⟩ = some (.slice y.a y.l.length y.cap) ∧ Kp wr w')
          (first
            | (refine ⟨?_, ?_, ?_, ?_, ?_, ?_, ?_, ?_, ?_⟩ <;> first | exact (Below.refl _ _).drew | (go_keep; done))
            | (go_split_ands; exact ⟨‹_›, ‹_›, ‹_›, ‹_›, ‹_›, ‹_›, ‹_›, ‹_›, ‹_›⟩)
            | (go_split_ands; exact ⟨kc hk1 ‹_›, kc hk1 ‹_›, kc hk1 ‹_›, kc hk1 ‹_›, kc hk1 ‹_›, kc hk1 ‹_›, kc hk1 ‹_›, kc hk1 ‹_›, kk ‹_› hk1⟩))
          (first
            | (go_split_ands; go_at_call 23; refine (CC.out _ (kk HK.out ‹_›)).mono ?_; rintro e w1 ⟨rfl, hk1⟩))
        go_split_ands
        have HK1 := Lib.hid (kk HK.out ‹Kp wr _›)
        cases c
        · have hr : V.sameL l m = false := V.sameL_not HX.out HY.out HC.out
          have HRR := Lib.hid hr
          clear hr
          go_wp2_with fail
          go_ret
          exact ⟨by rw [HRR.out] <;> rfl, HK1.out⟩
        · go_wp2_with fail
          go_roundw
          case rel => exact ⟨j + 1, by omega, by go_num, heq.succ HX.out HY.out HC.out, HK1.out⟩
          case measure => simp [intOf]; omega
      · have hjl : j = l.length := by omega
        subst hjl
        have hr : V.sameL l m = true := SameUpto.all HLEN.out heq
        have HRR := Lib.hid hr
        have HK := Lib.hid hk
        clear hr hk
        go_wp2_with fail
        go_ret
        exact ⟨by rw [HRR.out] <;> rfl, HK.out⟩
  · have hr : V.sameL l m = false := by
      cases h : V.sameL l m with
      | false => rfl
      | true => exact absurd (V.sameL_len h) hlen
    have HRR := Lib.hid hr
    have g1 : (((l.length : Nat) : Int) != ((m.length : Nat) : Int)) = true := by simp; omega
    clear hr hlen
    go_enter Tryz.func63, Tryz.ntmps63
    go_wp2_with fail
    go_ret
    exact ⟨by rw [HRR.out] <;> rfl, Below.refl _ _⟩

set_option maxHeartbeats 2000000 in
theorem sameV : ∀ (N : Nat) (x y : V) (w : World), x.rank ≤ N → x.In w w.heap.size → y.In w w.heap.size →
    Calls Tryz.prog 23 #[x.val, y.val] w fun e w' => e = .returned (.bool (x.same y)) ∧ Kp w w' := by
  intro N
  induction N with
  | zero => intro x y w h; have := x.rank_pos; omega
  | succ N ih =>
    intro x y w hN hx hy
    cases x with
    | mk k n s a cap l =>
    cases y with
    | mk k' n' s' a' cap' l' =>
    rw [V.val_mk, V.val_mk]
    have C := fun w1 (h : Kp w w1) => samesV N ih k n s a cap l k' n' s' a' cap' l' w1 hN (hx.keep h.size h) (hy.keep h.size h)
    have hr : (V.mk k n s a cap l).same (V.mk k' n' s' a' cap' l') = (decide (k = k') && (decide (n = n') && (decide (s.toList = s'.toList) && V.sameL l l'))) := by simp only [V.same]
    rw [hr]
    generalize V.sameL l l' = q at C ⊢
    have CC := Lib.hid C
    clear C ih hx hy hN hr
    by_cases h1 : k = k'
    · by_cases h2 : n = n'
      · by_cases h3 : s.toList = s'.toList
        · have hr : (decide (k = k') && (decide (n = n') && (decide (s.toList = s'.toList) && q))) = q := by simp [h1, h2, h3]
          rw [hr]
          subst h1; subst h2
          have g3 : (s.toList == s'.toList) = true := by simpa using h3
          clear hr h3
          go_enter Tryz.func23, Tryz.ntmps23
          go_wp2_with fail
          refine (CC.out _ (kk (ka _ _) (ka _ _))).mono ?_
          rintro e w1 ⟨rfl, hk⟩
          have HK := Lib.hid (kk (kk (ka _ _) (ka _ _)) hk)
          clear hk
          go_wp2_with fail
          go_ret
          exact ⟨rfl, HK.out⟩
        · have hr : (decide (k = k') && (decide (n = n') && (decide (s.toList = s'.toList) && q))) = false := by simp [h3]
          rw [hr]
          subst h1; subst h2
          have g3 : (s.toList == s'.toList) = false := by simpa using h3
          clear hr CC h3
          go_enter Tryz.func23, Tryz.ntmps23
          go_wp2_with fail
          go_ret
          exact ⟨rfl, kk (ka _ _) (ka _ _)⟩
      · have hr : (decide (k = k') && (decide (n = n') && (decide (s.toList = s'.toList) && q))) = false := by simp [h2]
        rw [hr]
        subst h1
        have g2 : (n == n') = false := by simpa using h2
        clear hr CC h2
        go_enter Tryz.func23, Tryz.ntmps23
        go_wp2_with fail
        go_ret
        exact ⟨rfl, kk (ka _ _) (ka _ _)⟩
    · have hr : (decide (k = k') && (decide (n = n') && (decide (s.toList = s'.toList) && q))) = false := by simp [h1]
      rw [hr]
      have g1 : (k == k') = false := by simpa using h1
      clear hr CC h1
      go_enter Tryz.func23, Tryz.ntmps23
      go_wp2_with fail
      go_ret
      exact ⟨rfl, kk (ka _ _) (ka _ _)⟩

end Go.Proofs.YtbiljalhabnhlaaGreatDoor

/-
  THE CALLS OF THE CHAPTER's EXAMPLES, each with its answer written out.
-/
namespace Go.Proofs.YtbiljalhabnhlaaGreatDoor
open Go.RowKit

abbrev sampleV (q r : Nat) : V := .mk 2 0 ⟨#[]⟩ (some ⟨q, 0, none⟩) 4 [.mk 0 (-3) ⟨#[]⟩ none 0 [], .mk 1 0 ⟨#[97, 34, 98]⟩ none 0 [], .mk 2 0 ⟨#[]⟩ none 0 [], .mk 3 2 ⟨#[]⟩ (some ⟨r, 0, none⟩) 1 [.mk 0 0 ⟨#[]⟩ none 0 []]]

theorem sampleV_in {w : World} {q r B t u : Nat} (hq : w.heap[q]? = some (.cells (sampleCells r) t (0, 0))) (hr : w.heap[r]? = some (.cells sampleTag u (0, 0))) (hB : q < B) (hB2 : r < B) : (sampleV q r).In w B := by
  have i64 : ∀ n : Int, -10 ≤ n → n ≤ 10 → I64 n := fun n h1 h2 => by unfold I64; omega
  refine in_node 2 0 ⟨#[]⟩ [.mk 0 (-3) ⟨#[]⟩ none 0 [], .mk 1 0 ⟨#[97, 34, 98]⟩ none 0 [], .mk 2 0 ⟨#[]⟩ none 0 [], .mk 3 2 ⟨#[]⟩ (some ⟨r, 0, none⟩) 1 [.mk 0 0 ⟨#[]⟩ none 0 []]] (i64 2 (by omega) (by omega)) (i64 0 (by omega) (by omega)) (by decide) (by show 4 ≤ maxLen; decide) hB ?_ ⟨in_leaf _ _ _ (i64 _ (by omega) (by omega)) (i64 _ (by omega) (by omega)) (by decide), in_leaf _ _ _ (i64 _ (by omega) (by omega)) (i64 _ (by omega) (by omega)) (by decide), in_leaf _ _ _ (i64 _ (by omega) (by omega)) (i64 _ (by omega) (by omega)) (by decide), ?_, trivial⟩
  · intro j x hj
    match j, hj with
    | 0, hj => simp at hj; subst hj; exact ⟨cellOf hq rfl, cellOf hq rfl, cellOf hq rfl, cellOf hq rfl⟩
    | 1, hj => simp at hj; subst hj; exact ⟨cellOf hq rfl, cellOf hq rfl, cellOf hq rfl, cellOf hq rfl⟩
    | 2, hj => simp at hj; subst hj; exact ⟨cellOf hq rfl, cellOf hq rfl, cellOf hq rfl, cellOf hq rfl⟩
    | 3, hj => simp at hj; subst hj; exact ⟨cellOf hq rfl, cellOf hq rfl, cellOf hq rfl, cellOf hq rfl⟩
    | j + 4, hj => simp at hj
  · refine in_node 3 2 ⟨#[]⟩ [.mk 0 0 ⟨#[]⟩ none 0 []] (i64 _ (by omega) (by omega)) (i64 _ (by omega) (by omega)) (by decide) (by decide) hB2 ?_ ⟨in_leaf _ _ _ (i64 _ (by omega) (by omega)) (i64 _ (by omega) (by omega)) (by decide), trivial⟩
    intro j x hj
    match j, hj with
    | 0, hj => simp at hj; subst hj; exact ⟨cellOf hr rfl, cellOf hr rfl, cellOf hr rfl, cellOf hr rfl⟩
    | j + 1, hj => simp at hj

theorem sampleV_cnt (q r : Nat) : (sampleV q r).cnt = 6 := by
  have h3 : (⟨#[97, 34, 98]⟩ : ByteArray).size = 3 := rfl
  simp [V.cnt, V.wk, V.wkL, fitsB, wordB, textB, tupleB, taggedB, charsB, byteB, h3]
theorem sampleV_ok (q r : Nat) : (sampleV q r).ok := by simp [V.ok, V.okL, I64]
theorem sampleV_txt (q r : Nat) : (sampleV q r).txt = [40, 45, 51, 44, 32, 34, 97, 92, 34, 98, 34, 44, 32, 40, 41, 44, 32, 35, 50, 32, 48, 41] := by
  have i1 : Lib.itoa (-3) = [45, 51] := by kernel_rfl
  have i2 : Lib.itoa 2 = [50] := by kernel_rfl
  have i3 : Lib.itoa 0 = [48] := by kernel_rfl
  simp [V.txt, V.txtL, V.txtH, esc, escB, i1, i2, i3]
theorem sampleV_is (q r g h : Nat) : (sampleV q r).is (kindT g h) = true := by
  simp [V.is, V.isL, okB, kindI, T.k, T.l]
theorem sampleV_isnt (q r : Nat) : (sampleV q r).is (.mk 0 none 0 []) = false := by
  simp [V.is, okB, kindI, T.k, T.l]
theorem kindT_txt (g h : Nat) : (kindT g h).txt = [40, 105, 110, 116, 44, 32, 116, 101, 120, 116, 44, 32, 40, 41, 44, 32, 91, 116, 101, 120, 116, 32, 43, 32, 40, 41, 32, 43, 32, 105, 110, 116, 93, 41] := by
  simp [T.txt, T.txtL]

end Go.Proofs.YtbiljalhabnhlaaGreatDoor

/-
  THE CALLS OF THE CHAPTER's EXAMPLES: their contracts, closed.
-/
namespace Go.Proofs.YtbiljalhabnhlaaGreatDoor
open Go.RowKit

/-- The sample lies in blocks q and r. -/
def Smp (w : World) (q r : Nat) : Prop := w.heap[q]? = some (.cells (sampleCells r) 24 (0, 0)) ∧ w.heap[r]? = some (.cells sampleTag 24 (0, 0))
theorem Smp.kp {w w' : World} {q r : Nat} (h : Smp w q r) (k : Kp w w') : Smp w' q r := ⟨(k.block _ (lt_of_block h.1)).trans h.1, (k.block _ (lt_of_block h.2)).trans h.2⟩
theorem Smp.in_ {w : World} {q r : Nat} (h : Smp w q r) : (sampleV q r).In w w.heap.size := sampleV_in h.1 h.2 (lt_of_block h.1) (lt_of_block h.2)
/-- The type of the sample lies in blocks g and h. -/
def Knd (w : World) (g h : Nat) : Prop := w.heap[g]? = some (.cells (kindCells h) 27 (0, 0)) ∧ w.heap[h]? = some (.cells sumCells 27 (0, 0))
theorem Knd.kp {w w' : World} {g h : Nat} (i : Knd w g h) (k : Kp w w') : Knd w' g h := ⟨(k.block _ (lt_of_block i.1)).trans i.1, (k.block _ (lt_of_block i.2)).trans i.2⟩
theorem Knd.in_ {w : World} {g h : Nat} (i : Knd w g h) : (kindT g h).In w w.heap.size := kindT_in i.1 i.2 (lt_of_block i.1) (lt_of_block i.2)

abbrev smpVal (q : Nat) : Value := .agg #[.int .i64 2, .int .i64 0, .string ⟨#[]⟩, .slice (some ⟨q, 0, none⟩) 4 4]
abbrev kndVal (g : Nat) : Value := .agg #[.int .i64 2, .slice (some ⟨g, 0, none⟩) 4 4]

theorem ex_sample (w : World) : Calls Tryz.prog 64 #[] w fun e w' => ∃ q r, e = .returned (smpVal q) ∧ Smp w' q r ∧ Kp w w' :=
  (sample_any w).mono fun _ _ ⟨q, r, he, h1, h2, _, _, hk⟩ => ⟨q, r, he, ⟨h1, h2⟩, hk⟩
theorem ex_kind (w : World) : Calls Tryz.prog 65 #[] w fun e w' => ∃ g h, e = .returned (kndVal g) ∧ Knd w' g h ∧ Kp w w' :=
  (kind_any w).mono fun _ _ ⟨q, r, he, h1, h2, _, _, hk⟩ => ⟨q, r, he, ⟨h1, h2⟩, hk⟩

theorem ex_text (w : World) (q r : Nat) (h : Smp w q r) (ht : Tb w w.heap.size) : Calls Tryz.prog 27 #[smpVal q] w fun e w' => e = .returned (.tuple #[.string ⟨#[40, 45, 51, 44, 32, 34, 97, 92, 34, 98, 34, 44, 32, 40, 41, 44, 32, 35, 50, 32, 48, 41]⟩, .int .i64 0]) ∧ Kp w w' := by
  have := text_tuple 0 ⟨#[]⟩ (some ⟨q, 0, none⟩) 4 _ w h.in_ (by rw [sampleV_cnt]; decide) (sampleV_ok q r) ht (by rw [sampleV_txt]; decide)
  rw [sampleV_txt] at this
  exact this
theorem ex_typeText (w : World) (g h : Nat) (i : Knd w g h) : Calls Tryz.prog 29 #[kndVal g] w fun e w' => e = .returned (.tuple #[.string ⟨#[40, 105, 110, 116, 44, 32, 116, 101, 120, 116, 44, 32, 40, 41, 44, 32, 91, 116, 101, 120, 116, 32, 43, 32, 40, 41, 32, 43, 32, 105, 110, 116, 93, 41]⟩, .int .i64 0]) ∧ Kp w w' := by
  have hc : ¬ (kindT g h).cnt = 0 := fun hh => by have := kindT_cnt g h; rw [bad0 hh] at this; cases this
  have := typeText 2 (some ⟨g, 0, none⟩) 4 _ w i.in_ hc (by rw [kindT_txt]; simp) (by rw [kindT_txt]; decide)
  rw [kindT_txt] at this
  exact this
theorem ex_size (w : World) (q r : Nat) (h : Smp w q r) : Calls Tryz.prog 13 #[smpVal q] w fun e w' => e = .returned (.tuple #[.int .i64 6, .int .i64 0]) ∧ Kp w w' := by
  have := sizeV 2 0 ⟨#[]⟩ (some ⟨q, 0, none⟩) 4 _ w h.in_
  rw [sampleV_cnt] at this
  exact this
theorem leafV_in (w : World) (B : Nat) (k n : Int) (s : ByteArray) (hk : I64 k) (hn : I64 n) (hs : s.size ≤ maxLen) : (V.mk k n s none 0 []).In w B := in_leaf k n s hk hn hs
theorem ex_ints (w : World) : Calls Tryz.prog 25 #[.agg #[.int .i64 0, .int .i64 2, .string ⟨#[]⟩, .slice none 0 0], .agg #[.int .i64 0, .int .i64 10, .string ⟨#[]⟩, .slice none 0 0]] w fun e w' => e = .returned (.tuple #[.int .i64 (-1), .int .i64 0]) ∧ Kp w w' := by
  have := compare_prog (.mk 0 2 ⟨#[]⟩ none 0 []) (.mk 0 10 ⟨#[]⟩ none 0 []) w (in_leaf _ _ _ (by unfold I64; omega) (by unfold I64; omega) (by decide)) (in_leaf _ _ _ (by unfold I64; omega) (by unfold I64; omega) (by decide))
  have hv : cmpV (.mk 0 2 ⟨#[]⟩ none 0 []) (.mk 0 10 ⟨#[]⟩ none 0 []) = .tuple #[.int .i64 (-1), .int .i64 0] := by
    simp [cmpV, V.valid, V.sh, V.shL, V.rank, V.rank.ranks, fitsB, wordB, V.ord, V.ordL, cmpI, orI]
  rw [hv] at this
  exact this
theorem ex_texts (w : World) : Calls Tryz.prog 25 #[.agg #[.int .i64 1, .int .i64 0, .string ⟨#[98]⟩, .slice none 0 0], .agg #[.int .i64 1, .int .i64 0, .string ⟨#[97, 97]⟩, .slice none 0 0]] w fun e w' => e = .returned (.tuple #[.int .i64 1, .int .i64 0]) ∧ Kp w w' := by
  have := compare_prog (.mk 1 0 ⟨#[98]⟩ none 0 []) (.mk 1 0 ⟨#[97, 97]⟩ none 0 []) w (in_leaf _ _ _ (by unfold I64; omega) (by unfold I64; omega) (by decide)) (in_leaf _ _ _ (by unfold I64; omega) (by unfold I64; omega) (by decide))
  have h1 : (⟨#[98]⟩ : ByteArray).size = 1 := rfl
  have h2 : (⟨#[97, 97]⟩ : ByteArray).size = 2 := rfl
  have hv : cmpV (.mk 1 0 ⟨#[98]⟩ none 0 []) (.mk 1 0 ⟨#[97, 97]⟩ none 0 []) = .tuple #[.int .i64 1, .int .i64 0] := by
    simp [cmpV, V.valid, V.sh, V.shL, V.rank, V.rank.ranks, fitsB, textB, charsB, byteB, V.ord, V.ordL, cmpI, orI, Lib.compareBytes, h1, h2]
  rw [hv] at this
  exact this
theorem ex_is (w : World) (q r g h : Nat) (i : Smp w q r) (j : Knd w g h) : Calls Tryz.prog 21 #[smpVal q, kndVal g] w fun e w' => e = .returned (.bool true) ∧ Kp w w' := by
  have := is_valid 2 0 ⟨#[]⟩ (some ⟨q, 0, none⟩) 4 _ 2 (some ⟨g, 0, none⟩) 4 _ w i.in_ j.in_ (by rw [sampleV_cnt]; rfl) (kindT_cnt g h)
  rw [sampleV_is] at this
  exact this
theorem ex_isnt (w : World) (q r : Nat) (i : Smp w q r) : Calls Tryz.prog 21 #[smpVal q, .agg #[.int .i64 0, .slice none 0 0]] w fun e w' => e = .returned (.bool false) ∧ Kp w w' := by
  have := is_valid 2 0 ⟨#[]⟩ (some ⟨q, 0, none⟩) 4 _ 0 none 0 [] w i.in_ (inT_leaf 0 (by unfold I64; omega)) (by rw [sampleV_cnt]; rfl) (by simp [bad, T.cnt, T.wk, T.wkL, fitsT])
  rw [sampleV_isnt] at this
  exact this
theorem ex_type (w : World) : Calls Tryz.prog 17 #[.agg #[.int .i64 3, .slice none 0 0]] w fun e w' => e = .returned (.int .i64 1) ∧ Kp w w' := by
  have := typeV 3 none 0 [] w (inT_leaf 3 (by unfold I64; omega))
  have hb : bad (T.mk 3 none 0 []).cnt = 1 := by simp [bad, T.cnt, T.wk, T.wkL, fitsT]
  rw [hb] at this
  exact this

/-- A tuple of one text. -/
abbrev keyV (q : Nat) : V := .mk 2 0 ⟨#[]⟩ (some ⟨q, 0, none⟩) 1 [.mk 1 0 ⟨#[97]⟩ none 0 []]
theorem keyV_in {w : World} {q B t : Nat} (h : w.heap[q]? = some (.cells #[.int .i64 1, .int .i64 0, .string ⟨#[97]⟩, .slice none 0 0] t (0, 0))) (hB : q < B) : (keyV q).In w B := by
  refine in_node 2 0 ⟨#[]⟩ [.mk 1 0 ⟨#[97]⟩ none 0 []] (by unfold I64; omega) (by unfold I64; omega) (by decide) (by decide) hB ?_ ⟨in_leaf _ _ _ (by unfold I64; omega) (by unfold I64; omega) (by decide), trivial⟩
  intro j x hj
  match j, hj with
  | 0, hj => simp at hj; subst hj; exact ⟨cellOf h rfl, cellOf h rfl, cellOf h rfl, cellOf h rfl⟩
  | j + 1, hj => simp at hj
theorem ex_key (w : World) (q : Nat) (h : w.heap[q]? = some (.cells #[.int .i64 1, .int .i64 0, .string ⟨#[97]⟩, .slice none 0 0] 24 (0, 0))) (ht : Tb w w.heap.size) :
    Calls Tryz.prog 36 #[.agg #[.int .i64 2, .int .i64 0, .string ⟨#[]⟩, .slice (some ⟨q, 0, none⟩) 1 1]] w fun e w' => e = .returned (.tuple #[.string ⟨#[3, 2, 97, 0, 0]⟩, .int .i64 0]) ∧ Kp w w' := by
  have h3 : (⟨#[97]⟩ : ByteArray).size = 1 := rfl
  have hc : (keyV q).cnt = 2 := by simp [V.cnt, V.wk, V.wkL, fitsB, textB, tupleB, charsB, byteB, h3]
  have := key_tuple 0 ⟨#[]⟩ (some ⟨q, 0, none⟩) 1 [.mk 1 0 ⟨#[97]⟩ none 0 []] w (keyV_in h (lt_of_block h)) (by rw [hc]; decide) (fun j x hj => by
    match j, hj with
    | 0, hj => simp at hj; subst hj; rfl
    | j + 1, hj => simp at hj) ht (by decide)
  exact this

/-- What Least makes, and what it is held against. -/
abbrev leastV (q r : Nat) (b : Option Addr) : V := .mk 2 0 ⟨#[]⟩ (some ⟨q, 0, none⟩) 4 [.mk 0 (-2147483648) ⟨#[]⟩ none 0 [], .mk 1 0 ⟨#[]⟩ none 0 [], .mk 2 0 ⟨#[]⟩ b 0 [], .mk 3 0 ⟨#[]⟩ (some ⟨r, 0, none⟩) 1 [.mk 1 0 ⟨#[]⟩ none 0 []]]
theorem leastV_in {w : World} {q r B t u : Nat} {b : Option Addr} (hq : w.heap[q]? = some (.cells (leastCells r b) t (0, 0))) (hr : w.heap[r]? = some (.cells #[.int .i64 1, .int .i64 0, .string ⟨#[]⟩, .slice none 0 0] u (0, 0))) (hB : q < B) (hB2 : r < B) : (leastV q r b).In w B := by
  have i64 : ∀ n : Int, -2147483648 ≤ n → n ≤ 10 → I64 n := fun n h1 h2 => by unfold I64; omega
  refine in_node 2 0 ⟨#[]⟩ [.mk 0 (-2147483648) ⟨#[]⟩ none 0 [], .mk 1 0 ⟨#[]⟩ none 0 [], .mk 2 0 ⟨#[]⟩ b 0 [], .mk 3 0 ⟨#[]⟩ (some ⟨r, 0, none⟩) 1 [.mk 1 0 ⟨#[]⟩ none 0 []]] (i64 2 (by omega) (by omega)) (i64 0 (by omega) (by omega)) (by decide) (by show 4 ≤ maxLen; decide) hB ?_ ⟨in_leaf _ _ _ (i64 _ (by omega) (by omega)) (i64 _ (by omega) (by omega)) (by decide), in_leaf _ _ _ (i64 _ (by omega) (by omega)) (i64 _ (by omega) (by omega)) (by decide), ?_, ?_, trivial⟩
  · intro j x hj
    match j, hj with
    | 0, hj => simp at hj; subst hj; exact ⟨cellOf hq rfl, cellOf hq rfl, cellOf hq rfl, cellOf hq rfl⟩
    | 1, hj => simp at hj; subst hj; exact ⟨cellOf hq rfl, cellOf hq rfl, cellOf hq rfl, cellOf hq rfl⟩
    | 2, hj => simp at hj; subst hj; exact ⟨cellOf hq rfl, cellOf hq rfl, cellOf hq rfl, cellOf hq rfl⟩
    | 3, hj => simp at hj; subst hj; exact ⟨cellOf hq rfl, cellOf hq rfl, cellOf hq rfl, cellOf hq rfl⟩
    | j + 4, hj => simp at hj
  · simp [V.In, V.InL, i64 2 (by omega) (by omega), i64 0 (by omega) (by omega)]
    decide
  · refine in_node 3 0 ⟨#[]⟩ [.mk 1 0 ⟨#[]⟩ none 0 []] (i64 _ (by omega) (by omega)) (i64 _ (by omega) (by omega)) (by decide) (by decide) hB2 ?_ ⟨in_leaf _ _ _ (i64 _ (by omega) (by omega)) (i64 _ (by omega) (by omega)) (by decide), trivial⟩
    intro j x hj
    match j, hj with
    | 0, hj => simp at hj; subst hj; exact ⟨cellOf hr rfl, cellOf hr rfl, cellOf hr rfl, cellOf hr rfl⟩
    | j + 1, hj => simp at hj
theorem leastV_same (q r : Nat) (b : Option Addr) (q' r' : Nat) (b' : Option Addr) : (leastV q r b).same (leastV q' r' b') = true := by simp [V.same, V.sameL]
theorem oneV_same (q q' : Nat) : (oneV q).same (oneV q') = true := by simp [V.same, V.sameL]

end Go.Proofs.YtbiljalhabnhlaaGreatDoor

/-
  valued: the chapter's examples (written by wip/gen_valued.py).
-/
namespace Go.Proofs.YtbiljalhabnhlaaGreatDoor
open Go.RowKit

theorem keepB {w w' : World} {b : Nat} {o : Obj} (k : Kp w w') (h : w.heap[b]? = some o) : w'.heap[b]? = some o := (k.block _ (lt_of_block' h)).trans h
theorem ex_same (w : World) (q r : Nat) (b : Option Addr) (q' r' : Nat) (b' : Option Addr) (hq : w.heap[q]? = some (.cells (leastCells r b) 24 (0, 0))) (hr : w.heap[r]? = some (.cells #[.int .i64 1, .int .i64 0, .string ⟨#[]⟩, .slice none 0 0] 24 (0, 0)))
    (hq' : w.heap[q']? = some (.cells (leastCells r' b') 24 (0, 0))) (hr' : w.heap[r']? = some (.cells #[.int .i64 1, .int .i64 0, .string ⟨#[]⟩, .slice none 0 0] 24 (0, 0))) :
    Calls Tryz.prog 23 #[.agg #[.int .i64 2, .int .i64 0, .string ⟨#[]⟩, .slice (some ⟨q, 0, none⟩) 4 4], .agg #[.int .i64 2, .int .i64 0, .string ⟨#[]⟩, .slice (some ⟨q', 0, none⟩) 4 4]] w fun e w' => e = .returned (.bool true) ∧ Kp w w' := by
  have := sameV _ (leastV q r b) (leastV q' r' b') w (Nat.le_refl _) (leastV_in hq hr (lt_of_block hq) (lt_of_block hr)) (leastV_in hq' hr' (lt_of_block hq') (lt_of_block hr'))
  rw [leastV_same] at this
  exact this
theorem ex_sameOne (w : World) (q q' : Nat) (hq : w.heap[q]? = some (.cells one4 24 (0, 0))) (hq' : w.heap[q']? = some (.cells one4 24 (0, 0))) :
    Calls Tryz.prog 23 #[.agg #[.int .i64 2, .int .i64 0, .string ⟨#[]⟩, .slice (some ⟨q, 0, none⟩) 1 1], .agg #[.int .i64 2, .int .i64 0, .string ⟨#[]⟩, .slice (some ⟨q', 0, none⟩) 1 1]] w fun e w' => e = .returned (.bool true) ∧ Kp w w' := by
  have := sameV _ (oneV q) (oneV q') w (Nat.le_refl _) (oneV_in hq (lt_of_block hq)) (oneV_in hq' (lt_of_block hq'))
  rw [oneV_same] at this
  exact this

set_option maxRecDepth 100000 in
set_option maxHeartbeats 8000000 in
theorem valued_any (w : World) (ht : Tb w w.heap.size) : Calls Tryz.prog 24 #[] w fun e w' => e = .returned (.bool true) ∧ Kp w w' := by
  have HT := Lib.hid ht
  clear ht
  go_enter Tryz.func24, Tryz.ntmps24
  go_wp2_with fail
  refine (ex_sample _).mono ?_
  rintro e w1 ⟨q1, r1, rfl, hs, hk⟩
  have HK1 := Lib.hid (kk (Below.refl _ w) hk)
  have S1 := Lib.hid hs
  clear hs
  clear hk
  go_wp2_with fail
  refine (ex_text _ _ _ S1.out (HT.out.keep (HK1.out) (HK1.out).size)).mono ?_
  rintro e w2 ⟨rfl, hk⟩
  have HK2 := Lib.hid (kk (HK1.out) hk)
  clear hk
  go_wp2_with fail
  refine (ex_kind _).mono ?_
  rintro e w3 ⟨g3, h3, rfl, hs, hk⟩
  have HK3 := Lib.hid (kk (HK2.out) hk)
  have D3 := Lib.hid hs
  clear hs
  clear hk
  go_wp2_with fail
  refine (ex_typeText _ _ _ D3.out).mono ?_
  rintro e w4 ⟨rfl, hk⟩
  have HK4 := Lib.hid (kk (HK3.out) hk)
  clear hk
  go_wp2_with fail
  refine (ex_sample _).mono ?_
  rintro e w5 ⟨q5, r5, rfl, hs, hk⟩
  have HK5 := Lib.hid (kk (HK4.out) hk)
  have S5 := Lib.hid hs
  clear hs
  clear hk
  go_wp2_with fail
  refine (ex_size _ _ _ S5.out).mono ?_
  rintro e w6 ⟨rfl, hk⟩
  have HK6 := Lib.hid (kk (HK5.out) hk)
  clear hk
  go_wp2_with fail
  refine (int_any _ _).mono ?_
  rintro e w7 ⟨rfl, hk⟩
  have HK7 := Lib.hid (kk (HK6.out) hk)
  clear hk
  go_wp2_with fail
  refine (int_any _ _).mono ?_
  rintro e w8 ⟨rfl, hk⟩
  have HK8 := Lib.hid (kk (HK7.out) hk)
  clear hk
  go_wp2_with fail
  refine (ex_ints _).mono ?_
  rintro e w9 ⟨rfl, hk⟩
  have HK9 := Lib.hid (kk (HK8.out) hk)
  clear hk
  go_wp2_with fail
  refine (text_any _ _).mono ?_
  rintro e w10 ⟨rfl, hk⟩
  have HK10 := Lib.hid (kk (HK9.out) hk)
  clear hk
  go_wp2_with fail
  refine (text_any _ _).mono ?_
  rintro e w11 ⟨rfl, hk⟩
  have HK11 := Lib.hid (kk (HK10.out) hk)
  clear hk
  go_wp2_with fail
  refine (ex_texts _).mono ?_
  rintro e w12 ⟨rfl, hk⟩
  have HK12 := Lib.hid (kk (HK11.out) hk)
  clear hk
  go_wp2_with fail
  refine (ex_kind _).mono ?_
  rintro e w13 ⟨g13, h13, rfl, hs, hk⟩
  have HK13 := Lib.hid (kk (HK12.out) hk)
  have D13 := Lib.hid hs
  clear hs
  clear hk
  go_wp2_with fail
  refine (least_top _ g13 h13 _ _ D13.out.1 D13.out.2).mono ?_
  rintro e w14 ⟨ql, rl, bl, rfl, hq, hr, hqz, hrz, hk⟩
  have HK14 := Lib.hid (kk (HK13.out) hk)
  have QL := Lib.hid hq
  have RL := Lib.hid hr
  clear hq hr hqz hrz
  clear hk
  go_wp2_with fail
  have lb : (w14.alloc (.cells #[.int .i64 2, .int .i64 0, .string ⟨#[]⟩, .slice (some ⟨ql, 0, none⟩) 4 4] 24)).heap[w14.heap.size]? = some (.cells #[.int .i64 2, .int .i64 0, .string ⟨#[]⟩, .slice (some ⟨ql, 0, none⟩) 4 4] 24 (0, 0)) := blockHere rfl
  have LB14 := Lib.hid lb
  clear lb
  refine (text_any _ _).mono ?_
  rintro e w15 ⟨rfl, hk⟩
  have HK15 := Lib.hid (kk (kk (HK14.out) (ka _ (.cells #[.int .i64 2, .int .i64 0, .string ⟨#[]⟩, .slice (some ⟨ql, 0, none⟩) 4 4] 24))) hk)
  have LB := Lib.hid ((hk.block _ (lt_of_block LB14.out)).trans LB14.out)
  have HJ15 := Lib.hid hk
  clear hk
  go_wp2_with fail
  have kb : (w15.alloc (.cells #[.int .i64 1, .int .i64 0, .string ⟨#[97]⟩, .slice none 0 0] 24)).heap[w15.heap.size]? = some (.cells #[.int .i64 1, .int .i64 0, .string ⟨#[97]⟩, .slice none 0 0] 24 (0, 0)) := blockHere rfl
  have KB15 := Lib.hid kb
  clear kb
  refine (tuple_any _ _ _ _).mono ?_
  rintro e w16 ⟨rfl, hk⟩
  have HK16 := Lib.hid (kk (kk (HK15.out) (ka _ (.cells #[.int .i64 1, .int .i64 0, .string ⟨#[97]⟩, .slice none 0 0] 24))) hk)
  have KB := Lib.hid ((hk.block _ (lt_of_block KB15.out)).trans KB15.out)
  have HJ16 := Lib.hid hk
  clear hk
  go_wp2_with fail
  refine (ex_key _ _ KB.out (HT.out.keep (HK16.out) (HK16.out).size)).mono ?_
  rintro e w17 ⟨rfl, hk⟩
  have HK17 := Lib.hid (kk (HK16.out) hk)
  have HJ17 := Lib.hid hk
  clear hk
  go_wp2_with fail
  refine (ofKey_three _).mono ?_
  rintro e w18 ⟨rfl, hk⟩
  have HK18 := Lib.hid (kk (HK17.out) hk)
  have HJ18 := Lib.hid hk
  clear hk
  go_wp2_with fail
  refine (parse_one _ (HT.out.keep (kk (HK18.out) (ka _ (.cells zero4 24))) (kk (HK18.out) (ka _ (.cells zero4 24))).size)).mono ?_
  rintro e w19 ⟨qp, rfl, hq, hqz, hk⟩
  have HK19 := Lib.hid (kk (kk (HK18.out) (ka _ (.cells zero4 24))) hk)
  have QP := Lib.hid hq
  clear hq hqz
  have HJ19 := Lib.hid hk
  clear hk
  go_wp2_with fail
  have pb : (w19.alloc (.cells #[.int .i64 2, .int .i64 0, .string ⟨#[]⟩, .slice (some ⟨qp, 0, none⟩) 1 1] 24)).heap[w19.heap.size]? = some (.cells #[.int .i64 2, .int .i64 0, .string ⟨#[]⟩, .slice (some ⟨qp, 0, none⟩) 1 1] 24 (0, 0)) := blockHere rfl
  have PB19 := Lib.hid pb
  clear pb
  refine (parse_bad _ (HT.out.keep (kk (HK19.out) (ka _ (.cells #[.int .i64 2, .int .i64 0, .string ⟨#[]⟩, .slice (some ⟨qp, 0, none⟩) 1 1] 24))) (kk (HK19.out) (ka _ (.cells #[.int .i64 2, .int .i64 0, .string ⟨#[]⟩, .slice (some ⟨qp, 0, none⟩) 1 1] 24))).size)).mono ?_
  rintro e w20 ⟨rfl, hk⟩
  have HK20 := Lib.hid (kk (kk (HK19.out) (ka _ (.cells #[.int .i64 2, .int .i64 0, .string ⟨#[]⟩, .slice (some ⟨qp, 0, none⟩) 1 1] 24))) hk)
  have PB := Lib.hid ((hk.block _ (lt_of_block PB19.out)).trans PB19.out)
  have HJ20 := Lib.hid hk
  clear hk
  go_wp2_with fail
  have hkr : Kp w20 (w20.alloc (.cells zero4 24)) := ka _ _
  have k15 := kk (kk (ka w14 (.cells #[.int .i64 2, .int .i64 0, .string ⟨#[]⟩, .slice (some ⟨ql, 0, none⟩) 4 4] 24)) HJ15.out) (kk (kk (ka w15 (.cells #[.int .i64 1, .int .i64 0, .string ⟨#[97]⟩, .slice none 0 0] 24)) HJ16.out) (kk HJ17.out (kk HJ18.out (kk (kk (ka w18 (.cells zero4 24)) HJ19.out) (kk (kk (ka w19 (.cells #[.int .i64 2, .int .i64 0, .string ⟨#[]⟩, .slice (some ⟨qp, 0, none⟩) 1 1] 24)) HJ20.out) hkr)))))
  have k19 := kk (kk (ka w19 (.cells #[.int .i64 2, .int .i64 0, .string ⟨#[]⟩, .slice (some ⟨qp, 0, none⟩) 1 1] 24)) HJ20.out) hkr
  have hQ := keepB k15 QL.out
  have hR := keepB k15 RL.out
  have hqp := keepB k19 QP.out
  have hL := keepB (kk (kk (kk (ka w15 (.cells #[.int .i64 1, .int .i64 0, .string ⟨#[97]⟩, .slice none 0 0] 24)) HJ16.out) (kk HJ17.out (kk HJ18.out (kk (kk (ka w18 (.cells zero4 24)) HJ19.out) (kk (ka w19 (.cells #[.int .i64 2, .int .i64 0, .string ⟨#[]⟩, .slice (some ⟨qp, 0, none⟩) 1 1] 24)) HJ20.out))))) hkr) LB.out
  have hPb := keepB hkr PB.out
  have hkW := kk HK20.out hkr
  have HKW := Lib.hid hkW
  clear hkW
  generalize hW : w20.alloc (.cells zero4 24) = W at hkr hQ hR hqp hL hPb HKW ⊢
  have hl0 : W.cell? ⟨w14.heap.size, 0, none⟩ = some (.int .i64 2) := cellOf hL rfl
  have hl1 : W.cell? ⟨w14.heap.size, 1, none⟩ = some (.int .i64 0) := cellOf hL rfl
  have hl2 : W.cell? ⟨w14.heap.size, 2, none⟩ = some (.string ⟨#[]⟩) := cellOf hL rfl
  have hl3 : W.cell? ⟨w14.heap.size, 3, none⟩ = some (.slice (some ⟨ql, 0, none⟩) 4 4) := cellOf hL rfl
  have hp0 : W.cell? ⟨w19.heap.size, 0, none⟩ = some (.int .i64 2) := cellOf hPb rfl
  have hp1 : W.cell? ⟨w19.heap.size, 1, none⟩ = some (.int .i64 0) := cellOf hPb rfl
  have hp2 : W.cell? ⟨w19.heap.size, 2, none⟩ = some (.string ⟨#[]⟩) := cellOf hPb rfl
  have hp3 : W.cell? ⟨w19.heap.size, 3, none⟩ = some (.slice (some ⟨qp, 0, none⟩) 1 1) := cellOf hPb rfl
  clear hkr hW k15 k19 hL hPb HJ15 HJ16 HJ17 HJ18 HJ19 HJ20 QL RL QP HT HK1 HK2 HK3 HK4 HK5 HK6 HK7 HK8 HK9 HK10 HK11 HK12 HK13 HK14 HK15 HK16 HK17 HK18 HK19 HK20 S1 D3 S5 D13 LB14 LB KB15 KB PB19 PB
  go_region_held3 (fun w' => w'.cell? ⟨w14.heap.size, 0, none⟩ = some (.int .i64 2) ∧ w'.cell? ⟨w14.heap.size, 1, none⟩ = some (.int .i64 0) ∧ w'.cell? ⟨w14.heap.size, 2, none⟩ = some (.string ⟨#[]⟩) ∧ w'.cell? ⟨w14.heap.size, 3, none⟩ = some (.slice (some ⟨ql, 0, none⟩) 4 4) ∧ w'.cell? ⟨w19.heap.size, 0, none⟩ = some (.int .i64 2) ∧ w'.cell? ⟨w19.heap.size, 1, none⟩ = some (.int .i64 0) ∧ w'.cell? ⟨w19.heap.size, 2, none⟩ = some (.string ⟨#[]⟩) ∧ w'.cell? ⟨w19.heap.size, 3, none⟩ = some (.slice (some ⟨qp, 0, none⟩) 1 1) ∧ Kp W w')
    (first
      | exact ⟨hl0, hl1, hl2, hl3, hp0, hp1, hp2, hp3, kpD⟩
      | (go_split_ands; exact ⟨kc hk ‹_›, kc hk ‹_›, kc hk ‹_›, kc hk ‹_›, kc hk ‹_›, kc hk ‹_›, kc hk ‹_›, kc hk ‹_›, kk ‹_› hk⟩)
      | (go_split_ands; exact ⟨kc (ka _ _) ‹_›, kc (ka _ _) ‹_›, kc (ka _ _) ‹_›, kc (ka _ _) ‹_›, kc (ka _ _) ‹_›, kc (ka _ _) ‹_›, kc (ka _ _) ‹_›, kc (ka _ _) ‹_›, kk ‹_› (ka _ _)⟩))
    (first
    | (go_at_call 64; refine (ex_sample _).mono ?_; rintro e wa ⟨qa, ra, rfl, hs, hk⟩)
    | (go_at_call 65; refine (ex_kind _).mono ?_; rintro e wb ⟨ga, ha, rfl, hd, hk⟩; replace hs := hs.kp hk)
    | (go_at_call 21; refine (ex_is _ _ _ _ _ hs hd).mono ?_; rintro e wc ⟨rfl, hk⟩; clear hs hd)
    | (go_at_call 21; refine (ex_isnt _ _ _ hs).mono ?_; rintro e wd ⟨rfl, hk⟩; clear hs)
    | (go_at_call 46; refine (int_any _ _).mono ?_; rintro e wf ⟨rfl, hk⟩)
    | (go_at_call 47; refine (text_any _ _).mono ?_; rintro e wg ⟨rfl, hk⟩)
    | (go_at_call 44; refine (tag_any _ _ _ _ _ _ _ _).mono ?_; rintro e wh ⟨rt, rfl, hrt, _, hk⟩)
    | (go_at_call 41; refine (tuple_any _ _ _ _).mono ?_; rintro e wi ⟨rfl, hk⟩; first | (have hqt := keepB hk (blockHere (o := .cells (leastCells rt none) 24 (0, 0)) rfl); replace hrt := keepB (kk (ka _ _) hk) hrt) | (have hqo := keepB hk (blockHere (o := .cells one4 24 (0, 0)) rfl)) | skip)
    | (go_at_call 23; refine (ex_same _ ql rl bl _ rt none (keepB (by assumption) hQ) (keepB (by assumption) hR) hqt hrt).mono ?_; rintro e wj ⟨rfl, hk⟩; clear hqt hrt)
    | (go_at_call 23; go_split_ands; refine (ex_same _ ql rl bl _ rt none (keepB (by assumption) hQ) (keepB (by assumption) hR) hqt hrt).mono ?_; rintro e wj ⟨rfl, hk⟩; clear hqt hrt)
    | (go_at_call 23; refine (ex_sameOne _ qp _ (keepB (by assumption) hqp) hqo).mono ?_; rintro e wj ⟨rfl, hk⟩; clear hqo)
    | (go_at_call 23; go_split_ands; refine (ex_sameOne _ qp _ (keepB (by assumption) hqp) hqo).mono ?_; rintro e wj ⟨rfl, hk⟩; clear hqo)
    | (go_at_call 17; refine (ex_type _).mono ?_; rintro e wk ⟨rfl, hk⟩))
  go_split_ands
  go_wp2_with fail
  go_ret
  exact ⟨rfl, kk HKW.out (by assumption)⟩

end Go.Proofs.YtbiljalhabnhlaaGreatDoor

/-
  ValueOrders: the statement's function, at any two values that lie in memory.
-/
namespace Go.Proofs.YtbiljalhabnhlaaGreatDoor
open Go.RowKit

theorem cmpV_two (x y : V) : ∃ a b : Int, cmpV x y = .tuple #[.int .i64 a, .int .i64 b] := by
  unfold cmpV; split <;> exact ⟨_, _, rfl⟩

set_option maxRecDepth 100000 in
set_option maxHeartbeats 4000000 in
theorem orders_any (x y : V) (w : World) (hx : x.In w w.heap.size) (hy : y.In w w.heap.size) (ht : Tb w w.heap.size) :
    Calls Tryz.prog 4 #[x.val, y.val] w fun e w' => e = .returned (.bool true) ∧ Kp w w' := by
  have C := fun w1 (h : Kp w w1) => compare_prog x y w1 (hx.keep h.size h) (hy.keep h.size h)
  have D := fun w1 (h : Kp w w1) => compare_spec x y w1 (hx.keep h.size h) (hy.keep h.size h)
  have E := fun w1 (h : Kp w w1) => valued_any w1 (ht.keep h h.size)
  obtain ⟨ca, cb, hc⟩ := cmpV_two x y
  rw [hc] at C D
  cases x with
  | mk k n s a cap l =>
  cases y with
  | mk k' n' s' a' cap' l' =>
  rw [V.val_mk, V.val_mk] at *
  have HC := Lib.hid C
  have HD := Lib.hid D
  have HE := Lib.hid E
  clear C D E hc hx hy ht
  go_enter Tryz.func4, Tryz.ntmps4
  go_wp2_with fail
  refine (HC.out _ (kk (ka _ _) (ka _ _))).mono ?_
  rintro e w1 ⟨rfl, hk⟩
  obtain ⟨b0, b1, b2, b3, d0, d1, d2, d3, hz⟩ := box44 hk
  have HK := Lib.hid (kk (kk (ka _ _) (ka _ _)) hk)
  clear hk
  go_wp2_with fail
  refine (HD.out _ HK.out).mono ?_
  rintro e w2 ⟨rfl, hk⟩
  have HK2 := Lib.hid (kk HK.out hk)
  clear hk b0 b1 b2 b3 d0 d1 d2 d3
  go_wp2_with fail
  refine (HE.out _ HK2.out).mono ?_
  rintro e w3 ⟨rfl, hk⟩
  have HK3 := Lib.hid (kk HK2.out hk)
  clear hk
  go_wp2_with fail
  go_ret
  exact ⟨rfl, HK3.out⟩

end Go.Proofs.YtbiljalhabnhlaaGreatDoor

/-
  AN ARGUMENT OF THE TYPE api.Value, FROM ITS READING.
-/
namespace Go.Proofs.YtbiljalhabnhlaaGreatDoor
open Go.RowKit

theorem list_of {α : Type} {p : Nat → α → Prop} : ∀ (n : Nat), (∀ i, i < n → ∃ v, p i v) → ∃ l : List α, l.length = n ∧ ∀ j x, l[j]? = some x → p j x
  | 0, _ => ⟨[], rfl, fun j x h => by simp at h⟩
  | n + 1, h => by
    obtain ⟨l, hl, hp⟩ := list_of n (fun i hi => h i (by omega))
    obtain ⟨v, hv⟩ := h n (by omega)
    refine ⟨l ++ [v], by simp [hl], fun j x hx => ?_⟩
    by_cases hj : j < l.length
    · rw [List.getElem?_append_left hj] at hx; exact hp j x hx
    · rw [List.getElem?_append_right (by omega)] at hx
      have : j = l.length := by
        have := (List.getElem?_eq_some_iff.1 hx).1
        simp at this; omega
      subst this
      simp at hx; subst hx; rw [hl]; exact hv

theorem i64_of_wf {n : Int} (h : (Lit.int .i64 n).wf = true) : I64 n := by
  simp [Lit.wf] at h
  have hm : IntKind.i64.min = -9223372036854775808 := by decide
  unfold I64
  omega

theorem addr_add (a : Addr) (i j : Nat) : (a.add i).add j = a.add (i + j) := by
  unfold Addr.add
  by_cases hi : i = 0 <;> by_cases hj : j = 0 <;> simp [hi, hj, Nat.add_assoc]

theorem cells24v : Tryz.prog.cellsOf 24 = 4 := by kernel_rfl
theorem cells3v : Tryz.prog.cellsOf 3 = 1 := by kernel_rfl
theorem cells9v : Tryz.prog.cellsOf 9 = 1 := by kernel_rfl
theorem cells22v : Tryz.prog.cellsOf 22 = 1 := by kernel_rfl

set_option maxRecDepth 100000 in
set_option maxHeartbeats 2000000 in
theorem open_value {H : Type} {enc : TypeId × Value → H} {w : World} {base : Nat} {spare : Nat → Bool} {held : Bool} : ∀ (fuel : Nat) (cs : List Value) (x : DataW H × List MemPlace),
    DataW.trod enc Tryz.prog w base spare held fuel 24 cs = some x → ∃ v : V, cs = [.int .i64 v.k, .int .i64 v.n, .string v.s, .slice v.a v.l.length v.cap] ∧ v.In w w.heap.size := by
  intro fuel
  induction fuel using Nat.strongRecOn with
  | ind fuel ih =>
    intro cs x h
    obtain ⟨xs, n, rfl, -, hl, hlen, hf⟩ := DataW.trod_struct Tryz.underlying24 h
    rw [cells24v] at hl
    match cs, hl, xs, hlen with
    | [c0, c1, c2, c3], _, [x0, x1, x2, x3], _ =>
      have g0 := hf 0 _ rfl
      have g1 := hf 1 _ rfl
      have g2 := hf 2 _ rfl
      have g3 := hf 3 _ rfl
      simp [cells3v, cells9v, cells22v] at g0 g1 g2 g3
      obtain ⟨k, e0, -, w0⟩ := DataW.trod_int Tryz.underlying3 g0
      obtain ⟨m, e1, -, w1⟩ := DataW.trod_int Tryz.underlying3 g1
      obtain ⟨s, e2, -, hs⟩ := DataW.trod_string Tryz.underlying9 g2
      simp at e0 e1 e2
      subst e0 e1 e2
      rcases DataW.trod_slice Tryz.underlying22 g3 with ⟨e3, -⟩ | ⟨a, len, cap, elems, rest, n', rfl, e3, -, hb, hlc, hcm, hel, hread, -, -⟩
      · simp at e3
        subst e3
        exact ⟨.mk k m s none 0 [], rfl, in_leaf k m s (i64_of_wf w0) (i64_of_wf w1) hs⟩
      · simp at e3
        subst e3
        obtain ⟨l, hll, hp⟩ := list_of (p := fun i (v : V) => w.cell? ⟨a.block, a.off + i * 4, none⟩ = some (.int .i64 v.k) ∧ w.cell? ⟨a.block, a.off + i * 4 + 1, none⟩ = some (.int .i64 v.n) ∧ w.cell? ⟨a.block, a.off + i * 4 + 2, none⟩ = some (.string v.s) ∧ w.cell? ⟨a.block, a.off + i * 4 + 3, none⟩ = some (.slice v.a v.l.length v.cap) ∧ (i = 0 → a.spot = none) ∧ a.block < w.heap.size ∧ v.In w w.heap.size) len (fun i hi => by
          have hr := hread i hi
          rw [cells24v] at hr
          have he : ∃ y, elems[i]? = some y := ⟨elems[i], by simp [hel, hi]⟩
          obtain ⟨y, hy⟩ := he
          rw [hy] at hr
          cases hc : w.cells? base (a.add (i * 4)) 4 with
          | none => rw [hc] at hr; cases hr
          | some cs' =>
            rw [hc] at hr
            obtain ⟨v, rfl, hv⟩ := ih n' (by omega) cs' y hr
            obtain ⟨_, _, hcell⟩ := World.cells?_some hc
            have k0 := hcell 0 (by omega)
            have k1 := hcell 1 (by omega)
            have k2 := hcell 2 (by omega)
            have k3 := hcell 3 (by omega)
            simp only [addr_add] at k0 k1 k2 k3
            have hspot : i = 0 → a.spot = none := fun hi0 => by
              subst hi0
              have : w.cell? a = some (.int .i64 v.k) := by simpa [Addr.add] using k0
              unfold World.cell? at this
              split at this
              · split at this
                · cases this
                · rename_i hs; simpa using hs
              · cases this
            have hblk : a.block < w.heap.size := by
              have := World.block_lt_of_cell? w _ (k1.trans (by rfl : _ = some (Value.int .i64 v.n)))
              simpa [Addr.add] using this
            refine ⟨v, ?_, ?_, ?_, ?_, hspot, hblk, hv⟩
            · by_cases hi0 : i = 0
              · subst hi0
                have hs := hspot rfl
                have : w.cell? a = some (.int .i64 v.k) := by simpa [Addr.add] using k0
                obtain ⟨ab, ao, asp⟩ := a
                simp at hs
                subst hs
                simpa using this
              · have h4 : ¬ i * 4 = 0 := by omega
                simpa [Addr.add, h4] using k0
            · simpa [Addr.add, Nat.add_assoc] using k1
            · simpa [Addr.add, Nat.add_assoc] using k2
            · simpa [Addr.add, Nat.add_assoc] using k3)
        obtain ⟨ab, ao, asp⟩ := a
        by_cases h0 : l = []
        · subst h0
          simp at hll
          subst hll
          refine ⟨.mk k m s (some ⟨ab, ao, asp⟩) cap [], rfl, ?_⟩
          simp [V.In, V.InL, i64_of_wf w0, i64_of_wf w1, hs, hcm]
        · have hpos : 0 < l.length := by cases l with
            | nil => exact absurd rfl h0
            | cons _ _ => simp
          have hsp : asp = none := (hp 0 l[0] (by simp)).2.2.2.2.1 rfl
          have hbl := (hp 0 l[0] (by simp)).2.2.2.2.2.1
          subst hsp
          refine ⟨.mk k m s (some ⟨ab, ao, none⟩) cap l, by subst hll; rfl, ?_⟩
          simp only [V.In]
          refine ⟨i64_of_wf w0, i64_of_wf w1, hs, by omega, hcm, .inr ⟨ab, ao, rfl, hbl, fun j x hx => ?_⟩, V.InL_iff.2 fun j x hx => (hp j x hx).2.2.2.2.2.2⟩
          obtain ⟨r0, r1, r2, r3, -⟩ := hp j x hx
          exact ⟨r0, r1, r2, r3⟩

end Go.Proofs.YtbiljalhabnhlaaGreatDoor

/-
  ValueOrders: WHAT THE WALKS GIVE, for every two arguments that read.
-/
namespace Go.Proofs.YtbiljalhabnhlaaGreatDoor
open Go.ChangeShapes Go.WideShapes Go.ChangeAt Go.RowKit

theorem kidsP : Kids Tryz.prog (· < Tryz.prog.types.size) := kids_rows (by kernel_rfl) (by kernel_rfl)
theorem fullP : ∀ t e, t < Tryz.prog.types.size → Tryz.prog.underlying t = some (.slice e) → 0 < Tryz.prog.cellsOf e := slices_full_of Tryz.prog (by kernel_rfl)

theorem kp_kept {W W' : World} (h : Kp W W') (may : MemPlace → Prop) : W.keptBut W' may := (World.keptBut_refl W may).congr h.os h.output h.block

/-- A place that lay in W lies the same in W'. -/
theorem kp_same {W W' : World} (h : Kp W W') {p : MemPlace} (hp : p.block < W.heap.size) : W.sameAt W' p := by
  cases p with
  | cell b o =>
    show W'.cell? ⟨b, o, none⟩ = W.cell? ⟨b, o, none⟩
    unfold World.cell?
    rw [show W'.heap[b]? = W.heap[b]? from h.block b hp]
  | map b => exact h.block b hp

theorem trod_kp {H : Type} {enc : TypeId × Value → H} {W W' : World} {base : Nat} {spare : Nat → Bool} {held : Bool} {t : TypeId} {v : Value} {d : DataW H} {ps : List MemPlace} (h : DataW.Trod enc Tryz.prog W base spare held t v d ps) (hk : Kp W W') (hlt : ∀ p ∈ ps, p.block < W.heap.size) :
    DataW.Trod enc Tryz.prog W' base spare held t v d ps := by
  obtain ⟨n, hn⟩ := h
  exact ⟨n, DataW.trod_carry n _ _ _ hn (fun p hp => kp_same hk (hlt p hp))⟩

set_option maxRecDepth 100000 in
/-- A law that answers true and leaves all that was there as it was. -/
theorem post_of_kp {H : Type} {enc : TypeId × Value → H} {f : Func} {s : ChangeSpec} {apart fresh handsOn again : Bool} {W W' : World} {args : Array Value} {v : Value} {ds gs : List (DataW H)} {before pa pv : List MemPlace}
    (hW : DataW.Whole enc Tryz.prog f.params.toList s.vars apart W args.toList ds gs before) (hk : Kp W W')
    (hres : ∀ (b : Nat) (sp : Nat → Bool) (hd : Bool), DataW.TrodAll enc Tryz.prog W' b sp hd f.resultTypes.toList (v.resultList f.resultTypes.size) (s.fn H (ds ++ gs)).results [])
    (hargs : ∀ sp : Nat → Bool, (∀ p ∈ before, sp p.block = true) → DataW.TrodAll enc Tryz.prog W' 0 sp true f.params.toList args.toList (s.fn H (ds ++ gs)).args pa)
    (hvars : ∀ sp : Nat → Bool, (∀ p ∈ before, sp p.block = true) → DataW.TrodVars enc Tryz.prog W' sp s.vars (s.fn H (ds ++ gs)).vars pv)
    (hps : before = pa ++ pv)
    (hok : ∀ (j : Nat) (t : TypeId) (r : Value), f.resultTypes[j]? = some t → (v.resultList f.resultTypes.size)[j]? = some r → Value.okWide Tryz.prog W' .any 0 t r) :
    s.post enc Tryz.prog f apart fresh handsOn again W args v W' := by
  have hold : ∀ p ∈ before, p.block < W.heap.size := fun p hp => hW.lt p hp
  have hsp : ∀ p ∈ before, (fun b => decide (b < W.heap.size)) p.block = true := fun p hp => by simpa using hold p hp
  refine ⟨ds, gs, before, [], pa, pv, hW, hres _ _ _, hargs _ hsp, hvars _ hsp, kp_kept hk _, fun _ => ?_⟩
  obtain ⟨_, _, _, _, _, hz, hn⟩ := hW
  refine ⟨hok, _, _, ([] ++ pa) ++ pv, ⟨[] ++ pa, pv, trodAll_append (hargs _ (fun _ _ => rfl)) (hres _ _ _), hvars _ (fun _ _ => rfl), rfl, fun b off hp => ?_, fun ha => ?_⟩, fun p hp _ => by rw [hps]; simpa using hp⟩
  · have hb : MemPlace.cell b off ∈ before := by rw [hps]; simpa using hp
    have hfr : W'.frozen? ⟨b, off, none⟩ = W.frozen? ⟨b, off, none⟩ := by
      unfold World.frozen?
      rw [show W'.heap[b]? = W.heap[b]? from hk.block b (hold _ hb)]
    rw [hfr]
    exact hz b off hb
  · have := hn ha
    rw [hps] at this
    simpa using this

set_option maxRecDepth 100000 in
/-- What reads as a value is one. -/
theorem open_arg {H : Type} {enc : TypeId × Value → H} {W : World} {base : Nat} {spare : Nat → Bool} {held : Bool} {b0 : Nat} {v : Value} {d : DataW H} {ps : List MemPlace}
    (hval : Value.okWide Tryz.prog W .any b0 24 v) (h : DataW.Trod enc Tryz.prog W base spare held 24 v d ps) : ∃ x : V, v = x.val ∧ x.In W W.heap.size := by
  obtain ⟨cs, rfl, -⟩ := okWide_struct Tryz.underlying24 hval
  obtain ⟨fuel, hf⟩ := h
  obtain ⟨x, hx, hin⟩ := open_value fuel _ _ hf
  refine ⟨x, ?_, hin⟩
  have : cs = #[.int .i64 x.k, .int .i64 x.n, .string x.s, .slice x.a x.l.length x.cap] := by
    apply Array.ext'
    simpa [Value.cells] using hx
  rw [this]; rfl

set_option maxRecDepth 100000 in
theorem orders_contract (H : Type) (enc : TypeId × Value → H) (W : World) (base : Nat) (args : Array Value) (ds gs : List (DataW H)) (before : List MemPlace)
    (hval : ∀ (j : Nat) t v, Tryz.f4.params[j]? = some t → args[j]? = some v → Value.okWide Tryz.prog W .any base t v)
    (hW : DataW.Whole enc Tryz.prog Tryz.f4.params.toList Rows.valueOrdersSpec.vars false W args.toList ds gs before) (ht : Tb W W.heap.size) :
    Calls Tryz.prog 4 args W fun e W' => ∃ v, e = .returned v ∧ Rows.valueOrdersSpec.post enc Tryz.prog Tryz.f4 false true false false W args v W' := by
  have hW' := hW
  obtain ⟨p, q, hA0, hV, rfl, hfz, hnd⟩ := hW
  have hA : DataW.TrodAll enc Tryz.prog W 0 (fun _ => true) true Tryz.f4.params.toList args.toList ds p := hA0
  rw [Tryz.params4] at hA hval
  obtain ⟨v0, vs0, d0, ds0, p0, q0, hargs, rfl, rfl, h0, r0⟩ := trodAll_cons hA
  obtain ⟨v1, vs1, d1, ds1, p1, q1, rfl, rfl, rfl, h1, r1⟩ := trodAll_cons r0
  obtain ⟨rfl, rfl, rfl⟩ := trodAll_nil r1
  obtain rfl : args = #[v0, v1] := by cases args; simp_all
  obtain ⟨rfl, rfl⟩ := trodVars_none hV
  obtain ⟨x, rfl, hx⟩ := open_arg (hval 0 24 v0 rfl rfl) h0
  obtain ⟨y, rfl, hy⟩ := open_arg (hval 1 24 v1 rfl rfl) h1
  refine (orders_any x y W hx hy ht).mono fun e W' ⟨he, hk⟩ => ?_
  subst he
  refine ⟨_, rfl, ?_⟩
  have hlt : ∀ p ∈ p0 ++ (p1 ++ []) ++ [], p.block < W.heap.size := fun p hp => hW'.lt p hp
  have hT : 24 < Tryz.prog.types.size := of_decide_eq_true (by kernel_rfl)
  refine post_of_kp (pa := p0 ++ (p1 ++ [])) (pv := []) hW' hk (fun _ _ _ => trodAll_cons_mk (shut_bool Tryz.underlying4 _) trodAll_mk0) (fun sp hsp => ?_) (fun _ _ => rfl) rfl (ok_one (by kernel_rfl) rfl (okWide_bool_mk Tryz.underlying4 _))
  rw [Tryz.params4]
  exact trodAll_cons_mk (trod_kp (DataW.Trod.respare kidsP fullP hT h0 (fun p hp => hsp p (by simp [hp]))) hk (fun p hp => hlt p (by simp [hp])))
    (trodAll_cons_mk (trod_kp (DataW.Trod.respare kidsP fullP hT h1 (fun p hp => hsp p (by simp [hp]))) hk (fun p hp => hlt p (by simp [hp]))) trodAll_mk0)

end Go.Proofs.YtbiljalhabnhlaaGreatDoor

/-
  ValueOrders: THE TABLE OF TENS, FROM THE ROW's LIST.
-/
namespace Go.Proofs.YtbiljalhabnhlaaGreatDoor
open Go.ChangeShapes Go.WideShapes Go.ChangeAt Go.RowKit

theorem laid_tail {P : Program} {x : String × DataW Unit} {xs : List (String × DataW Unit)} {W : World} (h : laidMet P (x :: xs) W) : laidMet P xs W := by
  obtain ⟨ps, hl, hn, hc⟩ := h
  obtain ⟨g, t, cs, fuel, p, q, hg, ht, hv, hd, hr, rfl⟩ := hl
  exact ⟨q, hr, (List.nodup_append.1 hn).2.1, fun b off hp => hc b off (List.mem_append_right _ hp)⟩

theorem gTab : Tryz.prog.globalNamed "internal/strconv.uint64pow10" = some 3 := by kernel_rfl

theorem tens {W : World} (h : laidMetH Tryz.prog Rows.valueOrdersRow.laid W) : Tb W W.heap.size := by
  have h1 : laidMet Tryz.prog Rows.valueOrdersRow.laid W := h
  have h2 := laid_tail (laid_tail h1)
  refine Lib.tabBelow_of_tabIs ?_
  exact Lib.tabIs_of_head gTab (t := 179) (n := 20) (e := 167) (by kernel_rfl) (by kernel_rfl) (by kernel_rfl) (by kernel_rfl) (by kernel_rfl) h2

end Go.Proofs.YtbiljalhabnhlaaGreatDoor

/-
  ValueOrders: THE STATEMENT, AND ITS CARD.
-/
namespace Go.Proofs.YtbiljalhabnhlaaGreatDoor.valueOrders
open Go.ChangeShapes Go.WideShapes Go.ChangeAt Go.RowKit Go.Lib

theorem own : ownKnob Tryz.prog.godebug = none := by kernel_rfl

def intsOf (k : IntKind) : DataW Unit → Array Value
  | .agg l => (l.map fun d => match d with | .lit (.int _ n) => Value.int k n | _ => Value.int k 0).toArray
  | _ => #[]

/-- THE WITNESS: the settled world with two blocks more (the two errors), the five variables holding what their initialisers lay. -/
noncomputable def laidWorld (os : Os) : World :=
  let N := (World.settled Tryz.prog os).heap.size
  let w0 := World.holding Tryz.prog os ⟨#[.cells #[.string ⟨#[105, 110, 118, 97, 108, 105, 100, 32, 115, 121, 110, 116, 97, 120]⟩] 187 (0, 0), .cells #[.string ⟨#[118, 97, 108, 117, 101, 32, 111, 117, 116, 32, 111, 102, 32, 114, 97, 110, 103, 101]⟩] 187 (0, 0)], #[], []⟩
  let put (h : Array Obj) (g : Nat) (cs : Array Value) : Array Obj := h.modify g fun
    | .cells _ t frozen => .cells cs t frozen
    | o => o
  let h1 := put w0.heap 1 #[.iface 185 (.pointer (some ⟨N, 0, none⟩))]
  let h2 := put h1 2 #[.iface 185 (.pointer (some ⟨N + 1, 0, none⟩))]
  let h3 := put h2 3 (intsOf .u64 Rows.laid_internal_strconv_uint64pow10)
  let h4 := put h3 4 (intsOf .u8 Rows.laid_math_bits_deBruijn32tab)
  let h5 := put h4 5 (intsOf .u8 Rows.laid_math_bits_deBruijn64tab)
  { w0 with heap := h5 }

noncomputable abbrev N0 : Nat := (World.settled Tryz.prog default).heap.size
/-- The witness's arguments: two words. -/
abbrev wArgs : Array Value := #[.agg #[.int .i64 0, .int .i64 0, .string ⟨#[]⟩, .slice none 0 0], .agg #[.int .i64 0, .int .i64 0, .string ⟨#[]⟩, .slice none 0 0]]

set_option maxRecDepth 1000000 in
theorem laid_met (os : Os) (args : Array Value) : laidMet Tryz.prog Rows.valueOrdersRow.laid ((laidWorld os).forCall (fun _ _ => 0) ⟨#[], args, []⟩).memory :=
  (LaidIn.of_run (l := Rows.valueOrdersRow.laid) [4, 5, 3, 2, N0 + 1, 1, N0] 8 (by kernel_rfl) (by kernel_rfl) (by kernel_rfl) (by kernel_rfl)).met

theorem witness_row (os : Os) {H : Type} (enc : TypeId × Value → H) :
    (OpenSpec.ofChange Rows.valueOrdersSpec).preRow enc Tryz.prog Tryz.f4 Rows.valueOrdersRow.domain false Rows.valueOrdersRow.laid ((laidWorld os).forCall (fun _ _ => 0) ⟨#[], wArgs, []⟩).memory wArgs := by
  have hw : (DataW.whole enc Tryz.prog ((laidWorld os).forCall (fun _ _ => 0) ⟨#[], wArgs, []⟩).memory Tryz.f4.params.toList Rows.valueOrdersSpec.vars false wArgs.toList 8).map (fun x => (x.1, x.2.1)) =
      some ([.agg [.lit (.int .i64 0), .lit (.int .i64 0), .lit (.string []), .nil], .agg [.lit (.int .i64 0), .lit (.int .i64 0), .lit (.string []), .nil]], []) := by kernel_rfl
  obtain ⟨⟨x1, x2, x3⟩, hx, hx1⟩ := Option.map_eq_some_iff.1 hw
  simp only [Prod.mk.injEq] at hx1
  obtain ⟨rfl, rfl⟩ := hx1
  exact OpenSpec.preRow_of_cond 8 hx (by kernel_rfl) (fun k hk => by cases hk) (by kernel_rfl) (laid_met os _)

set_option maxRecDepth 100000 in
set_option maxHeartbeats 2000000 in
theorem lifted (os : Os) (started : os.Started) (H : Type) (enc : TypeId × Value → H) (F : Stop.Interp) :
    ReturnsInHanded {} Tryz.checked os 4 .any ((OpenSpec.ofChange Rows.valueOrdersSpec).preRow enc Tryz.prog Tryz.f4 Rows.valueOrdersRow.domain false Rows.valueOrdersRow.laid) (((OpenSpec.ofChange Rows.valueOrdersSpec).at F).post enc Tryz.prog Tryz.f4 false true false false) := by
  refine returnsInHanded_of_row (C := Tryz.checked) (s := OpenSpec.ofChange Rows.valueOrdersSpec) own started (by kernel_rfl) Tryz.func4
    (witness_row_atRef (enc := enc) (C := Tryz.checked) false (laidWorld os) wArgs rfl (by kernel_rfl) (by kernel_rfl) (by kernel_rfl) (witness_row os enc)) ?_
  intro W base args ds gs before hval hW _ _ _ hL _ _
  exact orders_contract H enc W base args ds gs before hval hW (tens hL)

theorem said : Rows.ValueOrdersSaid :=
  OpenClaim.holds_of_cond 4 Tryz.f4 rfl rfl rfl rfl rfl rfl rfl ⟨rfl, rfl, rfl, rfl, rfl⟩ rfl rfl rfl rfl rfl (by kernel_rfl) Tryz.func4 (by kernel_rfl)
    (of_decide_eq_true (by kernel_rfl)) (by unfold Func.isWrapper; first | (rw [if_pos (by decide +kernel)]; kernel_rfl) | (rw [if_neg (by decide +kernel)]; exact ⟨rfl, rfl⟩))
    (fun os started H enc _ F => by rw [OpenClaim.pre_eq_preRow]; exact lifted os started H enc F)

/-- No parameter wants a stand-in; the program's own looks are off: what the card asks. -/
theorem plain (f : FuncId) (fn : Func) (hf : Tryz.pinned.checked.prog.funcNamed "deltaworks/deltaworkslaw01.ValueOrders" = some f) (hfn : Tryz.pinned.checked.prog.funcs[f]? = some fn) :
    true = Tryz.pinned.checked.prog.looks [] ∧ ∀ (j : Nat) t, fn.params[j]? = some t → Tryz.pinned.checked.prog.wantsStandIn t = false := by
  obtain rfl : f = 4 := Option.some.inj ((show Tryz.prog.funcNamed "deltaworks/deltaworkslaw01.ValueOrders" = some 4 by kernel_rfl).symm.trans hf) |>.symm
  obtain rfl : fn = Tryz.f4 := (Option.some.inj (Tryz.func4.symm.trans hfn)).symm
  refine ⟨by kernel_rfl, fun j t ht => ?_⟩
  rw [Tryz.params4] at ht
  obtain rfl : t = 24 := by simpa using Array.mem_of_getElem? ht
  exact (show Tryz.prog.wantsStandIn 24 = false by kernel_rfl)

/-- ████ THE CARD ████ -/
theorem card : Rows.ValueOrdersCardSaid :=
  Claim7.holds_tied_plain_at .later [] _ _ _ _ said (fun _ h => by cases h) (by kernel_rfl) (fun _ h => by cases h) valueOrders_row_tie rfl ⟨rfl, rfl⟩ (by kernel_rfl) rfl plain (by kernel_rfl)

end Go.Proofs.YtbiljalhabnhlaaGreatDoor.valueOrders
