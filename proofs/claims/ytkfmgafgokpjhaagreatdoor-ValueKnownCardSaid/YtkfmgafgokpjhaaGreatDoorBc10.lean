/-
  Contracts of the functions of package value, of its specification and of what the statements of layer 1 share (values and types made of numbers, the chapter's examples), each for every argument: used by the proofs of layer 1's statements.
  Part 10 of 12.
-/
import Derived.Test.YtkfmgafgokpjhaaGreatDoorBc09
import Derived.Test.YtkfmgafgokpjhaaGreatDoorBc06
import Derived.Test.YtkfmgafgokpjhaaGreatDoorBc08
import Derived.Test.YtkfmgafgokpjhaaGreatDoorBc03
import Derived.Test.YtkfmgafgokpjhaaGreatDoorBc04
import Derived.Lib.EndianBits
/-
  THE KEY OF ANY VALUE, AS THE PROGRAM WRITES IT.
-/
namespace Go.Proofs.YtkfmgafgokpjhaaGreatDoor
open Go.RowKit

theorem mTaggedKey (p : Value) (w : World) : (method 307 149 (.agg #[p]) "deltaworks/value.key").run Tryz.prog w = .ok (187, .agg #[p]) w := by kernel_rfl

set_option maxHeartbeats 2000000 in
theorem tupleKey_f (f : V → List UInt8) (w : World) (S b off b0 off0 : Nat) (xs : List UInt8) (n : Int) (s : ByteArray) (a : Option Addr) (cap : Nat) (l : List V) (hs : Sink w S xs) (hb : b < S) (hp : PtrAt w b off 2 n s (.slice a l.length cap)) (ha : l ≠ [] → a = some ⟨b0, off0, none⟩) (hl : l.length ≤ 9223372036854775807)
    (H : ∀ (j : Nat) (x : V), l[j]? = some x → ∀ (w1 : World) (xs1 : List UInt8), Sk S w w1 → Sink w1 S xs1 → xs1.length + (f x).length ≤ 1000000000000 →
      Calls Tryz.prog 182 #[.pointer (some ⟨b0, off0 + j * 4, none⟩), takeF S] w1 fun e w' => e = .returned (.tuple #[]) ∧ Sink w' S (xs1 ++ f x) ∧ Sk S w1 w')
    (hx : xs.length + (joinF f [] l).length + 2 ≤ 1000000000000) :
    Calls Tryz.prog 179 #[.agg #[.pointer (some ⟨b, off, none⟩)], takeF S] w fun e w' => e = .returned (.tuple #[]) ∧ Sink w' S (xs ++ (3 :: joinF f [] l ++ [0])) ∧ Sk S w w' := by
  have hlt := hs.lt
  have KB : ∀ wr, Sk S (w.alloc (.cells #[.pointer (some ⟨b, off, none⟩)] 146)) wr → wr.cell? ⟨w.heap.size, 0, none⟩ = some (.pointer (some ⟨b, off, none⟩)) ∧ wr.cell? ⟨b, off + 3, none⟩ = some (.slice a l.length cap) ∧ Sk S w wr := fun wr h =>
    have h' := (Sk.kp (ka w _) hlt).trans h
    ⟨boxIn hs h rfl, (hp.sk hb hs h').c3, h'⟩
  have HKB := Lib.hid KB
  have HS := Lib.hid hs
  have C := fun (w1 : World) (hk : Sk S w w1) (hs1 : Sink w1 S (xs ++ [3])) => listKey f w1 S b0 off0 a cap l (xs ++ [3]) ⟨#[]⟩ ⟨#[]⟩ ⟨#[0]⟩ ha hl hs1
    (fun j x hj w2 xs1 hk2 => H j x hj w2 xs1 (hk.trans hk2)) (by simp [ByteArray.size]; omega)
  have CC := Lib.hid C
  clear KB hs hp H C ha
  go_enter Tryz.func179, Tryz.ntmps179
  go_wp2_with fail
  refine (take_any _ S xs 3 3 rfl (HS.out.kp (ka _ _)) (by omega)).mono ?_
  rintro e w1 ⟨rfl, hs1, hk1⟩
  obtain ⟨hc0, hc3, hk1'⟩ := HKB.out w1 hk1
  have HS1 := Lib.hid hs1
  have HK1 := Lib.hid hk1'
  clear hs1 hk1 hk1'
  go_wp2_with fail
  refine (CC.out w1 HK1.out HS1.out).mono ?_
  rintro e w2 ⟨rfl, hs2, hk2⟩
  have HS2 := Lib.hid hs2
  have HK2 := Lib.hid (HK1.out.trans hk2)
  clear hs2 hk2 hc0 hc3
  go_wp2_with fail
  go_end0
  exact ⟨rfl, by simpa using HS2.out, HK2.out⟩

set_option maxRecDepth 100000 in
set_option maxHeartbeats 1000000 in
theorem writeKey_word (w : World) (S b off : Nat) (xs : List UInt8) (E : List UInt8) (n : Int) (s : ByteArray) (sl : Value) (hp : PtrAt w b off 0 n s sl)
    (C : Calls Tryz.prog 185 #[.agg #[.pointer (some ⟨b, off, none⟩)], takeF S] w fun e w' => e = .returned (.tuple #[]) ∧ Sink w' S (xs ++ E) ∧ Sk S w w') :
    Calls Tryz.prog 182 #[.pointer (some ⟨b, off, none⟩), takeF S] w fun e w' => e = .returned (.tuple #[]) ∧ Sink w' S (xs ++ E) ∧ Sk S w w' := by
  have CC1 := Lib.hid (shapeOf_any w b off 0 n s sl hp)
  have CC := Lib.hid C
  clear C hp
  have hm := mWordKey (.pointer (some ⟨b, off, none⟩))
  go_enter Tryz.func182, Tryz.ntmps182
  go_wp2_with fail
  refine CC1.out.mono ?_
  rintro e w' ⟨rfl, rfl⟩
  rw [show shapeT 0 = 147 from rfl]
  go_wp2_with fail
  refine CC.out.mono ?_
  rintro e w2 ⟨rfl, hs2, hk2⟩
  have HK2 := Lib.hid hk2
  have HS2 := Lib.hid hs2
  clear hs2 hk2 hm
  go_wp2_with fail
  go_end0
  exact ⟨rfl, HS2.out, HK2.out⟩

set_option maxRecDepth 100000 in
set_option maxHeartbeats 1000000 in
theorem writeKey_let (w : World) (S b off : Nat) (xs : List UInt8) (E : List UInt8) (n : Int) (s : ByteArray) (sl : Value) (hp : PtrAt w b off 1 n s sl)
    (C : Calls Tryz.prog 177 #[.agg #[.pointer (some ⟨b, off, none⟩)], takeF S] w fun e w' => e = .returned (.tuple #[]) ∧ Sink w' S (xs ++ E) ∧ Sk S w w') :
    Calls Tryz.prog 182 #[.pointer (some ⟨b, off, none⟩), takeF S] w fun e w' => e = .returned (.tuple #[]) ∧ Sink w' S (xs ++ E) ∧ Sk S w w' := by
  have CC1 := Lib.hid (shapeOf_any w b off 1 n s sl hp)
  have CC := Lib.hid C
  clear C hp
  have hm := mLettersKey (.pointer (some ⟨b, off, none⟩))
  go_enter Tryz.func182, Tryz.ntmps182
  go_wp2_with fail
  refine CC1.out.mono ?_
  rintro e w' ⟨rfl, rfl⟩
  rw [show shapeT 1 = 145 from rfl]
  go_wp2_with fail
  refine CC.out.mono ?_
  rintro e w2 ⟨rfl, hs2, hk2⟩
  have HK2 := Lib.hid hk2
  have HS2 := Lib.hid hs2
  clear hs2 hk2 hm
  go_wp2_with fail
  go_end0
  exact ⟨rfl, HS2.out, HK2.out⟩

set_option maxRecDepth 100000 in
set_option maxHeartbeats 1000000 in
theorem writeKey_tuple (w : World) (S b off : Nat) (xs : List UInt8) (E : List UInt8) (n : Int) (s : ByteArray) (sl : Value) (hp : PtrAt w b off 2 n s sl)
    (C : Calls Tryz.prog 179 #[.agg #[.pointer (some ⟨b, off, none⟩)], takeF S] w fun e w' => e = .returned (.tuple #[]) ∧ Sink w' S (xs ++ E) ∧ Sk S w w') :
    Calls Tryz.prog 182 #[.pointer (some ⟨b, off, none⟩), takeF S] w fun e w' => e = .returned (.tuple #[]) ∧ Sink w' S (xs ++ E) ∧ Sk S w w' := by
  have CC1 := Lib.hid (shapeOf_any w b off 2 n s sl hp)
  have CC := Lib.hid C
  clear C hp
  have hm := mTupleKey (.pointer (some ⟨b, off, none⟩))
  go_enter Tryz.func182, Tryz.ntmps182
  go_wp2_with fail
  refine CC1.out.mono ?_
  rintro e w' ⟨rfl, rfl⟩
  rw [show shapeT 2 = 146 from rfl]
  go_wp2_with fail
  refine CC.out.mono ?_
  rintro e w2 ⟨rfl, hs2, hk2⟩
  have HK2 := Lib.hid hk2
  have HS2 := Lib.hid hs2
  clear hs2 hk2 hm
  go_wp2_with fail
  go_end0
  exact ⟨rfl, HS2.out, HK2.out⟩

set_option maxRecDepth 100000 in
set_option maxHeartbeats 1000000 in
theorem writeKey_tagged (w : World) (S b off : Nat) (xs : List UInt8) (E : List UInt8) (n : Int) (s : ByteArray) (sl : Value) (hp : PtrAt w b off 3 n s sl)
    (C : Calls Tryz.prog 187 #[.agg #[.pointer (some ⟨b, off, none⟩)], takeF S] w fun e w' => e = .returned (.tuple #[]) ∧ Sink w' S (xs ++ E) ∧ Sk S w w') :
    Calls Tryz.prog 182 #[.pointer (some ⟨b, off, none⟩), takeF S] w fun e w' => e = .returned (.tuple #[]) ∧ Sink w' S (xs ++ E) ∧ Sk S w w' := by
  have CC1 := Lib.hid (shapeOf_any w b off 3 n s sl hp)
  have CC := Lib.hid C
  clear C hp
  have hm := mTaggedKey (.pointer (some ⟨b, off, none⟩))
  go_enter Tryz.func182, Tryz.ntmps182
  go_wp2_with fail
  refine CC1.out.mono ?_
  rintro e w' ⟨rfl, rfl⟩
  rw [show shapeT 3 = 149 from rfl]
  go_wp2_with fail
  refine CC.out.mono ?_
  rintro e w2 ⟨rfl, hs2, hk2⟩
  have HK2 := Lib.hid hk2
  have HS2 := Lib.hid hs2
  clear hs2 hk2 hm
  go_wp2_with fail
  go_end0
  exact ⟨rfl, HS2.out, HK2.out⟩


theorem u8_of {m : Int} (h : 0 ≤ m ∧ m < 256) : m = ((UInt8.ofNat m.toNat).toNat : Int) := by
  obtain ⟨u, rfl⟩ := Int.eq_ofNat_of_zero_le h.1
  simp
  omega

set_option maxHeartbeats 2000000 in
theorem taggedKey_any (w : World) (S b off b0 off0 : Nat) (xs : List UInt8) (n : Int) (s : ByteArray) (len cap : Nat) (T : List UInt8) (hs : Sink w S xs) (hb : b < S) (hp : PtrAt w b off 3 n s (.slice (some ⟨b0, off0, none⟩) len cap)) (hlen : 0 < len) (hl : len ≤ 9223372036854775807) (hn : 0 ≤ n ∧ n < 8)
    (H : ∀ (w1 : World) (xs1 : List UInt8), Sk S w w1 → Sink w1 S xs1 → xs1.length + T.length ≤ 1000000000000 →
      Calls Tryz.prog 182 #[.pointer (some ⟨b0, off0, none⟩), takeF S] w1 fun e w' => e = .returned (.tuple #[]) ∧ Sink w' S (xs1 ++ T) ∧ Sk S w1 w')
    (hx : xs.length + T.length + 2 ≤ 1000000000000) :
    Calls Tryz.prog 187 #[.agg #[.pointer (some ⟨b, off, none⟩)], takeF S] w fun e w' => e = .returned (.tuple #[]) ∧ Sink w' S (xs ++ (4 :: UInt8.ofNat (n + 1).toNat :: T)) ∧ Sk S w w' := by
  have hlt := hs.lt
  have KB : ∀ wr, Sk S (w.alloc (.cells #[.pointer (some ⟨b, off, none⟩)] 149)) wr → wr.cell? ⟨w.heap.size, 0, none⟩ = some (.pointer (some ⟨b, off, none⟩)) ∧ wr.cell? ⟨b, off + 1, none⟩ = some (.int .i64 n) ∧ wr.cell? ⟨b, off + 3, none⟩ = some (.slice (some ⟨b0, off0, none⟩) len cap) ∧ Sk S w wr := fun wr h =>
    have h' := (Sk.kp (ka w _) hlt).trans h
    ⟨boxIn hs h rfl, (hp.sk hb hs h').c1, (hp.sk hb hs h').c3, h'⟩
  have HKB := Lib.hid KB
  have HS := Lib.hid hs
  have HH := Lib.hid H
  have hv := u8_of (m := n + 1) (by omega)
  have HV := Lib.hid hv
  obtain ⟨n0, n1⟩ := hn
  clear KB hs H hp hv
  go_enter Tryz.func187, Tryz.ntmps187
  go_wp2_with fail
  refine (take_any _ S xs 4 4 rfl (HS.out.kp (ka _ _)) (by omega)).mono ?_
  rintro e w1 ⟨rfl, hs1, hk1⟩
  obtain ⟨hc0, hc1, hc3, _⟩ := HKB.out w1 hk1
  have HS1 := Lib.hid hs1
  have HK1 := Lib.hid hk1
  clear hs1 hk1
  go_wp2_with fail
  refine (take_any _ S _ _ (UInt8.ofNat (n + 1).toNat) (by first | exact HV.out | (rw [← HV.out]; omega)) HS1.out (by simp only [List.length_append, List.length_cons, List.length_nil]; omega)).mono ?_
  rintro e w2 ⟨rfl, hs2, hk2⟩
  obtain ⟨hd0, hd1, hd3, hk2'⟩ := HKB.out w2 (HK1.out.trans hk2)
  have HS2 := Lib.hid hs2
  have HK2 := Lib.hid hk2'
  have g1 : (0 : Int) < (len : Int) := by omega
  clear hs2 hk2 hk2' hc0 hc1 hc3
  go_wp2_with fail
  refine (HH.out _ _ HK2.out HS2.out (by simp only [List.length_append, List.length_cons, List.length_nil]; omega)).mono ?_
  rintro e w4 ⟨rfl, hs4, hk4⟩
  have HS4 := Lib.hid hs4
  have HK4 := Lib.hid (HK2.out.trans hk4)
  clear hs4 hk4 hd0 hd1 hd3
  go_wp2_with fail
  go_end0
  exact ⟨rfl, by simpa using HS4.out, HK4.out⟩

mutual
/-- The key of a value. -/
def V.keyB : V → List UInt8
  | .mk k n s _ _ l => if k = 1 then 2 :: s.data.toList ++ [0] else if k = 2 then 3 :: V.keyBL l ++ [0] else if k = 3 then 4 :: UInt8.ofNat (n + 1).toNat :: V.keyBH l else 1 :: wordBytes n
def V.keyBL : List V → List UInt8
  | [] => []
  | x :: xs => x.keyB ++ V.keyBL xs
def V.keyBH : List V → List UInt8
  | [] => []
  | x :: _ => x.keyB
end
theorem V.keyBL_join : ∀ (l : List V), V.keyBL l = joinF V.keyB [] l
  | [] => rfl
  | [x] => by simp [V.keyBL, joinF]
  | x :: y :: ys => by
    have ih := V.keyBL_join (y :: ys)
    rw [V.keyBL, ih]
    simp [joinF]

theorem shLK_at {l : List V} {d j : Nat} {x : V} (h : V.shL l d = true) (hx : l[j]? = some x) : x.sh d = true := by
  induction l generalizing j with
  | nil => simp at hx
  | cons y ys ih =>
    simp [V.shL] at h
    cases j with
    | zero => simp at hx; subst hx; exact h.1
    | succ j => exact ih h.2 (by simpa using hx)

theorem keyBV : ∀ (N : Nat) (v : V) (d : Nat) (w : World) (S b off : Nat) (xs : List UInt8), v.rank ≤ N → v.sh d = true → v.In w S → PtrAt w b off v.k v.n v.s (.slice v.a v.l.length v.cap) → b < S → Sink w S xs → xs.length + v.keyB.length ≤ 1000000000000 →
    Calls Tryz.prog 182 #[.pointer (some ⟨b, off, none⟩), takeF S] w fun e w' => e = .returned (.tuple #[]) ∧ Sink w' S (xs ++ v.keyB) ∧ Sk S w w' := by
  intro N
  induction N with
  | zero => intro v d w S b off xs h; have := v.rank_pos; omega
  | succ N ih =>
    intro v d w S b off xs hN hsh hin hp hb hs hx
    cases v with
    | mk k n s a cap l =>
    simp only [V.k, V.n, V.s, V.a, V.l, V.cap] at hp
    have hll := V.lenLe hin
    cases d with
    | zero => simp [V.sh] at hsh
    | succ d =>
    simp [V.sh] at hsh
    obtain ⟨hf, hpl⟩ := hsh
    have part : ∀ (b0 off0 : Nat), a = some ⟨b0, off0, none⟩ → (∀ (j : Nat) (x : V), l[j]? = some x → PtrAt w b0 (off0 + j * 4) x.k x.n x.s (.slice x.a x.l.length x.cap) ∧ x.In w S) → b0 < S →
        ∀ (j : Nat) (x : V), l[j]? = some x → ∀ (w1 : World) (xs1 : List UInt8), Sk S w w1 → Sink w1 S xs1 → xs1.length + x.keyB.length ≤ 1000000000000 →
          Calls Tryz.prog 182 #[.pointer (some ⟨b0, off0 + j * 4, none⟩), takeF S] w1 fun e w' => e = .returned (.tuple #[]) ∧ Sink w' S (xs1 ++ x.keyB) ∧ Sk S w1 w' := by
      intro b0 off0 _ hpt hb0 j x hj w1 xs1 hk1 hs1 hx1
      have hrk := V.rank_part (v := .mk k n s a cap l) (j := j) (x := x) hj
      have hbl := hk1.below hs
      exact ih x d w1 S b0 (off0 + j * 4) xs1 (by omega) (shLK_at hpl hj) ((hpt j x hj).2.keep (Nat.le_refl _) hbl) ((hpt j x hj).1.keep hb0 hbl) hb0 hs1 hx1
    by_cases k0 : k = 0
    · subst k0
      have e : (V.mk 0 n s a cap l).keyB = 1 :: wordBytes n := by simp [V.keyB]
      rw [e] at hx ⊢
      have hw : -2147483648 ≤ n ∧ n ≤ 2147483647 := by simp [fitsB, wordB] at hf; omega
      exact writeKey_word w S b off xs _ n s _ hp (wordKey_any w S b off xs 0 n s _ hs hp hb hw (by simp [wordBytes] at hx; omega))
    by_cases k1 : k = 1
    · subst k1
      have e : (V.mk 1 n s a cap l).keyB = 2 :: s.data.toList ++ [0] := by simp [V.keyB]
      rw [e] at hx ⊢
      exact writeKey_letters w S b off xs n s _ hs hp hb (by simp at hx; omega)
    by_cases k2 : k = 2
    · subst k2
      have e : (V.mk 2 n s a cap l).keyB = 3 :: joinF V.keyB [] l ++ [0] := by simp [V.keyB, V.keyBL_join]
      rw [e] at hx ⊢
      by_cases hl : l = []
      · exact writeKey_tuple w S b off xs _ n s _ hp (tupleKey_f V.keyB w S b off 0 0 xs n s a cap l hs hb hp (fun h => absurd hl h) hll (fun j x hj => by subst hl; simp at hj) (by simp at hx; omega))
      · obtain ⟨b0, off0, ha, hb0, hpt⟩ := V.ptrPart hin hl
        exact writeKey_tuple w S b off xs _ n s _ hp (tupleKey_f V.keyB w S b off b0 off0 xs n s a cap l hs hb hp (fun _ => ha) hll (part b0 off0 ha hpt hb0) (by simp at hx; omega))
    by_cases k3 : k = 3
    · subst k3
      simp [fitsB, taggedB] at hf
      obtain ⟨h1, h2, -, h4⟩ := hf
      match l, h4 with
      | [x], _ =>
      obtain ⟨b0, off0, ha, hb0, hpt⟩ := V.ptrPart hin (by simp)
      have e : (V.mk 3 n s a cap [x]).keyB = 4 :: UInt8.ofNat (n + 1).toNat :: x.keyB := by simp [V.keyB, V.keyBH]
      rw [e] at hx ⊢
      subst ha
      exact writeKey_tagged w S b off xs _ n s _ hp (taggedKey_any w S b off b0 off0 xs n s _ cap x.keyB hs hb hp (by simp) hll ⟨h1, h2⟩ (by simpa using part b0 off0 rfl hpt hb0 0 x (by simp)) (by simp at hx; omega))
    · simp [fitsB, k0, k1, k2, k3] at hf

end Go.Proofs.YtkfmgafgokpjhaaGreatDoor

/-
  Key OF ANY VALUE, THE PROGRAM's.
-/
namespace Go.Proofs.YtkfmgafgokpjhaaGreatDoor
open Go.RowKit

set_option maxRecDepth 100000 in
set_option maxHeartbeats 2000000 in
theorem writtenKey_word (n : Int) (s : ByteArray) (a : Option Addr) (cap : Nat) (l : List V) (w : World) (E : List UInt8) (hin : (V.mk 0 n s a cap l).In w w.heap.size) (hc : ¬ (V.mk 0 n s a cap l).cnt = 0) (hne : E ≠ [])
    (D : ∀ (w1 : World) (S b : Nat), Kp w w1 → w.heap.size ≤ S → PtrAt w1 b 0 0 n s (.slice a l.length cap) → b < S → Sink w1 S [] →
      Calls Tryz.prog 185 #[.agg #[.pointer (some ⟨b, 0, none⟩)], takeF S] w1 fun e w' => e = .returned (.tuple #[]) ∧ Sink w' S E ∧ Sk S w1 w') :
    Calls Tryz.prog 68 #[.agg #[.int .i64 0, .int .i64 n, .string s, .slice a l.length cap], .func (.methodOf 93 "deltaworks/value.key") #[] #[]] w fun e w' =>
      e = .returned (.tuple #[.string ⟨E.toArray⟩, .int .i64 0]) ∧ Kp w w' := by
  have C := fun w1 (h : Kp w w1) => checkV 0 n s a cap l w1 (hin.keep h.size h)
  rw [bad1 hc] at C
  have CC := Lib.hid C
  have DD := Lib.hid D
  have HNE := Lib.hid hne
  clear C D hin hc hne
  have hm := mWordKey
  go_enter Tryz.func68, Tryz.ntmps68
  go_wp2_with fail
  refine (CC.out _ (ka _ _)).mono ?_
  rintro e w1 ⟨rfl, hk⟩
  obtain ⟨b0, b1, b2, b3, hz⟩ := box4 hk
  have HK := Lib.hid (kk (ka _ _) hk)
  have HP := Lib.hid (⟨b0, b1, b2, b3⟩ : PtrAt w1 w.heap.size 0 0 n s (.slice a l.length cap))
  clear hk b0 b1 b2 b3
  go_wp2_with fail
  refine (shapeOf_any _ w.heap.size 0 0 n s (.slice a l.length cap) (HP.out.keep hz (ka _ _))).mono ?_
  rintro e w2 ⟨rfl, rfl⟩
  rw [show shapeT 0 = 147 from rfl]
  go_wp2_with fail
  refine (DD.out _ w1.heap.size w.heap.size (kk HK.out (ka _ _)) (by omega) (HP.out.keep hz (ka _ _)) hz ⟨.slice none 0 0, blockHere rfl, World.ownsRow_nil _ _ _ _⟩).mono ?_
  rintro e w3 ⟨rfl, hs3, hk3⟩
  obtain ⟨g, cap3, hc3, hcv⟩ := hs3.out HNE.out
  have HK3 := Lib.hid (HK.out.trans ((Below.alloc (Below.refl _ _) (by omega) _).trans ((hk3.below (S := w1.heap.size) (xs := []) ⟨.slice none 0 0, blockHere rfl, World.ownsRow_nil _ _ _ _⟩).mono (by omega))))
  clear hs3 hk3
  go_wp2_with fail
  go_ret2
  exact ⟨rfl, HK3.out⟩

set_option maxRecDepth 100000 in
set_option maxHeartbeats 2000000 in
theorem writtenKey_let (n : Int) (s : ByteArray) (a : Option Addr) (cap : Nat) (l : List V) (w : World) (E : List UInt8) (hin : (V.mk 1 n s a cap l).In w w.heap.size) (hc : ¬ (V.mk 1 n s a cap l).cnt = 0) (hne : E ≠ [])
    (D : ∀ (w1 : World) (S b : Nat), Kp w w1 → w.heap.size ≤ S → PtrAt w1 b 0 1 n s (.slice a l.length cap) → b < S → Sink w1 S [] →
      Calls Tryz.prog 177 #[.agg #[.pointer (some ⟨b, 0, none⟩)], takeF S] w1 fun e w' => e = .returned (.tuple #[]) ∧ Sink w' S E ∧ Sk S w1 w') :
    Calls Tryz.prog 68 #[.agg #[.int .i64 1, .int .i64 n, .string s, .slice a l.length cap], .func (.methodOf 93 "deltaworks/value.key") #[] #[]] w fun e w' =>
      e = .returned (.tuple #[.string ⟨E.toArray⟩, .int .i64 0]) ∧ Kp w w' := by
  have C := fun w1 (h : Kp w w1) => checkV 1 n s a cap l w1 (hin.keep h.size h)
  rw [bad1 hc] at C
  have CC := Lib.hid C
  have DD := Lib.hid D
  have HNE := Lib.hid hne
  clear C D hin hc hne
  have hm := mLettersKey
  go_enter Tryz.func68, Tryz.ntmps68
  go_wp2_with fail
  refine (CC.out _ (ka _ _)).mono ?_
  rintro e w1 ⟨rfl, hk⟩
  obtain ⟨b0, b1, b2, b3, hz⟩ := box4 hk
  have HK := Lib.hid (kk (ka _ _) hk)
  have HP := Lib.hid (⟨b0, b1, b2, b3⟩ : PtrAt w1 w.heap.size 0 1 n s (.slice a l.length cap))
  clear hk b0 b1 b2 b3
  go_wp2_with fail
  refine (shapeOf_any _ w.heap.size 0 1 n s (.slice a l.length cap) (HP.out.keep hz (ka _ _))).mono ?_
  rintro e w2 ⟨rfl, rfl⟩
  rw [show shapeT 1 = 145 from rfl]
  go_wp2_with fail
  refine (DD.out _ w1.heap.size w.heap.size (kk HK.out (ka _ _)) (by omega) (HP.out.keep hz (ka _ _)) hz ⟨.slice none 0 0, blockHere rfl, World.ownsRow_nil _ _ _ _⟩).mono ?_
  rintro e w3 ⟨rfl, hs3, hk3⟩
  obtain ⟨g, cap3, hc3, hcv⟩ := hs3.out HNE.out
  have HK3 := Lib.hid (HK.out.trans ((Below.alloc (Below.refl _ _) (by omega) _).trans ((hk3.below (S := w1.heap.size) (xs := []) ⟨.slice none 0 0, blockHere rfl, World.ownsRow_nil _ _ _ _⟩).mono (by omega))))
  clear hs3 hk3
  go_wp2_with fail
  go_ret2
  exact ⟨rfl, HK3.out⟩

set_option maxRecDepth 100000 in
set_option maxHeartbeats 2000000 in
theorem writtenKey_tup (n : Int) (s : ByteArray) (a : Option Addr) (cap : Nat) (l : List V) (w : World) (E : List UInt8) (hin : (V.mk 2 n s a cap l).In w w.heap.size) (hc : ¬ (V.mk 2 n s a cap l).cnt = 0) (hne : E ≠ [])
    (D : ∀ (w1 : World) (S b : Nat), Kp w w1 → w.heap.size ≤ S → PtrAt w1 b 0 2 n s (.slice a l.length cap) → b < S → Sink w1 S [] →
      Calls Tryz.prog 179 #[.agg #[.pointer (some ⟨b, 0, none⟩)], takeF S] w1 fun e w' => e = .returned (.tuple #[]) ∧ Sink w' S E ∧ Sk S w1 w') :
    Calls Tryz.prog 68 #[.agg #[.int .i64 2, .int .i64 n, .string s, .slice a l.length cap], .func (.methodOf 93 "deltaworks/value.key") #[] #[]] w fun e w' =>
      e = .returned (.tuple #[.string ⟨E.toArray⟩, .int .i64 0]) ∧ Kp w w' := by
  have C := fun w1 (h : Kp w w1) => checkV 2 n s a cap l w1 (hin.keep h.size h)
  rw [bad1 hc] at C
  have CC := Lib.hid C
  have DD := Lib.hid D
  have HNE := Lib.hid hne
  clear C D hin hc hne
  have hm := mTupleKey
  go_enter Tryz.func68, Tryz.ntmps68
  go_wp2_with fail
  refine (CC.out _ (ka _ _)).mono ?_
  rintro e w1 ⟨rfl, hk⟩
  obtain ⟨b0, b1, b2, b3, hz⟩ := box4 hk
  have HK := Lib.hid (kk (ka _ _) hk)
  have HP := Lib.hid (⟨b0, b1, b2, b3⟩ : PtrAt w1 w.heap.size 0 2 n s (.slice a l.length cap))
  clear hk b0 b1 b2 b3
  go_wp2_with fail
  refine (shapeOf_any _ w.heap.size 0 2 n s (.slice a l.length cap) (HP.out.keep hz (ka _ _))).mono ?_
  rintro e w2 ⟨rfl, rfl⟩
  rw [show shapeT 2 = 146 from rfl]
  go_wp2_with fail
  refine (DD.out _ w1.heap.size w.heap.size (kk HK.out (ka _ _)) (by omega) (HP.out.keep hz (ka _ _)) hz ⟨.slice none 0 0, blockHere rfl, World.ownsRow_nil _ _ _ _⟩).mono ?_
  rintro e w3 ⟨rfl, hs3, hk3⟩
  obtain ⟨g, cap3, hc3, hcv⟩ := hs3.out HNE.out
  have HK3 := Lib.hid (HK.out.trans ((Below.alloc (Below.refl _ _) (by omega) _).trans ((hk3.below (S := w1.heap.size) (xs := []) ⟨.slice none 0 0, blockHere rfl, World.ownsRow_nil _ _ _ _⟩).mono (by omega))))
  clear hs3 hk3
  go_wp2_with fail
  go_ret2
  exact ⟨rfl, HK3.out⟩

set_option maxRecDepth 100000 in
set_option maxHeartbeats 2000000 in
theorem writtenKey_tagg (n : Int) (s : ByteArray) (a : Option Addr) (cap : Nat) (l : List V) (w : World) (E : List UInt8) (hin : (V.mk 3 n s a cap l).In w w.heap.size) (hc : ¬ (V.mk 3 n s a cap l).cnt = 0) (hne : E ≠ [])
    (D : ∀ (w1 : World) (S b : Nat), Kp w w1 → w.heap.size ≤ S → PtrAt w1 b 0 3 n s (.slice a l.length cap) → b < S → Sink w1 S [] →
      Calls Tryz.prog 187 #[.agg #[.pointer (some ⟨b, 0, none⟩)], takeF S] w1 fun e w' => e = .returned (.tuple #[]) ∧ Sink w' S E ∧ Sk S w1 w') :
    Calls Tryz.prog 68 #[.agg #[.int .i64 3, .int .i64 n, .string s, .slice a l.length cap], .func (.methodOf 93 "deltaworks/value.key") #[] #[]] w fun e w' =>
      e = .returned (.tuple #[.string ⟨E.toArray⟩, .int .i64 0]) ∧ Kp w w' := by
  have C := fun w1 (h : Kp w w1) => checkV 3 n s a cap l w1 (hin.keep h.size h)
  rw [bad1 hc] at C
  have CC := Lib.hid C
  have DD := Lib.hid D
  have HNE := Lib.hid hne
  clear C D hin hc hne
  have hm := mTaggedKey
  go_enter Tryz.func68, Tryz.ntmps68
  go_wp2_with fail
  refine (CC.out _ (ka _ _)).mono ?_
  rintro e w1 ⟨rfl, hk⟩
  obtain ⟨b0, b1, b2, b3, hz⟩ := box4 hk
  have HK := Lib.hid (kk (ka _ _) hk)
  have HP := Lib.hid (⟨b0, b1, b2, b3⟩ : PtrAt w1 w.heap.size 0 3 n s (.slice a l.length cap))
  clear hk b0 b1 b2 b3
  go_wp2_with fail
  refine (shapeOf_any _ w.heap.size 0 3 n s (.slice a l.length cap) (HP.out.keep hz (ka _ _))).mono ?_
  rintro e w2 ⟨rfl, rfl⟩
  rw [show shapeT 3 = 149 from rfl]
  go_wp2_with fail
  refine (DD.out _ w1.heap.size w.heap.size (kk HK.out (ka _ _)) (by omega) (HP.out.keep hz (ka _ _)) hz ⟨.slice none 0 0, blockHere rfl, World.ownsRow_nil _ _ _ _⟩).mono ?_
  rintro e w3 ⟨rfl, hs3, hk3⟩
  obtain ⟨g, cap3, hc3, hcv⟩ := hs3.out HNE.out
  have HK3 := Lib.hid (HK.out.trans ((Below.alloc (Below.refl _ _) (by omega) _).trans ((hk3.below (S := w1.heap.size) (xs := []) ⟨.slice none 0 0, blockHere rfl, World.ownsRow_nil _ _ _ _⟩).mono (by omega))))
  clear hs3 hk3
  go_wp2_with fail
  go_ret2
  exact ⟨rfl, HK3.out⟩


set_option maxHeartbeats 1000000 in
theorem written_bad (k n : Int) (s : ByteArray) (a : Option Addr) (cap : Nat) (l : List V) (w : World) (f : Value) (hin : (V.mk k n s a cap l).In w w.heap.size) (hv : (V.mk k n s a cap l).valid = false) :
    Calls Tryz.prog 68 #[.agg #[.int .i64 k, .int .i64 n, .string s, .slice a l.length cap], f] w fun e w' =>
      e = .returned (.tuple #[.string ⟨#[]⟩, .int .i64 1]) ∧ Kp w w' := by
  have C := fun w1 (h : Kp w w1) => checkV k n s a cap l w1 (hin.keep h.size h)
  rw [bad_arg, hv] at C
  have CC := Lib.hid C
  clear C hin hv
  go_enter Tryz.func68, Tryz.ntmps68
  go_wp2_with fail
  refine (CC.out _ (ka _ _)).mono ?_
  rintro e w1 ⟨rfl, hk⟩
  have HK := Lib.hid (kk (ka _ _) hk)
  clear hk
  go_wp2_with fail
  go_ret2
  exact ⟨rfl, HK.out⟩

mutual
theorem V.keyB_len : ∀ (v : V) (d : Nat), v.sh d = true → v.keyB.length ≤ 110 * v.rank
  | .mk k n s a c l, d, h => by
    cases d with
    | zero => simp [V.sh] at h
    | succ d =>
    simp [V.sh] at h
    obtain ⟨hf, hl⟩ := h
    have ih := V.keyBL_len l d hl
    have ih2 := V.keyBH_len l
    simp only [V.keyB, V.rank]
    split
    · rename_i h1; subst h1
      simp [fitsB, textB] at hf
      simp; omega
    · split
      · simp; omega
      · split
        · simp; omega
        · simp [wordBytes]; omega
theorem V.keyBL_len : ∀ (l : List V) (d : Nat), V.shL l d = true → (V.keyBL l).length ≤ 110 * V.rank.ranks l
  | [], _, _ => by simp [V.keyBL]
  | x :: xs, d, h => by
    simp [V.shL] at h
    have h1 := V.keyB_len x d h.1
    have h2 := V.keyBL_len xs d h.2
    simp [V.keyBL, V.rank.ranks]; omega
theorem V.keyBH_len : ∀ (l : List V), (V.keyBH l).length ≤ (V.keyBL l).length
  | [] => by simp [V.keyBH]
  | x :: xs => by simp [V.keyBH, V.keyBL]
end
theorem V.keyB_ne (v : V) : v.keyB ≠ [] := by
  cases v
  simp only [V.keyB]
  split
  · simp
  · split
    · simp
    · split <;> simp

/-- What Key answers. -/
def keyOut (v : V) : Value := if v.valid then .tuple #[.string ⟨v.keyB.toArray⟩, .int .i64 0] else .tuple #[.string ⟨#[]⟩, .int .i64 1]

theorem writtenKeyV (k n : Int) (s : ByteArray) (a : Option Addr) (cap : Nat) (l : List V) (w : World) (hin : (V.mk k n s a cap l).In w w.heap.size) (hv : (V.mk k n s a cap l).valid = true) :
    Calls Tryz.prog 68 #[.agg #[.int .i64 k, .int .i64 n, .string s, .slice a l.length cap], .func (.methodOf 93 "deltaworks/value.key") #[] #[]] w fun e w' =>
      e = .returned (.tuple #[.string ⟨(V.mk k n s a cap l).keyB.toArray⟩, .int .i64 0]) ∧ Kp w w' := by
  have hc : ¬ (V.mk k n s a cap l).cnt = 0 := fun h => by
    have := (cnt_valid (V.mk k n s a cap l)).1 h
    rw [hv] at this; cases this
  have hsh : (V.mk k n s a cap l).sh 6 = true := by simp [V.valid] at hv; exact hv.1
  have hrk : (V.mk k n s a cap l).rank ≤ 60 := by simp [V.valid] at hv; exact hv.2
  have hlen := V.keyB_len _ 6 hsh
  have hb6 : (V.mk k n s a cap l).keyB.length ≤ 1000000000000 := by omega
  have hne := V.keyB_ne (V.mk k n s a cap l)
  have K : ∀ (w1 : World) (S b : Nat), Kp w w1 → w.heap.size ≤ S → PtrAt w1 b 0 k n s (.slice a l.length cap) → b < S → Sink w1 S [] → (V.mk k n s a cap l).In w1 S := fun w1 S b hk hS hp hb hs => hin.keep hS hk
  have hsh2 := hsh
  simp [V.sh] at hsh2
  obtain ⟨hf, hpl⟩ := hsh2
  have part : ∀ (w1 : World) (S b0 off0 : Nat), (∀ (j : Nat) (x : V), l[j]? = some x → PtrAt w1 b0 (off0 + j * 4) x.k x.n x.s (.slice x.a x.l.length x.cap) ∧ x.In w1 S) → b0 < S → Sink w1 S [] →
      ∀ (j : Nat) (x : V), l[j]? = some x → ∀ (w2 : World) (xs1 : List UInt8), Sk S w1 w2 → Sink w2 S xs1 → xs1.length + x.keyB.length ≤ 1000000000000 →
        Calls Tryz.prog 182 #[.pointer (some ⟨b0, off0 + j * 4, none⟩), takeF S] w2 fun e w' => e = .returned (.tuple #[]) ∧ Sink w' S (xs1 ++ x.keyB) ∧ Sk S w2 w' := by
    intro w1 S b0 off0 hpt hb0 hs j x hj w2 xs1 hk2 hs2 hx1
    have hbl := hk2.below hs
    exact keyBV _ x 5 w2 S b0 (off0 + j * 4) xs1 (Nat.le_refl _) (shLK_at hpl hj) ((hpt j x hj).2.keep (Nat.le_refl _) hbl) ((hpt j x hj).1.keep hb0 hbl) hb0 hs2 hx1
  by_cases k0 : k = 0
  · subst k0
    have e : (V.mk 0 n s a cap l).keyB = 1 :: wordBytes n := by simp [V.keyB]
    rw [e] at hb6 ⊢
    have hw : -2147483648 ≤ n ∧ n ≤ 2147483647 := by simp [fitsB, wordB] at hf; omega
    exact writtenKey_word n s a cap l w _ hin hc (by simp) (fun w1 S b hk hS hp hb hs => by simpa using wordKey_any w1 S b 0 [] 0 n s _ hs hp hb hw (by simp))
  by_cases k1 : k = 1
  · subst k1
    have e : (V.mk 1 n s a cap l).keyB = 2 :: s.data.toList ++ [0] := by simp [V.keyB]
    rw [e] at hb6 ⊢
    exact writtenKey_let n s a cap l w _ hin hc (by simp) (fun w1 S b hk hS hp hb hs => by simpa using lettersKey_any w1 S b 0 [] 1 n s _ hs hp hb (by simp at hb6 ⊢; omega))
  by_cases k2 : k = 2
  · subst k2
    have e : (V.mk 2 n s a cap l).keyB = 3 :: joinF V.keyB [] l ++ [0] := by simp [V.keyB, V.keyBL_join]
    rw [e] at hb6 ⊢
    refine writtenKey_tup n s a cap l w _ hin hc (by simp) (fun w1 S b hk hS hp hb hs => ?_)
    have hin1 := K w1 S b hk hS hp hb hs
    have hll := V.lenLe hin1
    by_cases hl : l = []
    · simpa using tupleKey_f V.keyB w1 S b 0 0 0 [] n s a cap l hs hb hp (fun h => absurd hl h) hll (fun j x hj => by subst hl; simp at hj) (by simp at hb6 ⊢; omega)
    · obtain ⟨b0, off0, ha, hb0, hpt⟩ := V.ptrPart hin1 hl
      simpa using tupleKey_f V.keyB w1 S b 0 b0 off0 [] n s a cap l hs hb hp (fun _ => ha) hll (part w1 S b0 off0 hpt hb0 hs) (by simp at hb6 ⊢; omega)
  by_cases k3 : k = 3
  · subst k3
    simp [fitsB, taggedB] at hf
    obtain ⟨h1, h2, -, h4⟩ := hf
    match l, h4 with
    | [x], _ =>
    have e : (V.mk 3 n s a cap [x]).keyB = 4 :: UInt8.ofNat (n + 1).toNat :: x.keyB := by simp [V.keyB, V.keyBH]
    rw [e] at hb6 ⊢
    refine writtenKey_tagg n s a cap [x] w _ hin hc (by simp) (fun w1 S b hk hS hp hb hs => ?_)
    have hin1 := K w1 S b hk hS hp hb hs
    obtain ⟨b0, off0, rfl, hb0, hpt⟩ := V.ptrPart hin1 (by simp)
    simpa using taggedKey_any w1 S b 0 b0 off0 [] n s _ cap x.keyB hs hb hp (by simp) (V.lenLe hin1) ⟨h1, h2⟩ (by simpa using part w1 S b0 off0 hpt hb0 hs 0 x (by simp)) (by simp at hb6 ⊢; omega)
  · simp [fitsB, k0, k1, k2, k3] at hf

set_option maxHeartbeats 1000000 in
/-- Key, for any value. -/
theorem keyP (k n : Int) (s : ByteArray) (a : Option Addr) (cap : Nat) (l : List V) (w : World) (hin : (V.mk k n s a cap l).In w w.heap.size) :
    Calls Tryz.prog 36 #[.agg #[.int .i64 k, .int .i64 n, .string s, .slice a l.length cap]] w fun e w' => e = .returned (keyOut (V.mk k n s a cap l)) ∧ Kp w w' := by
  have C : ∀ w1, Kp w w1 → Calls Tryz.prog 68 #[.agg #[.int .i64 k, .int .i64 n, .string s, .slice a l.length cap], .func (.methodOf 93 "deltaworks/value.key") #[] #[]] w1 fun e w' => e = .returned (keyOut (V.mk k n s a cap l)) ∧ Kp w1 w' := fun w1 h => by
    unfold keyOut
    cases hv : (V.mk k n s a cap l).valid with
    | true => simpa using writtenKeyV k n s a cap l w1 (hin.keep h.size h) hv
    | false => simpa using written_bad k n s a cap l w1 _ (hin.keep h.size h) hv
  obtain ⟨t, c, hkv⟩ : ∃ t c, keyOut (V.mk k n s a cap l) = .tuple #[.string t, .int .i64 c] := by unfold keyOut; split <;> exact ⟨_, _, rfl⟩
  rw [hkv] at C ⊢
  have CC := Lib.hid C
  clear C hin hkv
  go_enter Tryz.func36, Tryz.ntmps36
  go_wp2_with fail
  refine (CC.out _ (ka _ _)).mono ?_
  rintro e w1 ⟨rfl, hk⟩
  have HK := Lib.hid (kk (ka _ _) hk)
  clear hk
  go_wp2_with fail
  go_ret2
  exact ⟨rfl, HK.out⟩

end Go.Proofs.YtkfmgafgokpjhaaGreatDoor

/-
  PLAIN MATHEMATICS: THE ORDER OF VALUES IS ONE.
-/
namespace Go.Proofs.YtkfmgafgokpjhaaGreatDoor

theorem cmpQ_range (a b : Int) : cmpI a b = -1 ∨ cmpI a b = 0 ∨ cmpI a b = 1 := by unfold cmpI; split; simp; split <;> simp
theorem cmpQ_neg (a b : Int) : cmpI b a = -cmpI a b := by
  unfold cmpI
  by_cases h : a < b
  · simp [h, show ¬ b < a from by omega]
  · by_cases h' : b < a <;> simp [h, h']
theorem cmpQ_zero (a b : Int) : cmpI a b = 0 ↔ a = b := by
  unfold cmpI
  by_cases h : a < b
  · simp [h]; omega
  · by_cases h' : b < a
    · simp [h, h']; omega
    · simp [h, h']; omega
theorem cmpQ_le (a b : Int) : cmpI a b ≤ 0 ↔ a ≤ b := by
  unfold cmpI
  by_cases h : a < b
  · simp [h]; omega
  · by_cases h' : b < a
    · simp [h, h']
    · simp [h, h']; omega
theorem cmpQ_trans {a b c : Int} (h : cmpI a b ≤ 0) (h' : cmpI b c ≤ 0) : cmpI a c ≤ 0 := by
  rw [cmpQ_le] at *; omega

abbrev cb (a b : List UInt8) : Int := Lib.compareBytes a b
theorem cb_range : ∀ (a b : List UInt8), cb a b = -1 ∨ cb a b = 0 ∨ cb a b = 1
  | [], [] => by simp [Lib.compareBytes]
  | [], _ :: _ => by simp [Lib.compareBytes]
  | _ :: _, [] => by simp [Lib.compareBytes]
  | x :: a, y :: b => by
    unfold cb Lib.compareBytes
    split
    · simp
    · split
      · simp
      · exact cb_range a b
theorem cb_cons (x y : UInt8) (a b : List UInt8) : cb (x :: a) (y :: b) = if x < y then -1 else if y < x then 1 else cb a b := rfl
theorem u8_lt (x y : UInt8) : x < y ↔ x.toNat < y.toNat := UInt8.lt_iff_toNat_lt
theorem cb_neg : ∀ (a b : List UInt8), cb b a = -cb a b
  | [], [] => by simp [Lib.compareBytes]
  | [], _ :: _ => by simp [Lib.compareBytes]
  | _ :: _, [] => by simp [Lib.compareBytes]
  | x :: a, y :: b => by
    rw [cb_cons, cb_cons]
    have ih := cb_neg a b
    by_cases h : x < y
    · have : ¬ y < x := by rw [u8_lt] at *; omega
      simp [h, this]
    · by_cases h' : y < x
      · simp [h, h']
      · simp only [h, h', if_false]; exact ih
theorem cb_zero : ∀ (a b : List UInt8), cb a b = 0 ↔ a = b
  | [], [] => by simp [Lib.compareBytes]
  | [], _ :: _ => by simp [Lib.compareBytes]
  | _ :: _, [] => by simp [Lib.compareBytes]
  | x :: a, y :: b => by
    rw [cb_cons]
    have ih := cb_zero a b
    by_cases h : x < y
    · have : x ≠ y := by rintro rfl; rw [u8_lt] at h; omega
      simp [h, this]
    · by_cases h' : y < x
      · have : x ≠ y := by rintro rfl; rw [u8_lt] at h'; omega
        simp [h, h', this]
      · have : x = y := by rw [u8_lt] at *; exact UInt8.toNat_inj.1 (by omega)
        subst this
        simp only [h, if_false, List.cons.injEq, true_and]; exact ih
theorem cb_trans : ∀ (a b c : List UInt8), cb a b ≤ 0 → cb b c ≤ 0 → cb a c ≤ 0
  | [], _, [], _, _ => by simp [Lib.compareBytes]
  | [], _, _ :: _, _, _ => by simp [Lib.compareBytes]
  | _ :: _, [], _, h, _ => by simp [Lib.compareBytes] at h
  | _ :: _, _ :: _, [], _, h => by simp [Lib.compareBytes] at h
  | x :: a, y :: b, z :: c, h, h' => by
    rw [cb_cons] at *
    have ih := cb_trans a b c
    simp only [u8_lt] at *
    by_cases h1 : x.toNat < y.toNat
    · by_cases h2 : y.toNat < z.toNat
      · simp [show x.toNat < z.toNat from by omega]
      · by_cases h3 : z.toNat < y.toNat
        · simp [h2, h3] at h'
        · simp [show x.toNat < z.toNat from by omega]
    · by_cases h1' : y.toNat < x.toNat
      · simp [h1, h1'] at h
      · by_cases h2 : y.toNat < z.toNat
        · simp [show x.toNat < z.toNat from by omega]
        · by_cases h3 : z.toNat < y.toNat
          · simp [h2, h3] at h'
          · simp only [h1, h1', h2, h3, if_false] at h h'
            simp only [show ¬ x.toNat < z.toNat from by omega, show ¬ z.toNat < x.toNat from by omega, if_false]
            exact ih h h'

/-- The first that is not 0. -/
def lex (a b : Int) : Int := if a ≠ 0 then a else b
theorem lex_range {a b : Int} (h : a = -1 ∨ a = 0 ∨ a = 1) (h' : b = -1 ∨ b = 0 ∨ b = 1) : lex a b = -1 ∨ lex a b = 0 ∨ lex a b = 1 := by
  unfold lex; split <;> assumption
theorem lex_neg {a b a' b' : Int} (h : a' = -a) (h' : b' = -b) : lex a' b' = -lex a b := by
  unfold lex; subst h; subst h'
  by_cases h : a = 0
  · subst h; simp
  · have : -a ≠ 0 := by omega
    simp [h]
theorem lex_zero {a b : Int} : lex a b = 0 ↔ a = 0 ∧ b = 0 := by
  unfold lex
  by_cases h : a = 0 <;> simp [h]
/-- Of three in a round (a: x against y, b: y against z, c: z against x): two that don't go up make the third not go down. -/
def Tri (a b c : Int) : Prop := (a ≤ 0 → b ≤ 0 → 0 ≤ c) ∧ (c ≤ 0 → a ≤ 0 → 0 ≤ b) ∧ (b ≤ 0 → c ≤ 0 → 0 ≤ a)
theorem lex_tri {a b c a' b' c' : Int} (h : Tri a b c) (h' : Tri a' b' c') : Tri (lex a a') (lex b b') (lex c c') := by
  obtain ⟨h1, h2, h3⟩ := h
  obtain ⟨k1, k2, k3⟩ := h'
  unfold lex Tri
  by_cases ea : a = 0 <;> by_cases eb : b = 0 <;> by_cases ec : c = 0 <;> simp only [ea, eb, ec, ne_eq, not_true_eq_false, not_false_eq_true, if_true, if_false] <;> refine ⟨?_, ?_, ?_⟩ <;> intros <;> omega
theorem cmpQ_tri (x y z : Int) : Tri (cmpI x y) (cmpI y z) (cmpI z x) := by
  have e1 := cmpQ_neg x z
  have e2 := cmpQ_neg y z
  have e3 := cmpQ_neg x y
  refine ⟨fun h h' => ?_, fun h h' => ?_, fun h h' => ?_⟩
  · have := cmpQ_trans h h'; omega
  · have := cmpQ_trans h h'; omega
  · have := cmpQ_trans h h'; omega
theorem cb_tri (x y z : List UInt8) : Tri (cb x y) (cb y z) (cb z x) := by
  have e1 := cb_neg x z
  have e2 := cb_neg y z
  have e3 := cb_neg x y
  refine ⟨fun h h' => ?_, fun h h' => ?_, fun h h' => ?_⟩
  · have := cb_trans _ _ _ h h'; omega
  · have := cb_trans _ _ _ h h'; omega
  · have := cb_trans _ _ _ h h'; omega

/-- What a node alone says. -/
def own3 (x y : V) : Int := lex (cmpI x.k y.k) (lex (cmpI x.n y.n) (cb x.s.data.toList y.s.data.toList))
theorem ord_lex (x y : V) : x.ord y = lex (own3 x y) (V.ordL x.l y.l) := by
  cases x; cases y
  rw [V.ord]
  rfl
theorem ordL_lex (x y : V) (xs ys : List V) : V.ordL (x :: xs) (y :: ys) = lex (x.ord y) (V.ordL xs ys) := by
  simp only [V.ordL, lex]
theorem own3_range (x y : V) : own3 x y = -1 ∨ own3 x y = 0 ∨ own3 x y = 1 := lex_range (cmpQ_range _ _) (lex_range (cmpQ_range _ _) (cb_range _ _))
theorem own3_neg (x y : V) : own3 y x = -own3 x y := lex_neg (cmpQ_neg _ _) (lex_neg (cmpQ_neg _ _) (cb_neg _ _))
theorem own3_tri (x y z : V) : Tri (own3 x y) (own3 y z) (own3 z x) := lex_tri (cmpQ_tri _ _ _) (lex_tri (cmpQ_tri _ _ _) (cb_tri _ _ _))

mutual
theorem ord_range : ∀ (x y : V), x.ord y = -1 ∨ x.ord y = 0 ∨ x.ord y = 1
  | .mk k n s a c l, y => by rw [ord_lex]; exact lex_range (own3_range _ _) (ordL_range l y.l)
theorem ordL_range : ∀ (l m : List V), V.ordL l m = -1 ∨ V.ordL l m = 0 ∨ V.ordL l m = 1
  | [], [] => by simp [V.ordL]
  | [], _ :: _ => by simp [V.ordL]
  | _ :: _, [] => by simp [V.ordL]
  | x :: xs, y :: ys => by rw [ordL_lex]; exact lex_range (ord_range x y) (ordL_range xs ys)
end
mutual
theorem ord_neg : ∀ (x y : V), y.ord x = -x.ord y
  | .mk k n s a c l, y => by rw [ord_lex, ord_lex]; exact lex_neg (own3_neg _ _) (ordL_neg l y.l)
theorem ordL_neg : ∀ (l m : List V), V.ordL m l = -V.ordL l m
  | [], [] => by simp [V.ordL]
  | [], _ :: _ => by simp [V.ordL]
  | _ :: _, [] => by simp [V.ordL]
  | x :: xs, y :: ys => by rw [ordL_lex, ordL_lex]; exact lex_neg (ord_neg x y) (ordL_neg xs ys)
end
mutual
theorem ord_tri : ∀ (x y z : V), Tri (x.ord y) (y.ord z) (z.ord x)
  | .mk k n s a c l, y, z => by
    rw [ord_lex, ord_lex, ord_lex]
    exact lex_tri (own3_tri _ _ _) (ordL_tri l y.l z.l)
theorem ordL_tri : ∀ (l m q : List V), Tri (V.ordL l m) (V.ordL m q) (V.ordL q l)
  | [], [], [] => by simp [V.ordL, Tri]
  | [], [], _ :: _ => by simp [V.ordL, Tri]
  | [], _ :: _, [] => by simp [V.ordL, Tri]
  | [], y :: ys, z :: zs => by simp [V.ordL, Tri]
  | _ :: _, [], [] => by simp [V.ordL, Tri]
  | _ :: _, [], _ :: _ => by simp [V.ordL, Tri]
  | _ :: _, _ :: _, [] => by simp [V.ordL, Tri]
  | x :: xs, y :: ys, z :: zs => by
    rw [ordL_lex, ordL_lex, ordL_lex]
    exact lex_tri (ord_tri x y z) (ordL_tri xs ys zs)
end
theorem ord_trans (x y z : V) (h : x.ord y ≤ 0) (h' : y.ord z ≤ 0) : x.ord z ≤ 0 := by
  have := (ord_tri x y z).1 h h'
  have := ord_neg x z
  omega

mutual
theorem ord_same : ∀ (x y : V), x.ord y = 0 ↔ x.same y = true
  | .mk k n s a c l, .mk k' n' s' a' c' l' => by
    rw [ord_lex, lex_zero]
    simp only [own3, lex_zero, cmpQ_zero, cb_zero, V.k, V.n, V.s, V.l, V.same, Bool.and_eq_true, decide_eq_true_eq, ordL_same l l']
    rw [and_assoc, and_assoc]
    have : s.data.toList = s'.data.toList ↔ s.toList = s'.toList := by
      rw [ByteArray.toList_eq, ByteArray.toList_eq]
    rw [this]
theorem ordL_same : ∀ (l m : List V), V.ordL l m = 0 ↔ V.sameL l m = true
  | [], [] => by simp [V.ordL, V.sameL]
  | [], _ :: _ => by simp [V.ordL, V.sameL]
  | _ :: _, [] => by simp [V.ordL, V.sameL]
  | x :: xs, y :: ys => by
    rw [ordL_lex, lex_zero, ord_same x y, ordL_same xs ys]
    simp [V.sameL]
end

end Go.Proofs.YtkfmgafgokpjhaaGreatDoor

/-
  PLAIN MATHEMATICS: KEYS ARE IN THE ORDER OF VALUES, AND NONE IS ANOTHER's BEGINNING.
-/
namespace Go.Proofs.YtkfmgafgokpjhaaGreatDoor
open Go.RowKit

theorem lex_assoc (a b c : Int) : lex (lex a b) c = lex a (lex b c) := by
  unfold lex
  by_cases h : a = 0 <;> simp [h]
theorem lex_zero_l (b : Int) : lex 0 b = b := by simp [lex]
theorem lex_zero_r (a : Int) : lex a 0 = a := by
  unfold lex
  by_cases h : a = 0 <;> simp [h]
theorem cb_same (x : UInt8) (a b : List UInt8) : cb (x :: a) (x :: b) = cb a b := by
  rw [cb_cons]
  have : ¬ x < x := by rw [u8_lt]; omega
  simp [this]
theorem cb_byte (x y : UInt8) (a b : List UInt8) : cb (x :: a) (y :: b) = lex (cmpI x.toNat y.toNat) (cb a b) := by
  rw [cb_cons]
  simp only [u8_lt]
  unfold lex cmpI
  by_cases h : x.toNat < y.toNat
  · have h' : (x.toNat : Int) < (y.toNat : Int) := by omega
    simp [h, h']
  · have h' : ¬ (x.toNat : Int) < (y.toNat : Int) := by omega
    by_cases g : y.toNat < x.toNat
    · have g' : (y.toNat : Int) < (x.toNat : Int) := by omega
      simp [h, h', g, g']
    · have g' : ¬ (y.toNat : Int) < (x.toNat : Int) := by omega
      simp [h, h', g, g']

/-- A number of 32 bits, byte by byte. -/
theorem word_cmp (n m : Int) (r r' : List UInt8) (hn : -2147483648 ≤ n ∧ n ≤ 2147483647) (hm : -2147483648 ≤ m ∧ m ≤ 2147483647) : cb (wordBytes n ++ r) (wordBytes m ++ r') = lex (cmpI n m) (cb r r') := by
  simp only [wordBytes, List.cons_append, List.nil_append, cb_byte, ← lex_assoc]
  congr 1
  simp only [← byteAt_val]
  generalize hu : n + 2147483648 = u
  generalize hv : m + 2147483648 = v
  have h1 : cmpI n m = cmpI u v := by unfold cmpI; rw [← hu, ← hv]; congr 1 <;> simp
  rw [h1]
  have hu0 : 0 ≤ u ∧ u < 4294967296 := by omega
  have hv0 : 0 ≤ v ∧ v < 4294967296 := by omega
  clear hu hv h1 hn hm
  simp only [Nat.mul_zero, Nat.sub_zero, Nat.mul_one, show 24 - 8 = 16 from rfl, show 24 - 8 * 2 = 8 from rfl, show 24 - 8 * 3 = 0 from rfl, Int.pow_zero, Int.ediv_one, show (2 : Int) ^ 24 = 16777216 from rfl, show (2 : Int) ^ 16 = 65536 from rfl, show (2 : Int) ^ 8 = 256 from rfl]
  unfold lex cmpI
  by_cases e0 : u / 16777216 % 256 = v / 16777216 % 256
  · by_cases e1 : u / 65536 % 256 = v / 65536 % 256
    · by_cases e2 : u / 256 % 256 = v / 256 % 256
      · simp only [e0, e1, e2, Int.lt_irrefl, if_false, ne_eq, not_true_eq_false]
        by_cases h : u < v
        · have : u % 256 < v % 256 := by omega
          simp [h, this]
        · by_cases h' : v < u
          · have g1 : ¬ u % 256 < v % 256 := by omega
            have g2 : v % 256 < u % 256 := by omega
            simp [h, h', g1, g2]
          · have g1 : ¬ u % 256 < v % 256 := by omega
            have g2 : ¬ v % 256 < u % 256 := by omega
            simp [h, h', g1, g2]
      · simp only [e0, e1, Int.lt_irrefl, if_false, ne_eq, not_true_eq_false]
        by_cases h : u / 256 % 256 < v / 256 % 256
        · have : u < v := by omega
          simp [h, this]
        · have h2 : v / 256 % 256 < u / 256 % 256 := by omega
          have g1 : ¬ u < v := by omega
          have g2 : v < u := by omega
          simp [h, h2, g1, g2]
    · simp only [e0, Int.lt_irrefl, if_false, ne_eq, not_true_eq_false]
      by_cases h : u / 65536 % 256 < v / 65536 % 256
      · have : u < v := by omega
        simp [h, this]
      · have h2 : v / 65536 % 256 < u / 65536 % 256 := by omega
        have g1 : ¬ u < v := by omega
        have g2 : v < u := by omega
        simp [h, h2, g1, g2]
  · by_cases h : u / 16777216 % 256 < v / 16777216 % 256
    · have : u < v := by omega
      simp [h, this]
    · have h2 : v / 16777216 % 256 < u / 16777216 % 256 := by omega
      have g1 : ¬ u < v := by omega
      have g2 : v < u := by omega
      simp [h, h2, g1, g2]

/-- A text of bytes that are not 0, and its end. -/
theorem text_cmp : ∀ (s t : List UInt8) (r r' : List UInt8), (∀ c ∈ s, 0 < c.toNat) → (∀ c ∈ t, 0 < c.toNat) → cb (s ++ 0 :: r) (t ++ 0 :: r') = lex (cb s t) (cb r r')
  | [], [], r, r', _, _ => by simp [cb_same, lex, Lib.compareBytes]
  | [], c :: t, r, r', _, h => by
    have h0 := h c (by simp)
    have : cmpI ((0 : UInt8).toNat) c.toNat = -1 := by unfold cmpI; simp; omega
    rw [List.nil_append, List.cons_append, cb_byte, this]
    simp [lex, Lib.compareBytes]
  | c :: s, [], r, r', h, _ => by
    have h0 := h c (by simp)
    have : cmpI c.toNat ((0 : UInt8).toNat) = 1 := by unfold cmpI; simp; omega
    rw [List.nil_append, List.cons_append, cb_byte, this]
    simp [lex, Lib.compareBytes]
  | c :: s, e :: t, r, r', h, h' => by
    rw [List.cons_append, List.cons_append, cb_byte, cb_byte, text_cmp s t r r' (fun x hx => h x (by simp [hx])) (fun x hx => h' x (by simp [hx])), lex_assoc]

theorem chars_pos {s : ByteArray} (h : charsB s = true) : ∀ c ∈ s.data.toList, 0 < c.toNat := by
  intro c hc
  unfold charsB at h
  have := List.all_eq_true.1 h c hc
  simp [byteB] at this
  omega

theorem keyB_head (v : V) (d : Nat) (h : v.sh d = true) : ∃ b t, v.keyB = b :: t ∧ (b.toNat : Int) = v.k + 1 ∧ 0 ≤ v.k ∧ v.k ≤ 3 := by
  cases v with
  | mk k n s a c l =>
  cases d with
  | zero => simp [V.sh] at h
  | succ d =>
  simp [V.sh] at h
  obtain ⟨hf, -⟩ := h
  by_cases k1 : k = 1
  · subst k1; exact ⟨2, _, by simp [V.keyB]; rfl, by simp [V.k], by simp [V.k], by simp [V.k]⟩
  by_cases k2 : k = 2
  · subst k2; exact ⟨3, _, by simp [V.keyB]; rfl, by simp [V.k], by simp [V.k], by simp [V.k]⟩
  by_cases k3 : k = 3
  · subst k3; exact ⟨4, _, by simp [V.keyB]; rfl, by simp [V.k], by simp [V.k], by simp [V.k]⟩
  · by_cases k0 : k = 0
    · subst k0; exact ⟨1, _, by simp [V.keyB]; rfl, by simp [V.k], by simp [V.k], by simp [V.k]⟩
    · simp [fitsB, k0, k1, k2, k3] at hf

mutual
theorem key_cmp : ∀ (x y : V) (d d' : Nat), x.sh d = true → y.sh d' = true → ∀ (r r' : List UInt8), cb (x.keyB ++ r) (y.keyB ++ r') = lex (x.ord y) (cb r r')
  | .mk k n s a c l, .mk k' n' s' a' c' l', d, d', hx, hy, r, r' => by
    by_cases hk : k = k'
    · subst hk
      cases d with
      | zero => simp [V.sh] at hx
      | succ d =>
      cases d' with
      | zero => simp [V.sh] at hy
      | succ d' =>
      simp [V.sh] at hx hy
      obtain ⟨hf, hl⟩ := hx
      obtain ⟨hf', hl'⟩ := hy
      have hkk : cmpI k k = 0 := by rw [cmpQ_zero]
      rw [ord_lex, own3]
      simp only [V.k, V.n, V.s, V.l, hkk, lex_zero_l]
      by_cases k0 : k = 0
      · subst k0
        simp [fitsB, wordB] at hf hf'
        obtain ⟨h1, h2, h3, h4⟩ := hf
        obtain ⟨g1, g2, g3, g4⟩ := hf'
        subst h4 g4
        have es : s.data.toList = s'.data.toList := by rw [← ByteArray.toList_eq, ← ByteArray.toList_eq, h3, g3]
        have : cb s.data.toList s'.data.toList = 0 := by rw [cb_zero]; exact es
        simp only [V.keyB, V.ordL, this, lex_zero_r, show ¬ (0 : Int) = 1 by decide, show ¬ (0 : Int) = 2 by decide, show ¬ (0 : Int) = 3 by decide, if_false, List.cons_append, cb_same]
        exact word_cmp n n' r r' ⟨h1, h2⟩ ⟨g1, g2⟩
      by_cases k1 : k = 1
      · subst k1
        simp [fitsB, textB] at hf hf'
        obtain ⟨h1, h2, h3, h4⟩ := hf
        obtain ⟨g1, g2, g3, g4⟩ := hf'
        subst h1 g1 h2 g2
        have : cmpI 0 0 = 0 := by rw [cmpQ_zero]
        simp only [V.keyB, V.ordL, this, lex_zero_r, lex_zero_l, if_true, List.cons_append, List.append_assoc, cb_same, List.nil_append]
        exact text_cmp _ _ r r' (chars_pos h4) (chars_pos g4)
      by_cases k2 : k = 2
      · subst k2
        simp [fitsB, tupleB] at hf hf'
        obtain ⟨h1, h3, -⟩ := hf
        obtain ⟨g1, g3, -⟩ := hf'
        subst h1 g1
        have es : s.data.toList = s'.data.toList := by rw [← ByteArray.toList_eq, ← ByteArray.toList_eq, h3, g3]
        have e1 : cb s.data.toList s'.data.toList = 0 := by rw [cb_zero]; exact es
        have e2 : cmpI 0 0 = 0 := by rw [cmpQ_zero]
        simp only [V.keyB, e1, e2, lex_zero_l, show ¬ (2 : Int) = 1 by decide, if_false, if_true, List.cons_append, List.append_assoc, cb_same, List.nil_append]
        exact keyL_cmp l l' d d' hl hl' r r'
      by_cases k3 : k = 3
      · subst k3
        simp [fitsB, taggedB] at hf hf'
        obtain ⟨h1, h2, h3, h4⟩ := hf
        obtain ⟨g1, g2, g3, g4⟩ := hf'
        have es : s.data.toList = s'.data.toList := by rw [← ByteArray.toList_eq, ← ByteArray.toList_eq, h3, g3]
        have e1 : cb s.data.toList s'.data.toList = 0 := by rw [cb_zero]; exact es
        have e3 := keyH_cmp l l' d d' h4 g4 hl hl' r r'
        simp only [V.keyB, e1, lex_zero_r, show ¬ (3 : Int) = 1 by decide, show ¬ (3 : Int) = 2 by decide, if_false, if_true, List.cons_append, cb_same]
        rw [cb_byte, e3, ← u8_of (by omega), ← u8_of (by omega), lex_assoc]
        congr 1
        unfold cmpI
        congr 1 <;> simp
      · simp [fitsB, k0, k1, k2, k3] at hf
    · obtain ⟨b, t, e, hb, h0, h3⟩ := keyB_head _ _ hx
      obtain ⟨b', t', e', hb', h0', h3'⟩ := keyB_head _ _ hy
      rw [e, e', List.cons_append, List.cons_append, cb_byte, hb, hb', ord_lex, own3]
      simp only [V.k] at *
      have hc : cmpI (k + 1) (k' + 1) = cmpI k k' := by unfold cmpI; congr 1 <;> simp
      have hne : cmpI k k' ≠ 0 := by rw [ne_eq, cmpQ_zero]; exact hk
      rw [hc]
      unfold lex
      simp [hne]
theorem keyL_cmp : ∀ (l m : List V) (d d' : Nat), V.shL l d = true → V.shL m d' = true → ∀ (r r' : List UInt8), cb (V.keyBL l ++ 0 :: r) (V.keyBL m ++ 0 :: r') = lex (V.ordL l m) (cb r r')
  | [], [], _, _, _, _, r, r' => by simp [V.keyBL, V.ordL, lex_zero_l, cb_same]
  | [], y :: ys, d, d', _, h, r, r' => by
    simp [V.shL] at h
    obtain ⟨b, t, e, hb, h0, h3⟩ := keyB_head _ _ h.1
    have hc : cmpI ((0 : UInt8).toNat) b.toNat = -1 := by unfold cmpI; simp; omega
    rw [V.keyBL, V.keyBL, e, List.nil_append, List.cons_append, List.cons_append, cb_byte, hc]
    simp [V.ordL, lex]
  | x :: xs, [], d, d', h, _, r, r' => by
    simp [V.shL] at h
    obtain ⟨b, t, e, hb, h0, h3⟩ := keyB_head _ _ h.1
    have hc : cmpI b.toNat ((0 : UInt8).toNat) = 1 := by unfold cmpI; simp; omega
    rw [V.keyBL, V.keyBL, e, List.nil_append, List.cons_append, List.cons_append, cb_byte, hc]
    simp [V.ordL, lex]
  | x :: xs, y :: ys, d, d', h, h', r, r' => by
    simp [V.shL] at h h'
    rw [V.keyBL, V.keyBL, List.append_assoc, List.append_assoc, key_cmp x y d d' h.1 h'.1, keyL_cmp xs ys d d' h.2 h'.2, ordL_lex, lex_assoc]
theorem keyH_cmp : ∀ (l m : List V) (d d' : Nat), l.length = 1 → m.length = 1 → V.shL l d = true → V.shL m d' = true → ∀ (r r' : List UInt8), cb (V.keyBH l ++ r) (V.keyBH m ++ r') = lex (V.ordL l m) (cb r r')
  | [x], [y], d, d', _, _, h, h', r, r' => by
    simp [V.shL] at h h'
    rw [V.keyBH, V.keyBH, key_cmp x y d d' h h', ordL_lex, show V.ordL [] [] = 0 from by simp [V.ordL], lex_zero_r]
  | [], _, _, _, h, _, _, _, _, _ => by simp at h
  | _ :: _ :: _, _, _, _, h, _, _, _, _, _ => by simp at h
  | _, [], _, _, _, h, _, _, _, _ => by simp at h
  | _, _ :: _ :: _, _, _, _, h, _, _, _, _ => by simp at h
end

end Go.Proofs.YtkfmgafgokpjhaaGreatDoor

/-
  THE READER AT A KEY: what is read positively.
-/
namespace Go.Proofs.YtkfmgafgokpjhaaGreatDoor
open Go.RowKit

/-- A reading has come to place q and made a value that is the same as y; of what lay there only the reader has changed. -/
def ReadsV (w : World) (R : Nat) (s : ByteArray) (q : Nat) (y : V) (e : Ending) (w' : World) : Prop :=
  ∃ x : V, e = .returned x.val ∧ x.In w' w'.heap.size ∧ x.foot (fun b => w.heap.size ≤ b) ∧ x.same y = true ∧ Reader w' R s q ∧ Bt R w w'

/-- From place p on a text has these bytes. -/
def HasAt (s : ByteArray) (p : Nat) (l : List UInt8) : Prop := ∃ r, s.data.toList.drop p = l ++ r

theorem HasAt.cons {s : ByteArray} {p : Nat} {b : UInt8} {l : List UInt8} (h : HasAt s p (b :: l)) : ∃ hp : p < s.size, s[p] = b ∧ HasAt s (p + 1) l := by
  obtain ⟨r, hr⟩ := h
  have hp : p < s.size := by
    rcases Nat.lt_or_ge p s.size with h | h
    · exact h
    · rw [List.drop_of_length_le (by simpa using h)] at hr; simp at hr
  have hd : s.data.toList.drop p = s[p] :: s.data.toList.drop (p + 1) := by
    rw [List.drop_eq_getElem_cons (by simpa using hp)]; rfl
  rw [hd] at hr
  simp only [List.cons_append, List.cons.injEq] at hr
  exact ⟨hp, hr.1, r, hr.2⟩

theorem or_low (x y : Int) (hx0 : 0 ≤ x) (hx : x % 256 = 0) (hx1 : x < 4611686018427387904) (hy : 0 ≤ y ∧ y < 256) : bits .or .i64 x y = x + y :=
  bits_join .i64 62 (by decide) (fun n h h' => IntWalk.i64_in n (by omega)) 8 x y hx0 hx (by omega) hy.1 hy.2 (by omega)
theorem or_byte (x : Int) (b : UInt8) (hx0 : 0 ≤ x) (hx : x % 256 = 0) (hx1 : x < 4611686018427387904) : bits .or .i64 x (wrap64 (b.toNat : Int)) = x + b.toNat := by
  have hb := b.toNat_lt
  rw [IntWalk.wrap64_in _ (by omega)]
  exact or_low x _ hx0 hx hx1 ⟨by omega, by omega⟩

set_option maxRecDepth 100000 in
set_option maxHeartbeats 4000000 in
theorem keyWord_read (w : World) (R : Nat) (s : ByteArray) (p : Nat) (n : Int) (hr : Reader w R s p) (hs : s.size ≤ 1000000) (hn : -2147483648 ≤ n ∧ n ≤ 2147483647) (h : HasAt s p (wordBytes n)) :
    Calls Tryz.prog 86 #[.pointer (some ⟨R, 0, none⟩)] w (ReadsV w R s (p + 4) (.mk 0 n ⟨#[]⟩ none 0 [])) := by
  obtain ⟨p0, e0, h1⟩ := h.cons
  obtain ⟨p1, e1, h2⟩ := h1.cons
  obtain ⟨p2, e2, h3⟩ := h2.cons
  obtain ⟨p3, e3, -⟩ := h3.cons
  have hRl := lt_of_block hr
  have HR := Lib.hid hr
  have HE0 := Lib.hid e0
  have HE1 := Lib.hid e1
  have HE2 := Lib.hid e2
  have HE3 := Lib.hid e3
  clear hr e0 e1 e2 e3 h h1 h2 h3
  go_enter Tryz.func86, Tryz.ntmps86
  go_wp2_with fail
  refine wp_loop_rounds (0 + 1 + 1 + 1 + 1 + 1) ?_
  rw [rounds_succ]
  go_wp2_with fail
  refine (next_yes _ R s p (HR.out.kp (ka _ _)) p0 hs).mono ?_
  rintro e w1 ⟨rfl, hr1, hb1⟩
  rw [HE0.out]
  have HR1 := Lib.hid hr1
  have HB1 := Lib.hid hb1
  have hb0 := (byteAt (n + 2147483648) 0).toNat_lt
  have v0 := byteAt_val (n + 2147483648) 0
  have v1 := byteAt_val (n + 2147483648) 1
  have v2 := byteAt_val (n + 2147483648) 2
  have v3 := byteAt_val (n + 2147483648) 3
  have hb1' := (byteAt (n + 2147483648) 1).toNat_lt
  have hb2' := (byteAt (n + 2147483648) 2).toNat_lt
  have hb3' := (byteAt (n + 2147483648) 3).toNat_lt
  have e1 := HE1.out
  have e2 := HE2.out
  have e3 := HE3.out
  generalize byteAt (n + 2147483648) 0 = c0 at *
  generalize byteAt (n + 2147483648) 1 = c1 at *
  generalize byteAt (n + 2147483648) 2 = c2 at *
  generalize byteAt (n + 2147483648) 3 = c3 at *
  have hfin : ((((c0.toNat : Int) * 256 + c1.toNat) * 256 + c2.toNat) * 256 + c3.toNat) + -2147483648 = n := by
    rw [← v0, ← v1, ← v2, ← v3]
    simp only [Nat.mul_zero, Nat.sub_zero, Nat.mul_one, show 24 - 8 = 16 from rfl, show 24 - 8 * 2 = 8 from rfl, show 24 - 8 * 3 = 0 from rfl, Int.pow_zero, Int.ediv_one, show (2 : Int) ^ 24 = 16777216 from rfl, show (2 : Int) ^ 16 = 65536 from rfl, show (2 : Int) ^ 8 = 256 from rfl]
    omega
  have E1 := Lib.hid e1
  have E2 := Lib.hid e2
  have E3 := Lib.hid e3
  have HF := Lib.hid hfin
  clear hr1 hb1 v0 v1 v2 v3 e1 e2 e3 hfin HE0 HE1 HE2 HE3
  go_wp2_with fail
  rw [or_low 0 _ (by omega) (by omega) (by omega) ⟨by omega, by omega⟩, Int.zero_add]
  rw [rounds_succ]
  go_wp2_with fail
  refine (next_yes _ R s (p + 1) HR1.out p1 hs).mono ?_
  rintro e w2 ⟨rfl, hr2, hb2⟩
  rw [E1.out]
  have HR2 := Lib.hid hr2
  have HB2 := Lib.hid (HB1.out.trans hb2)
  clear hr2 hb2
  go_wp2_with fail
  rw [or_low _ _ (by omega) (by omega) (by omega) ⟨by omega, by omega⟩]
  rw [rounds_succ]
  go_wp2_with fail
  refine (next_yes _ R s (p + 1 + 1) HR2.out p2 hs).mono ?_
  rintro e w3 ⟨rfl, hr3, hb3⟩
  rw [E2.out]
  have HR3 := Lib.hid hr3
  have HB3 := Lib.hid (HB2.out.trans hb3)
  clear hr3 hb3
  go_wp2_with fail
  rw [or_low _ _ (by omega) (by omega) (by omega) ⟨by omega, by omega⟩]
  rw [rounds_succ]
  go_wp2_with fail
  refine (next_yes _ R s (p + 1 + 1 + 1) HR3.out p3 hs).mono ?_
  rintro e w4 ⟨rfl, hr4, hb4⟩
  rw [E3.out]
  have HR4 := Lib.hid hr4
  have hB4 := HB3.out.trans hb4
  have hres := (hB4.block w.heap.size (by simp) (by omega)).trans (blockHere (w := w) (o := .cells zero4 24 (0, 0)) rfl)
  obtain ⟨d0, d1, d2, d3, f0, f1, f2, f3⟩ := cell4 hres
  have HRS := Lib.hid hres
  have HB4 := Lib.hid ((Bt.kp (c := R) (ka w (.cells zero4 24))).trans hB4)
  clear hr4 hb4 hB4 hres
  go_wp2_with fail
  rw [or_low _ _ (by omega) (by omega) (by omega) ⟨by omega, by omega⟩]
  rw [rounds_succ]
  go_wp2_with fail
  rw [HF.out]
  obtain ⟨g0, g1, g2, g3, -⟩ := cell4 (put4_block (v0 := .int .i64 0) (v1 := .int .i64 n) (v2 := .string ⟨#[]⟩) (v3 := .slice none 0 0) HRS.out)
  refine bodyPost_ret (v := .agg #[.int .i64 0, .int .i64 n, .string ⟨#[]⟩, .slice none 0 0]) (by simp [results, Tryz.results86, go_sem, g0, g1, g2, g3]) rfl ?_
  exact ⟨.mk 0 n ⟨#[]⟩ none 0 [], rfl, inLeaf _ _ _ (by unfold I64; omega) (by unfold I64; omega) (by decide), V.foot_leaf _ _ _ _ _, V.same_refl _, (put4_other (by omega)).trans HR4.out, put4_bt HB4.out (Nat.le_refl _)⟩

theorem HasAt.get {s : ByteArray} {b : UInt8} : ∀ {l : List UInt8} {p i : Nat}, HasAt s p l → l[i]? = some b → ∃ h : p + i < s.size, s[p + i] = b
  | [], _, _, _, h => by simp at h
  | c :: l, p, 0, h, hi => by
    obtain ⟨hp, e, -⟩ := h.cons
    simp at hi
    exact ⟨hp, by rw [← hi]; exact e⟩
  | c :: l, p, i + 1, h, hi => by
    obtain ⟨-, -, h'⟩ := h.cons
    obtain ⟨hp, e⟩ := HasAt.get (p := p + 1) (i := i) h' (by simpa using hi)
    exact ⟨by omega, by simpa [Nat.add_assoc, Nat.add_comm 1 i] using e⟩

theorem bt_below {w w1 w2 : World} {R S : Nat} (h : Bt R w w1) (k : Below S w1 w2) (hS : w.heap.size ≤ S) : Bt R w w2 :=
  ⟨k.os.trans h.os, k.tape.trans h.tape, k.output.trans h.output, Nat.le_trans h.size k.size, fun i hi hc => (k.block i (by omega)).trans (h.block i hi hc)⟩
theorem Sink.bt {w w1 : World} {R S : Nat} {xs : List UInt8} (h : Sink w S xs) (k : Bt R w w1) (hR : R < S) : Sink w1 S xs := by
  obtain ⟨v, h1, h2⟩ := h
  refine ⟨v, (k.block S (lt_of_block h1) (by omega)).trans h1, h2.1, ?_⟩
  rcases h2.2 with hn | ⟨g, cap, cur, rfl, hb, hg, rest⟩
  · exact .inl hn
  · exact .inr ⟨g, cap, cur, rfl, hb, (k.block g (lt_of_block hg) (by omega)).trans hg, rest⟩

/-- Where the reader at R stands. -/
def posOf (w : World) (R : Nat) : Nat := match w.cell? ⟨R, 1, none⟩ with | some v => (intOf v).toNat | none => 0
theorem posOf_reader {w : World} {R : Nat} {s : ByteArray} {n : Nat} (h : Reader w R s n) : posOf w R = n := by
  unfold posOf
  rw [h.c1]
  simp [intOf]

set_option maxRecDepth 100000 in
set_option maxHeartbeats 4000000 in
theorem keyText_read (w : World) (R : Nat) (s : ByteArray) (p : Nat) (l : List UInt8) (hr : Reader w R s p) (hs : s.size ≤ 1000000) (hl : l.length ≤ 100) (hpos : ∀ c ∈ l, 0 < c.toNat) (h : HasAt s p (l ++ [0])) :
    Calls Tryz.prog 88 #[.pointer (some ⟨R, 0, none⟩)] w (ReadsV w R s (p + l.length + 1) (.mk 1 0 ⟨l.toArray⟩ none 0 [])) := by
  have hRl := lt_of_block hr
  have hget : ∀ i b, (l ++ [0])[i]? = some b → ∃ h : p + i < s.size, s[p + i] = b := fun i b hi => h.get hi
  have hc0 : ∃ c, (l ++ [0])[0]? = some c := by cases l <;> exact ⟨_, rfl⟩
  obtain ⟨c0, hc0⟩ := hc0
  obtain ⟨p0, e0⟩ := hget 0 c0 hc0
  simp only [Nat.add_zero] at p0 e0
  have HR := Lib.hid hr
  have HG := Lib.hid hget
  have HP := Lib.hid hpos
  have HC0 := Lib.hid hc0
  have E0 := Lib.hid e0
  clear hr h hget hpos hc0 e0
  go_enter Tryz.func88, Tryz.ntmps88
  go_wp2_with fail
  refine (next_yes _ R s p (HR.out.kp (kk (ka _ _) (ka _ _))) p0 hs).mono ?_
  rintro e w1 ⟨rfl, hr1, hb1⟩
  rw [E0.out]
  have hS0 : w1.heap[w.heap.size + 1]? = some (.cells #[.slice none 0 0] 97 (0, 0)) := (hb1.block _ (by simp) (by omega)).trans (blockHere (by simp))
  have hres := (hb1.block w.heap.size (by simp; omega) (by omega)).trans (blockPast (blockHere (w := w) (o := .cells zero4 24 (0, 0)) rfl))
  have HR1 := Lib.hid hr1
  have HS1 := Lib.hid (⟨.slice none 0 0, hS0, World.ownsRow_nil _ _ _ _⟩ : Sink w1 (w.heap.size + 1) [])
  have HC1 := Lib.hid (cell_of_one hS0)
  have HRS := Lib.hid hres
  have HB1 := Lib.hid ((Bt.kp (c := R) (kk (ka w (.cells zero4 24)) (ka _ (.cells #[.slice none 0 0] 97)))).trans hb1)
  clear hr1 hb1 hS0 hres
  go_wp2_with fail
  go_loopw [4] (fun bb wr => ∃ (j : Nat) (c : UInt8), j ≤ l.length ∧ bb = .int .u8 (c.toNat : Int) ∧ (l ++ [0])[j]? = some c ∧ Sink wr (w.heap.size + 1) (l.take j) ∧ Reader wr R s (p + j + 1) ∧ Bt R w wr ∧ (j = 0 → wr.cell? ⟨w.heap.size + 1, 0, none⟩ = some (.slice none 0 0)) ∧ wr.heap[w.heap.size]? = some (.cells zero4 24 (0, 0))) (fun _ wr => s.size + 1 - posOf wr R)
  case atStart => exact ⟨0, c0, by omega, rfl, HC0.out, (by rw [List.take_zero]; exact HS1.out), HR1.out, HB1.out, fun _ => HC1.out, HRS.out⟩
  case round =>
    obtain ⟨j, c, hj, rfl, hc, hsk, hrd, hbt, hz, hres⟩ := hrel
    by_cases hlt : j < l.length
    · rw [List.getElem?_append_left hlt] at hc
      have hcp := HP.out c (List.mem_of_getElem? hc)
      have hcne : ((c.toNat : Int) != 0) = true := by simp; omega
      obtain ⟨c2, hc2⟩ : ∃ c2, (l ++ [0])[j + 1]? = some c2 := ⟨(l ++ [0])[j + 1]'(by simp; omega), by simp⟩
      obtain ⟨p2, e2⟩ := HG.out (j + 1) c2 hc2
      have htk : l.take (j + 1) = l.take j ++ [c] := by rw [List.take_add_one, hc]; rfl
      have hlen : (l.take j).length ≤ 100 := by simp; omega
      have hps := posOf_reader hrd
      have HSK := Lib.hid hsk
      have HRD := Lib.hid hrd
      have HBT := Lib.hid hbt
      have HRS2 := Lib.hid hres
      have HC2 := Lib.hid hc2
      have E2 := Lib.hid e2
      have HTK := Lib.hid htk
      have HPS := Lib.hid hps
      clear hsk hrd hbt hz hres hc hc2 e2 htk hps
      go_wp2_with fail
      refine (take_any _ (w.heap.size + 1) (l.take j) _ c rfl HSK.out (by omega)).mono ?_
      rintro e w2 ⟨rfl, hs2, hk2⟩
      have hbl := hk2.below HSK.out
      have HS2 := Lib.hid hs2
      have hrd2 : Reader w2 R s (p + j + 1) := (hbl.block R (by omega)).trans HRD.out
      have HBT2 := Lib.hid (bt_below HBT.out hbl (by omega))
      have HRS3 := Lib.hid ((hbl.block w.heap.size (by omega)).trans HRS2.out)
      have HRD2 := Lib.hid hrd2
      clear hs2 hk2 hbl hrd2
      go_wp2_with fail
      refine (next_yes _ R s (p + j + 1) HRD2.out (by omega) hs).mono ?_
      rintro e w3 ⟨rfl, hr3, hb3⟩
      have hps3 := posOf_reader hr3
      have e2' : s[p + j + 1] = c2 := E2.out
      rw [e2']
      have HR3 := Lib.hid hr3
      have HS3 := Lib.hid (HS2.out.bt hb3 (by omega))
      have HRS4 := Lib.hid ((hb3.block w.heap.size (lt_of_block HRS3.out) (by omega)).trans HRS3.out)
      have HBT3 := Lib.hid (HBT2.out.trans hb3)
      have HP3 := Lib.hid hps3
      clear hr3 hb3 hps3 e2'
      go_wp2_with fail
      go_roundw
      case rel => exact ⟨j + 1, c2, by omega, rfl, HC2.out, by rw [HTK.out]; exact HS3.out, HR3.out, HBT3.out, (fun h => by omega), HRS4.out⟩
      case measure => rw [HPS.out, HP3.out]; omega
    · have hjl : j = l.length := by omega
      subst hjl
      rw [List.getElem?_append_right (by omega)] at hc
      simp at hc
      subst hc
      rw [List.take_of_length_le (Nat.le_refl _)] at hsk
      obtain ⟨d0, d1, d2, d3, f0, f1, f2, f3⟩ := cell4 hres
      have HRD := Lib.hid hrd
      have HBT := Lib.hid hbt
      have HRS2 := Lib.hid hres
      by_cases hl0 : l = []
      · subst hl0
        have hz := hz rfl
        clear hsk hrd hbt hres
        go_wp2_with fail
        rw [run_convert_bytes_nil wr 57 5 Tryz.underlying57 Tryz.underlying5 0 0 9 Tryz.underlying9]
        go_wp2_with fail
        obtain ⟨g0, g1, g2, g3, -⟩ := cell4 (put4_block (v0 := .int .i64 1) (v1 := .int .i64 0) (v2 := .string ByteArray.empty) (v3 := .slice none 0 0) HRS2.out)
        refine bodyPost_ret (v := .agg #[.int .i64 1, .int .i64 0, .string ByteArray.empty, .slice none 0 0]) (by simp [results, Tryz.results88, go_sem, g0, g1, g2, g3]) rfl ?_
        exact ⟨.mk 1 0 ⟨#[]⟩ none 0 [], rfl, inLeaf _ _ _ (by unfold I64; omega) (by unfold I64; omega) (by decide), V.foot_leaf _ _ _ _ _, V.same_refl _, (put4_other (by omega)).trans HRD.out, put4_bt HBT.out (Nat.le_refl _)⟩
      · obtain ⟨g, cap3, hc3, hcv⟩ := hsk.out hl0
        clear hsk hrd hbt hres hz
        go_wp2_with fail
        obtain ⟨g0, g1, g2, g3, -⟩ := cell4 (put4_block (v0 := .int .i64 1) (v1 := .int .i64 0) (v2 := .string ⟨l.toArray⟩) (v3 := .slice none 0 0) HRS2.out)
        refine bodyPost_ret (v := .agg #[.int .i64 1, .int .i64 0, .string ⟨l.toArray⟩, .slice none 0 0]) (by simp [results, Tryz.results88, go_sem, g0, g1, g2, g3]) rfl ?_
        exact ⟨.mk 1 0 ⟨l.toArray⟩ none 0 [], rfl, inLeaf _ _ _ (by unfold I64; omega) (by unfold I64; omega) (show l.length ≤ maxLen from Nat.le_trans hl (by decide)), V.foot_leaf _ _ _ _ _, V.same_refl _, (put4_other (by omega)).trans HRD.out, put4_bt HBT.out (Nat.le_refl _)⟩

set_option maxRecDepth 100000 in
set_option maxHeartbeats 4000000 in
theorem keyTagged_read (w : World) (R : Nat) (s : ByteArray) (p : Nat) (tag : Int) (y : V) (hr : Reader w R s p) (hs : s.size ≤ 1000000) (ht : 0 ≤ tag ∧ tag ≤ 200) (h : HasAt s p (UInt8.ofNat (tag + 1).toNat :: y.keyB))
    (ih : ∀ w1 : World, Reader w1 R s (p + 1) → Calls Tryz.prog 81 #[.pointer (some ⟨R, 0, none⟩)] w1 (ReadsV w1 R s (p + 1 + y.keyB.length) y)) :
    Calls Tryz.prog 92 #[.pointer (some ⟨R, 0, none⟩)] w (ReadsV w R s (p + 1 + y.keyB.length) (.mk 3 tag ⟨#[]⟩ none 0 [y])) := by
  have hRl := lt_of_block hr
  obtain ⟨p0, e0, -⟩ := h.cons
  have hb : ((UInt8.ofNat (tag + 1).toNat).toNat : Int) = tag + 1 := by
    simp
    omega
  have HR := Lib.hid hr
  have E0 := Lib.hid e0
  have HB := Lib.hid hb
  have HC := Lib.hid ih
  clear hr e0 hb h ih
  generalize UInt8.ofNat (tag + 1).toNat = c0 at *
  generalize hq : p + 1 + y.keyB.length = q at *
  clear hq
  go_enter Tryz.func92, Tryz.ntmps92
  go_wp2_with fail
  refine (next_yes _ R s p (HR.out.kp (ka _ _)) p0 hs).mono ?_
  rintro e w1 ⟨rfl, hr1, hb1⟩
  rw [E0.out]
  have hres := (hb1.block w.heap.size (by simp) (by omega)).trans (blockHere (w := w) (o := .cells zero4 24 (0, 0)) rfl)
  have hs1 := hb1.size
  simp at hs1
  have HR1 := Lib.hid hr1
  have HRS := Lib.hid hres
  have HB1 := Lib.hid ((Bt.kp (c := R) (ka w (.cells zero4 24))).trans hb1)
  clear hr1 hb1 hres
  go_wp2_with fail
  have hw : wrap64 (wrap64 (c0.toNat : Int) - 1) = tag := by
    have := HB.out
    rw [IntWalk.wrap64_in (c0.toNat : Int) (by omega), IntWalk.wrap64_in _ (by omega)]
    omega
  rw [hw]
  clear hw
  refine (HC.out w1 HR1.out).mono ?_
  rintro e w2 ⟨z, rfl, hzi, hzf, hzs, hr2, hb2⟩
  have hres := (hb2.block w.heap.size (by omega) (by omega)).trans HRS.out
  have hs2 := hb2.size
  have hzf2 : z.foot (fun b => w.heap.size + 1 ≤ b) := V.foot.mono (fun b hb => by omega) z hzf
  have HR2 := Lib.hid hr2
  have HRS2 := Lib.hid hres
  have HB2 := Lib.hid (HB1.out.trans hb2)
  have HZI := Lib.hid hzi
  have HZF := Lib.hid hzf2
  have HZS := Lib.hid hzs
  clear hr2 hb2 hres hzi hzf hzf2 hzs
  cases z with
  | mk k n t a cap zl =>
  simp only [V.val_mk]
  go_wp2_with fail
  refine (together_one _ w2.heap.size 0 1 (.int .i64 k) (.int .i64 n) (.string t) (.slice a zl.length cap) (here rfl rfl) (here rfl rfl) (here rfl rfl) (here rfl rfl) (by simp [Value.oneCell'])).mono ?_
  rintro e w3 ⟨g, rfl, hg, hgb, hk3⟩
  simp at hg
  have hk23 := kk (ka _ _) hk3
  have hblk := (hk23.block _ (lt_of_block HRS2.out)).trans HRS2.out
  obtain ⟨d0, d1, d2, d3, g0, g1, g2, g3⟩ := cell4 hblk
  have HBL := Lib.hid hblk
  have HR3 := Lib.hid (HR2.out.kp hk23)
  have HB3 := Lib.hid (HB2.out.trans (Bt.kp hk23))
  have HQ := Lib.hid hgb
  have HZ2 := Lib.hid (HZI.out.keep hk23.size hk23)
  clear hk3 hk23 hblk hgb
  go_wp2_with fail
  obtain ⟨e0, e1, e2, e3, -⟩ := cell4 (put4_block (v0 := .int .i64 3) (v1 := .int .i64 tag) (v2 := .string ⟨#[]⟩) (v3 := .slice (some ⟨g, 0, none⟩) 1 1) HBL.out)
  refine bodyPost_ret (v := .agg #[.int .i64 3, .int .i64 tag, .string ⟨#[]⟩, .slice (some ⟨g, 0, none⟩) 1 1]) (by simp [results, Tryz.results92, go_sem, e0, e1, e2, e3]) rfl ?_
  have hgs := lt_of_block HQ.out
  have hmv : ∀ b, b < w3.heap.size → w.heap.size + 1 ≤ b → (put4 w3 w.heap.size (.int .i64 3) (.int .i64 tag) (.string ⟨#[]⟩) (.slice (some ⟨g, 0, none⟩) 1 1)).heap[b]? = w3.heap[b]? := fun b _ hb => put4_other (by omega)
  have hS : (put4 w3 w.heap.size (.int .i64 3) (.int .i64 tag) (.string ⟨#[]⟩) (.slice (some ⟨g, 0, none⟩) 1 1)).heap.size = w3.heap.size := by simp [World.setCell]
  refine ⟨.mk 3 tag ⟨#[]⟩ (some ⟨g, 0, none⟩) 1 [.mk k n t a cap zl], rfl, ?_, ?_, ?_, (put4_other (by omega)).trans HR3.out, put4_bt HB3.out (Nat.le_refl _)⟩
  · rw [hS]
    simp only [V.In, V.InL]
    refine ⟨by unfold I64; omega, by unfold I64; omega, by decide, Nat.le_refl _, by decide, .inr ⟨g, 0, rfl, hgs, ?_⟩, ?_, trivial⟩
    · exact At.of_block ((hmv g hgs (by omega)).trans HQ.out) rfl
    · exact V.In.move (Nat.le_refl _) hmv _ HZ2.out HZF.out
  · simp only [V.foot, V.footL]
    exact ⟨.inr ⟨g, 0, rfl, by omega⟩, V.foot.mono (fun b hb => by omega) _ HZF.out, trivial⟩
  · exact V.same_node (V.sameL_one HZS.out)

end Go.Proofs.YtkfmgafgokpjhaaGreatDoor

/-
  THE WALK OF together AT A LIST OF ANY LENGTH.
-/
namespace Go.Proofs.YtkfmgafgokpjhaaGreatDoor
open Go.RowKit

set_option maxRecDepth 100000 in
set_option maxHeartbeats 4000000 in
theorem together_rows (w : World) (g cap n : Nat) (cs : List Value) (hcs : cs.length = n * 4) (hsrc : ∀ j v, cs[j]? = some v → w.cell? ⟨g, j, none⟩ = some v) (h1 : ∀ v ∈ cs, v.oneCell' = true) (hn : n ≤ 8) :
    Calls Tryz.prog 95 #[.slice (some ⟨g, 0, none⟩) n cap] w fun e w' => ∃ q, e = .returned (.slice (some ⟨q, 0, none⟩) n n) ∧ w.heap.size ≤ q ∧ w'.heap[q]? = some (.cells cs.toArray 24 (0, 0)) ∧ Kp w w' := by
  obtain ⟨i0, hi, hz0, hz1, hz2⟩ := info_parts infoV
  have HS := Lib.hid hsrc
  have H1 := Lib.hid h1
  have HC := Lib.hid hcs
  clear hsrc h1 hcs
  go_enter Tryz.func95, Tryz.ntmps95
  go_wp2_with (refine wpList_make_full _ rfl _ _ 22 rfl 0 24 i0 _ 4 Tryz.underlying22 hi hz0 hz1 .i64 .i64 _ _ n rfl rfl rfl rfl ?c1 ?c2 ?c3 ?_)
  case c1 => rw [hz2]; omega
  case c2 => unfold maxLen; omega
  case c3 => omega
  intro w1 hown hgrow
  obtain ⟨cur, hblk, hsz⟩ : ∃ cs : Array Value, w1.heap[w.heap.size]? = some (.cells cs 24 (0, 0)) ∧ cs.size = n * 4 := by
    rcases hown.2 with ⟨h, -⟩ | ⟨g, cap', cur, hv, -, hg, -, -, hsz, -⟩
    · cases h
    · cases hv; exact ⟨cur, hg, hsz⟩
  have hk1 : Kp w w1 := grown_kp hgrow
  have hcp : ∀ ty, (Builtin.copy_ #[22, 22] ty #[.slice (some ⟨w.heap.size, 0, none⟩) n n, .slice (some ⟨g, 0, none⟩) n cap]).run Tryz.prog w1 = .ok (.int .i64 n) (w1.setRow w.heap.size cs.toArray) := by
    intro ty
    have := run_copy_rows (P := Tryz.prog) w1 22 22 ty 24 4 w.heap.size 0 n n ⟨g, 0, none⟩ n cap cur 24 cs Tryz.underlying22 sizeV4 hblk (by rw [HC.out, show n.min n = n from Nat.min_self n]) (fun j v hj => by
      have := kc hk1 (HS.out j v hj)
      rw [show (⟨g, 0, none⟩ : Addr).add j = ⟨g, j, none⟩ by unfold Addr.add; split <;> simp_all]
      exact this) (by rw [HC.out, hsz]; omega) H1.out
    rw [show n.min n = n from Nat.min_self n] at this
    rw [this, List.drop_of_length_le (by rw [Array.length_toList, hsz, HC.out]; omega)]
    simp [goInt]
  have HW := Lib.hid (setRow_heap _ w.heap.size _ cs.toArray _ _ hblk)
  have HK := Lib.hid (below_setRow hk1 (Nat.le_refl _) cs.toArray)
  clear hblk hsz hk1 hown hgrow hi hz0 hz1 hz2
  go_wp2_with fail
  go_ret
  exact ⟨w.heap.size, rfl, Nat.le_refl _, HW.out, HK.out⟩

end Go.Proofs.YtkfmgafgokpjhaaGreatDoor

/-
  THE READER AT THE KEY OF A TUPLE.
-/
namespace Go.Proofs.YtkfmgafgokpjhaaGreatDoor
open Go.RowKit

theorem HasAt.app {s : ByteArray} : ∀ {a b : List UInt8} {p : Nat}, HasAt s p (a ++ b) → HasAt s p a ∧ HasAt s (p + a.length) b := by
  intro a b p h
  obtain ⟨r, hr⟩ := h
  refine ⟨⟨b ++ r, by rw [hr, List.append_assoc]⟩, r, ?_⟩
  have := congrArg (List.drop a.length) hr
  rw [List.drop_drop] at this
  rw [this, List.append_assoc, List.drop_left]

theorem HasAt.pre {s : ByteArray} {p : Nat} {b : UInt8} {l : List UInt8} (h : HasAt s p (b :: l)) : ∃ r, (s.extract p s.size).data.toList = b :: r := by
  obtain ⟨r, hr⟩ := h
  have e : (s.extract p s.size).data.toList = s.data.toList.drop p := by
    simp
    exact List.take_of_length_le (by simp)
  exact ⟨l ++ r, by rw [e, hr]; rfl⟩
theorem HasAt.ends {s : ByteArray} {p : Nat} {l : List UInt8} (h : HasAt s p (0 :: l)) : Lib.hasPrefix (s.extract p s.size).data.toList (⟨#[0]⟩ : ByteArray).data.toList = true := by
  obtain ⟨r, hr⟩ := h.pre
  rw [hr]; simp [Lib.hasPrefix]
theorem HasAt.goes {s : ByteArray} {p : Nat} {b : UInt8} {l : List UInt8} (h : HasAt s p (b :: l)) (hb : b ≠ 0) : Lib.hasPrefix (s.extract p s.size).data.toList (⟨#[0]⟩ : ByteArray).data.toList = false := by
  obtain ⟨r, hr⟩ := h.pre
  rw [hr]
  show List.isPrefixOf [0] (b :: r) = false
  simp [List.isPrefixOf, Ne.symm hb]

theorem putAt_bt {R b i : Nat} {w w' : World} {v0 v1 v2 v3 : Value} (h : Bt R w w') (hb : w.heap.size ≤ b) : Bt R w (putAt w' b i v0 v1 v2 v3) :=
  ⟨h.os, h.tape, h.output, by have := h.size; simp [World.setCell]; omega, fun k hk hc => (putAt_other (by omega)).trans (h.block k hk hc)⟩

theorem cellsL_one : ∀ (l : List V), ∀ v ∈ cellsL l, v.oneCell' = true := by
  intro l
  induction l with
  | nil => intro v h; simp [cellsL] at h
  | cons x xs ih =>
    intro v h
    have e : cellsL (x :: xs) = x.cells4 ++ cellsL xs := by simp [cellsL]
    rw [e, List.mem_append] at h
    rcases h with h | h
    · simp [V.cells4] at h
      rcases h with rfl | rfl | rfl | rfl <;> simp [Value.oneCell']
    · exact ih v h

theorem slice_arr (w : World) (g n : Nat) (hn : n ≤ 8) :
    (Instr.sliceAt 150 (.pointer (some ⟨g, 0, none⟩)) none (some (.int .i64 n)) none).run Tryz.prog w = .ok (.slice (some ⟨g, 0, none⟩) n 8) w := by
  have ha : Tryz.prog.arrayLen 150 = 8 := by kernel_rfl
  have hu : Tryz.prog.underlying 150 = some (.array (Tryz.prog.arrayLen 150) (Tryz.prog.elem 150)) := by kernel_rfl
  have hs : (sizeOf (Tryz.prog.elem 150)).run Tryz.prog w = .ok 4 w := by kernel_rfl
  rw [run_sliceAt_array_h w 150 _ hu .i64 n (by omega) (by rw [ha]; omega), hs, ha]
  simp [slicedAt, Addr.add, Result.andThen]

/-- A row of eight values in block g, of which the first j have been read: vs. -/
structure RowV (w : World) (g : Nat) (ys : List V) (j : Nat) (cs : Array Value) (vs : List V) : Prop where
  blk : w.heap[g]? = some (.cells cs 150 (0, 0))
  size : cs.size = 8 * 4
  take : cs.toList.take (j * 4) = cellsL vs
  same : V.sameL vs (ys.take j) = true
  hin : V.InL w w.heap.size vs
  foot : V.footL (fun b => g < b) vs

theorem RowV.bt {w w2 : World} {R g j : Nat} {ys : List V} {cs : Array Value} {vs : List V} (h : RowV w g ys j cs vs) (hk : Bt R w w2) (hR : R < g) : RowV w2 g ys j cs vs :=
  ⟨(hk.block _ (lt_of_block h.blk) (by omega)).trans h.blk, h.size, h.take, h.same, V.InL.move hk.size (fun b h1 h2 => hk.block b h1 (by omega)) _ h.hin h.foot, h.foot⟩

theorem RowV.step {w w2 : World} {R g j : Nat} {ys : List V} {cs : Array Value} {vs : List V} {z y : V} (h : RowV w g ys j cs vs) (hj : j < 8) (hR : R < g) (hg : g < w.heap.size) (hk : Bt R w w2) (hz : z.In w2 w2.heap.size)
    (hf : z.foot (fun b => w.heap.size ≤ b)) (hs : z.same y = true) (hy : ys[j]? = some y) :
    RowV (putAt w2 g (j * 4) (.int .i64 z.k) (.int .i64 z.n) (.string z.s) (.slice z.a z.l.length z.cap)) g ys (j + 1)
      ((((cs.setIfInBounds (j * 4) (.int .i64 z.k)).setIfInBounds (j * 4 + 1) (.int .i64 z.n)).setIfInBounds (j * 4 + 2) (.string z.s)).setIfInBounds (j * 4 + 3) (.slice z.a z.l.length z.cap)) (vs ++ [z]) := by
  have h := h.bt hk hR
  have hS : (putAt w2 g (j * 4) (.int .i64 z.k) (.int .i64 z.n) (.string z.s) (.slice z.a z.l.length z.cap)).heap.size = w2.heap.size := by simp [World.setCell]
  have hmv : ∀ b, b < w2.heap.size → g < b → (putAt w2 g (j * 4) (.int .i64 z.k) (.int .i64 z.n) (.string z.s) (.slice z.a z.l.length z.cap)).heap[b]? = w2.heap[b]? := fun b _ hb => putAt_other (by omega)
  refine ⟨putAt_block h.blk, by simp [h.size], ?_, ?_, ?_, ?_⟩
  · rw [take_put4 h.size hj, h.take, cellsL_snoc]; rfl
  · rw [List.take_add_one, hy]; exact V.sameL_snoc h.same hs
  · rw [hS]
    exact V.InL_snoc (V.InL.move (Nat.le_refl _) hmv _ h.hin h.foot) (V.In.move (Nat.le_refl _) hmv _ hz (V.foot.mono (fun b hb => by omega) _ hf))
  · exact V.footL_snoc h.foot (V.foot.mono (fun b hb => by omega) _ hf)

set_option maxRecDepth 100000 in
set_option maxHeartbeats 4000000 in
theorem keyList_read (w : World) (R : Nat) (s : ByteArray) (p : Nat) (ys : List V) (hr : Reader w R s p) (hs : s.size ≤ 1000000) (hl : ys.length ≤ 8) (h : HasAt s p (V.keyBL ys ++ [0]))
    (hne : ∀ (j : Nat) (y : V), ys[j]? = some y → ∃ b t, y.keyB = b :: t ∧ b ≠ 0)
    (ih : ∀ (j : Nat) (y : V), ys[j]? = some y → ∀ (w1 : World) (q : Nat), Reader w1 R s q → HasAt s q y.keyB → Calls Tryz.prog 81 #[.pointer (some ⟨R, 0, none⟩)] w1 (ReadsV w1 R s (q + y.keyB.length) y)) :
    Calls Tryz.prog 116 #[.pointer (some ⟨R, 0, none⟩), .string ⟨#[]⟩, .string ⟨#[0]⟩, .func (.func 81) #[] #[]] w fun e w' =>
      ∃ (q : Nat) (vs : List V), e = .returned (.slice (some ⟨q, 0, none⟩) ys.length ys.length) ∧ w.heap.size ≤ q ∧ w'.heap[q]? = some (.cells (cellsL vs).toArray 24 (0, 0)) ∧
        V.sameL vs ys = true ∧ V.InL w' w'.heap.size vs ∧ V.footL (fun b => w.heap.size ≤ b) vs ∧ Reader w' R s (p + (V.keyBL ys).length + 1) ∧ Bt R w w' := by
  have hRl := lt_of_block hr
  have HR := Lib.hid hr
  have HI := Lib.hid ih
  have HN := Lib.hid hne
  have HH := Lib.hid h
  clear hr ih h hne
  go_enter Tryz.func116, Tryz.ntmps116
  go_wp2_with fail
  go_loopw [10] (fun i wr => ∃ (j q : Nat) (cs : Array Value) (vs : List V), j ≤ ys.length ∧ i = .int .i64 j ∧ RowV wr w.heap.size ys j cs vs ∧ Bt R w wr ∧ Reader wr R s q ∧ HasAt s q (V.keyBL (ys.drop j) ++ [0]) ∧ q + (V.keyBL (ys.drop j)).length = p + (V.keyBL ys).length) (fun i _ => ys.length - (intOf i).toNat)
  case atStart => exact ⟨0, p, _, [], Nat.zero_le _, rfl, ⟨blockHere rfl, rfl, by simp [cellsL], by simp [V.sameL], trivial, trivial⟩, Bt.kp (ka _ _), HR.out.kp (ka _ _), HH.out, rfl⟩
  case round =>
    obtain ⟨j, q, cs, vs, hj, rfl, hrow, hbt, hrd, hat, hlen⟩ := hrel
    have hgl := lt_of_block hrow.blk
    by_cases hlt : j < ys.length
    · obtain ⟨y, hy⟩ : ∃ y, ys[j]? = some y := ⟨ys[j], by simp [hlt]⟩
      have hdr : ys.drop j = y :: ys.drop (j + 1) := by
        rw [List.drop_eq_getElem_cons hlt]
        congr 1
        rw [List.getElem?_eq_getElem hlt] at hy
        exact Option.some.inj hy
      rw [hdr, V.keyBL, List.append_assoc] at hat
      rw [hdr, V.keyBL, List.length_append] at hlen
      obtain ⟨hat1, hat2⟩ := hat.app
      obtain ⟨b0, t0, hk0, hb0⟩ := HN.out j y hy
      have hgo := (hk0 ▸ hat1).goes hb0
      have hq := (hk0 ▸ hat1).cons.1
      have hsk := fun (w1 : World) (h : Reader w1 R s q) => skip_no w1 R s ⟨#[0]⟩ q h (by omega) hgo
      have hex := fun (w1 : World) (h : Reader w1 R s q) => expect_yes w1 R s ⟨#[]⟩ q h (by omega) hs (by decide) (by simp [Lib.hasPrefix])
      have hof := fun (w1 : World) (h : Reader w1 R s q) => HI.out j y hy w1 q h hat1
      have HSK := Lib.hid hsk
      have HEX := Lib.hid hex
      have HOF := Lib.hid hof
      have HROW := Lib.hid hrow
      have HBT := Lib.hid hbt
      have HRD := Lib.hid hrd
      have HAT := Lib.hid hat2
      have HY := Lib.hid hy
      have HLEN := Lib.hid hlen
      have g8 : ((j : Int) == 8) = false := by simp; omega
      clear hsk hex hof hrow hbt hrd hat hat1 hat2 hy hlen hk0 hgo hdr
      go_wp2_with fail
      refine (HSK.out _ HRD.out).mono ?_
      rintro e w1 ⟨rfl, hk1⟩
      have HB1 := Lib.hid (HBT.out.trans (Bt.kp hk1))
      have HR1 := Lib.hid (HRD.out.kp hk1)
      have HRW1 := Lib.hid (HROW.out.bt (Bt.kp (c := R) hk1) (by omega))
      clear hk1
      go_wp2_with fail
      all_goals try
        refine (HEX.out _ HR1.out).mono ?_
        rintro e w2 ⟨rfl, hr2, hb2⟩
        replace HB1 := Lib.hid (HB1.out.trans hb2)
        replace HRW1 := Lib.hid (HRW1.out.bt hb2 (by omega))
        replace HR1 : Hid (Reader w2 R s q) := Lib.hid hr2
        clear hr2 hb2
        go_wp2_with fail
      all_goals
        refine (HOF.out _ HR1.out).mono ?_
        rintro e w3 ⟨z, rfl, hzi, hzf, hzs, hr3, hb3⟩
        have hgl1 := lt_of_block HRW1.out.blk
        have hst := HRW1.out.step (by omega) (by omega) hgl1 hb3 hzi (V.foot.mono (fun b hb => by omega) z hzf) hzs HY.out
        have hb2 := (HRW1.out.bt hb3 (by omega)).blk
        have hsz := HRW1.out.size
        obtain ⟨u0, hu0⟩ : ∃ u, cs[j * 4]? = some u := ⟨cs[j * 4]'(by omega), by simp⟩
        obtain ⟨u1, hu1⟩ : ∃ u, cs[j * 4 + 1]? = some u := ⟨cs[j * 4 + 1]'(by omega), by simp⟩
        obtain ⟨u2, hu2⟩ : ∃ u, cs[j * 4 + 2]? = some u := ⟨cs[j * 4 + 2]'(by omega), by simp⟩
        obtain ⟨u3, hu3⟩ : ∃ u, cs[j * 4 + 3]? = some u := ⟨cs[j * 4 + 3]'(by omega), by simp⟩
        have m0 := cellOf hb2 hu0
        have m1 := cellOf hb2 hu1
        have m2 := cellOf hb2 hu2
        have m3 := cellOf hb2 hu3
        have n0 := freeOf (i := j * 4) hb2
        have n1 := freeOf (i := j * 4 + 1) hb2
        have n2 := freeOf (i := j * 4 + 2) hb2
        have n3 := freeOf (i := j * 4 + 3) hb2
        have HST := Lib.hid hst
        have HB3 := Lib.hid (HB1.out.trans hb3)
        have HR3 := Lib.hid hr3
        clear hst hzi hzf hzs hb2 hu0 hu1 hu2 hu3 hr3 hb3
        cases z with
        | mk k n t za zc zl =>
        simp only [V.val_mk]
        go_wp2_with fail
        go_roundw
        case rel => exact ⟨j + 1, _, _, _, by omega, by first | go_num | simp, HST.out, putAt_bt HB3.out (Nat.le_refl _), (putAt_other (by omega)).trans HR3.out, HAT.out, by have := HLEN.out; omega⟩
        case measure => simp [intOf]; omega
    · have hjl : j = ys.length := by omega
      subst hjl
      rw [List.drop_length] at hat hlen
      have hes := hat.ends
      have hq := hat.cons.1
      simp [V.keyBL] at hlen
      subst hlen
      have hlv : vs.length = ys.length := by
        have := congrArg List.length hrow.take
        have hcl : cs.toList.length = 8 * 4 := Array.length_toList.trans hrow.size
        rw [cellsL_length, List.length_take, hcl] at this
        omega
      have htg := fun (w1 : World) (h : Bt R wr w1) => together_rows w1 w.heap.size 8 ys.length (cellsL vs) (by rw [cellsL_length, hlv]) (fun i v hv => by
        have h1 : cs[i]? = some v := by
          rw [← hrow.take] at hv
          rw [← Array.getElem?_toList]
          rw [List.getElem?_take] at hv
          split at hv
          · exact hv
          · cases hv
        exact cellOf ((hrow.bt h (by omega)).blk) h1) (cellsL_one vs) hl
      have HS := Lib.hid (fun (w1 : World) (h : Reader w1 R s _) => skip_yes w1 R s ⟨#[0]⟩ _ h (by omega) hs (by decide) hes)
      have HTG := Lib.hid htg
      have HROW := Lib.hid hrow
      have HBT := Lib.hid hbt
      have HRD := Lib.hid hrd
      clear hes htg hrow hbt hrd hat
      go_wp2_with fail
      refine (HS.out _ HRD.out).mono ?_
      rintro e w1 ⟨rfl, hr1, hb1⟩
      have HR1 := Lib.hid hr1
      have HB1 := Lib.hid hb1
      clear hr1 hb1
      go_wp2_with fail
      rw [slice_arr w1 w.heap.size ys.length hl]
      go_wp2_with fail
      refine (HTG.out _ HB1.out).mono ?_
      rintro e w2 ⟨g, rfl, hg, hgb, hk2⟩
      have HG := Lib.hid hgb
      have HK := Lib.hid hk2
      clear hgb hk2
      go_wp2_with fail
      go_ret
      have hh := HROW.out.bt HB1.out (by omega)
      have hz := HBT.out.size
      have hz1 := HB1.out.size
      have hsm := hh.same
      rw [List.take_of_length_le (Nat.le_refl _)] at hsm
      exact ⟨g, vs, rfl, by omega, HG.out, hsm, hh.hin.keep HK.out.size HK.out, V.footL.mono (fun b hb => by omega) _ hh.foot, HR1.out.kp HK.out, (HBT.out.trans HB1.out).trans (.kp HK.out)⟩

set_option maxRecDepth 100000 in
set_option maxHeartbeats 4000000 in
theorem keyTuple_read (w : World) (R : Nat) (s : ByteArray) (p : Nat) (ys : List V) (hr : Reader w R s p) (hs : s.size ≤ 1000000) (hl : ys.length ≤ 8) (h : HasAt s p (V.keyBL ys ++ [0]))
    (hne : ∀ (j : Nat) (y : V), ys[j]? = some y → ∃ b t, y.keyB = b :: t ∧ b ≠ 0)
    (ih : ∀ (j : Nat) (y : V), ys[j]? = some y → ∀ (w1 : World) (q : Nat), Reader w1 R s q → HasAt s q y.keyB → Calls Tryz.prog 81 #[.pointer (some ⟨R, 0, none⟩)] w1 (ReadsV w1 R s (q + y.keyB.length) y)) :
    Calls Tryz.prog 90 #[.pointer (some ⟨R, 0, none⟩)] w (ReadsV w R s (p + (V.keyBL ys).length + 1) (.mk 2 0 ⟨#[]⟩ none 0 ys)) := by
  have hRl := lt_of_block hr
  have HR := Lib.hid hr
  have HC := Lib.hid (fun (w1 : World) (hr : Reader w1 R s p) => keyList_read w1 R s p ys hr hs hl h hne ih)
  clear hr h hne ih
  generalize p + (V.keyBL ys).length + 1 = e at *
  go_enter Tryz.func90, Tryz.ntmps90
  go_wp2_with fail
  refine (HC.out _ (HR.out.kp (ka _ _))).mono ?_
  rintro e w1 ⟨g, vs, rfl, hg, hgb, hsm, hvi, hvf, hr1, hb1⟩
  simp at hg
  have hblk := (hb1.block w.heap.size (by simp) (by omega)).trans (blockHere (w := w) (o := .cells zero4 24 (0, 0)) rfl)
  obtain ⟨d0, d1, d2, d3, g0, g1, g2, g3⟩ := cell4 hblk
  have hvf2 : V.footL (fun b => w.heap.size + 1 ≤ b) vs := V.footL.mono (fun b hb => by simp at hb; omega) _ hvf
  have HBL := Lib.hid hblk
  have HR1 := Lib.hid hr1
  have HB1 := Lib.hid ((Bt.kp (c := R) (ka w (.cells zero4 24))).trans hb1)
  have HG := Lib.hid hgb
  have HSM := Lib.hid hsm
  have HVI := Lib.hid hvi
  have HVF := Lib.hid hvf2
  clear hblk hr1 hb1 hgb hsm hvi hvf hvf2
  go_wp2_with fail
  obtain ⟨e0, e1, e2, e3, -⟩ := cell4 (put4_block (v0 := .int .i64 2) (v1 := .int .i64 0) (v2 := .string ⟨#[]⟩) (v3 := .slice (some ⟨g, 0, none⟩) ys.length ys.length) HBL.out)
  refine bodyPost_ret (v := .agg #[.int .i64 2, .int .i64 0, .string ⟨#[]⟩, .slice (some ⟨g, 0, none⟩) ys.length ys.length]) (by simp [results, Tryz.results90, go_sem, e0, e1, e2, e3]) rfl ?_
  have hgs := lt_of_block HG.out
  have hlen : vs.length = ys.length := V.sameL_length _ _ HSM.out
  rw [← hlen]
  have hmv : ∀ b, b < w1.heap.size → w.heap.size + 1 ≤ b → (put4 w1 w.heap.size (.int .i64 2) (.int .i64 0) (.string ⟨#[]⟩) (.slice (some ⟨g, 0, none⟩) vs.length vs.length)).heap[b]? = w1.heap[b]? := fun b _ hb => put4_other (by omega)
  have hS : (put4 w1 w.heap.size (.int .i64 2) (.int .i64 0) (.string ⟨#[]⟩) (.slice (some ⟨g, 0, none⟩) vs.length vs.length)).heap.size = w1.heap.size := by simp [World.setCell]
  refine ⟨.mk 2 0 ⟨#[]⟩ (some ⟨g, 0, none⟩) vs.length vs, rfl, ?_, ?_, V.same_node HSM.out, (put4_other (by omega)).trans HR1.out, put4_bt HB1.out (Nat.le_refl _)⟩
  · rw [hS]
    simp only [V.In]
    refine ⟨by unfold I64; omega, by unfold I64; omega, by decide, Nat.le_refl _, by unfold maxLen; omega, .inr ⟨g, 0, rfl, hgs, ?_⟩, V.InL.move (Nat.le_refl _) (fun b h1 h2 => hmv b h1 h2) _ HVI.out HVF.out⟩
    exact At.of_block ((hmv g hgs (by omega)).trans HG.out) rfl
  · simp only [V.foot]
    exact ⟨.inr ⟨g, 0, rfl, by omega⟩, V.footL.mono (fun b hb => by omega) _ HVF.out⟩

end Go.Proofs.YtkfmgafgokpjhaaGreatDoor

/-
  PLAIN MATHEMATICS: NUMBERS AND THEIR DIGITS.
-/
namespace Go.Proofs.YtkfmgafgokpjhaaGreatDoor
open Go.RowKit

theorem digit_val (d : Nat) (h : d < 10) : (UInt8.ofNat (48 + d)).toNat = 48 + d := by
  simp; omega

theorem parse_dec : ∀ (u : Nat), u < 1844674407370955162 → ∀ r : List UInt8, Lib.parseUint10 0 (Lib.decDigits u ++ r) = Lib.parseUint10 u r := by
  intro u
  induction u using Nat.strongRecOn with
  | ind u ih =>
    intro hu r
    rw [Lib.decDigits]
    by_cases h : u < 10
    · rw [dif_pos h, List.cons_append, List.nil_append, Lib.parseUint10, digit_val u h]
      have h1 : 48 ≤ 48 + u ∧ 48 + u ≤ 57 := by omega
      have h2 : ¬ 1844674407370955162 ≤ 0 := by omega
      have h3 : ¬ 18446744073709551616 ≤ 0 * 10 + (48 + u - 48) := by omega
      rw [if_pos h1, if_neg h2, if_neg h3]
      congr 1; omega
    · rw [dif_neg h, List.append_assoc, ih (u / 10) (by omega) (by omega), List.cons_append, List.nil_append, Lib.parseUint10, digit_val (u % 10) (by omega)]
      have h1 : 48 ≤ 48 + u % 10 ∧ 48 + u % 10 ≤ 57 := by omega
      have h2 : ¬ 1844674407370955162 ≤ u / 10 := by omega
      have h3 : ¬ 18446744073709551616 ≤ u / 10 * 10 + (48 + u % 10 - 48) := by omega
      rw [if_pos h1, if_neg h2, if_neg h3]
      congr 1; omega

theorem dec_digit : ∀ (u : Nat), ∀ c ∈ Lib.decDigits u, 48 ≤ c.toNat ∧ c.toNat ≤ 57 := by
  intro u
  induction u using Nat.strongRecOn with
  | ind u ih =>
    intro c hc
    rw [Lib.decDigits] at hc
    by_cases h : u < 10
    · rw [dif_pos h] at hc
      simp only [List.mem_cons, List.not_mem_nil, or_false] at hc
      subst hc
      rw [digit_val u h]; omega
    · rw [dif_neg h, List.mem_append] at hc
      rcases hc with hc | hc
      · exact ih (u / 10) (by omega) c hc
      · simp only [List.mem_cons, List.not_mem_nil, or_false] at hc
        subst hc
        rw [digit_val (u % 10) (by omega)]; omega

theorem dec_ne (u : Nat) : Lib.decDigits u ≠ [] := by
  rw [Lib.decDigits]
  split <;> simp

/-- A byte of a number: a sign or a digit. -/
def numC (c : UInt8) : Bool := decide (c.toNat = 45) || (decide (48 ≤ c.toNat) && decide (c.toNat ≤ 57))

theorem itoa_num (n : Int) : ∀ c ∈ Lib.itoa n, numC c = true := by
  intro c hc
  unfold Lib.itoa at hc
  have hd : ∀ u, c ∈ Lib.decDigits u → numC c = true := fun u h => by
    have := dec_digit u c h
    simp [numC, this]
  split at hc
  · simp only [List.mem_cons] at hc
    rcases hc with rfl | hc
    · rfl
    · exact hd _ hc
  · exact hd _ hc

theorem itoa_cons (n : Int) : ∃ c t, Lib.itoa n = c :: t ∧ numC c = true := by
  cases h : Lib.itoa n with
  | nil =>
    unfold Lib.itoa at h
    split at h
    · cases h
    · exact absurd h (dec_ne _)
  | cons c t => exact ⟨c, t, rfl, itoa_num n c (by rw [h]; simp)⟩

theorem atoi_itoa (n : Int) (h : -2147483648 ≤ n ∧ n ≤ 2147483647) : Lib.atoiAll (Lib.itoa n) = .ok n := by
  have key : ∀ u : Nat, u < 1844674407370955162 → Lib.parseMag (Lib.decDigits u) = .ok u := fun u hu => by
    have := parse_dec u hu []
    rw [List.append_nil, Lib.parseUint10] at this
    unfold Lib.parseMag
    simp [dec_ne, this]
  unfold Lib.itoa
  by_cases hn : n < 0
  · rw [if_pos hn]
    have h1 : (45 : UInt8).toNat = 43 ∨ (45 : UInt8).toNat = 45 := .inr rfl
    have h2 : (45 : UInt8).toNat = 45 := rfl
    have h3 : ¬ (9223372036854775808 < n.natAbs) := by omega
    have h4 : -((n.natAbs : Nat) : Int) = n := by omega
    unfold Lib.atoiAll
    simp only []
    rw [if_pos h1, key n.natAbs (by omega)]
    simp only [h2, not_true, false_and, if_false, true_and, if_neg h3, if_true, h4]
  · rw [if_neg hn]
    cases hd : Lib.decDigits n.toNat with
    | nil => exact absurd hd (dec_ne _)
    | cons c t =>
      have hc := dec_digit n.toNat c (by rw [hd]; simp)
      have h1 : ¬ (c.toNat = 43 ∨ c.toNat = 45) := by omega
      have h2 : ¬ c.toNat = 45 := by omega
      have h3 : ¬ (9223372036854775808 ≤ n.toNat) := by omega
      unfold Lib.atoiAll
      simp only [if_neg h1]
      rw [← hd, key n.toNat (by omega)]
      simp only [h2, not_false_eq_true, true_and, false_and, if_neg h3, if_false]
      congr 1; omega

/-- No byte of a number stands at a place. -/
def Stop (s : ByteArray) (q : Nat) : Prop := ∀ h : q < s.size, numC s[q] = false

end Go.Proofs.YtkfmgafgokpjhaaGreatDoor
