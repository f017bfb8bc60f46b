/-
  Contracts of the functions of package value, of its specification and of what the statements of layer 1 share (values and types made of numbers, the chapter's examples), each for every argument: used by the proofs of layer 1's statements.
  Part 3 of 12.
-/
import Derived.Test.YtkfmgafgokpjhaaGreatDoorBc01
import Derived.Test.YtkfmgafgokpjhaaGreatDoorBc02
import Derived.Lib.AppendIntMem
import Derived.Laws.BytesArg
/-
  THE WALKS OF THE TEXT OF A VALUE: shapeOf, the shapes' text, writeList, by recursion.
-/
namespace Go.Proofs.YtkfmgafgokpjhaaGreatDoor
open Go.RowKit

/-- strconv's table, there below block B and whatever becomes of the rest. -/
def Tb (w : World) (B : Nat) : Prop := Lib.TabBelow Tryz.prog B w "internal/strconv.uint64pow10" .u64 Lib.pow10Tab
theorem Tb.keep {w w' : World} {B C : Nat} (h : Tb w B) (k : Below B w w') (hC : B ≤ C) : Tb w' C := fun w2 k2 => h w2 (k.trans (k2.mono hC))
theorem Tb.tab {w w' : World} {B : Nat} (h : Tb w B) (k : Below B w w') : Lib.TabIs Tryz.prog w' "internal/strconv.uint64pow10" .u64 Lib.pow10Tab := h w' k

/-- A value's four cells lie at an address. -/
structure PtrAt (w : World) (b off : Nat) (k n : Int) (s : ByteArray) (sl : Value) : Prop where
  c0 : w.cell? ⟨b, off, none⟩ = some (.int .i64 k)
  c1 : w.cell? ⟨b, off + 1, none⟩ = some (.int .i64 n)
  c2 : w.cell? ⟨b, off + 2, none⟩ = some (.string s)
  c3 : w.cell? ⟨b, off + 3, none⟩ = some sl
theorem PtrAt.keep {w w' : World} {b off B : Nat} {k n : Int} {s : ByteArray} {sl : Value} (h : PtrAt w b off k n s sl) (hb : b < B) (hk : Below B w w') : PtrAt w' b off k n s sl :=
  ⟨(hk.cell (p := ⟨b, _, none⟩) hb).trans h.c0, (hk.cell (p := ⟨b, _, none⟩) hb).trans h.c1, (hk.cell (p := ⟨b, _, none⟩) hb).trans h.c2, (hk.cell (p := ⟨b, _, none⟩) hb).trans h.c3⟩

theorem kp_grow (w : World) (k : Nat) (os : Array Obj) : Kp w (Go.Sort.grow (w.drewN k) os) :=
  ⟨rfl, rfl, rfl, by simp [Go.Sort.grow], fun i hi => by
    show ((w.drewN k).heap ++ os)[i]? = w.heap[i]?
    have : (w.drewN k).heap = w.heap := by simp
    rw [this, Array.getElem?_append_left hi]⟩

theorem itoa_any (w : World) (n : Int) (B : Nat) (hn : I64 n) (ht : Tb w B) :
    Calls Tryz.prog 130 #[.int .i64 n] w fun e w' => e = .returned (.string ⟨(Lib.itoa n).toArray⟩) ∧ Kp w w' :=
  (Tryz.strconv_Itoa n hn.1 hn.2 w (ht.tab (Below.refl _ _))).mono fun _ _ ⟨he, k, os, hw⟩ => ⟨he, hw ▸ kp_grow w k os⟩

/-- Behind a call that wrote to the sink a box is as it was. -/
theorem Sk.boxed {w w1 w2 : World} {S : Nat} {xs : List UInt8} {o : Obj} (h0 : Sink w S xs) (hk : Kp (w.alloc o) w1) (hs : Sk S w1 w2) {i : Nat} {v : Value} (hc : w1.cell? ⟨w.heap.size, i, none⟩ = some v) :
    w2.cell? ⟨w.heap.size, i, none⟩ = some v :=
  hs.cell hc (by have := h0.lt; simp; omega) (fun e => by
    rw [sinkRow_kp (kk (ka w o) hk) h0.lt] at e
    have := (h0.row e).2; simp at this)

set_option maxHeartbeats 1000000 in
theorem digits_any (w : World) (S b off : Nat) (xs : List UInt8) (k n : Int) (s : ByteArray) (sl : Value) (hs : Sink w S xs) (hp : PtrAt w b off k n s sl) (hn : I64 n) (ht : Tb w S)
    (hx : xs.length + (Lib.itoa n).length ≤ 1000000000000) :
    Calls Tryz.prog 184 #[.agg #[.pointer (some ⟨b, off, none⟩)], takeF S] w fun e w' => e = .returned (.tuple #[]) ∧ Sink w' S (xs ++ Lib.itoa n) ∧ Sk S w w' := by
  have HS := Lib.hid hs
  have h1 := hp.c1
  have hb : b < w.heap.size := World.block_lt_of_cell? w _ h1
  have HN := Lib.hid hn
  have HT := Lib.hid ht
  clear hs hn ht hp
  go_enter Tryz.func184, Tryz.ntmps184
  go_wp2_with fail
  have hlt := HS.out.lt
  refine (itoa_any _ n S HN.out (HT.out.keep ((ka _ _).mono (by omega)) (Nat.le_refl _))).mono ?_
  rintro e w1 ⟨rfl, hk⟩
  have HK := Lib.hid (kk (ka _ _) hk)
  clear hk
  generalize hI : (Lib.itoa n) = I at *
  go_wp2_with fail
  refine (puts_any _ S xs ⟨I.toArray⟩ (HS.out.kp HK.out) (by rw [show (⟨I.toArray⟩ : ByteArray).size = I.length from by simp [ByteArray.size]]; exact hx)).mono ?_
  rintro e w2 ⟨rfl, hs2, hk2⟩
  have HK2 := Lib.hid ((Sk.kp HK.out hlt).trans hk2)
  have HS2 := Lib.hid hs2
  clear hs2 hk2
  go_wp2_with fail
  go_end0
  exact ⟨rfl, by subst hI; simpa using HS2.out, HK2.out⟩

set_option maxHeartbeats 1000000 in
theorem wordText_any (w : World) (S b off : Nat) (xs : List UInt8) (k n : Int) (s : ByteArray) (sl : Value) (hs : Sink w S xs) (hp : PtrAt w b off k n s sl) (hn : I64 n) (ht : Tb w S)
    (hx : xs.length + (Lib.itoa n).length ≤ 1000000000000) :
    Calls Tryz.prog 186 #[.agg #[.pointer (some ⟨b, off, none⟩)], takeF S] w fun e w' => e = .returned (.tuple #[]) ∧ Sink w' S (xs ++ Lib.itoa n) ∧ Sk S w w' := by
  have hlt := hs.lt
  have hpk := hp.keep (World.block_lt_of_cell? w _ hp.c0) (ka w (.cells #[.pointer (some ⟨b, off, none⟩)] 147))
  have C := digits_any _ S b off xs k n s sl (hs.kp (ka w (.cells #[.pointer (some ⟨b, off, none⟩)] 147))) hpk hn (ht.keep ((ka _ _).mono (by omega)) (Nat.le_refl _)) hx
  have CC := Lib.hid C
  clear C hpk hp hn ht hs
  go_enter Tryz.func186, Tryz.ntmps186
  go_wp2_with fail
  refine CC.out.mono ?_
  rintro e w2 ⟨rfl, hs2, hk2⟩
  have HK2 := Lib.hid ((Sk.kp (ka _ _) hlt).trans hk2)
  have HS2 := Lib.hid hs2
  clear hs2 hk2
  go_wp2_with fail
  go_end0
  exact ⟨rfl, HS2.out, HK2.out⟩

end Go.Proofs.YtkfmgafgokpjhaaGreatDoor

/-
  THE WALKS OF THE TEXT OF A VALUE, further: letters, lists, tags; the recursion.
-/
namespace Go.Proofs.YtkfmgafgokpjhaaGreatDoor
open Go.RowKit

/-- A byte of a text between marks. -/
def escB (c : UInt8) : List UInt8 := if c = 34 ∨ c = 92 then [92, c] else [c]
def esc (l : List UInt8) : List UInt8 := l.flatMap escB
theorem esc_snoc (l : List UInt8) (c : UInt8) : esc (l ++ [c]) = esc l ++ escB c := by simp [esc]
theorem esc_len (l : List UInt8) : (esc l).length ≤ 2 * l.length := by
  induction l with
  | nil => simp [esc]
  | cons c cs ih =>
    have h1 : esc (c :: cs) = escB c ++ esc cs := by simp [esc]
    have h2 : (escB c).length ≤ 2 := by unfold escB; split <;> simp
    rw [h1, List.length_append, List.length_cons]; omega

theorem esc_ge (l : List UInt8) : l.length ≤ (esc l).length := by
  induction l with
  | nil => simp
  | cons c cs ih =>
    have h1 : esc (c :: cs) = escB c ++ esc cs := by simp [esc]
    have h2 : 1 ≤ (escB c).length := by unfold escB; split <;> simp
    rw [h1, List.length_append, List.length_cons]; omega
theorem esc_pre (l : List UInt8) (j : Nat) : (esc (l.take j)).length ≤ (esc l).length := by
  have : esc (l.take j ++ l.drop j) = esc (l.take j) ++ esc (l.drop j) := by unfold esc; rw [List.flatMap_append]
  rw [List.take_append_drop] at this
  rw [this]; simp

/-- Behind calls that wrote to the sink a box is as it was. -/
theorem boxIn {w w2 : World} {S : Nat} {xs : List UInt8} {cs : Array Value} {t : Nat} (h0 : Sink w S xs) (hs : Sk S (w.alloc (.cells cs t)) w2) {i : Nat} {v : Value} (hc : cs[i]? = some v) :
    w2.cell? ⟨w.heap.size, i, none⟩ = some v :=
  Sk.boxed h0 (Below.refl _ _) hs (here rfl hc)

set_option maxHeartbeats 2000000 in
theorem lettersText_any (w : World) (S b off : Nat) (xs : List UInt8) (k n : Int) (s : ByteArray) (sl : Value) (hs : Sink w S xs) (hp : PtrAt w b off k n s sl) (hb : b < S)
    (hx : xs.length + (esc s.data.toList).length + 2 ≤ 1000000000000) :
    Calls Tryz.prog 178 #[.agg #[.pointer (some ⟨b, off, none⟩)], takeF S] w fun e w' => e = .returned (.tuple #[]) ∧ Sink w' S (xs ++ (34 :: esc s.data.toList ++ [34])) ∧ Sk S w w' := by
  have hlt := hs.lt
  have hsz : s.size ≤ 1000000000000 := by have := esc_ge s.data.toList; simp at this; omega
  have HXX := Lib.hid hx
  have hx1 : xs.length + 2 ≤ 1000000000000 := by omega
  clear hx
  have HS := Lib.hid hs
  have HP := Lib.hid hp
  clear hs hp
  have KB : ∀ wr, Sk S (w.alloc (.cells #[.pointer (some ⟨b, off, none⟩)] 145)) wr → wr.cell? ⟨w.heap.size, 0, none⟩ = some (.pointer (some ⟨b, off, none⟩)) ∧ wr.cell? ⟨b, off + 2, none⟩ = some (.string s) ∧ Sk S w wr := fun wr h =>
    have h' := (Sk.kp (ka w _) hlt).trans h
    ⟨boxIn HS.out h rfl, (HP.out.keep hb (h'.below HS.out)).c2, h'⟩
  have HKB := Lib.hid KB
  clear KB
  go_enter Tryz.func178, Tryz.ntmps178
  go_wp2_with fail
  refine (take_any _ S xs 34 34 rfl (HS.out.kp (ka _ _)) (by omega)).mono ?_
  rintro e w1 ⟨rfl, hs1, hk1⟩
  obtain ⟨hx0, h2, _⟩ := HKB.out w1 hk1
  have HK1 := Lib.hid hk1
  have HS1 := Lib.hid hs1
  clear hs1 hk1
  go_wp2_with fail
  go_loopw [13] (fun i wr => ∃ j : Nat, j ≤ s.size ∧ i = .int .i64 j ∧ Sink wr S (xs ++ 34 :: esc (s.data.toList.take j)) ∧ Sk S (w.alloc (.cells #[.pointer (some ⟨b, off, none⟩)] 145)) wr) (fun i _ => s.size - (intOf i).toNat)
  case atStart => exact ⟨0, Nat.zero_le _, rfl, by simpa [esc] using HS1.out, HK1.out⟩
  case round =>
    obtain ⟨j, hj, rfl, hsk, hk⟩ := hrel
    obtain ⟨hb0, hb2, _⟩ := HKB.out wr hk
    have HSK := Lib.hid hsk
    have HK := Lib.hid hk
    clear hsk hk h2 hx0
    by_cases hlt2 : j < s.size
    · have hts : esc (s.data.toList.take (j + 1)) = esc (s.data.toList.take j) ++ escB s[j] := by rw [take_snocB s j hlt2, esc_snoc]
      have hlx : (xs ++ 34 :: esc (s.data.toList.take j)).length + (escB s[j]).length + 1 ≤ 1000000000000 := by
        have h1 := esc_pre s.data.toList (j + 1); have h2 := HXX.out; rw [hts] at h1
        simp only [List.length_append, List.length_cons] at h1 ⊢; omega
      have HTS := Lib.hid hts
      have HLX := Lib.hid hlx
      clear hts hlx
      generalize esc (s.data.toList.take j) = E at *
      by_cases h34 : s[j] = 34
      · have g1 : ((s[j].toNat : Int) == 34) = true := by rw [h34]; rfl
        have hE : escB s[j] = [92, s[j]] := by simp [escB, h34]
        have HE := Lib.hid hE
        clear h34 hE
        go_wp2_with fail
        refine (take_any _ S (xs ++ 34 :: E) 92 92 rfl HSK.out (by have := HLX.out; omega)).mono ?_
        rintro e w2 ⟨rfl, hs2, hk2⟩
        obtain ⟨hc0, hc2, _⟩ := HKB.out w2 (HK.out.trans hk2)
        have HK2 := Lib.hid (HK.out.trans hk2)
        have HS2 := Lib.hid hs2
        clear hs2 hk2 hb0 hb2
        go_wp2_with fail
        refine (take_any _ S (xs ++ 34 :: E ++ [92]) _ s[j] rfl HS2.out (by have := HLX.out; rw [HE.out] at this; simp at this ⊢; omega)).mono ?_
        rintro e w3 ⟨rfl, hs3, hk3⟩
        have HK3 := Lib.hid (HK2.out.trans hk3)
        have HS3 := Lib.hid hs3
        clear hs3 hk3 hc0 hc2
        go_wp2_with fail
        go_roundw
        case rel => exact ⟨j + 1, by omega, by go_num, by rw [HTS.out, HE.out]; have := HS3.out; simpa using this, HK3.out⟩
        case measure => simp [intOf]; omega
      · by_cases h92 : s[j] = 92
        · have g1 : ((s[j].toNat : Int) == 34) = false := by rw [h92]; rfl
          have g2 : ((s[j].toNat : Int) == 92) = true := by rw [h92]; rfl
          have hE : escB s[j] = [92, s[j]] := by simp [escB, h92]
          have HE := Lib.hid hE
          clear h34 h92 hE
          go_wp2_with fail
          refine (take_any _ S (xs ++ 34 :: E) 92 92 rfl HSK.out (by have := HLX.out; omega)).mono ?_
          rintro e w2 ⟨rfl, hs2, hk2⟩
          obtain ⟨hc0, hc2, _⟩ := HKB.out w2 (HK.out.trans hk2)
          have HK2 := Lib.hid (HK.out.trans hk2)
          have HS2 := Lib.hid hs2
          clear hs2 hk2 hb0 hb2
          go_wp2_with fail
          refine (take_any _ S (xs ++ 34 :: E ++ [92]) _ s[j] rfl HS2.out (by have := HLX.out; rw [HE.out] at this; simp at this ⊢; omega)).mono ?_
          rintro e w3 ⟨rfl, hs3, hk3⟩
          have HK3 := Lib.hid (HK2.out.trans hk3)
          have HS3 := Lib.hid hs3
          clear hs3 hk3 hc0 hc2
          go_wp2_with fail
          go_roundw
          case rel => exact ⟨j + 1, by omega, by go_num, by rw [HTS.out, HE.out]; have := HS3.out; simpa using this, HK3.out⟩
          case measure => simp [intOf]; omega
        · have n1 : ¬ s[j].toNat = 34 := fun h => h34 (UInt8.toNat_inj.1 h)
          have n2 : ¬ s[j].toNat = 92 := fun h => h92 (UInt8.toNat_inj.1 h)
          have g1 : ((s[j].toNat : Int) == 34) = false := by rw [beq_eq_false_iff_ne]; omega
          have g2 : ((s[j].toNat : Int) == 92) = false := by rw [beq_eq_false_iff_ne]; omega
          have hE : escB s[j] = [s[j]] := by simp [escB, h34, h92]
          have HE := Lib.hid hE
          clear h34 h92 hE n1 n2
          go_wp2_with fail
          refine (take_any _ S (xs ++ 34 :: E) _ s[j] rfl HSK.out (by have := HLX.out; omega)).mono ?_
          rintro e w3 ⟨rfl, hs3, hk3⟩
          have HK3 := Lib.hid (HK.out.trans hk3)
          have HS3 := Lib.hid hs3
          clear hs3 hk3 hb0 hb2
          go_wp2_with fail
          go_roundw
          case rel => exact ⟨j + 1, by omega, by go_num, by rw [HTS.out, HE.out]; have := HS3.out; simpa using this, HK3.out⟩
          case measure => simp [intOf]; omega
    · have hjl : j = s.size := by omega
      subst hjl
      rw [List.take_of_length_le (by simp)] at HSK
      have hlx : (xs ++ 34 :: esc s.data.toList).length + 1 ≤ 1000000000000 := by have := HXX.out; simp only [List.length_append, List.length_cons]; omega
      have HLX := Lib.hid hlx
      clear hlx
      go_wp2_with fail
      refine (take_any _ S (xs ++ 34 :: esc s.data.toList) 34 34 rfl HSK.out (by have := HLX.out; omega)).mono ?_
      rintro e w2 ⟨rfl, hs2, hk2⟩
      have HK2 := Lib.hid (HKB.out w2 (HK.out.trans hk2)).2.2
      have HS2 := Lib.hid hs2
      clear hs2 hk2 hb0 hb2
      go_wp2_with fail
      go_end0
      exact ⟨rfl, by simpa using HS2.out, HK2.out⟩

end Go.Proofs.YtkfmgafgokpjhaaGreatDoor

/-
  THE WALKS OF THE TEXT OF A VALUE: shapeOf, writeList, tuples, tags; the recursion; Text.
-/
namespace Go.Proofs.YtkfmgafgokpjhaaGreatDoor
open Go.RowKit

/-- The shape of a kind. -/
def shapeT (k : Int) : Nat := if k = 1 then 145 else if k = 2 then 146 else if k = 3 then 149 else 147

set_option maxHeartbeats 1000000 in
theorem shapeOf_any (w : World) (b off : Nat) (k n : Int) (s : ByteArray) (sl : Value) (hp : PtrAt w b off k n s sl) :
    Calls Tryz.prog 107 #[.pointer (some ⟨b, off, none⟩)] w fun e w' => e = .returned (.iface (shapeT k) (.agg #[.pointer (some ⟨b, off, none⟩)])) ∧ w' = w := by
  have h0 := hp.c0
  clear hp
  by_cases h1 : k = 1
  · subst h1
    go_enter Tryz.func107, Tryz.ntmps107
    go_wp2
    all_goals go_ret
    all_goals exact ⟨rfl, rfl⟩
  by_cases h2 : k = 2
  · subst h2
    go_enter Tryz.func107, Tryz.ntmps107
    go_wp2
    all_goals go_ret
    all_goals exact ⟨rfl, rfl⟩
  by_cases h3 : k = 3
  · subst h3
    go_enter Tryz.func107, Tryz.ntmps107
    go_wp2
    all_goals go_ret
    all_goals exact ⟨rfl, rfl⟩
  have hr : shapeT k = 147 := by simp [shapeT, h1, h2, h3]
  rw [hr]
  have g1 : (k == 1) = false := by simpa using h1
  have g2 : (k == 2) = false := by simpa using h2
  have g3 : (k == 3) = false := by simpa using h3
  clear hr h1 h2 h3
  go_enter Tryz.func107, Tryz.ntmps107
  go_wp2
  all_goals go_ret
  all_goals exact ⟨rfl, rfl⟩

theorem mWordText (p : Value) (w : World) : (method 307 147 (.agg #[p]) "deltaworks/value.text").run Tryz.prog w = .ok (186, .agg #[p]) w := by kernel_rfl
theorem mLettersText (p : Value) (w : World) : (method 307 145 (.agg #[p]) "deltaworks/value.text").run Tryz.prog w = .ok (178, .agg #[p]) w := by kernel_rfl
theorem mTupleText (p : Value) (w : World) : (method 307 146 (.agg #[p]) "deltaworks/value.text").run Tryz.prog w = .ok (180, .agg #[p]) w := by kernel_rfl
theorem mTaggedText (p : Value) (w : World) : (method 307 149 (.agg #[p]) "deltaworks/value.text").run Tryz.prog w = .ok (188, .agg #[p]) w := by kernel_rfl

set_option maxRecDepth 100000 in
set_option maxHeartbeats 1000000 in
theorem writeText_word (w : World) (S b off : Nat) (xs : List UInt8) (k n : Int) (s : ByteArray) (sl : Value) (hs : Sink w S xs) (hp : PtrAt w b off k n s sl) (hn : I64 n) (ht : Tb w S)
    (hk : ¬ k = 1 ∧ ¬ k = 2 ∧ ¬ k = 3) (hx : xs.length + (Lib.itoa n).length ≤ 1000000000000) :
    Calls Tryz.prog 183 #[.pointer (some ⟨b, off, none⟩), takeF S] w fun e w' => e = .returned (.tuple #[]) ∧ Sink w' S (xs ++ Lib.itoa n) ∧ Sk S w w' := by
  have C1 := shapeOf_any w b off k n s sl hp
  have hr : shapeT k = 147 := by simp [shapeT, hk]
  rw [hr] at C1
  have CC1 := Lib.hid C1
  have CC := Lib.hid (wordText_any w S b off xs k n s sl hs hp hn ht hx)
  clear C1 hr hs hp hn ht hk hx
  have hm := mWordText (.pointer (some ⟨b, off, none⟩))
  go_enter Tryz.func183, Tryz.ntmps183
  go_wp2_with fail
  refine CC1.out.mono ?_
  rintro e w' ⟨rfl, rfl⟩
  go_wp2_with fail
  refine CC.out.mono ?_
  rintro e w2 ⟨rfl, hs2, hk2⟩
  have HK2 := Lib.hid hk2
  have HS2 := Lib.hid hs2
  clear hs2 hk2 hm
  go_wp2_with fail
  go_end0
  exact ⟨rfl, HS2.out, HK2.out⟩

set_option maxRecDepth 100000 in
set_option maxHeartbeats 1000000 in
theorem writeText_letters (w : World) (S b off : Nat) (xs : List UInt8) (n : Int) (s : ByteArray) (sl : Value) (hs : Sink w S xs) (hp : PtrAt w b off 1 n s sl) (hb : b < S)
    (hx : xs.length + (esc s.data.toList).length + 2 ≤ 1000000000000) :
    Calls Tryz.prog 183 #[.pointer (some ⟨b, off, none⟩), takeF S] w fun e w' => e = .returned (.tuple #[]) ∧ Sink w' S (xs ++ (34 :: esc s.data.toList ++ [34])) ∧ Sk S w w' := by
  have C1 := shapeOf_any w b off 1 n s sl hp
  have hr : shapeT 1 = 145 := rfl
  rw [hr] at C1
  have CC1 := Lib.hid C1
  have CC := Lib.hid (lettersText_any w S b off xs 1 n s sl hs hp hb hx)
  clear C1 hr hs hp hx
  have hm := mLettersText (.pointer (some ⟨b, off, none⟩))
  generalize (34 :: esc s.data.toList ++ [34]) = E at *
  go_enter Tryz.func183, Tryz.ntmps183
  go_wp2_with fail
  refine CC1.out.mono ?_
  rintro e w' ⟨rfl, rfl⟩
  go_wp2_with fail
  refine CC.out.mono ?_
  rintro e w2 ⟨rfl, hs2, hk2⟩
  have HK2 := Lib.hid hk2
  have HS2 := Lib.hid hs2
  clear hs2 hk2 hm
  go_wp2_with fail
  go_end0
  exact ⟨rfl, HS2.out, HK2.out⟩

/-- The texts of a list, with others between. -/
def joinF (f : V → List UInt8) (sep : List UInt8) : List V → List UInt8
  | [] => []
  | [x] => f x
  | x :: y :: ys => f x ++ sep ++ joinF f sep (y :: ys)

theorem joinF_snoc (f : V → List UInt8) (sep : List UInt8) : ∀ (l : List V) (x : V), joinF f sep (l ++ [x]) = if l = [] then f x else joinF f sep l ++ sep ++ f x
  | [], x => by simp [joinF]
  | [y], x => by simp [joinF]
  | y :: z :: zs, x => by
    have ih := joinF_snoc f sep (z :: zs) x
    simp only [List.cons_append, joinF] at ih ⊢
    simp at ih ⊢
    rw [ih]
theorem joinF_pre (f : V → List UInt8) (sep : List UInt8) : ∀ (a b : List V), ∃ r, joinF f sep (a ++ b) = joinF f sep a ++ r
  | [], b => ⟨_, rfl⟩
  | [x], [] => ⟨[], by simp [joinF]⟩
  | [x], y :: ys => ⟨sep ++ joinF f sep (y :: ys), by simp [joinF]⟩
  | x :: y :: ys, b => by
    obtain ⟨r, hr⟩ := joinF_pre f sep (y :: ys) b
    refine ⟨r, ?_⟩
    simp only [List.cons_append, joinF] at hr ⊢
    rw [hr]; simp
theorem joinF_len (f : V → List UInt8) (sep : List UInt8) (l : List V) (j : Nat) : (joinF f sep (l.take j)).length ≤ (joinF f sep l).length := by
  obtain ⟨r, hr⟩ := joinF_pre f sep (l.take j) (l.drop j)
  rw [List.take_append_drop] at hr
  rw [hr]; simp

set_option maxHeartbeats 2000000 in
theorem listText (f : V → List UInt8) (w : World) (S b0 off : Nat) (a : Option Addr) (cap : Nat) (l : List V) (xs : List UInt8) (op bt en : ByteArray) (ha : l ≠ [] → a = some ⟨b0, off, none⟩) (hl : l.length ≤ 9223372036854775807) (hs : Sink w S xs)
    (H : ∀ (j : Nat) (x : V), l[j]? = some x → ∀ (w1 : World) (xs1 : List UInt8), Sk S w w1 → Sink w1 S xs1 → xs1.length + (f x).length ≤ 1000000000000 →
      Calls Tryz.prog 183 #[.pointer (some ⟨b0, off + j * 4, none⟩), takeF S] w1 fun e w' => e = .returned (.tuple #[]) ∧ Sink w' S (xs1 ++ f x) ∧ Sk S w1 w')
    (hx : xs.length + op.size + (joinF f bt.data.toList l).length + en.size ≤ 1000000000000) :
    Calls Tryz.prog 181 #[takeF S, .string op, .string bt, .string en, .slice a l.length cap, .func (.func 183) #[] #[]] w fun e w' =>
      e = .returned (.tuple #[]) ∧ Sink w' S (xs ++ op.data.toList ++ joinF f bt.data.toList l ++ en.data.toList) ∧ Sk S w w' := by
  have HS := Lib.hid hs
  have HH := Lib.hid H
  have HX := Lib.hid hx
  have HA := Lib.hid ha
  have zop : op.data.toList.length = op.size := by simp
  have ZOP := Lib.hid zop
  have zbt : bt.data.toList.length = bt.size := by simp
  have ZBT := Lib.hid zbt
  clear hs H hx ha zop zbt
  go_enter Tryz.func181, Tryz.ntmps181
  go_wp2_with fail
  refine (puts_any w S xs op HS.out (by have := HX.out; omega)).mono ?_
  rintro e w1 ⟨rfl, hs1, hk1⟩
  have HS1 := Lib.hid hs1
  have HK1 := Lib.hid hk1
  clear hs1 hk1
  go_wp2_with fail
  go_loopw [18] (fun i wr => ∃ j : Nat, j ≤ l.length ∧ i = .int .i64 j ∧ Sink wr S (xs ++ op.data.toList ++ joinF f bt.data.toList (l.take j)) ∧ Sk S w wr) (fun i _ => l.length - (intOf i).toNat)
  case atStart => exact ⟨0, Nat.zero_le _, rfl, by simpa [joinF] using HS1.out, HK1.out⟩
  case round =>
    obtain ⟨j, hj, rfl, hsk, hk⟩ := hrel
    have HSK := Lib.hid hsk
    have HK := Lib.hid hk
    clear hsk hk
    by_cases hlt : j < l.length
    · obtain ⟨x, hxj⟩ : ∃ x, l[j]? = some x := ⟨l[j], by simp [hlt]⟩
      have HXJ := Lib.hid hxj
      obtain rfl := HA.out (by rintro rfl; simp at hlt)
      have hb := joinF_len f bt.data.toList l (j + 1)
      have hts := take_snoc' hxj
      have hjn := joinF_snoc f bt.data.toList (l.take j) x
      rw [← hts] at hjn
      have HB := Lib.hid hb
      have HJ := Lib.hid hjn
      clear hxj hb hts hjn
      by_cases h0 : j = 0
      · subst h0
        have hj1 : joinF f bt.data.toList (l.take (0 + 1)) = f x := by rw [HJ.out]; simp
        have HJ1 := Lib.hid hj1
        clear hj1
        go_wp2_with fail
        refine (HH.out 0 x HXJ.out _ _ HK.out HSK.out (by have := HX.out; have := HB.out; rw [HJ1.out] at this; simp [joinF]; have := ZOP.out; simp at this; omega)).mono ?_
        rintro e w2 ⟨rfl, hs2, hk2⟩
        have HS2 := Lib.hid hs2
        have HK2 := Lib.hid (HK.out.trans hk2)
        clear hs2 hk2
        go_wp2_with fail
        go_roundw
        case rel => exact ⟨1, by omega, by go_num, by have := HS2.out; rw [HJ1.out]; simpa [joinF] using this, HK2.out⟩
        case measure => simp [intOf]; omega
      · have hne : ¬ l.take j = [] := by
          intro h; have := congrArg List.length h; simp at this; rcases this with h | h; omega; subst h; simp at hlt
        have hj1 : joinF f bt.data.toList (l.take (j + 1)) = joinF f bt.data.toList (l.take j) ++ bt.data.toList ++ f x := by rw [HJ.out, if_neg hne]
        have HJ1 := Lib.hid hj1
        have hlen : (xs ++ op.data.toList ++ joinF f bt.data.toList (l.take j)).length + bt.size + (f x).length ≤ 1000000000000 := by
          have h1 := HX.out; have h2 := HB.out; rw [hj1] at h2; have h3 := ZOP.out; have h4 := ZBT.out
          simp only [List.length_append] at h2 ⊢; omega
        have HLEN := Lib.hid hlen
        have hpos : (0 : Int) < (j : Int) := by omega
        clear hj1 hne hlen
        generalize joinF f bt.data.toList (l.take j) = J at *
        go_wp2_with fail
        refine (puts_any _ S _ bt HSK.out (by have := HLEN.out; omega)).mono ?_
        rintro e w2 ⟨rfl, hs2, hk2⟩
        have HS2 := Lib.hid hs2
        have HK2 := Lib.hid (HK.out.trans hk2)
        clear hs2 hk2
        go_wp2_with fail
        refine (HH.out j x HXJ.out _ _ HK2.out HS2.out (by have := HLEN.out; have := ZBT.out; simp only [List.length_append] at *; omega)).mono ?_
        rintro e w3 ⟨rfl, hs3, hk3⟩
        have HS3 := Lib.hid hs3
        have HK3 := Lib.hid (HK2.out.trans hk3)
        clear hs3 hk3
        go_wp2_with fail
        go_roundw
        case rel => exact ⟨j + 1, by omega, by go_num, by have := HS3.out; rw [HJ1.out]; simpa using this, HK3.out⟩
        case measure => simp [intOf]; omega
    · have hjl : j = l.length := by omega
      subst hjl
      rw [List.take_length] at HSK
      generalize hJ : joinF f bt.data.toList l = J at *
      go_wp2_with fail
      refine (puts_any _ S _ en HSK.out (by have := HX.out; have := ZOP.out; simp only [List.length_append] at *; omega)).mono ?_
      rintro e w2 ⟨rfl, hs2, hk2⟩
      have HS2 := Lib.hid hs2
      have HK2 := Lib.hid (HK.out.trans hk2)
      clear hs2 hk2
      go_wp2_with fail
      go_end0
      exact ⟨rfl, by subst hJ; exact HS2.out, HK2.out⟩

end Go.Proofs.YtkfmgafgokpjhaaGreatDoor

/-
  THE WALKS OF THE ORDER OF VALUES: cmp.Compare, cmp.Or, order, slices.CompareFunc, Compare.
-/
namespace Go.Proofs.YtkfmgafgokpjhaaGreatDoor
open Go.RowKit

def cmpI (a b : Int) : Int := if a < b then -1 else if b < a then 1 else 0

set_option maxHeartbeats 400000 in
theorem cmpInt (a b : Int) (w : World) : Calls Tryz.prog 102 #[.int .i64 a, .int .i64 b] w fun e w' => e = .returned (.int .i64 (cmpI a b)) ∧ w' = w := by
  by_cases h1 : a < b
  · have hr : cmpI a b = -1 := by simp [cmpI, h1]
    rw [hr]; clear hr
    go_enter Tryz.func102, Tryz.ntmps102
    go_wp2
    all_goals go_ret
    all_goals exact ⟨rfl, rfl⟩
  · by_cases h2 : b < a
    · have hr : cmpI a b = 1 := by simp [cmpI, h1, h2]
      rw [hr]; clear hr
      go_enter Tryz.func102, Tryz.ntmps102
      go_wp2
      all_goals go_ret
      all_goals exact ⟨rfl, rfl⟩
    · have hr : cmpI a b = 0 := by simp [cmpI, h1, h2]
      rw [hr]; clear hr
      go_enter Tryz.func102, Tryz.ntmps102
      go_wp2
      all_goals go_ret
      all_goals exact ⟨rfl, rfl⟩

/-- The first number that is not 0. -/
def orI (a b c : Int) : Int := if a ≠ 0 then a else if b ≠ 0 then b else c

set_option maxHeartbeats 400000 in
theorem cmpOr (a b c : Int) (g : Nat) (w : World) (h0 : w.cell? ⟨g, 0, none⟩ = some (.int .i64 a)) (h1 : w.cell? ⟨g, 1, none⟩ = some (.int .i64 b)) (h2 : w.cell? ⟨g, 2, none⟩ = some (.int .i64 c)) :
    Calls Tryz.prog 101 #[.slice (some ⟨g, 0, none⟩) 3 3] w fun e w' => e = .returned (.int .i64 (orI a b c)) ∧ w' = w := by
  by_cases ha : a = 0
  · by_cases hb : b = 0
    · by_cases hc : c = 0
      · subst ha; subst hb; subst hc
        go_enter Tryz.func101, Tryz.ntmps101
        go_wp2
        refine wp_loop_rounds (0 + 1 + 1 + 1 + 1) ?_
        iterate 4 (try (rw [rounds_succ]; go_wp2))
        all_goals go_ret
        all_goals exact ⟨rfl, rfl⟩
      · subst ha; subst hb
        have hr : orI 0 0 c = c := by simp [orI]
        rw [hr]; clear hr
        have hc' : (c != 0) = true := by simpa using hc
        go_enter Tryz.func101, Tryz.ntmps101
        go_wp2
        refine wp_loop_rounds (0 + 1 + 1 + 1 + 1) ?_
        iterate 4 (try (rw [rounds_succ]; go_wp2))
        all_goals go_ret
        all_goals exact ⟨rfl, rfl⟩
    · subst ha
      have hr : orI 0 b c = b := by simp [orI, hb]
      rw [hr]; clear hr
      have hc' : (b != 0) = true := by simpa using hb
      go_enter Tryz.func101, Tryz.ntmps101
      go_wp2
      refine wp_loop_rounds (0 + 1 + 1 + 1 + 1) ?_
      iterate 4 (try (rw [rounds_succ]; go_wp2))
      all_goals go_ret
      all_goals exact ⟨rfl, rfl⟩
  · have hr : orI a b c = a := by simp [orI, ha]
    rw [hr]; clear hr
    have hc' : (a != 0) = true := by simpa using ha
    go_enter Tryz.func101, Tryz.ntmps101
    go_wp2
    refine wp_loop_rounds (0 + 1 + 1 + 1 + 1) ?_
    iterate 4 (try (rw [rounds_succ]; go_wp2))
    all_goals go_ret
    all_goals exact ⟨rfl, rfl⟩

mutual
/-- The order of two valid values. -/
def V.ord : V → V → Int
  | .mk k n s _ _ l, .mk k' n' s' _ _ l' =>
    if orI (cmpI k k') (cmpI n n') (Lib.compareBytes s.data.toList s'.data.toList) ≠ 0 then orI (cmpI k k') (cmpI n n') (Lib.compareBytes s.data.toList s'.data.toList) else V.ordL l l'
def V.ordL : List V → List V → Int
  | [], [] => 0
  | [], _ :: _ => -1
  | _ :: _, [] => 1
  | x :: xs, y :: ys => if x.ord y ≠ 0 then x.ord y else V.ordL xs ys
end

/-- The order of two lists that are the same up to a place. -/
theorem V.ordL_drop : ∀ (l m : List V) (j : Nat) (_ : ∀ i x y, i < j → l[i]? = some x → m[i]? = some y → x.ord y = 0) (_ : j ≤ l.length) (_ : j ≤ m.length), V.ordL l m = V.ordL (l.drop j) (m.drop j)
  | l, m, 0, _, _, _ => by simp
  | [], _, j + 1, _, h, _ => by simp at h
  | _, [], j + 1, _, _, h => by simp at h
  | x :: xs, y :: ys, j + 1, h, h1, h2 => by
    have h0 := h 0 x y (by omega) (by simp) (by simp)
    simp only [V.ordL, h0, List.drop_succ_cons]
    simp
    exact V.ordL_drop xs ys j (fun i a b hi ha hb => h (i + 1) a b (by omega) (by simpa using ha) (by simpa using hb)) (by simpa using h1) (by simpa using h2)

theorem V.ordL_at {l m : List V} {j : Nat} {x y : V} (h : ∀ i x y, i < j → l[i]? = some x → m[i]? = some y → x.ord y = 0) (hx : l[j]? = some x) (hy : m[j]? = some y) (hne : x.ord y ≠ 0) : V.ordL l m = x.ord y := by
  have hj : j < l.length := (List.getElem?_eq_some_iff.1 hx).1
  have hj' : j < m.length := (List.getElem?_eq_some_iff.1 hy).1
  rw [V.ordL_drop l m j h (by omega) (by omega), List.drop_eq_getElem_cons hj, List.drop_eq_getElem_cons hj']
  have e1 : l[j] = x := (List.getElem?_eq_some_iff.1 hx).2
  have e2 : m[j] = y := (List.getElem?_eq_some_iff.1 hy).2
  rw [e1, e2]; simp [V.ordL, hne]
theorem V.ordL_end {l m : List V} (h : ∀ i x y, i < l.length → l[i]? = some x → m[i]? = some y → x.ord y = 0) (hl : l.length ≤ m.length) : V.ordL l m = if l.length < m.length then -1 else 0 := by
  rw [V.ordL_drop l m l.length h (Nat.le_refl _) hl, List.drop_length]
  split
  · rename_i h1
    rw [List.drop_eq_getElem_cons h1]; simp [V.ordL]
  · rename_i h1
    rw [List.drop_of_length_le (by omega)]; simp [V.ordL]
theorem V.ordL_over {l m : List V} (h : ∀ i x y, i < m.length → l[i]? = some x → m[i]? = some y → x.ord y = 0) (hl : m.length < l.length) : V.ordL l m = 1 := by
  rw [V.ordL_drop l m m.length h (by omega) (Nat.le_refl _), List.drop_length, List.drop_eq_getElem_cons hl]; simp [V.ordL]

end Go.Proofs.YtkfmgafgokpjhaaGreatDoor

/-
  THE WALKS OF slices.CompareFunc AND order, by recursion; Compare.
-/
namespace Go.Proofs.YtkfmgafgokpjhaaGreatDoor
open Go.RowKit

def EqUpto (l m : List V) (j : Nat) : Prop := ∀ i x y, i < j → l[i]? = some x → m[i]? = some y → x.ord y = 0
theorem EqUpto.succ {l m : List V} {j : Nat} {x y : V} (h : EqUpto l m j) (hx : l[j]? = some x) (hy : m[j]? = some y) (h0 : x.ord y = 0) : EqUpto l m (j + 1) := by
  intro i a b hi ha hb
  rcases Nat.lt_succ_iff_lt_or_eq.1 hi with h1 | rfl
  · exact h i a b h1 ha hb
  · rw [hx] at ha; rw [hy] at hb; cases ha; cases hb; exact h0

/-- The parts of a list that lies in memory. -/
theorem V.atPart {w : World} {B : Nat} {k n : Int} {s : ByteArray} {a : Option Addr} {cap : Nat} {l : List V} (hin : (V.mk k n s a cap l).In w B) {j : Nat} {x : V} (hx : l[j]? = some x) :
    ∃ b0 off, a = some ⟨b0, off, none⟩ ∧ b0 < B ∧ w.cell? ⟨b0, off + j * 4, none⟩ = some (.int .i64 x.k) ∧ w.cell? ⟨b0, off + j * 4 + 1, none⟩ = some (.int .i64 x.n) ∧
      w.cell? ⟨b0, off + j * 4 + 2, none⟩ = some (.string x.s) ∧ w.cell? ⟨b0, off + j * 4 + 3, none⟩ = some (.slice x.a x.l.length x.cap) ∧ x.In w B := by
  rw [V.In_def] at hin
  obtain ⟨_, _, _, _, _, hat, hparts⟩ := hin
  simp only [V.l, V.a] at hat hparts
  have hxin := V.InL_iff.1 hparts j x hx
  rcases hat with rfl | ⟨b0, off, rfl, hb0, hat⟩
  · simp at hx
  · obtain ⟨q0, q1, q2, q3⟩ := hat j x hx
    exact ⟨b0, off, rfl, hb0, q0, q1, q2, q3, hxin⟩

theorem V.lenLe {w : World} {B : Nat} {k n : Int} {s : ByteArray} {a : Option Addr} {cap : Nat} {l : List V} (hin : (V.mk k n s a cap l).In w B) : l.length ≤ 9223372036854775807 := by
  rw [V.In_def] at hin; have := hin.2.2.2.1; have := hin.2.2.2.2.1; unfold maxLen at this; simp [V.l, V.cap] at *; omega

set_option maxHeartbeats 1000000 in
theorem compV (N : Nat) (ih : ∀ (x y : V) (w : World), x.rank ≤ N → x.In w w.heap.size → y.In w w.heap.size → Calls Tryz.prog 66 #[x.val, y.val] w fun e w' => e = .returned (.int .i64 (x.ord y)) ∧ Kp w w')
    (k n : Int) (s : ByteArray) (a : Option Addr) (cap : Nat) (l : List V) (k' n' : Int) (s' : ByteArray) (a' : Option Addr) (cap' : Nat) (m : List V) (w : World) (hr : (V.mk k n s a cap l).rank ≤ N + 1)
    (hin : (V.mk k n s a cap l).In w w.heap.size) (hin' : (V.mk k' n' s' a' cap' m).In w w.heap.size) :
    Calls Tryz.prog 104 #[.slice a l.length cap, .slice a' m.length cap', .func (.func 66) #[] #[]] w fun e w' => e = .returned (.int .i64 (V.ordL l m)) ∧ Kp w w' := by
  have hl := V.lenLe hin
  have hm := V.lenLe hin'
  have IH := Lib.hid ih
  have HIN := Lib.hid hin
  have HIN' := Lib.hid hin'
  have HR := Lib.hid hr
  clear ih hin hin' hr
  go_enter Tryz.func104, Tryz.ntmps104
  go_wp2_with fail
  go_loopw [13] (fun i wr => ∃ j : Nat, j ≤ l.length ∧ j ≤ m.length ∧ i = .int .i64 j ∧ EqUpto l m j ∧ Kp w wr) (fun i _ => l.length - (intOf i).toNat)
  case atStart => exact ⟨0, Nat.zero_le _, Nat.zero_le _, rfl, fun i _ _ h => absurd h (by omega), Below.refl _ _⟩
  case round =>
    obtain ⟨j, hj, hj', rfl, heq, hk⟩ := hrel
    by_cases hlt : j < l.length
    · obtain ⟨x, hx⟩ : ∃ x, l[j]? = some x := ⟨l[j], by simp [hlt]⟩
      obtain ⟨b0, off, rfl, hb0, q0, q1, q2, q3, hxin⟩ := V.atPart HIN.out hx
      have r0 := kc hk q0
      have r1 := kc hk q1
      have r2 := kc hk q2
      have r3 := kc hk q3
      have HX := Lib.hid hx
      have HXI := Lib.hid hxin
      have HK := Lib.hid hk
      have hz := hk.size
      clear q0 q1 q2 q3 hx hxin hk
      by_cases hlt' : j < m.length
      · obtain ⟨y, hy⟩ : ∃ y, m[j]? = some y := ⟨m[j], by simp [hlt']⟩
        obtain ⟨b1, off', rfl, hb1, q0, q1, q2, q3, hyin⟩ := V.atPart HIN'.out hy
        have t0 := kc HK.out q0
        have t1 := kc HK.out q1
        have t2 := kc HK.out q2
        have t3 := kc HK.out q3
        have HY := Lib.hid hy
        have HYI := Lib.hid hyin
        have hb1' : b1 < wr.heap.size := by omega
        clear q0 q1 q2 q3 hy hyin
        go_wp2_with fail
        refine (IH.out x y _ (by have := V.rank_part (v := .mk k n s (some ⟨b0, off, none⟩) cap l) HX.out; have := HR.out; omega) (HXI.out.keep (by simp; omega) (kk HK.out (kk (ka _ _) (ka _ _)))) (HYI.out.keep (by simp; omega) (kk HK.out (kk (ka _ _) (ka _ _))))).mono ?_
        generalize hc : x.ord y = c
        rintro e w1 ⟨rfl, hk1⟩
        have HK1 := Lib.hid (kk HK.out (kk (kk (ka _ _) (ka _ _)) hk1))
        have HC := Lib.hid hc
        clear hk1 hc
        by_cases h0 : c = 0
        · subst h0
          go_wp2_with fail
          go_roundw
          case rel => exact ⟨j + 1, by omega, by omega, by go_num, heq.succ HX.out HY.out HC.out, HK1.out⟩
          case measure => simp [intOf]; omega
        · have hne : (c != 0) = true := by simpa using h0
          have hr : V.ordL l m = c := by rw [← HC.out]; exact V.ordL_at heq HX.out HY.out (by rw [HC.out]; exact h0)
          have HRR := Lib.hid hr
          clear hr h0
          go_wp2_with fail
          go_ret
          exact ⟨by rw [HRR.out] <;> rfl, HK1.out⟩
      · have hr : V.ordL l m = 1 := V.ordL_over (fun i a b hi => heq i a b (by omega)) (by omega)
        have HRR := Lib.hid hr
        have hge : (m.length : Int) ≤ (j : Int) := by omega
        clear hr
        go_wp2_with fail
        go_ret
        exact ⟨by rw [HRR.out] <;> rfl, kk HK.out (ka _ _)⟩
    · have hjl : j = l.length := by omega
      subst hjl
      have hr : V.ordL l m = if l.length < m.length then -1 else 0 := V.ordL_end heq hj'
      have HRR := Lib.hid hr
      have HK := Lib.hid hk
      clear hr hk
      by_cases hlm : l.length < m.length
      · go_wp2_with fail
        go_ret
        exact ⟨by rw [HRR.out, if_pos hlm] <;> rfl, HK.out⟩
      · go_wp2_with fail
        go_ret
        exact ⟨by rw [HRR.out, if_neg hlm] <;> rfl, HK.out⟩

theorem V.val_mk (k n : Int) (s : ByteArray) (a : Option Addr) (cap : Nat) (l : List V) : (V.mk k n s a cap l).val = .agg #[.int .i64 k, .int .i64 n, .string s, .slice a l.length cap] := rfl

set_option maxRecDepth 100000 in
set_option maxHeartbeats 4000000 in
theorem orderV : ∀ (N : Nat) (x y : V) (w : World), x.rank ≤ N → x.In w w.heap.size → y.In w w.heap.size →
    Calls Tryz.prog 66 #[x.val, y.val] w fun e w' => e = .returned (.int .i64 (x.ord y)) ∧ Kp w w' := by
  intro N
  induction N with
  | zero => intro x y w h; have := x.rank_pos; omega
  | succ N ih =>
    intro x y w hN hx hy
    cases x with
    | mk k n s a cap l =>
    cases y with
    | mk k' n' s' a' cap' l' =>
    rw [V.val_mk, V.val_mk]
    have C := fun w1 (h : Kp w w1) => compV N ih k n s a cap l k' n' s' a' cap' l' w1 hN (hx.keep h.size h) (hy.keep h.size h)
    have CC := Lib.hid C
    clear C ih hx hy hN
    have hr : (V.mk k n s a cap l).ord (V.mk k' n' s' a' cap' l') = if orI (cmpI k k') (cmpI n n') (Lib.compareBytes s.data.toList s'.data.toList) ≠ 0 then orI (cmpI k k') (cmpI n n') (Lib.compareBytes s.data.toList s'.data.toList) else V.ordL l l' := by simp only [V.ord]
    rw [hr]
    clear hr
    have HC1 := Lib.hid (cmpInt k k')
    have HC2 := Lib.hid (cmpInt n n')
    have HC3 := Lib.hid (Tryz.strings_Compare s s')
    generalize cmpI k k' = o1 at *
    generalize cmpI n n' = o2 at *
    generalize Lib.compareBytes s.data.toList s'.data.toList = o3 at *
    have HO := Lib.hid (cmpOr o1 o2 o3)
    generalize hq : orI o1 o2 o3 = o at *
    generalize V.ordL l l' = ol at *
    clear hq
    by_cases h0 : o = 0
    · subst h0
      simp only [ne_eq, not_true_eq_false, if_false]
      go_enter Tryz.func66, Tryz.ntmps66
      go_wp2_with fail
      go_region_held3 (fun w' => w'.cell? ⟨w.heap.size, 0, none⟩ = some (.int .i64 k) ∧ w'.cell? ⟨w.heap.size, 1, none⟩ = some (.int .i64 n) ∧ w'.cell? ⟨w.heap.size, 2, none⟩ = some (.string s) ∧ w'.cell? ⟨w.heap.size, 3, none⟩ = some (.slice a l.length cap) ∧
          w'.cell? ⟨w.heap.size + 1, 0, none⟩ = some (.int .i64 k') ∧ w'.cell? ⟨w.heap.size + 1, 1, none⟩ = some (.int .i64 n') ∧ w'.cell? ⟨w.heap.size + 1, 2, none⟩ = some (.string s') ∧ w'.cell? ⟨w.heap.size + 1, 3, none⟩ = some (.slice a' l'.length cap') ∧ Kp w w')
        (first
          | (refine ⟨?_, ?_, ?_, ?_, ?_, ?_, ?_, ?_, ?_⟩ <;> first | exact (kk (ka _ _) (ka _ _)).drew | (go_keep; done))
          | (go_split_ands; exact ⟨‹_›, ‹_›, ‹_›, ‹_›, ‹_›, ‹_›, ‹_›, ‹_›, ‹_›⟩)
          | (go_split_ands; exact ⟨kc (ka _ _) ‹_›, kc (ka _ _) ‹_›, kc (ka _ _) ‹_›, kc (ka _ _) ‹_›, kc (ka _ _) ‹_›, kc (ka _ _) ‹_›, kc (ka _ _) ‹_›, kc (ka _ _) ‹_›, kk ‹_› (ka _ _)⟩))
        (first
          | (go_at_call_of 102 (Value.int .i64 k); refine (HC1.out _).mono ?_; rintro e w1 ⟨rfl, rfl⟩)
          | (go_at_call_of 102 (Value.int .i64 n); refine (HC2.out _).mono ?_; rintro e w1 ⟨rfl, rfl⟩)
          | (go_at_call 103; refine (HC3.out _).mono ?_; rintro e w1 ⟨rfl, rfl⟩)
          | (go_at_call 101; refine (HO.out _ _ (by exact here (by simp) rfl) (by exact here (by simp) rfl) (by exact here (by simp) rfl)).mono ?_; rintro e w1 ⟨rfl, rfl⟩))
      go_split_ands
      go_wp2_with fail
      refine (CC.out _ ‹_›).mono ?_
      rintro e w1 ⟨rfl, hk⟩
      have HK := Lib.hid (kk ‹_› hk)
      go_wp2_with fail
      go_ret
      exact ⟨rfl, HK.out⟩
    · have hne : (o != 0) = true := by simpa using h0
      simp only [ne_eq, h0, not_false_eq_true, if_true]
      clear h0 CC
      go_enter Tryz.func66, Tryz.ntmps66
      go_wp2_with fail
      go_region_held3 (fun w' => w'.cell? ⟨w.heap.size, 0, none⟩ = some (.int .i64 k) ∧ w'.cell? ⟨w.heap.size, 1, none⟩ = some (.int .i64 n) ∧ w'.cell? ⟨w.heap.size, 2, none⟩ = some (.string s) ∧ w'.cell? ⟨w.heap.size, 3, none⟩ = some (.slice a l.length cap) ∧
          w'.cell? ⟨w.heap.size + 1, 0, none⟩ = some (.int .i64 k') ∧ w'.cell? ⟨w.heap.size + 1, 1, none⟩ = some (.int .i64 n') ∧ w'.cell? ⟨w.heap.size + 1, 2, none⟩ = some (.string s') ∧ w'.cell? ⟨w.heap.size + 1, 3, none⟩ = some (.slice a' l'.length cap') ∧ Kp w w')
        (first
          | (refine ⟨?_, ?_, ?_, ?_, ?_, ?_, ?_, ?_, ?_⟩ <;> first | exact (kk (ka _ _) (ka _ _)).drew | (go_keep; done))
          | (go_split_ands; exact ⟨‹_›, ‹_›, ‹_›, ‹_›, ‹_›, ‹_›, ‹_›, ‹_›, ‹_›⟩)
          | (go_split_ands; exact ⟨kc (ka _ _) ‹_›, kc (ka _ _) ‹_›, kc (ka _ _) ‹_›, kc (ka _ _) ‹_›, kc (ka _ _) ‹_›, kc (ka _ _) ‹_›, kc (ka _ _) ‹_›, kc (ka _ _) ‹_›, kk ‹_› (ka _ _)⟩))
        (first
          | (go_at_call_of 102 (Value.int .i64 k); refine (HC1.out _).mono ?_; rintro e w1 ⟨rfl, rfl⟩)
          | (go_at_call_of 102 (Value.int .i64 n); refine (HC2.out _).mono ?_; rintro e w1 ⟨rfl, rfl⟩)
          | (go_at_call 103; refine (HC3.out _).mono ?_; rintro e w1 ⟨rfl, rfl⟩)
          | (go_at_call 101; refine (HO.out _ _ (by exact here (by simp) rfl) (by exact here (by simp) rfl) (by exact here (by simp) rfl)).mono ?_; rintro e w1 ⟨rfl, rfl⟩))
      go_split_ands
      have HK := Lib.hid ‹Kp w _›
      go_wp2_with fail
      go_ret
      exact ⟨rfl, HK.out⟩

end Go.Proofs.YtkfmgafgokpjhaaGreatDoor

/-
  THE WALKS OF THE TEXT OF A VALUE: tuples, tags; the recursion; Text.
-/
namespace Go.Proofs.YtkfmgafgokpjhaaGreatDoor
open Go.RowKit

mutual
/-- The text of a value. -/
def V.txt : V → List UInt8
  | .mk k n s _ _ l => if k = 1 then 34 :: esc s.data.toList ++ [34] else if k = 2 then 40 :: V.txtL l ++ [41] else if k = 3 then 35 :: Lib.itoa n ++ 32 :: V.txtH l else Lib.itoa n
def V.txtL : List V → List UInt8
  | [] => []
  | x :: xs => match xs with
    | [] => x.txt
    | y :: ys => x.txt ++ [44, 32] ++ V.txtL (y :: ys)
def V.txtH : List V → List UInt8
  | [] => []
  | x :: _ => x.txt
end
theorem V.txtL_join : ∀ (l : List V), V.txtL l = joinF V.txt [44, 32] l
  | [] => by simp [V.txtL, joinF]
  | [x] => by simp [V.txtL, joinF]
  | x :: y :: ys => by
    have := V.txtL_join (y :: ys)
    simp only [joinF]
    rw [← this]
    conv => lhs; unfold V.txtL

mutual
/-- A value that can be written: its kinds are known, and each tagged one has a part. -/
def V.ok : V → Prop
  | .mk k n _ _ _ l => (k = 0 ∨ k = 1 ∨ k = 2 ∨ k = 3) ∧ I64 n ∧ (k = 3 → l ≠ []) ∧ V.okL l
def V.okL : List V → Prop
  | [] => True
  | x :: xs => x.ok ∧ V.okL xs
end
theorem V.okL_iff {l : List V} : V.okL l ↔ ∀ (j : Nat) (x : V), l[j]? = some x → x.ok := by
  induction l with
  | nil => simp [V.okL]
  | cons y ys ih =>
    simp only [V.okL, ih]
    constructor
    · rintro ⟨h1, h2⟩ j x hj
      cases j with
      | zero => simp at hj; exact hj ▸ h1
      | succ j => exact h2 j x (by simpa using hj)
    · intro h
      exact ⟨h 0 y (by simp), fun j x hj => h (j + 1) x (by simpa using hj)⟩

/-- An element of a list that lies in memory, as what a pointer leads to. -/
theorem V.ptrPart {w : World} {B : Nat} {k n : Int} {s : ByteArray} {a : Option Addr} {cap : Nat} {l : List V} (hin : (V.mk k n s a cap l).In w B) (hl : l ≠ []) :
    ∃ b0 off, a = some ⟨b0, off, none⟩ ∧ b0 < B ∧ ∀ (j : Nat) (x : V), l[j]? = some x → PtrAt w b0 (off + j * 4) x.k x.n x.s (.slice x.a x.l.length x.cap) ∧ x.In w B := by
  rw [V.In_def] at hin
  obtain ⟨_, _, _, _, _, hat, hparts⟩ := hin
  simp only [V.l, V.a] at hat hparts
  rcases hat with h | ⟨b0, off, h, hb0, hat⟩
  · exact absurd h hl
  · exact ⟨b0, off, h, hb0, fun j x hx => ⟨⟨(hat j x hx).1, (hat j x hx).2.1, (hat j x hx).2.2.1, (hat j x hx).2.2.2⟩, V.InL_iff.1 hparts j x hx⟩⟩

theorem PtrAt.sk {w w' : World} {b off S : Nat} {xs : List UInt8} {k n : Int} {s : ByteArray} {sl : Value} (h : PtrAt w b off k n s sl) (hb : b < S) (hs : Sink w S xs) (hk : Sk S w w') : PtrAt w' b off k n s sl := h.keep hb (hk.below hs)

set_option maxHeartbeats 2000000 in
theorem tupleText_any (f : V → List UInt8) (w : World) (S b off b0 off0 : Nat) (xs : List UInt8) (n : Int) (s : ByteArray) (a : Option Addr) (cap : Nat) (l : List V) (hs : Sink w S xs) (hp : PtrAt w b off 2 n s (.slice a l.length cap)) (ha : l ≠ [] → a = some ⟨b0, off0, none⟩) (hl : l.length ≤ 9223372036854775807)
    (H : ∀ (j : Nat) (x : V), l[j]? = some x → ∀ (w1 : World) (xs1 : List UInt8), Sk S w w1 → Sink w1 S xs1 → xs1.length + (f x).length ≤ 1000000000000 →
      Calls Tryz.prog 183 #[.pointer (some ⟨b0, off0 + j * 4, none⟩), takeF S] w1 fun e w' => e = .returned (.tuple #[]) ∧ Sink w' S (xs1 ++ f x) ∧ Sk S w1 w')
    (hx : xs.length + (joinF f [44, 32] l).length + 2 ≤ 1000000000000) :
    Calls Tryz.prog 180 #[.agg #[.pointer (some ⟨b, off, none⟩)], takeF S] w fun e w' => e = .returned (.tuple #[]) ∧ Sink w' S (xs ++ (40 :: joinF f [44, 32] l ++ [41])) ∧ Sk S w w' := by
  have hlt := hs.lt
  have h3 := (hp.keep (World.block_lt_of_cell? w _ hp.c0) (ka w (.cells #[.pointer (some ⟨b, off, none⟩)] 146))).c3
  have C := listText f (w.alloc (.cells #[.pointer (some ⟨b, off, none⟩)] 146)) S b0 off0 a cap l xs ⟨#[40]⟩ ⟨#[44, 32]⟩ ⟨#[41]⟩ ha hl (hs.kp (ka _ _))
    (fun j x hj w1 xs1 hk => H j x hj w1 xs1 ((Sk.kp (ka _ _) hlt).trans hk)) (by simp [ByteArray.size]; omega)
  have CC := Lib.hid C
  have hlb : b < w.heap.size := World.block_lt_of_cell? w _ hp.c0
  clear C hs H ha
  have HP := Lib.hid hp
  clear hp
  go_enter Tryz.func180, Tryz.ntmps180
  go_wp2_with fail
  refine CC.out.mono ?_
  rintro e w2 ⟨rfl, hs2, hk2⟩
  have HK2 := Lib.hid ((Sk.kp (ka _ _) hlt).trans hk2)
  have HS2 := Lib.hid hs2
  clear hs2 hk2
  go_wp2_with fail
  go_end0
  exact ⟨rfl, by simpa using HS2.out, HK2.out⟩

set_option maxRecDepth 100000 in
set_option maxHeartbeats 1000000 in
theorem writeText_tuple (w : World) (S b off : Nat) (xs : List UInt8) (E : List UInt8) (n : Int) (s : ByteArray) (sl : Value) (hp : PtrAt w b off 2 n s sl)
    (C : Calls Tryz.prog 180 #[.agg #[.pointer (some ⟨b, off, none⟩)], takeF S] w fun e w' => e = .returned (.tuple #[]) ∧ Sink w' S (xs ++ E) ∧ Sk S w w') :
    Calls Tryz.prog 183 #[.pointer (some ⟨b, off, none⟩), takeF S] w fun e w' => e = .returned (.tuple #[]) ∧ Sink w' S (xs ++ E) ∧ Sk S w w' := by
  have CC1 := Lib.hid (shapeOf_any w b off 2 n s sl hp)
  have CC := Lib.hid C
  clear C hp
  have hm := mTupleText (.pointer (some ⟨b, off, none⟩))
  go_enter Tryz.func183, Tryz.ntmps183
  go_wp2_with fail
  refine CC1.out.mono ?_
  rintro e w' ⟨rfl, rfl⟩
  rw [show shapeT 2 = 146 from rfl]
  go_wp2_with fail
  refine CC.out.mono ?_
  rintro e w2 ⟨rfl, hs2, hk2⟩
  have HK2 := Lib.hid hk2
  have HS2 := Lib.hid hs2
  clear hs2 hk2 hm
  go_wp2_with fail
  go_end0
  exact ⟨rfl, HS2.out, HK2.out⟩

set_option maxHeartbeats 2000000 in
theorem taggedText_any (w : World) (S b off b0 off0 : Nat) (xs : List UInt8) (n : Int) (s : ByteArray) (len cap : Nat) (T : List UInt8) (hs : Sink w S xs) (hb : b < S) (hp : PtrAt w b off 3 n s (.slice (some ⟨b0, off0, none⟩) len cap)) (hlen : 0 < len) (hl : len ≤ 9223372036854775807) (hn : I64 n) (ht : Tb w S)
    (H : ∀ (w1 : World) (xs1 : List UInt8), Sk S w w1 → Sink w1 S xs1 → xs1.length + T.length ≤ 1000000000000 →
      Calls Tryz.prog 183 #[.pointer (some ⟨b0, off0, none⟩), takeF S] w1 fun e w' => e = .returned (.tuple #[]) ∧ Sink w' S (xs1 ++ T) ∧ Sk S w1 w')
    (hx : xs.length + (Lib.itoa n).length + T.length + 2 ≤ 1000000000000) :
    Calls Tryz.prog 188 #[.agg #[.pointer (some ⟨b, off, none⟩)], takeF S] w fun e w' => e = .returned (.tuple #[]) ∧ Sink w' S (xs ++ (35 :: Lib.itoa n ++ 32 :: T)) ∧ Sk S w w' := by
  have hlt := hs.lt
  have KB : ∀ wr, Sk S (w.alloc (.cells #[.pointer (some ⟨b, off, none⟩)] 149)) wr → wr.cell? ⟨w.heap.size, 0, none⟩ = some (.pointer (some ⟨b, off, none⟩)) ∧ PtrAt wr b off 3 n s (.slice (some ⟨b0, off0, none⟩) len cap) ∧ Tb wr S ∧ Sk S w wr := fun wr h =>
    have h' := (Sk.kp (ka w _) hlt).trans h
    ⟨boxIn hs h rfl, hp.sk hb hs h', ht.keep (h'.below hs) (Nat.le_refl _), h'⟩
  have HKB := Lib.hid KB
  have HS := Lib.hid hs
  have HH := Lib.hid H
  have HN := Lib.hid hn
  clear KB hs H hp hn ht
  go_enter Tryz.func188, Tryz.ntmps188
  go_wp2_with fail
  refine (take_any _ S xs 35 35 rfl (HS.out.kp (ka _ _)) (by omega)).mono ?_
  rintro e w1 ⟨rfl, hs1, hk1⟩
  obtain ⟨hc0, hp1, ht1, _⟩ := HKB.out w1 hk1
  have HS1 := Lib.hid hs1
  have HK1 := Lib.hid hk1
  have HP1 := Lib.hid hp1
  have HT1 := Lib.hid ht1
  clear hs1 hk1 hp1 ht1
  go_wp2_with fail
  refine (digits_any _ S b off _ 3 n s _ HS1.out HP1.out HN.out HT1.out (by simp only [List.length_append, List.length_cons, List.length_nil]; omega)).mono ?_
  rintro e w2 ⟨rfl, hs2, hk2⟩
  obtain ⟨hd0, hp2, ht2, _⟩ := HKB.out w2 (HK1.out.trans hk2)
  have HS2 := Lib.hid hs2
  have HK2 := Lib.hid (HK1.out.trans hk2)
  clear hs2 hk2 hc0 hp2 ht2
  generalize hI : Lib.itoa n = I at *
  go_wp2_with fail
  refine (take_any _ S _ 32 32 rfl HS2.out (by simp only [List.length_append, List.length_cons, List.length_nil]; omega)).mono ?_
  rintro e w3 ⟨rfl, hs3, hk3⟩
  obtain ⟨he0, hp3, ht3, hk3'⟩ := HKB.out w3 (HK2.out.trans hk3)
  have h3 := hp3.c3
  have HS3 := Lib.hid hs3
  have HK3 := Lib.hid (HK2.out.trans hk3)
  have HK3' := Lib.hid hk3'
  have g1 : (0 : Int) < (len : Int) := by omega
  clear hs3 hk3 hd0 hp3 ht3 hk3'
  go_wp2_with fail
  refine (HH.out _ _ HK3'.out HS3.out (by simp only [List.length_append, List.length_cons, List.length_nil]; omega)).mono ?_
  rintro e w4 ⟨rfl, hs4, hk4⟩
  have HS4 := Lib.hid hs4
  have HK4 := Lib.hid (HK3'.out.trans hk4)
  clear hs4 hk4 he0 h3
  go_wp2_with fail
  go_end0
  exact ⟨rfl, by subst hI; simpa using HS4.out, HK4.out⟩

set_option maxRecDepth 100000 in
set_option maxHeartbeats 1000000 in
theorem writeText_tagged (w : World) (S b off : Nat) (xs : List UInt8) (E : List UInt8) (n : Int) (s : ByteArray) (sl : Value) (hp : PtrAt w b off 3 n s sl)
    (C : Calls Tryz.prog 188 #[.agg #[.pointer (some ⟨b, off, none⟩)], takeF S] w fun e w' => e = .returned (.tuple #[]) ∧ Sink w' S (xs ++ E) ∧ Sk S w w') :
    Calls Tryz.prog 183 #[.pointer (some ⟨b, off, none⟩), takeF S] w fun e w' => e = .returned (.tuple #[]) ∧ Sink w' S (xs ++ E) ∧ Sk S w w' := by
  have CC1 := Lib.hid (shapeOf_any w b off 3 n s sl hp)
  have CC := Lib.hid C
  clear C hp
  have hm := mTaggedText (.pointer (some ⟨b, off, none⟩))
  go_enter Tryz.func183, Tryz.ntmps183
  go_wp2_with fail
  refine CC1.out.mono ?_
  rintro e w' ⟨rfl, rfl⟩
  rw [show shapeT 3 = 149 from rfl]
  go_wp2_with fail
  refine CC.out.mono ?_
  rintro e w2 ⟨rfl, hs2, hk2⟩
  have HK2 := Lib.hid hk2
  have HS2 := Lib.hid hs2
  clear hs2 hk2 hm
  go_wp2_with fail
  go_end0
  exact ⟨rfl, HS2.out, HK2.out⟩

theorem textV : ∀ (N : Nat) (v : V) (w : World) (S b off : Nat) (xs : List UInt8), v.rank ≤ N → v.In w S → PtrAt w b off v.k v.n v.s (.slice v.a v.l.length v.cap) → b < S → Tb w S → v.ok → Sink w S xs → xs.length + v.txt.length ≤ 1000000000000 →
    Calls Tryz.prog 183 #[.pointer (some ⟨b, off, none⟩), takeF S] w fun e w' => e = .returned (.tuple #[]) ∧ Sink w' S (xs ++ v.txt) ∧ Sk S w w' := by
  intro N
  induction N with
  | zero => intro v w S b off xs h; have := v.rank_pos; omega
  | succ N ih =>
    intro v w S b off xs hN hin hp hb ht hok hs hx
    cases v with
    | mk k n s a cap l =>
    simp only [V.k, V.n, V.s, V.a, V.l, V.cap] at hp
    have hll := V.lenLe hin
    obtain ⟨hk, hn, h3, hokl⟩ := (by simpa only [V.ok] using hok : (k = 0 ∨ k = 1 ∨ k = 2 ∨ k = 3) ∧ I64 n ∧ (k = 3 → l ≠ []) ∧ V.okL l)
    have part : ∀ (b0 off0 : Nat), a = some ⟨b0, off0, none⟩ → (∀ (j : Nat) (x : V), l[j]? = some x → PtrAt w b0 (off0 + j * 4) x.k x.n x.s (.slice x.a x.l.length x.cap) ∧ x.In w S) → b0 < S →
        ∀ (j : Nat) (x : V), l[j]? = some x → ∀ (w1 : World) (xs1 : List UInt8), Sk S w w1 → Sink w1 S xs1 → xs1.length + x.txt.length ≤ 1000000000000 →
          Calls Tryz.prog 183 #[.pointer (some ⟨b0, off0 + j * 4, none⟩), takeF S] w1 fun e w' => e = .returned (.tuple #[]) ∧ Sink w' S (xs1 ++ x.txt) ∧ Sk S w1 w' := by
      intro b0 off0 _ hpt hb0 j x hj w1 xs1 hk1 hs1 hx1
      have hrk := V.rank_part (v := .mk k n s a cap l) (j := j) (x := x) hj
      have hbl := hk1.below hs
      exact ih x w1 S b0 (off0 + j * 4) xs1 (by omega) ((hpt j x hj).2.keep (Nat.le_refl _) hbl) ((hpt j x hj).1.keep hb0 hbl) hb0 (ht.keep hbl (Nat.le_refl _)) (V.okL_iff.1 hokl j x hj) hs1 hx1
    rcases hk with rfl | rfl | rfl | rfl
    · have e : (V.mk 0 n s a cap l).txt = Lib.itoa n := by simp [V.txt]
      rw [e] at hx ⊢
      exact writeText_word w S b off xs 0 n s _ hs hp hn ht (by omega) hx
    · have e : (V.mk 1 n s a cap l).txt = 34 :: esc s.data.toList ++ [34] := by simp [V.txt]
      rw [e] at hx ⊢
      exact writeText_letters w S b off xs n s _ hs hp hb (by simp at hx; omega)
    · have e : (V.mk 2 n s a cap l).txt = 40 :: joinF V.txt [44, 32] l ++ [41] := by simp [V.txt, V.txtL_join]
      rw [e] at hx ⊢
      by_cases hl : l = []
      · exact writeText_tuple w S b off xs _ n s _ hp (tupleText_any V.txt w S b off 0 0 xs n s a cap l hs hp (fun h => absurd hl h) hll (fun j x hj => by subst hl; simp at hj) (by simp at hx; omega))
      · obtain ⟨b0, off0, ha, hb0, hpt⟩ := V.ptrPart hin hl
        exact writeText_tuple w S b off xs _ n s _ hp (tupleText_any V.txt w S b off b0 off0 xs n s a cap l hs hp (fun _ => ha) hll (part b0 off0 ha hpt hb0) (by simp at hx; omega))
    · have hl := h3 rfl
      obtain ⟨b0, off0, ha, hb0, hpt⟩ := V.ptrPart hin hl
      cases l with
      | nil => exact absurd rfl hl
      | cons x xr =>
      have e : (V.mk 3 n s a cap (x :: xr)).txt = 35 :: Lib.itoa n ++ 32 :: x.txt := by simp [V.txt, V.txtH]
      rw [e] at hx ⊢
      subst ha
      exact writeText_tagged w S b off xs _ n s _ hp (taggedText_any w S b off b0 off0 xs n s _ cap x.txt hs hb hp (by simp) hll hn ht (by simpa using part b0 off0 rfl hpt hb0 0 x (by simp)) (by simp at hx; omega))

end Go.Proofs.YtkfmgafgokpjhaaGreatDoor

/-
  Compare OF TWO VALUES.
-/
namespace Go.Proofs.YtkfmgafgokpjhaaGreatDoor
open Go.RowKit

theorem box44 {w w1 : World} {c0 c1 c2 c3 d0 d1 d2 d3 : Value} {t u : Nat} (hk : Kp ((w.alloc (.cells #[c0, c1, c2, c3] t)).alloc (.cells #[d0, d1, d2, d3] u)) w1) :
    w1.cell? ⟨w.heap.size, 0, none⟩ = some c0 ∧ w1.cell? ⟨w.heap.size, 1, none⟩ = some c1 ∧ w1.cell? ⟨w.heap.size, 2, none⟩ = some c2 ∧ w1.cell? ⟨w.heap.size, 3, none⟩ = some c3 ∧
    w1.cell? ⟨w.heap.size + 1, 0, none⟩ = some d0 ∧ w1.cell? ⟨w.heap.size + 1, 1, none⟩ = some d1 ∧ w1.cell? ⟨w.heap.size + 1, 2, none⟩ = some d2 ∧ w1.cell? ⟨w.heap.size + 1, 3, none⟩ = some d3 ∧ w.heap.size + 1 < w1.heap.size :=
  ⟨kc hk (past (here rfl rfl)), kc hk (past (here rfl rfl)), kc hk (past (here rfl rfl)), kc hk (past (here rfl rfl)), kc hk (here (by simp) rfl), kc hk (here (by simp) rfl), kc hk (here (by simp) rfl), kc hk (here (by simp) rfl), by have := hk.size; simp at this; omega⟩

theorem bad0 {c : Nat} (h : c = 0) : bad c = 1 := if_pos h
theorem bad1 {c : Nat} (h : ¬ c = 0) : bad c = 0 := if_neg h

set_option maxHeartbeats 1000000 in
theorem compare_first (x y : V) (w : World) (hx : x.In w w.heap.size) (h : x.cnt = 0) :
    Calls Tryz.prog 25 #[x.val, y.val] w fun e w' => e = .returned (.tuple #[.int .i64 0, .int .i64 1]) ∧ Kp w w' := by
  cases x with
  | mk k n s a cap l =>
  cases y with
  | mk k' n' s' a' cap' l' =>
  rw [V.val_mk, V.val_mk]
  have C := fun w1 (h : Kp w w1) => checkV k n s a cap l w1 (hx.keep h.size h)
  rw [bad0 h] at C
  have CC := Lib.hid C
  clear C h hx
  go_enter Tryz.func25, Tryz.ntmps25
  go_wp2_with fail
  refine (CC.out _ (kk (ka _ _) (ka _ _))).mono ?_
  rintro e w1 ⟨rfl, hk⟩
  have HK := Lib.hid (kk (kk (ka _ _) (ka _ _)) hk)
  clear hk
  go_wp2_with fail
  go_ret2
  exact ⟨rfl, HK.out⟩

set_option maxHeartbeats 1000000 in
theorem compare_second (x y : V) (w : World) (hx : x.In w w.heap.size) (hy : y.In w w.heap.size) (h : ¬ x.cnt = 0) (h' : y.cnt = 0) :
    Calls Tryz.prog 25 #[x.val, y.val] w fun e w' => e = .returned (.tuple #[.int .i64 0, .int .i64 1]) ∧ Kp w w' := by
  cases x with
  | mk k n s a cap l =>
  cases y with
  | mk k' n' s' a' cap' l' =>
  rw [V.val_mk, V.val_mk]
  have C := fun w1 (h : Kp w w1) => checkV k n s a cap l w1 (hx.keep h.size h)
  rw [bad1 h] at C
  have CC := Lib.hid C
  have C' := fun w1 (h : Kp w w1) => checkV k' n' s' a' cap' l' w1 (hy.keep h.size h)
  rw [bad0 h'] at C'
  have CC' := Lib.hid C'
  clear C C' h h' hx hy
  go_enter Tryz.func25, Tryz.ntmps25
  go_wp2_with fail
  refine (CC.out _ (kk (ka _ _) (ka _ _))).mono ?_
  rintro e w1 ⟨rfl, hk⟩
  obtain ⟨b0, b1, b2, b3, d0, d1, d2, d3, hz⟩ := box44 hk
  have HK := Lib.hid (kk (kk (ka _ _) (ka _ _)) hk)
  clear hk
  go_wp2_with fail
  refine (CC'.out _ HK.out).mono ?_
  rintro e w2 ⟨rfl, hk⟩
  have HK2 := Lib.hid (kk HK.out hk)
  clear hk
  go_wp2_with fail
  go_ret2
  exact ⟨rfl, HK2.out⟩

set_option maxHeartbeats 1000000 in
theorem compare_both (x y : V) (w : World) (hx : x.In w w.heap.size) (hy : y.In w w.heap.size) (h : ¬ x.cnt = 0) (h' : ¬ y.cnt = 0) :
    Calls Tryz.prog 25 #[x.val, y.val] w fun e w' => e = .returned (.tuple #[.int .i64 (x.ord y), .int .i64 0]) ∧ Kp w w' := by
  have O := fun w1 (h : Kp w w1) => orderV x.rank x y w1 (Nat.le_refl _) (hx.keep h.size h) (hy.keep h.size h)
  cases x with
  | mk k n s a cap l =>
  cases y with
  | mk k' n' s' a' cap' l' =>
  rw [V.val_mk, V.val_mk] at *
  have C := fun w1 (h : Kp w w1) => checkV k n s a cap l w1 (hx.keep h.size h)
  rw [bad1 h] at C
  have CC := Lib.hid C
  have C' := fun w1 (h : Kp w w1) => checkV k' n' s' a' cap' l' w1 (hy.keep h.size h)
  rw [bad1 h'] at C'
  have CC' := Lib.hid C'
  generalize (V.mk k n s a cap l).ord (V.mk k' n' s' a' cap' l') = o at O ⊢
  have OO := Lib.hid O
  clear C C' h h' hx hy O
  go_enter Tryz.func25, Tryz.ntmps25
  go_wp2_with fail
  refine (CC.out _ (kk (ka _ _) (ka _ _))).mono ?_
  rintro e w1 ⟨rfl, hk⟩
  obtain ⟨b0, b1, b2, b3, d0, d1, d2, d3, hz⟩ := box44 hk
  have HK := Lib.hid (kk (kk (ka _ _) (ka _ _)) hk)
  clear hk
  go_wp2_with fail
  refine (CC'.out _ HK.out).mono ?_
  rintro e w2 ⟨rfl, hk⟩
  have HK2 := Lib.hid (kk HK.out hk)
  have e0 := kc hk b0
  have e1 := kc hk b1
  have e2 := kc hk b2
  have e3 := kc hk b3
  have f0 := kc hk d0
  have f1 := kc hk d1
  have f2 := kc hk d2
  have f3 := kc hk d3
  clear hk b0 b1 b2 b3 d0 d1 d2 d3
  go_wp2_with fail
  refine (OO.out _ HK2.out).mono ?_
  rintro e w3 ⟨rfl, hk⟩
  have HK3 := Lib.hid (kk HK2.out hk)
  clear hk
  go_wp2_with fail
  go_ret2
  exact ⟨rfl, HK3.out⟩

end Go.Proofs.YtkfmgafgokpjhaaGreatDoor

/-
  Text OF A TUPLE; the bytes of a sink as a string.
-/
namespace Go.Proofs.YtkfmgafgokpjhaaGreatDoor
open Go.RowKit

theorem strOf_bytes (xs : List UInt8) : strOfNums (xs.map fun b => (b.toNat : Int)) = ⟨xs.toArray⟩ := by
  simp [strOfNums, Function.comp_def]

/-- What the sink holds, as the conversion to a string reads it. -/
theorem Sink.out {w : World} {S : Nat} {xs : List UInt8} (h : Sink w S xs) (hne : xs ≠ []) :
    ∃ g cap, w.cell? ⟨S, 0, none⟩ = some (.slice (some ⟨g, 0, none⟩) xs.length cap) ∧
      (convert 57 9 (.slice (some ⟨g, 0, none⟩) xs.length cap)).run Tryz.prog w = .ok (.string ⟨xs.toArray⟩) w := by
  obtain ⟨v, h1, h2⟩ := h
  have hpos : 0 < xs.length := List.length_pos_iff.2 hne
  obtain ⟨g, cap, rfl, _, _⟩ := h2.form hpos
  refine ⟨g, cap, cell_of_one h1, ?_⟩
  rw [run_convert_bytes_arg w 57 5 Tryz.underlying57 Tryz.underlying5 g 0 xs.length cap (xs.map fun b => (b.toNat : Int)) (by simp) (fun i hi => ?_) 9 Tryz.underlying9, strOf_bytes]
  have := h2.cells (g := g) rfl i (.int .u8 (xs[i].toNat : Int)) (by simp [bytesV, hi])
  have e : (⟨g, 0, none⟩ : Addr).add i = ⟨g, 0 + i, none⟩ := by unfold Addr.add; split <;> simp_all
  rw [e] at this
  rw [this]; simp [List.getD, hi]

set_option maxRecDepth 100000 in
set_option maxHeartbeats 2000000 in
theorem writtenText (n : Int) (s : ByteArray) (a : Option Addr) (cap : Nat) (l : List V) (w : World) (hin : (V.mk 2 n s a cap l).In w w.heap.size) (hc : ¬ (V.mk 2 n s a cap l).cnt = 0) (hok : (V.mk 2 n s a cap l).ok) (ht : Tb w w.heap.size)
    (hx : (V.mk 2 n s a cap l).txt.length ≤ 1000000000000) :
    Calls Tryz.prog 68 #[.agg #[.int .i64 2, .int .i64 n, .string s, .slice a l.length cap], .func (.methodOf 93 "deltaworks/value.text") #[] #[]] w fun e w' =>
      e = .returned (.tuple #[.string ⟨(V.mk 2 n s a cap l).txt.toArray⟩, .int .i64 0]) ∧ Kp w w' := by
  have C := fun w1 (h : Kp w w1) => checkV 2 n s a cap l w1 (hin.keep h.size h)
  rw [bad1 hc] at C
  have CC := Lib.hid C
  have D : ∀ (w1 : World) (S b : Nat), Kp w w1 → w.heap.size ≤ S → PtrAt w1 b 0 2 n s (.slice a l.length cap) → b < S → Sink w1 S [] →
      Calls Tryz.prog 180 #[.agg #[.pointer (some ⟨b, 0, none⟩)], takeF S] w1 fun e w' => e = .returned (.tuple #[]) ∧ Sink w' S (V.mk 2 n s a cap l).txt ∧ Sk S w1 w' := by
    intro w1 S b hk hS hp hb hs
    have hin1 := hin.keep hS hk
    have ht1 := ht.keep hk hS
    have hll := V.lenLe hin1
    have hokl : V.okL l := by have h := hok; simp only [V.ok] at h; exact h.2.2.2
    have e : (V.mk 2 n s a cap l).txt = 40 :: joinF V.txt [44, 32] l ++ [41] := by simp [V.txt, V.txtL_join]
    rw [e] at hx ⊢
    by_cases hl : l = []
    · simpa using tupleText_any V.txt w1 S b 0 0 0 [] n s a cap l hs hp (fun h => absurd hl h) hll (fun j x hj => by subst hl; simp at hj) (by simp at hx; simp; omega)
    · obtain ⟨b0, off0, ha, hb0, hpt⟩ := V.ptrPart hin1 hl
      have part : ∀ (j : Nat) (x : V), l[j]? = some x → ∀ (w2 : World) (xs1 : List UInt8), Sk S w1 w2 → Sink w2 S xs1 → xs1.length + x.txt.length ≤ 1000000000000 →
          Calls Tryz.prog 183 #[.pointer (some ⟨b0, off0 + j * 4, none⟩), takeF S] w2 fun e w' => e = .returned (.tuple #[]) ∧ Sink w' S (xs1 ++ x.txt) ∧ Sk S w2 w' := by
        intro j x hj w2 xs1 hk1 hs1 hx1
        have hbl := hk1.below hs
        exact textV x.rank x w2 S b0 (off0 + j * 4) xs1 (Nat.le_refl _) ((hpt j x hj).2.keep (Nat.le_refl _) hbl) ((hpt j x hj).1.keep hb0 hbl) hb0 (ht1.keep hbl (Nat.le_refl _)) (V.okL_iff.1 hokl j x hj) hs1 hx1
      simpa using tupleText_any V.txt w1 S b 0 b0 off0 [] n s a cap l hs hp (fun _ => ha) hll part (by simp at hx; simp; omega)
  have DD := Lib.hid D
  have hne : (V.mk 2 n s a cap l).txt ≠ [] := by simp [V.txt]
  have HNE := Lib.hid hne
  generalize (V.mk 2 n s a cap l).txt = E at *
  clear C D hin hc hok ht hx hne
  have hm := mTupleText
  go_enter Tryz.func68, Tryz.ntmps68
  go_wp2_with fail
  refine (CC.out _ (ka _ _)).mono ?_
  rintro e w1 ⟨rfl, hk⟩
  obtain ⟨b0, b1, b2, b3, hz⟩ := box4 hk
  have HK := Lib.hid (kk (ka _ _) hk)
  have HP := Lib.hid (⟨b0, b1, b2, b3⟩ : PtrAt w1 w.heap.size 0 2 n s (.slice a l.length cap))
  clear hk b0 b1 b2 b3
  go_wp2_with fail
  refine (shapeOf_any _ w.heap.size 0 2 n s (.slice a l.length cap) (HP.out.keep hz (ka _ _))).mono ?_
  rintro e w2 ⟨rfl, rfl⟩
  rw [show shapeT 2 = 146 from rfl]
  go_wp2_with fail
  refine (DD.out _ w1.heap.size w.heap.size (kk HK.out (ka _ _)) (by omega) (HP.out.keep hz (ka _ _)) hz ⟨.slice none 0 0, blockHere rfl, World.ownsRow_nil _ _ _ _⟩).mono ?_
  rintro e w3 ⟨rfl, hs3, hk3⟩
  obtain ⟨g, cap3, hc3, hcv⟩ := hs3.out HNE.out
  have HK3 := Lib.hid (HK.out.trans ((Below.alloc (Below.refl _ _) (by omega) _).trans ((hk3.below (S := w1.heap.size) (xs := []) ⟨.slice none 0 0, blockHere rfl, World.ownsRow_nil _ _ _ _⟩).mono (by omega))))
  clear hs3 hk3
  go_wp2_with fail
  go_ret2
  exact ⟨rfl, HK3.out⟩

set_option maxHeartbeats 1000000 in
theorem text_tuple (n : Int) (s : ByteArray) (a : Option Addr) (cap : Nat) (l : List V) (w : World) (hin : (V.mk 2 n s a cap l).In w w.heap.size) (hc : ¬ (V.mk 2 n s a cap l).cnt = 0) (hok : (V.mk 2 n s a cap l).ok) (ht : Tb w w.heap.size)
    (hx : (V.mk 2 n s a cap l).txt.length ≤ 1000000000000) :
    Calls Tryz.prog 27 #[.agg #[.int .i64 2, .int .i64 n, .string s, .slice a l.length cap]] w fun e w' =>
      e = .returned (.tuple #[.string ⟨(V.mk 2 n s a cap l).txt.toArray⟩, .int .i64 0]) ∧ Kp w w' := by
  have C := fun w1 (h : Kp w w1) => writtenText n s a cap l w1 (hin.keep h.size h) hc hok (ht.keep h h.size) hx
  generalize (V.mk 2 n s a cap l).txt = E at *
  have CC := Lib.hid C
  clear C hin hc hok ht hx
  go_enter Tryz.func27, Tryz.ntmps27
  go_wp2_with fail
  refine (CC.out _ (ka _ _)).mono ?_
  rintro e w1 ⟨rfl, hk⟩
  have HK := Lib.hid (kk (ka _ _) hk)
  clear hk
  go_wp2_with fail
  go_ret2
  exact ⟨rfl, HK.out⟩

end Go.Proofs.YtkfmgafgokpjhaaGreatDoor

/-
  THE WALKS OF THE KEY OF A TUPLE OF TEXTS (and tuples of these).
-/
namespace Go.Proofs.YtkfmgafgokpjhaaGreatDoor
open Go.RowKit

theorem mLettersKey (p : Value) (w : World) : (method 307 145 (.agg #[p]) "deltaworks/value.key").run Tryz.prog w = .ok (177, .agg #[p]) w := by kernel_rfl
theorem mTupleKey (p : Value) (w : World) : (method 307 146 (.agg #[p]) "deltaworks/value.key").run Tryz.prog w = .ok (179, .agg #[p]) w := by kernel_rfl

set_option maxHeartbeats 2000000 in
theorem lettersKey_any (w : World) (S b off : Nat) (xs : List UInt8) (k n : Int) (s : ByteArray) (sl : Value) (hs : Sink w S xs) (hp : PtrAt w b off k n s sl) (hb : b < S) (hx : xs.length + s.size + 2 ≤ 1000000000000) :
    Calls Tryz.prog 177 #[.agg #[.pointer (some ⟨b, off, none⟩)], takeF S] w fun e w' => e = .returned (.tuple #[]) ∧ Sink w' S (xs ++ (2 :: s.data.toList ++ [0])) ∧ Sk S w w' := by
  have hlt := hs.lt
  have KB : ∀ wr, Sk S (w.alloc (.cells #[.pointer (some ⟨b, off, none⟩)] 145)) wr → wr.cell? ⟨w.heap.size, 0, none⟩ = some (.pointer (some ⟨b, off, none⟩)) ∧ wr.cell? ⟨b, off + 2, none⟩ = some (.string s) ∧ Sk S w wr := fun wr h =>
    have h' := (Sk.kp (ka w _) hlt).trans h
    ⟨boxIn hs h rfl, (hp.sk hb hs h').c2, h'⟩
  have HKB := Lib.hid KB
  have HS := Lib.hid hs
  have zs : s.data.toList.length = s.size := by simp
  have ZS := Lib.hid zs
  clear KB hs hp zs
  go_enter Tryz.func177, Tryz.ntmps177
  go_wp2_with fail
  refine (take_any _ S xs 2 2 rfl (HS.out.kp (ka _ _)) (by omega)).mono ?_
  rintro e w1 ⟨rfl, hs1, hk1⟩
  obtain ⟨hc0, hc2, _⟩ := HKB.out w1 hk1
  have HS1 := Lib.hid hs1
  have HK1 := Lib.hid hk1
  clear hs1 hk1
  go_wp2_with fail
  refine (puts_any _ S _ s HS1.out (by simp only [List.length_append, List.length_cons, List.length_nil]; omega)).mono ?_
  rintro e w2 ⟨rfl, hs2, hk2⟩
  have HS2 := Lib.hid hs2
  have HK2 := Lib.hid (HK1.out.trans hk2)
  clear hs2 hk2 hc0 hc2
  go_wp2_with fail
  refine (take_any _ S _ 0 0 rfl HS2.out (by have := ZS.out; simp only [List.length_append, List.length_cons, List.length_nil]; omega)).mono ?_
  rintro e w3 ⟨rfl, hs3, hk3⟩
  have HS3 := Lib.hid hs3
  have HK3 := Lib.hid (HKB.out w3 (HK2.out.trans hk3)).2.2
  clear hs3 hk3
  go_wp2_with fail
  go_end0
  exact ⟨rfl, by simpa using HS3.out, HK3.out⟩

set_option maxRecDepth 100000 in
set_option maxHeartbeats 1000000 in
theorem writeKey_letters (w : World) (S b off : Nat) (xs : List UInt8) (n : Int) (s : ByteArray) (sl : Value) (hs : Sink w S xs) (hp : PtrAt w b off 1 n s sl) (hb : b < S) (hx : xs.length + s.size + 2 ≤ 1000000000000) :
    Calls Tryz.prog 182 #[.pointer (some ⟨b, off, none⟩), takeF S] w fun e w' => e = .returned (.tuple #[]) ∧ Sink w' S (xs ++ (2 :: s.data.toList ++ [0])) ∧ Sk S w w' := by
  have CC1 := Lib.hid (shapeOf_any w b off 1 n s sl hp)
  have CC := Lib.hid (lettersKey_any w S b off xs 1 n s sl hs hp hb hx)
  clear hs hp hx
  have hm := mLettersKey (.pointer (some ⟨b, off, none⟩))
  generalize (2 :: s.data.toList ++ [0]) = E at *
  go_enter Tryz.func182, Tryz.ntmps182
  go_wp2_with fail
  refine CC1.out.mono ?_
  rintro e w' ⟨rfl, rfl⟩
  rw [show shapeT 1 = 145 from rfl]
  go_wp2_with fail
  refine CC.out.mono ?_
  rintro e w2 ⟨rfl, hs2, hk2⟩
  have HK2 := Lib.hid hk2
  have HS2 := Lib.hid hs2
  clear hs2 hk2 hm
  go_wp2_with fail
  go_end0
  exact ⟨rfl, HS2.out, HK2.out⟩

set_option maxHeartbeats 2000000 in
theorem listKey (f : V → List UInt8) (w : World) (S b0 off : Nat) (a : Option Addr) (cap : Nat) (l : List V) (xs : List UInt8) (op bt en : ByteArray) (ha : l ≠ [] → a = some ⟨b0, off, none⟩) (hl : l.length ≤ 9223372036854775807) (hs : Sink w S xs)
    (H : ∀ (j : Nat) (x : V), l[j]? = some x → ∀ (w1 : World) (xs1 : List UInt8), Sk S w w1 → Sink w1 S xs1 → xs1.length + (f x).length ≤ 1000000000000 →
      Calls Tryz.prog 182 #[.pointer (some ⟨b0, off + j * 4, none⟩), takeF S] w1 fun e w' => e = .returned (.tuple #[]) ∧ Sink w' S (xs1 ++ f x) ∧ Sk S w1 w')
    (hx : xs.length + op.size + (joinF f bt.data.toList l).length + en.size ≤ 1000000000000) :
    Calls Tryz.prog 181 #[takeF S, .string op, .string bt, .string en, .slice a l.length cap, .func (.func 182) #[] #[]] w fun e w' =>
      e = .returned (.tuple #[]) ∧ Sink w' S (xs ++ op.data.toList ++ joinF f bt.data.toList l ++ en.data.toList) ∧ Sk S w w' := by
  have HS := Lib.hid hs
  have HH := Lib.hid H
  have HX := Lib.hid hx
  have HA := Lib.hid ha
  have zop : op.data.toList.length = op.size := by simp
  have ZOP := Lib.hid zop
  have zbt : bt.data.toList.length = bt.size := by simp
  have ZBT := Lib.hid zbt
  clear hs H hx ha zop zbt
  go_enter Tryz.func181, Tryz.ntmps181
  go_wp2_with fail
  refine (puts_any w S xs op HS.out (by have := HX.out; omega)).mono ?_
  rintro e w1 ⟨rfl, hs1, hk1⟩
  have HS1 := Lib.hid hs1
  have HK1 := Lib.hid hk1
  clear hs1 hk1
  go_wp2_with fail
  go_loopw [18] (fun i wr => ∃ j : Nat, j ≤ l.length ∧ i = .int .i64 j ∧ Sink wr S (xs ++ op.data.toList ++ joinF f bt.data.toList (l.take j)) ∧ Sk S w wr) (fun i _ => l.length - (intOf i).toNat)
  case atStart => exact ⟨0, Nat.zero_le _, rfl, by simpa [joinF] using HS1.out, HK1.out⟩
  case round =>
    obtain ⟨j, hj, rfl, hsk, hk⟩ := hrel
    have HSK := Lib.hid hsk
    have HK := Lib.hid hk
    clear hsk hk
    by_cases hlt : j < l.length
    · obtain ⟨x, hxj⟩ : ∃ x, l[j]? = some x := ⟨l[j], by simp [hlt]⟩
      have HXJ := Lib.hid hxj
      obtain rfl := HA.out (by rintro rfl; simp at hlt)
      have hb := joinF_len f bt.data.toList l (j + 1)
      have hts := take_snoc' hxj
      have hjn := joinF_snoc f bt.data.toList (l.take j) x
      rw [← hts] at hjn
      have HB := Lib.hid hb
      have HJ := Lib.hid hjn
      clear hxj hb hts hjn
      by_cases h0 : j = 0
      · subst h0
        have hj1 : joinF f bt.data.toList (l.take (0 + 1)) = f x := by rw [HJ.out]; simp
        have HJ1 := Lib.hid hj1
        clear hj1
        go_wp2_with fail
        refine (HH.out 0 x HXJ.out _ _ HK.out HSK.out (by have := HX.out; have := HB.out; rw [HJ1.out] at this; simp [joinF]; have := ZOP.out; simp at this; omega)).mono ?_
        rintro e w2 ⟨rfl, hs2, hk2⟩
        have HS2 := Lib.hid hs2
        have HK2 := Lib.hid (HK.out.trans hk2)
        clear hs2 hk2
        go_wp2_with fail
        go_roundw
        case rel => exact ⟨1, by omega, by go_num, by have := HS2.out; rw [HJ1.out]; simpa [joinF] using this, HK2.out⟩
        case measure => simp [intOf]; omega
      · have hne : ¬ l.take j = [] := by
          intro h; have := congrArg List.length h; simp at this; rcases this with h | h; omega; subst h; simp at hlt
        have hj1 : joinF f bt.data.toList (l.take (j + 1)) = joinF f bt.data.toList (l.take j) ++ bt.data.toList ++ f x := by rw [HJ.out, if_neg hne]
        have HJ1 := Lib.hid hj1
        have hlen : (xs ++ op.data.toList ++ joinF f bt.data.toList (l.take j)).length + bt.size + (f x).length ≤ 1000000000000 := by
          have h1 := HX.out; have h2 := HB.out; rw [hj1] at h2; have h3 := ZOP.out; have h4 := ZBT.out
          simp only [List.length_append] at h2 ⊢; omega
        have HLEN := Lib.hid hlen
        have hpos : (0 : Int) < (j : Int) := by omega
        clear hj1 hne hlen
        generalize joinF f bt.data.toList (l.take j) = J at *
        go_wp2_with fail
        refine (puts_any _ S _ bt HSK.out (by have := HLEN.out; omega)).mono ?_
        rintro e w2 ⟨rfl, hs2, hk2⟩
        have HS2 := Lib.hid hs2
        have HK2 := Lib.hid (HK.out.trans hk2)
        clear hs2 hk2
        go_wp2_with fail
        refine (HH.out j x HXJ.out _ _ HK2.out HS2.out (by have := HLEN.out; have := ZBT.out; simp only [List.length_append] at *; omega)).mono ?_
        rintro e w3 ⟨rfl, hs3, hk3⟩
        have HS3 := Lib.hid hs3
        have HK3 := Lib.hid (HK2.out.trans hk3)
        clear hs3 hk3
        go_wp2_with fail
        go_roundw
        case rel => exact ⟨j + 1, by omega, by go_num, by have := HS3.out; rw [HJ1.out]; simpa using this, HK3.out⟩
        case measure => simp [intOf]; omega
    · have hjl : j = l.length := by omega
      subst hjl
      rw [List.take_length] at HSK
      generalize hJ : joinF f bt.data.toList l = J at *
      go_wp2_with fail
      refine (puts_any _ S _ en HSK.out (by have := HX.out; have := ZOP.out; simp only [List.length_append] at *; omega)).mono ?_
      rintro e w2 ⟨rfl, hs2, hk2⟩
      have HS2 := Lib.hid hs2
      have HK2 := Lib.hid (HK.out.trans hk2)
      clear hs2 hk2
      go_wp2_with fail
      go_end0
      exact ⟨rfl, by subst hJ; exact HS2.out, HK2.out⟩

/-- The key of a text. -/
def keyL (x : V) : List UInt8 := 2 :: x.s.data.toList ++ [0]

set_option maxHeartbeats 2000000 in
theorem tupleKey_any (w : World) (S b off b0 off0 : Nat) (xs : List UInt8) (n : Int) (s : ByteArray) (a : Option Addr) (cap : Nat) (l : List V) (hs : Sink w S xs) (hb : b < S) (hp : PtrAt w b off 2 n s (.slice a l.length cap)) (ha : l ≠ [] → a = some ⟨b0, off0, none⟩) (hl : l.length ≤ 9223372036854775807)
    (H : ∀ (j : Nat) (x : V), l[j]? = some x → ∀ (w1 : World) (xs1 : List UInt8), Sk S w w1 → Sink w1 S xs1 → xs1.length + (keyL x).length ≤ 1000000000000 →
      Calls Tryz.prog 182 #[.pointer (some ⟨b0, off0 + j * 4, none⟩), takeF S] w1 fun e w' => e = .returned (.tuple #[]) ∧ Sink w' S (xs1 ++ keyL x) ∧ Sk S w1 w')
    (hx : xs.length + (joinF keyL [] l).length + 2 ≤ 1000000000000) :
    Calls Tryz.prog 179 #[.agg #[.pointer (some ⟨b, off, none⟩)], takeF S] w fun e w' => e = .returned (.tuple #[]) ∧ Sink w' S (xs ++ (3 :: joinF keyL [] l ++ [0])) ∧ Sk S w w' := by
  have hlt := hs.lt
  have KB : ∀ wr, Sk S (w.alloc (.cells #[.pointer (some ⟨b, off, none⟩)] 146)) wr → wr.cell? ⟨w.heap.size, 0, none⟩ = some (.pointer (some ⟨b, off, none⟩)) ∧ wr.cell? ⟨b, off + 3, none⟩ = some (.slice a l.length cap) ∧ Sk S w wr := fun wr h =>
    have h' := (Sk.kp (ka w _) hlt).trans h
    ⟨boxIn hs h rfl, (hp.sk hb hs h').c3, h'⟩
  have HKB := Lib.hid KB
  have HS := Lib.hid hs
  have C := fun (w1 : World) (hk : Sk S w w1) (hs1 : Sink w1 S (xs ++ [3])) => listKey keyL w1 S b0 off0 a cap l (xs ++ [3]) ⟨#[]⟩ ⟨#[]⟩ ⟨#[0]⟩ ha hl hs1
    (fun j x hj w2 xs1 hk2 => H j x hj w2 xs1 (hk.trans hk2)) (by simp [ByteArray.size]; omega)
  have CC := Lib.hid C
  clear KB hs hp H C ha
  go_enter Tryz.func179, Tryz.ntmps179
  go_wp2_with fail
  refine (take_any _ S xs 3 3 rfl (HS.out.kp (ka _ _)) (by omega)).mono ?_
  rintro e w1 ⟨rfl, hs1, hk1⟩
  obtain ⟨hc0, hc3, hk1'⟩ := HKB.out w1 hk1
  have HS1 := Lib.hid hs1
  have HK1 := Lib.hid hk1'
  clear hs1 hk1 hk1'
  go_wp2_with fail
  refine (CC.out w1 HK1.out HS1.out).mono ?_
  rintro e w2 ⟨rfl, hs2, hk2⟩
  have HS2 := Lib.hid hs2
  have HK2 := Lib.hid (HK1.out.trans hk2)
  clear hs2 hk2 hc0 hc3
  go_wp2_with fail
  go_end0
  exact ⟨rfl, by simpa using HS2.out, HK2.out⟩

set_option maxRecDepth 100000 in
set_option maxHeartbeats 2000000 in
theorem writtenKey (n : Int) (s : ByteArray) (a : Option Addr) (cap : Nat) (l : List V) (w : World) (hin : (V.mk 2 n s a cap l).In w w.heap.size) (hc : ¬ (V.mk 2 n s a cap l).cnt = 0) (hok : ∀ (j : Nat) (x : V), l[j]? = some x → x.k = 1) (ht : Tb w w.heap.size)
    (hx : (3 :: joinF keyL [] l ++ [0]).length ≤ 1000000000000) :
    Calls Tryz.prog 68 #[.agg #[.int .i64 2, .int .i64 n, .string s, .slice a l.length cap], .func (.methodOf 93 "deltaworks/value.key") #[] #[]] w fun e w' =>
      e = .returned (.tuple #[.string ⟨(3 :: joinF keyL [] l ++ [0]).toArray⟩, .int .i64 0]) ∧ Kp w w' := by
  have C := fun w1 (h : Kp w w1) => checkV 2 n s a cap l w1 (hin.keep h.size h)
  rw [bad1 hc] at C
  have CC := Lib.hid C
  have D : ∀ (w1 : World) (S b : Nat), Kp w w1 → w.heap.size ≤ S → PtrAt w1 b 0 2 n s (.slice a l.length cap) → b < S → Sink w1 S [] →
      Calls Tryz.prog 179 #[.agg #[.pointer (some ⟨b, 0, none⟩)], takeF S] w1 fun e w' => e = .returned (.tuple #[]) ∧ Sink w' S (3 :: joinF keyL [] l ++ [0]) ∧ Sk S w1 w' := by
    intro w1 S b hk hS hp hb hs
    have hin1 := hin.keep hS hk
    have ht1 := ht.keep hk hS
    have hll := V.lenLe hin1
    by_cases hl : l = []
    · simpa using tupleKey_any w1 S b 0 0 0 [] n s a cap l hs hb hp (fun h => absurd hl h) hll (fun j x hj => by subst hl; simp at hj) (by simp at hx; simp; omega)
    · obtain ⟨b0, off0, ha, hb0, hpt⟩ := V.ptrPart hin1 hl
      have part : ∀ (j : Nat) (x : V), l[j]? = some x → ∀ (w2 : World) (xs1 : List UInt8), Sk S w1 w2 → Sink w2 S xs1 → xs1.length + (keyL x).length ≤ 1000000000000 →
          Calls Tryz.prog 182 #[.pointer (some ⟨b0, off0 + j * 4, none⟩), takeF S] w2 fun e w' => e = .returned (.tuple #[]) ∧ Sink w' S (xs1 ++ (keyL x)) ∧ Sk S w2 w' := by
        intro j x hj w2 xs1 hk1 hs1 hx1
        have hbl := hk1.below hs
        have hp1 := (hpt j x hj).1.keep hb0 hbl
        rw [hok j x hj] at hp1
        exact writeKey_letters w2 S b0 (off0 + j * 4) xs1 x.n x.s _ hs1 hp1 hb0 (by simp [keyL] at hx1; omega)
      simpa using tupleKey_any w1 S b 0 b0 off0 [] n s a cap l hs hb hp (fun _ => ha) hll part (by simp at hx; simp; omega)
  have DD := Lib.hid D
  have hne : (3 :: joinF keyL [] l ++ [0]) ≠ [] := by simp
  have HNE := Lib.hid hne
  generalize (3 :: joinF keyL [] l ++ [0]) = E at *
  clear C D hin hc hok ht hx hne
  have hm := mTupleKey
  go_enter Tryz.func68, Tryz.ntmps68
  go_wp2_with fail
  refine (CC.out _ (ka _ _)).mono ?_
  rintro e w1 ⟨rfl, hk⟩
  obtain ⟨b0, b1, b2, b3, hz⟩ := box4 hk
  have HK := Lib.hid (kk (ka _ _) hk)
  have HP := Lib.hid (⟨b0, b1, b2, b3⟩ : PtrAt w1 w.heap.size 0 2 n s (.slice a l.length cap))
  clear hk b0 b1 b2 b3
  go_wp2_with fail
  refine (shapeOf_any _ w.heap.size 0 2 n s (.slice a l.length cap) (HP.out.keep hz (ka _ _))).mono ?_
  rintro e w2 ⟨rfl, rfl⟩
  rw [show shapeT 2 = 146 from rfl]
  go_wp2_with fail
  refine (DD.out _ w1.heap.size w.heap.size (kk HK.out (ka _ _)) (by omega) (HP.out.keep hz (ka _ _)) hz ⟨.slice none 0 0, blockHere rfl, World.ownsRow_nil _ _ _ _⟩).mono ?_
  rintro e w3 ⟨rfl, hs3, hk3⟩
  obtain ⟨g, cap3, hc3, hcv⟩ := hs3.out HNE.out
  have HK3 := Lib.hid (HK.out.trans ((Below.alloc (Below.refl _ _) (by omega) _).trans ((hk3.below (S := w1.heap.size) (xs := []) ⟨.slice none 0 0, blockHere rfl, World.ownsRow_nil _ _ _ _⟩).mono (by omega))))
  clear hs3 hk3
  go_wp2_with fail
  go_ret2
  exact ⟨rfl, HK3.out⟩

set_option maxHeartbeats 1000000 in
theorem key_tuple (n : Int) (s : ByteArray) (a : Option Addr) (cap : Nat) (l : List V) (w : World) (hin : (V.mk 2 n s a cap l).In w w.heap.size) (hc : ¬ (V.mk 2 n s a cap l).cnt = 0) (hok : ∀ (j : Nat) (x : V), l[j]? = some x → x.k = 1) (ht : Tb w w.heap.size)
    (hx : (3 :: joinF keyL [] l ++ [0]).length ≤ 1000000000000) :
    Calls Tryz.prog 36 #[.agg #[.int .i64 2, .int .i64 n, .string s, .slice a l.length cap]] w fun e w' =>
      e = .returned (.tuple #[.string ⟨(3 :: joinF keyL [] l ++ [0]).toArray⟩, .int .i64 0]) ∧ Kp w w' := by
  have C := fun w1 (h : Kp w w1) => writtenKey n s a cap l w1 (hin.keep h.size h) hc hok (ht.keep h h.size) hx
  generalize (3 :: joinF keyL [] l ++ [0]) = E at *
  have CC := Lib.hid C
  clear C hin hc hok ht hx
  go_enter Tryz.func36, Tryz.ntmps36
  go_wp2_with fail
  refine (CC.out _ (ka _ _)).mono ?_
  rintro e w1 ⟨rfl, hk⟩
  have HK := Lib.hid (kk (ka _ _) hk)
  clear hk
  go_wp2_with fail
  go_ret2
  exact ⟨rfl, HK.out⟩

end Go.Proofs.YtkfmgafgokpjhaaGreatDoor

/-
  THE WALKS OF THE READER: refuse, next, skip, expect.
-/
namespace Go.Proofs.YtkfmgafgokpjhaaGreatDoor
open Go.RowKit

/-- What refuse leaves by. -/
abbrev formP : List PanicEntry := [{ v := .iface 28 (.int .i64 8), recovered := false }]

set_option maxHeartbeats 400000 in
theorem refuse_any (w : World) : Calls Tryz.prog 113 #[] w fun e w' => e = .panicked formP ∧ w' = w := by
  go_enter Tryz.func113, Tryz.ntmps113
  go_wp2
  exact ⟨rfl, rfl, rfl⟩

/-- A reader of s at a place, in block R. -/
def Reader (w : World) (R : Nat) (s : ByteArray) (at_ : Nat) : Prop := w.heap[R]? = some (.cells #[.string s, .int .i64 at_] 129 (0, 0))
theorem Reader.c0 {w : World} {R : Nat} {s : ByteArray} {n : Nat} (h : Reader w R s n) : w.cell? ⟨R, 0, none⟩ = some (.string s) := by unfold Reader at h; simp [World.cell?, h]
theorem Reader.c1 {w : World} {R : Nat} {s : ByteArray} {n : Nat} (h : Reader w R s n) : w.cell? ⟨R, 1, none⟩ = some (.int .i64 n) := by unfold Reader at h; simp [World.cell?, h]
theorem Reader.free {w : World} {R : Nat} {s : ByteArray} {n : Nat} (h : Reader w R s n) (i : Nat) : w.frozen? ⟨R, i, none⟩ = false := by unfold Reader at h; simp [World.frozen?, h]
theorem Reader.set {w : World} {R : Nat} {s : ByteArray} {n : Nat} (h : Reader w R s n) (m : Nat) : Reader (w.setCell ⟨R, 1, none⟩ (.int .i64 m)) R s m := by
  have hlt := lt_of_block h
  unfold Reader at h ⊢
  have h' : w.heap[R] = .cells #[.string s, .int .i64 n] 129 (0, 0) := by simpa [Array.getElem?_eq_getElem hlt] using h
  show (w.heap.modify R _)[R]? = _
  rw [Array.getElem?_eq_getElem (by simpa using hlt), Array.getElem_modify_self, h']
  rfl
theorem Reader.kp {w w' : World} {R : Nat} {s : ByteArray} {n : Nat} (h : Reader w R s n) (k : Kp w w') : Reader w' R s n := (k.block R (lt_of_block h)).trans h

theorem drew_kp (w : World) (n : Nat) : Kp w (w.drewN n) := by
  induction n with
  | zero => exact Below.refl _ _
  | succ n ih => exact ⟨rfl, rfl, rfl, by simp, fun k _ => by simp⟩

theorem rd_put {w : World} {R : Nat} {s : ByteArray} {n m : Nat} {v : Int} (h : Reader w R s n) (hv : v = (m : Int)) : Reader (w.setCell ⟨R, 1, none⟩ (.int .i64 v)) R s m := by
  subst hv; exact h.set m
theorem Reader.bt {w w' : World} {R R' : Nat} {s : ByteArray} {n : Nat} (h : Reader w R s n) (k : Bt R' w w') (hne : R ≠ R') : Reader w' R s n := (k.block R (lt_of_block h) hne).trans h

set_option maxHeartbeats 1000000 in
theorem skip_yes (w : World) (R : Nat) (s p : ByteArray) (n : Nat) (h : Reader w R s n) (hn : n ≤ s.size) (hs : s.size ≤ 1000000) (hp : p.size ≤ 1000) (hh : Lib.hasPrefix (s.extract n s.size).data.toList p.data.toList = true) :
    Calls Tryz.prog 114 #[.pointer (some ⟨R, 0, none⟩), .string p] w fun e w' => e = .returned (.bool true) ∧ Reader w' R s (n + p.size) ∧ Bt R w w' := by
  have c0 := h.c0
  have c1 := h.c1
  have f1 := h.free 1
  have C := Tryz.strings_HasPrefix (s.extract n s.size) p
  rw [hh] at C
  have CC := Lib.hid C
  have HR := Lib.hid h
  clear C hh h
  have g0 : (0 : Int) ≤ (n : Int) := by omega
  have g1 : (n : Int) ≤ (s.size : Int) := by omega
  go_enter Tryz.func114, Tryz.ntmps114
  go_wp2_with fail
  go_quiet ((go_at_call 131; exact Calls.quiet_of_same (CC.out _)))
  go_wp2_with fail
  go_ret
  exact ⟨rfl, rd_put (HR.out.kp (drew_kp _ _)) rfl, (Bt.kp (drew_kp _ _)).trans (Bt.set _ ⟨R, 1, none⟩ _)⟩

set_option maxHeartbeats 1000000 in
theorem skip_no (w : World) (R : Nat) (s p : ByteArray) (n : Nat) (h : Reader w R s n) (hn : n ≤ s.size) (hh : Lib.hasPrefix (s.extract n s.size).data.toList p.data.toList = false) :
    Calls Tryz.prog 114 #[.pointer (some ⟨R, 0, none⟩), .string p] w fun e w' => e = .returned (.bool false) ∧ Kp w w' := by
  have c0 := h.c0
  have c1 := h.c1
  have C := Tryz.strings_HasPrefix (s.extract n s.size) p
  rw [hh] at C
  have CC := Lib.hid C
  clear C hh h
  have g0 : (0 : Int) ≤ (n : Int) := by omega
  have g1 : (n : Int) ≤ (s.size : Int) := by omega
  go_enter Tryz.func114, Tryz.ntmps114
  go_wp2_with fail
  go_quiet ((go_at_call 131; exact Calls.quiet_of_same (CC.out _)))
  go_wp2_with fail
  go_ret
  exact ⟨rfl, drew_kp _ _⟩

set_option maxHeartbeats 1000000 in
theorem expect_yes (w : World) (R : Nat) (s p : ByteArray) (n : Nat) (h : Reader w R s n) (hn : n ≤ s.size) (hs : s.size ≤ 1000000) (hp : p.size ≤ 1000) (hh : Lib.hasPrefix (s.extract n s.size).data.toList p.data.toList = true) :
    Calls Tryz.prog 118 #[.pointer (some ⟨R, 0, none⟩), .string p] w fun e w' => e = .returned (.tuple #[]) ∧ Reader w' R s (n + p.size) ∧ Bt R w w' := by
  have CC := Lib.hid (skip_yes w R s p n h hn hs hp hh)
  clear h hh
  go_enter Tryz.func118, Tryz.ntmps118
  go_wp2_with fail
  refine CC.out.mono ?_
  rintro e w1 ⟨rfl, hr, hb⟩
  have HR := Lib.hid hr
  have HB := Lib.hid hb
  clear hr hb
  go_wp2_with fail
  go_end0
  exact ⟨rfl, HR.out, HB.out⟩

set_option maxHeartbeats 1000000 in
theorem expect_no (w : World) (R : Nat) (s p : ByteArray) (n : Nat) (h : Reader w R s n) (hn : n ≤ s.size) (hh : Lib.hasPrefix (s.extract n s.size).data.toList p.data.toList = false) :
    Calls Tryz.prog 118 #[.pointer (some ⟨R, 0, none⟩), .string p] w fun e w' => e = .panicked formP ∧ Kp w w' := by
  have CC := Lib.hid (skip_no w R s p n h hn hh)
  clear h hh
  go_enter Tryz.func118, Tryz.ntmps118
  go_wp2_with fail
  refine CC.out.mono ?_
  rintro e w1 ⟨rfl, hb⟩
  have HB := Lib.hid hb
  clear hb
  go_wp2_with fail
  refine (refuse_any _).mono ?_
  rintro e w2 ⟨rfl, rfl⟩
  exact ⟨rfl, rfl, HB.out⟩

set_option maxHeartbeats 1000000 in
theorem next_yes (w : World) (R : Nat) (s : ByteArray) (n : Nat) (h : Reader w R s n) (hn : n < s.size) (hs : s.size ≤ 1000000) :
    Calls Tryz.prog 125 #[.pointer (some ⟨R, 0, none⟩)] w fun e w' => e = .returned (.int .u8 (s[n].toNat : Int)) ∧ Reader w' R s (n + 1) ∧ Bt R w w' := by
  have c0 := h.c0
  have c1 := h.c1
  have f1 := h.free 1
  have HR := Lib.hid h
  clear h
  have g0 : ((n : Int) == (s.size : Int)) = false := by rw [beq_eq_false_iff_ne]; omega
  go_enter Tryz.func125, Tryz.ntmps125
  go_wp2_with fail
  go_quiet (fail)
  go_wp2_with fail
  have hb1 := (Bt.kp (c := R) (drew_kp w nq)).trans (Bt.set _ ⟨R, 1, none⟩ (.int .i64 ((n : Int) + 1)))
  have hr1 := rd_put (m := n + 1) (v := (n : Int) + 1) (HR.out.kp (drew_kp w nq)) (by omega)
  generalize (w.drewN nq).setCell ⟨R, 1, none⟩ (.int .i64 ((n : Int) + 1)) = W1 at *
  have k0 := hr1.c0
  have k1 : W1.cell? ⟨R, 1, none⟩ = some (.int .i64 ((n : Int) + 1)) := hr1.c1
  have HR1 := Lib.hid hr1
  have HB1 := Lib.hid hb1
  clear hr1 hb1 c0 c1 f1
  have g1 : (0 : Int) ≤ (n : Int) := by omega
  have g2 : (n : Int) < (s.size : Int) := by omega
  go_quiet (fail)
  go_wp2_with fail
  go_ret
  exact ⟨rfl, HR1.out.kp (drew_kp _ _), HB1.out.trans (.kp (drew_kp _ _))⟩

set_option maxHeartbeats 1000000 in
theorem next_no (w : World) (R : Nat) (s : ByteArray) (h : Reader w R s s.size) :
    Calls Tryz.prog 125 #[.pointer (some ⟨R, 0, none⟩)] w fun e w' => e = .panicked formP ∧ Kp w w' := by
  have c0 := h.c0
  have c1 := h.c1
  clear h
  go_enter Tryz.func125, Tryz.ntmps125
  go_wp2_with fail
  go_quiet (fail)
  go_wp2_with fail
  refine (refuse_any _).mono ?_
  rintro e w2 ⟨rfl, rfl⟩
  exact ⟨rfl, rfl, drew_kp _ _⟩

end Go.Proofs.YtkfmgafgokpjhaaGreatDoor

/-
  THE WALK OF number AT A NUMBER OF ONE DIGIT, 1, at place 1.
-/
namespace Go.Proofs.YtkfmgafgokpjhaaGreatDoor
open Go.RowKit

theorem kp_freeze (w : World) (o : Obj) (off n : Nat) : Kp w ((w.alloc o).freeze ⟨w.heap.size, off, none⟩ n) := by
  unfold World.freeze
  split
  · exact ka _ _
  · refine ⟨rfl, rfl, rfl, by simp, fun k hk => ?_⟩
    simp only [Array.getElem?_modify]
    rw [if_neg (by omega), Below.heap_alloc _ _ _ hk]
theorem kp_bytes (w : World) (s : ByteArray) : Kp w (Lib.bytesWorld w 5 s) := by
  have h : Kp w w.drew := drew_kp w 1
  unfold Lib.bytesWorld
  exact kk h (kp_freeze w.drew _ _ _)

theorem atoi_ok (w : World) (s : ByteArray) (v : Int) (hs : s.size ≤ 1000000) (h : Lib.atoiAll s.data.toList = .ok v) :
    Calls Tryz.prog 132 #[.string s] w fun e w' => e = .returned (.tuple #[.int .i64 v, .nilIface]) ∧ Kp w w' :=
  (Tryz.strconv_Atoi_ok s (by omega) v h w).mono fun _ _ ⟨he, hw⟩ => ⟨he, by
    rcases hw with rfl | ⟨t, rfl⟩
    · exact Below.refl _ _
    · exact kp_bytes _ _⟩

set_option maxRecDepth 100000 in
set_option maxHeartbeats 4000000 in
theorem number_one (w : World) (R : Nat) (s : ByteArray) (h : Reader w R s 1) (hsz : 3 ≤ s.size) (hs : s.size ≤ 1000000) (h1 : s[1] = 49) (h2 : s[2].toNat < 45) (hd : s.extract 1 2 = ⟨#[49]⟩) (ht : Tb w R) :
    Calls Tryz.prog 117 #[.pointer (some ⟨R, 0, none⟩)] w fun e w' => e = .returned (.int .i64 1) ∧ Reader w' R s 2 ∧ Bt R w w' := by
  have c0 := h.c0
  have c1 : w.cell? ⟨R, 1, none⟩ = some (.int .i64 1) := h.c1
  have f1 := h.free 1
  have HR := Lib.hid h
  have HT := Lib.hid ht
  have a1 : ((s[1].toNat : Int) == 45) = false := by rw [h1]; rfl
  have a2 : decide ((48 : Int) ≤ (s[1].toNat : Int)) = true := by rw [h1]; rfl
  have a3 : decide ((s[1].toNat : Int) ≤ (57 : Int)) = true := by rw [h1]; rfl
  have b1 : ((s[2].toNat : Int) == 45) = false := by rw [beq_eq_false_iff_ne]; omega
  have b2 : decide ((48 : Int) ≤ (s[2].toNat : Int)) = false := by simp; omega
  have g1 : (1 : Int) < (s.size : Int) := by omega
  have g2 : (2 : Int) < (s.size : Int) := by omega
  have g3 : decide ((1 : Int) < (s.size : Int)) = true := by simp; omega
  have g4 : decide ((2 : Int) < (s.size : Int)) = true := by simp; omega
  clear h ht h1 h2
  go_enter Tryz.func117, Tryz.ntmps117
  go_wp2_with fail
  refine wp_loop_rounds (0 + 1 + 1) ?_
  rw [rounds_succ]
  go_wp2_with fail
  go_quiet (fail)
  go_wp2_with fail
  have hb1 := (Bt.kp (c := R) (drew_kp w nq)).trans (Bt.set _ ⟨R, 1, none⟩ (.int .i64 2))
  have hr1 := rd_put (m := 2) (v := 2) (HR.out.kp (drew_kp w nq)) rfl
  generalize (w.drewN nq).setCell ⟨R, 1, none⟩ (.int .i64 2) = W1 at *
  have k0 := hr1.c0
  have k1 : W1.cell? ⟨R, 1, none⟩ = some (.int .i64 2) := hr1.c1
  have HR1 := Lib.hid hr1
  have HB1 := Lib.hid hb1
  clear hr1 hb1 c0 c1 f1
  rw [rounds_succ]
  go_wp2_with fail
  go_quiet (fail)
  go_wp2_with fail
  go_quiet (fail)
  go_wp2_with fail
  refine (atoi_ok _ ⟨#[49]⟩ 1 (by decide) (by decide)).mono ?_
  rintro e w2 ⟨rfl, hk2⟩
  have hkk := kk (drew_kp W1 _) hk2
  have HB3 := Lib.hid (HB1.out.trans (.kp hkk))
  have HR3 := Lib.hid (HR1.out.kp hkk)
  clear hk2 hkk k0 k1
  go_wp2_with fail
  have hrl : R ≤ w.heap.size := Nat.le_of_lt (lt_of_block HR.out)
  have hi : (Lib.itoa 1) = [49] := by
    unfold Lib.itoa
    rw [if_neg (by decide), show (1 : Int).toNat = 1 from rfl, Lib.decDigits, dif_pos (by decide)]; rfl
  have C := itoa_any w2 1 R ⟨by omega, by omega⟩ (HT.out.keep (HB3.out.below (Nat.le_refl _) hrl) (Nat.le_refl _))
  rw [hi] at C
  refine C.mono ?_
  rintro e w3 ⟨rfl, hk3⟩
  have HB4 := Lib.hid (HB3.out.trans (.kp hk3))
  have HR4 := Lib.hid (HR3.out.kp hk3)
  clear hk3 hi C
  go_wp2_with fail
  go_ret
  exact ⟨rfl, HR4.out, HB4.out⟩

end Go.Proofs.YtkfmgafgokpjhaaGreatDoor
