/-
  Proved: the statement ValueKnown (what the chapter says of single values, types, texts and keys: valid ones are taken, each other one is refused with its error, and the chapter's examples hold), as its tied card says it, with no condition beyond the card's own.
  Part 5 of 6.
-/
import Derived.Test.YtkfmgafgokpjhaaGreatDoorLn01
import Derived.Test.YtkfmgafgokpjhaaGreatDoorBc06
import Derived.Test.YtkfmgafgokpjhaaGreatDoorBc07
import Derived.Test.YtkfmgafgokpjhaaGreatDoorBc09
import Derived.Test.YtkfmgafgokpjhaaGreatDoorLn03
import Derived.Deep.RegionHeld3
import Derived.Test.YtkfmgafgokpjhaaGreatDoorBc12
import Derived.Test.YtkfmgafgokpjhaaGreatDoorLn04
import Derived.Deep.CutBlock
import Derived.Test.YtkfmgafgokpjhaaGreatDoorBc04
/-
  ValueKnown: the lists that it makes.
-/
namespace Go.Proofs.YtkfmgafgokpjhaaGreatDoor
open Go.RowKit

def tildes (n : Nat) : ByteArray := ⟨Array.replicate n 126⟩
def deepV : Nat → V
  | 0 => intV 1
  | n + 1 => tupV [deepV n]
def wideL (n : Nat) : List V := (List.range n).map fun i : Nat => intV (i : Int)

theorem tildes_succ (n : Nat) : tildes (n + 1) = tildes n ++ ⟨#[126]⟩ := by
  apply ByteArray.ext
  rw [ByteArray.data_append]
  apply Array.ext'
  simp [tildes, List.replicate_succ']
theorem tildes_size (n : Nat) : (tildes n).size = n := by simp [tildes, ByteArray.size]
theorem wideL_succ (n : Nat) : wideL (n + 1) = wideL n ++ [intV n] := by simp [wideL, List.range_succ]

def badL (b : ByteArray) : List V := [intV (-2147483649), intV 2147483648, txtV (b ++ ⟨#[120]⟩), txtV ⟨#[10]⟩, txtV ⟨#[127]⟩, tagV 8 (intV 0), tagV (-1) (intV 0), tupV [deepV 5], tupV (wideL 9), tupV (List.replicate 7 (tupV (wideL 8))),
  .mk 4 0 ⟨#[]⟩ none 0 [], .mk (-1) 0 ⟨#[]⟩ none 0 [], .mk 0 0 ⟨#[97]⟩ none 0 [], .mk 0 0 ⟨#[]⟩ none 0 [intV 0], .mk 1 1 ⟨#[]⟩ none 0 [], .mk 2 1 ⟨#[]⟩ none 0 [], .mk 3 0 ⟨#[]⟩ none 0 [], .mk 3 0 ⟨#[]⟩ none 0 [intV 0, intV 0], .mk 2 0 ⟨#[97]⟩ none 0 []]

theorem RowS.kp {w w' : World} {s : Value} {ys : List V} (h : RowS w s ys) (hk : Kp w w') : RowS w' s ys := by
  obtain ⟨a, c, l, he, hi, hs⟩ := h
  exact ⟨a, c, l, he, hi.keep hk.size hk, hs⟩

/-- A variable that holds a tuple. -/
def BoxT (w : World) (db : Nat) (P : Nat → Prop) (ys : List V) : Prop := ∃ (a : Option Addr) (c : Nat) (l : List V), w.heap[db]? = some (.cells #[.int .i64 2, .int .i64 0, .string ⟨#[]⟩, .slice a l.length c] 24 (0, 0)) ∧
  (V.mk 2 0 ⟨#[]⟩ a c l).In w w.heap.size ∧ (V.mk 2 0 ⟨#[]⟩ a c l).foot P ∧ V.sameL l ys = true
theorem BoxT.kp {w w' : World} {db : Nat} {P : Nat → Prop} {ys : List V} (h : BoxT w db P ys) (hk : Kp w w') : BoxT w' db P ys := by
  obtain ⟨a, c, l, hx, hi, hf, hs⟩ := h
  exact ⟨a, c, l, (hk.block _ (lt_of_block hx)).trans hx, hi.keep hk.size hk, hf, hs⟩
theorem BoxT.lt {w : World} {db : Nat} {P : Nat → Prop} {ys : List V} (h : BoxT w db P ys) : BoxT w db (fun b => b < w.heap.size) ys := by
  obtain ⟨a, c, l, hx, hi, hf, hs⟩ := h
  exact ⟨a, c, l, hx, hi, V.foot.mono (fun b hb => hb.2) _ (V.In.foot_lt _ hi hf), hs⟩

/-- A variable that holds a value. -/
def BoxV (w : World) (db : Nat) (P : Nat → Prop) (y : V) : Prop := ∃ x : V, w.heap[db]? = some (.cells #[.int .i64 x.k, .int .i64 x.n, .string x.s, .slice x.a x.l.length x.cap] 24 (0, 0)) ∧ x.In w w.heap.size ∧ x.foot P ∧ x.same y = true

theorem BoxV.kp {w w' : World} {db : Nat} {P : Nat → Prop} {y : V} (h : BoxV w db P y) (hk : Kp w w') : BoxV w' db P y := by
  obtain ⟨x, hx, hi, hf, hs⟩ := h
  exact ⟨x, (hk.block _ (lt_of_block hx)).trans hx, hi.keep hk.size hk, hf, hs⟩

theorem BoxV.lt {w : World} {db : Nat} {P : Nat → Prop} {y : V} (h : BoxV w db P y) : BoxV w db (fun b => b < w.heap.size) y := by
  obtain ⟨x, hx, hi, hf, hs⟩ := h
  exact ⟨x, hx, hi, V.foot.mono (fun b hb => hb.2) _ (V.In.foot_lt _ hi hf), hs⟩

theorem BoxV.tuple {wr w3 : World} {db : Nat} {P : Nat → Prop} {x y : V} (hx : wr.heap[db]? = some (.cells #[.int .i64 x.k, .int .i64 x.n, .string x.s, .slice x.a x.l.length x.cap] 24 (0, 0))) (hi : x.In wr wr.heap.size) (hf : x.foot P)
    (hs : x.same y = true) (hP : ∀ b, P b → b ≠ db) (hq : P wr.heap.size) (hk : Kp (wr.alloc (.cells #[.int .i64 x.k, .int .i64 x.n, .string x.s, .slice x.a x.l.length x.cap] 24)) w3) :
    BoxV (put4 w3 db (.int .i64 2) (.int .i64 0) (.string ⟨#[]⟩) (.slice (some ⟨wr.heap.size, 0, none⟩) 1 1)) db P (tupV [y]) := by
  have hkk := kk (ka _ _) hk
  have hq3 := boxK hk
  have hS : (put4 w3 db (.int .i64 2) (.int .i64 0) (.string ⟨#[]⟩) (.slice (some ⟨wr.heap.size, 0, none⟩) 1 1)).heap.size = w3.heap.size := by simp [World.setCell]
  have hin : (V.mk 2 0 ⟨#[]⟩ (some ⟨wr.heap.size, 0, none⟩) 1 [x]).In w3 w3.heap.size :=
    node_in hq3 (by simp [cellsL, V.cells4]) ⟨hi.keep hkk.size hkk, trivial⟩ (by unfold I64; omega) (by unfold I64; omega) (by unfold maxLen; decide) (Nat.le_refl _) (by unfold maxLen; omega)
  have hft : (V.mk 2 0 ⟨#[]⟩ (some ⟨wr.heap.size, 0, none⟩) 1 [x]).foot P := node_foot hq ⟨hf, trivial⟩
  refine ⟨.mk 2 0 ⟨#[]⟩ (some ⟨wr.heap.size, 0, none⟩) 1 [x], put4_block ((hkk.block _ (lt_of_block hx)).trans hx), ?_, hft, V.same_node (V.sameL_one hs)⟩
  rw [hS]
  exact V.In.move (Nat.le_refl _) (fun b _ hb => put4_other (hP b hb)) _ hin hft

def goodL (b : ByteArray) : List V := [intV (-2147483648), intV 2147483647, txtV b, txtV ⟨#[]⟩, tupV [], tagV 7 (intV 0), deepV 5, tupV (wideL 8), tupV (List.replicate 6 (tupV (wideL 8)))]

theorem BoxV.step {wr wz wc w2 : World} {db n0 : Nat} {row : Option Nat} {y : V} {u : Value} (h : BoxV wr db (fun b => db + 1 < b ∧ b < n0) y) (hk : Kp wr wz) (hc : Kp wz wc) (hg : wc.grownBy w2 row) (hnb : some db ≠ row) (hrow : ∀ g, row = some g → n0 ≤ g) :
    BoxV (w2.setCell ⟨db + 1, 3, none⟩ u) db (fun b => db + 1 < b ∧ b < n0) y := by
  obtain ⟨x, hx, hi, hf, hs⟩ := h
  have hkk := hk.trans (hc.mono hk.size)
  have hz3 : wr.heap.size ≤ w2.heap.size := by have := hkk.size; obtain ⟨_, _, _, h4, _⟩ := hg; omega
  have hz4 : w2.heap.size = (w2.setCell ⟨db + 1, 3, none⟩ u).heap.size := by simp [World.setCell]
  refine ⟨x, step_block hk hc hg hnb (by omega) hx, ?_, hf, hs⟩
  rw [← hz4]
  refine V.In.move hz3 (fun b hb hp => ?_) x hi hf
  exact (Below.heap_setCell _ _ _ _ (by show b ≠ db + 1; omega)).trans ((hg.block b (by have := hkk.size; omega) (fun e => by have := hrow b e.symm; omega)).trans (hkk.block b hb))

theorem goodOk : (goodL (tildes 100)).all V.valid = true := by kernel_rfl
theorem badOk : (badL (tildes 100)).all (fun y => !y.valid) = true := by kernel_rfl

def orderL : List V := [intV (-1), intV 0, intV 7, txtV ⟨#[]⟩, txtV ⟨#[97]⟩, txtV ⟨#[97, 97]⟩, txtV ⟨#[98]⟩, tupV [], tupV [intV 1], tupV [intV 1, intV 0], tupV [intV 2], tupV [txtV ⟨#[]⟩], tagV 0 (tupV []), tagV 1 (intV 5)]
theorem orderOk : orderL.all V.valid = true := by kernel_rfl
theorem orderOrd : (orderL.zip orderL.tail).all (fun p => p.1.ord p.2 == -1) = true := by kernel_rfl
mutual
theorem same_keyB : ∀ (x y : V), x.same y = true → x.keyB = y.keyB
  | .mk k n s a c l, .mk k' n' s' a' c' l', h => by
    simp only [V.same, Bool.and_eq_true, decide_eq_true_eq] at h
    obtain ⟨rfl, rfl, hs, hl⟩ := h
    have hs' : s.data.toList = s'.data.toList := by rw [← ByteArray.toList_eq, ← ByteArray.toList_eq]; exact hs
    simp only [V.keyB, hs', same_keyBL l l' hl, same_keyBH l l' hl]
theorem same_keyBL : ∀ (l m : List V), V.sameL l m = true → V.keyBL l = V.keyBL m
  | [], [], _ => rfl
  | [], _ :: _, h => by simp [V.sameL] at h
  | _ :: _, [], h => by simp [V.sameL] at h
  | x :: xs, y :: ys, h => by
    simp only [V.sameL, Bool.and_eq_true] at h
    simp only [V.keyBL, same_keyB x y h.1, same_keyBL xs ys h.2]
theorem same_keyBH : ∀ (l m : List V), V.sameL l m = true → V.keyBH l = V.keyBH m
  | [], [], _ => rfl
  | [], _ :: _, h => by simp [V.sameL] at h
  | _ :: _, [], h => by simp [V.sameL] at h
  | x :: xs, y :: ys, h => by
    simp only [V.sameL, Bool.and_eq_true] at h
    simp only [V.keyBH, same_keyB x y h.1]
end
theorem ord_at {m : Nat} {x y : V} (hx : orderL[m]? = some x) (hy : orderL[m + 1]? = some y) : x.ord y = -1 := by
  have h : (orderL.zip orderL.tail)[m]? = some (x, y) := by
    rw [List.getElem?_zip_eq_some]
    exact ⟨hx, by rw [List.getElem?_tail]; exact hy⟩
  have := List.all_eq_true.1 orderOrd _ (List.mem_of_getElem? h)
  simpa using this
theorem same_ord {x y x' y' : V} (hx : x.same x' = true) (hy : y.same y' = true) (vx : x'.valid = true) (vy : y'.valid = true) : x.ord y = x'.ord y' := by
  have v1 : x.sh 6 = true ∧ x'.sh 6 = true := by
    have h1 := same_valid hx
    rw [vx] at h1
    simp only [V.valid, Bool.and_eq_true] at h1 vx
    exact ⟨h1.1, vx.1⟩
  have v2 : y.sh 6 = true ∧ y'.sh 6 = true := by
    have h1 := same_valid hy
    rw [vy] at h1
    simp only [V.valid, Bool.and_eq_true] at h1 vy
    exact ⟨h1.1, vy.1⟩
  rw [← keys_cb x y 6 6 v1.1 v2.1, ← keys_cb x' y' 6 6 v1.2 v2.2, same_keyB x x' hx, same_keyB y y' hy]

set_option maxRecDepth 100000 in
set_option maxHeartbeats 4000000 in
theorem known_any (w : World) (tb : Tb w w.heap.size) (eb : Eb w w.heap.size) : Calls Tryz.prog 12 #[] w fun e w' => e = .returned (.bool true) ∧ Kp w w' := by
  obtain ⟨i0, hi, hz0, hz1, hz2⟩ := info_parts infoV
  go_enter Tryz.func12, Tryz.ntmps12
  go_wp2_with fail
  refine (int_any _ _).mono ?_
  rintro e w1 ⟨rfl, hk1⟩
  have HK1 := Lib.hid hk1
  clear hk1
  go_wp2_with fail
  refine (tuple_any _ _ _ _).mono ?_
  rintro e w2 ⟨rfl, hk2⟩
  have HK2 := Lib.hid (kk HK1.out hk2)
  clear hk2
  go_wp2_with fail
  go_loop [1, 4] (fun s i => ∃ j : Nat, j ≤ 100 ∧ s = .string (tildes j) ∧ i = .int .i64 j) (fun _ i => 100 - (intOf i).toNat)
  case atStart => exact ⟨0, by omega, rfl, rfl⟩
  case round =>
    obtain ⟨j, hj, rfl, rfl⟩ := hrel
    have hts := tildes_succ j
    have hz := tildes_size j
    generalize hbe : tildes j = b at *
    have HBE := Lib.hid hbe
    clear hbe
    by_cases hlt : j < 100
    · have z1 : b.size + 1 ≤ 9223372036854775807 := by omega
      have z2 : (b ++ ⟨#[126]⟩ : ByteArray).size ≤ 9223372036854775807 := by rw [ByteArray.size_append]; show b.size + 1 ≤ _; omega
      go_wp2_with fail
      go_round
      case rel => exact ⟨j + 1, by omega, by rw [hts], by first | go_num | simp⟩
      case measure => simp [intOf]; omega
    · have hjj : j = 100 := by omega
      subst hjj
      have HLN := Lib.hid (show b.size = 100 ∧ b = tildes 100 from ⟨hz, HBE.out.symm⟩)
      clear hts HBE
      go_wp2_with fail
      have hk0 := kk HK2.out (kk (ka w2 (.cells #[.int .i64 0, .int .i64 1, .string ⟨#[]⟩, .slice none 0 0] 24)) (ka _ (.cells #[.int .i64 2, .int .i64 0, .string ⟨#[]⟩, .slice none 0 0] 24)))
      have hbx : BoxV ((w2.alloc (.cells #[.int .i64 0, .int .i64 1, .string ⟨#[]⟩, .slice none 0 0] 24)).alloc (.cells #[.int .i64 2, .int .i64 0, .string ⟨#[]⟩, .slice none 0 0] 24)) w2.heap.size (fun b => w2.heap.size + 1 < b) (deepV 0) :=
        ⟨intV 1, blockPast (blockHere rfl), inLeaf _ _ _ (by unfold I64; omega) (by unfold I64; omega) (by unfold maxLen; decide), V.foot_leaf _ _ _ _ _, V.same_refl _⟩
      have htp : TupAt ((w2.alloc (.cells #[.int .i64 0, .int .i64 1, .string ⟨#[]⟩, .slice none 0 0] 24)).alloc (.cells #[.int .i64 2, .int .i64 0, .string ⟨#[]⟩, .slice none 0 0] 24)) (w2.heap.size + 1) [] (.slice none 0 0) [] := 
        ⟨blockHere (by simp), World.ownsRow_nil _ _ _ _, rfl, trivial, trivial⟩
      have hvb : w.heap.size ≤ w2.heap.size := HK2.out.size
      generalize hW0 : (w2.alloc (.cells #[.int .i64 0, .int .i64 1, .string ⟨#[]⟩, .slice none 0 0] 24)).alloc (.cells #[.int .i64 2, .int .i64 0, .string ⟨#[]⟩, .slice none 0 0] 24) = W0 at *
      clear hW0 HK2 HK1
      generalize w2.heap.size = db at *
      have HK0 := Lib.hid hk0
      have HBX := Lib.hid hbx
      have HTP := Lib.hid htp
      clear hk0 hbx htp
      go_loopw [5] (fun i wr => ∃ j : Nat, j ≤ 5 ∧ i = .int .i64 j ∧ Kp w wr ∧ BoxV wr db (fun b => db + 1 < b) (deepV j) ∧ TupAt wr (db + 1) [] (.slice none 0 0) []) (fun i _ => 5 - (intOf i).toNat)
      case atStart => exact ⟨0, by omega, rfl, HK0.out, HBX.out, HTP.out⟩
      case round =>
        obtain ⟨j, hj, rfl, hk, ⟨⟨xk, xn, xs, xa, xc, xl⟩, hbox, hxi, hxf, hxs⟩, htp⟩ := hrel
        by_cases hlt : j < 5
        · obtain ⟨c0, c1, c2, c3, f0, f1, f2, f3⟩ := cell4 hbox
          simp only [V.k, V.n, V.s, V.a, V.l, V.cap] at c0 c1 c2 c3 hbox
          have hlt0 := lt_of_block hbox
          have HK := Lib.hid hk
          have HB := Lib.hid hbox
          have HXI := Lib.hid hxi
          have HXF := Lib.hid hxf
          have HXS := Lib.hid hxs
          have HT := Lib.hid htp
          clear hk hbox hxi hxf hxs htp
          go_wp2_with fail
          refine (tuple_any _ _ _ _).mono ?_
          rintro e w3 ⟨rfl, hk3⟩
          have hsz := HB.out |> lt_of_block
          have hbn := BoxV.tuple (x := .mk xk xn xs xa xc xl) HB.out HXI.out HXF.out HXS.out (fun b hb => by omega) (by have := HT.out.lt; omega) hk3
          have hkk := kk (ka _ _) hk3
          have hb3 := (hkk.block _ hsz).trans HB.out
          have hlt3 := lt_of_block hb3
          obtain ⟨c0, c1, c2, c3, f0, f1, f2, f3⟩ := cell4 hb3
          have HBN := Lib.hid hbn
          have HKN := Lib.hid (put4_kp (b := db) (v0 := .int .i64 2) (v1 := .int .i64 0) (v2 := .string ⟨#[]⟩) (v3 := .slice (some ⟨wr.heap.size, 0, none⟩) 1 1) (kk HK.out hkk) hvb)
          have HTN := Lib.hid (show TupAt (put4 w3 db (.int .i64 2) (.int .i64 0) (.string ⟨#[]⟩) (.slice (some ⟨wr.heap.size, 0, none⟩) 1 1)) (db + 1) [] (.slice none 0 0) [] from
            ⟨(put4_other (by omega)).trans ((hkk.block _ HT.out.lt).trans HT.out.box), World.ownsRow_nil _ _ _ _, rfl, trivial, trivial⟩)
          clear hbn hb3 hkk hk3
          go_wp2_with fail
          go_roundw
          case rel => exact ⟨j + 1, by omega, by first | go_num | simp, HKN.out, HBN.out, HTN.out⟩
          case measure => simp [intOf]; omega
        · have hjj : j = 5 := by omega
          have hji : (j : Int) = 5 := by omega
          rw [hjj] at hxs
          rw [hji]
          clear hji
          have HK := Lib.hid hk
          have HB := Lib.hid (show BoxV wr db (fun b => db + 1 < b ∧ b < wr.heap.size) (deepV 5) from ⟨_, hbox, hxi, V.foot.mono (fun b hb => ⟨hb.1, hb.2⟩) _ (V.In.foot_lt _ hxi hxf), hxs⟩)
          have HT := Lib.hid htp
          clear hk hbox hxi hxf hxs htp
          go_wp2_with fail
          generalize hn0 : wr.heap.size = n0 at *
          have hnw : w.heap.size ≤ n0 := by have := HK.out.size; omega
          have hn1 : n0 ≤ wr.heap.size := by omega
          have hdb : db + 1 < n0 := by have := HT.out.lt; omega
          clear hn0
          go_loopw [6] (fun i wr => ∃ (j : Nat) (sl : Value) (vs : List V), j ≤ 8 ∧ i = .int .i64 j ∧ vs.length = j ∧ Kp w wr ∧ BoxV wr db (fun b => db + 1 < b ∧ b < n0) (deepV 5) ∧ TupAt wr (db + 1) (wideL j) sl vs ∧ (∀ g, sl.ownBlock = some g → n0 ≤ g) ∧ n0 ≤ wr.heap.size) (fun i _ => 8 - (intOf i).toNat)
          case atStart => exact ⟨0, _, [], by omega, rfl, rfl, HK.out, HB.out, HT.out, (fun g h => by cases h), hn1⟩
          case round =>
            obtain ⟨j, sl, vs, hj, rfl, hvl, hk, hbx, htp, hown0, hn2⟩ := hrel
            have v3 : wr.cell? ⟨db + 1, 3, none⟩ = some sl := cellOf htp.box rfl
            have hvb := htp.lt
            by_cases hlt : j < 8
            · have hvs : vs.length ≤ 8 := by omega
              have nvb : some (db + 1) ≠ sl.ownBlock := fun e => by have := (htp.own.lt _ e.symm).1; omega
              have nb0 : some db ≠ sl.ownBlock := fun e => by have := (htp.own.lt _ e.symm).1; omega
              have HVL := Lib.hid hvl
              have HTP2 := Lib.hid htp
              have HK := Lib.hid hk
              have HBX2 := Lib.hid hbx
              have HOW := Lib.hid hown0
              clear hvl htp hk hbx hown0 HB HT
              go_wp2_with fail
              go_region_law
                (first
                  | (go_simp; go_at_call 46; refine (int_any _ _).mono ?_; rintro e w2 ⟨rfl, hk2⟩; have hsz2 := hk2.size; simp only [World.drew_size] at hsz2; have HB2 := Lib.hid ((hk2.block (db + 1) hvb).trans HTP2.out.box); have v3c : w2.cell? ⟨db + 1, 3, none⟩ = some sl := cellOf HB2.out rfl; have v3d : (w2.alloc (.cells #[.int .i64 0, .int .i64 j, .string ⟨#[]⟩, .slice none 0 0] 24)).cell? ⟨db + 1, 3, none⟩ = some sl := past v3c; dsimp only)
                  | (refine step_append_lies _ (by rfl) _ _ _ (by rfl) (db + 1 + 1) 24 i0 _ 4 56 Tryz.underlying22 hi hz0 hz1 hz2 rfl (by omega) sl vs.length (cellsL vs) (by rfl) ((ownsRow_kp HTP2.out.own (kk kpD hk2)).alloc _)
                      ⟨w2.heap.size, 0, none⟩ 1 1 [.int .i64 0, .int .i64 j, .string ⟨#[]⟩, .slice none 0 0] (by rfl) (by rfl) (World.news_of_block (cs := #[.int .i64 0, .int .i64 j, .string ⟨#[]⟩, .slice none 0 0]) (t := 24) (fr := (0, 0)) (heap_alloc_new w2 _)) (by simp [Value.oneCell'])
                      (by omega) (by unfold maxLen; omega) (by omega) (by have := hk2.size; simp at this ⊢; omega) (w2.heap.size + 1) (by simp) ?_; intro gg gcap w3 hown1 hgrow hat hltg; have HB3 := Lib.hid ((hgrow.block (db + 1) (by simp; omega) nvb).trans (blockPast HB2.out)); have v3e : w3.cell? ⟨db + 1, 3, none⟩ = some sl := cellOf HB3.out rfl; have f3e : w3.frozen? ⟨db + 1, 3, none⟩ = false := freeOf HB3.out))
              all_goals
                have hkz := kk (kpD (w := wr)) hk2
                have hst := HTP2.out.step (z := intV j) (y := intV j) hkz (inLeaf _ _ _ (by unfold I64; omega) (by unfold I64; omega) (by unfold maxLen; decide)) (V.foot_leaf _ _ _ _ _) (V.same_refl _) (ka _ _) hown1 hgrow (by simpa using hat)
                rw [← wideL_succ] at hst
                have hrw : ∀ g, (Value.slice (some ⟨gg, 0, none⟩) (vs.length + 1) gcap).ownBlock = some g → n0 ≤ g := fun g h => by
                  have hgg : gg = g := by simpa [Value.ownBlock] using h
                  rcases hat with h1 | h1
                  · exact hgg ▸ HOW.out gg h1
                  · have := hkz.size; omega
                have HST := Lib.hid hst
                have HRW := Lib.hid hrw
                have HK3 := Lib.hid (put1_kp (i := 3) (v := .slice (some ⟨gg, 0, none⟩) (vs.length + 1) gcap) (kp_grown (kk (kk HK.out hkz) (ka _ _)) hgrow (fun k e => by have := HOW.out k e; omega)) (by omega : w.heap.size ≤ db + 1))
                have HBX3 := Lib.hid (HBX2.out.step (u := .slice (some ⟨gg, 0, none⟩) (vs.length + 1) gcap) hkz (ka _ _) hgrow nb0 HOW.out)
                have hn3 : n0 ≤ w3.heap.size := by have := hkz.size; obtain ⟨_, _, _, h4, _⟩ := hgrow; simp at h4; omega
                clear hst hrw hk2 hkz hown1 hgrow hat v3c v3d v3e f3e v3
                go_wp2_with fail
                go_roundw
                case rel =>
                  exact ⟨j + 1, _, _, by omega, by first | go_num | simp, by simp [HVL.out], HK3.out, HBX3.out, HST.out, HRW.out, by simpa [World.setCell] using hn3⟩
                case measure => simp [intOf]; omega
            · have hjj : j = 8 := by omega
              have hji : (j : Int) = 8 := by omega
              rw [hjj] at htp hvl
              rw [hji]
              clear hji hjj hlt hj
              have HWD := Lib.hid (show BoxT wr (db + 1) (fun b => db + 1 < b) (wideL 8) from by
                obtain ⟨a', cap', rfl, hvin, hvft⟩ := htp.value
                exact ⟨a', cap', vs, htp.box, hvin, hvft, htp.same⟩)
              have HDP := Lib.hid hbx
              have HK := Lib.hid hk
              clear hbx hk htp hvl hown0 v3 hvb HB HT
              have hbm : b.size ≤ maxLen := by unfold maxLen; omega
              go_wp2_with fail
              go_upto_region 14 with fail
              go_cut [7] from 75 to 93 (fun s wx => RowS wx s (goodL b) ∧ Kp wr wx)
              case first =>
                have HBD := Lib.hid (show ∀ w', Kp wr.drew w' → BoxV w' db (fun b => db + 1 < b ∧ b < n0) (deepV 5) from fun w' hk => HDP.out.kp (kk kpD hk))
                have HBW := Lib.hid (show ∀ w', Kp wr.drew w' → BoxT w' (db + 1) (fun b => db + 1 < b) (wideL 8) from fun w' hk => HWD.out.kp (kk kpD hk))
                refine region_ri (by kernel_rfl)
                  [(75, none, .val (intV (-2147483648))), (76, none, .val (intV 2147483647)), (77, none, .is (.string b)), (78, none, .val (txtV b)), (79, none, .val (txtV ⟨#[]⟩)), (80, none, .val (tupV [])), (81, none, .val (intV 0)), (82, none, .val (tagV 7 (intV 0))),
                   (83, none, .val (deepV 5)), (84, none, .val (tupV (wideL 8))), (85, none, .val (tupV (wideL 8))), (86, none, .val (tupV (wideL 8))), (87, none, .val (tupV (wideL 8))), (88, none, .val (tupV (wideL 8))), (89, none, .val (tupV (wideL 8))), (90, none, .val (tupV (wideL 8))),
                   (91, none, .row (List.replicate 6 (tupV (wideL 8)))), (92, none, .val (tupV (List.replicate 6 (tupV (wideL 8))))), (93, none, .row (goodL b)), (7, none, .row (goodL b))] [] (by kernel_rfl) (by kernel_rfl) rfl rfl ?_ ?_
                · refine each_cons ?_ (each_cons ?_ (each_cons ?_ (each_cons ?_ (each_cons ?_ (each_cons ?_ (each_cons ?_ (each_cons ?_ (each_cons ?_ (each_cons ?_ (each_cons ?_ (each_cons ?_ (each_cons ?_ (each_cons ?_ (each_cons ?_ (each_cons ?_ (each_cons ?_ (each_cons ?_ (each_cons ?_ (each_cons ?_ (each_nil))))))))))))))))))))
                  all_goals intro listed a' w' K hin h ho hun hdeps hK hrest hgot hfin hfin2
                  · go_simp
                    refine (int_any _ _).mono ?_
                    rintro e w2 ⟨rfl, hk2⟩
                    exact hfin _ _ _ _ _ rfl hk2 rfl (fact_int _ _ _ (i64c _ (by omega)))
                  · go_simp
                    refine (int_any _ _).mono ?_
                    rintro e w2 ⟨rfl, hk2⟩
                    exact hfin _ _ _ _ _ rfl hk2 rfl (fact_int _ _ _ (i64c _ (by omega)))
                  · have s1 : a'.tmps.getD 1 undef = .string b := hrest 1 rfl
                    go_simp
                    exact hfin _ _ _ _ _ rfl (Below.refl _ _) rfl rfl
                  · have s1 : a'.tmps.getD 77 undef = .string b := hgot 2 77 _ rfl rfl
                    go_simp
                    refine (text_any _ _).mono ?_
                    rintro e w2 ⟨rfl, hk2⟩
                    exact hfin _ _ _ _ _ rfl hk2 rfl (fact_text _ _ _ hbm)
                  · go_simp
                    refine (text_any _ _).mono ?_
                    rintro e w2 ⟨rfl, hk2⟩
                    exact hfin _ _ _ _ _ rfl hk2 rfl (fact_text _ _ _ z0)
                  · go_simp
                    refine (tuple_any _ _ _ _).mono ?_
                    rintro e w2 ⟨rfl, hk2⟩
                    exact hfin _ _ _ _ _ rfl hk2 rfl (fact_tuple hk2 ⟨none, 0, [], rfl, inLeaf _ _ _ (i64c _ (by omega)) (i64c _ (by omega)) z0, V.foot_leaf _ _ _ _ _, rfl⟩)
                  · go_simp
                    refine (int_any _ _).mono ?_
                    rintro e w2 ⟨rfl, hk2⟩
                    exact hfin _ _ _ _ _ rfl hk2 rfl (fact_int _ _ _ (i64c _ (by omega)))
                  · obtain ⟨⟨xk, xn, xs, xa, xc, xl⟩, hx, hxi, hxf, hxs⟩ := hgot 6 81 _ rfl rfl
                    rw [V.val_mk] at hx
                    go_simp
                    refine (tag_any _ _ _ _ _ _ _ _).mono ?_
                    rintro e w2 ⟨q, rfl, hq, hqz, hk2⟩
                    exact hfin _ _ _ _ _ rfl hk2 rfl (fact_tag (i64c _ (by omega)) hk2 hxi hxf hxs (h.fresh hqz) hq)
                  · have s1 : a'.tmps.getD 2 undef = .pointer (some ⟨db, 0, none⟩) := hrest 2 rfl
                    obtain ⟨⟨xk, xn, xs, xa, xc, xl⟩, hx, hxi, hxf, hxs⟩ := HBD.out w' h.kp
                    dsimp only [V.k, V.n, V.s, V.a, V.l, V.cap] at hx
                    obtain ⟨c0, c1, c2, c3, -⟩ := cell4 hx
                    go_simp
                    exact hfin _ _ _ _ _ rfl (Below.refl _ _) rfl ⟨_, rfl, hxi, V.foot.mono (fun b _ d hd => by cases hd) _ hxf, hxs⟩
                  · have s1 : a'.tmps.getD 3 undef = .pointer (some ⟨db + 1, 0, none⟩) := hrest 3 rfl
                    obtain ⟨ra, rc, rl, hx, hri, hrf, hrs⟩ := HBW.out w' h.kp
                    obtain ⟨c0, c1, c2, c3, -⟩ := cell4 hx
                    go_simp
                    exact hfin _ _ _ _ _ rfl (Below.refl _ _) rfl ⟨_, rfl, hri, V.foot.mono (fun b _ d hd => by cases hd) _ hrf, V.same_node hrs⟩
                  · have s1 : a'.tmps.getD 3 undef = .pointer (some ⟨db + 1, 0, none⟩) := hrest 3 rfl
                    obtain ⟨ra, rc, rl, hx, hri, hrf, hrs⟩ := HBW.out w' h.kp
                    obtain ⟨c0, c1, c2, c3, -⟩ := cell4 hx
                    go_simp
                    exact hfin _ _ _ _ _ rfl (Below.refl _ _) rfl ⟨_, rfl, hri, V.foot.mono (fun b _ d hd => by cases hd) _ hrf, V.same_node hrs⟩
                  · have s1 : a'.tmps.getD 3 undef = .pointer (some ⟨db + 1, 0, none⟩) := hrest 3 rfl
                    obtain ⟨ra, rc, rl, hx, hri, hrf, hrs⟩ := HBW.out w' h.kp
                    obtain ⟨c0, c1, c2, c3, -⟩ := cell4 hx
                    go_simp
                    exact hfin _ _ _ _ _ rfl (Below.refl _ _) rfl ⟨_, rfl, hri, V.foot.mono (fun b _ d hd => by cases hd) _ hrf, V.same_node hrs⟩
                  · have s1 : a'.tmps.getD 3 undef = .pointer (some ⟨db + 1, 0, none⟩) := hrest 3 rfl
                    obtain ⟨ra, rc, rl, hx, hri, hrf, hrs⟩ := HBW.out w' h.kp
                    obtain ⟨c0, c1, c2, c3, -⟩ := cell4 hx
                    go_simp
                    exact hfin _ _ _ _ _ rfl (Below.refl _ _) rfl ⟨_, rfl, hri, V.foot.mono (fun b _ d hd => by cases hd) _ hrf, V.same_node hrs⟩
                  · have s1 : a'.tmps.getD 3 undef = .pointer (some ⟨db + 1, 0, none⟩) := hrest 3 rfl
                    obtain ⟨ra, rc, rl, hx, hri, hrf, hrs⟩ := HBW.out w' h.kp
                    obtain ⟨c0, c1, c2, c3, -⟩ := cell4 hx
                    go_simp
                    exact hfin _ _ _ _ _ rfl (Below.refl _ _) rfl ⟨_, rfl, hri, V.foot.mono (fun b _ d hd => by cases hd) _ hrf, V.same_node hrs⟩
                  · have s1 : a'.tmps.getD 3 undef = .pointer (some ⟨db + 1, 0, none⟩) := hrest 3 rfl
                    obtain ⟨ra, rc, rl, hx, hri, hrf, hrs⟩ := HBW.out w' h.kp
                    obtain ⟨c0, c1, c2, c3, -⟩ := cell4 hx
                    go_simp
                    exact hfin _ _ _ _ _ rfl (Below.refl _ _) rfl ⟨_, rfl, hri, V.foot.mono (fun b _ d hd => by cases hd) _ hrf, V.same_node hrs⟩
                  · have s1 : a'.tmps.getD 3 undef = .pointer (some ⟨db + 1, 0, none⟩) := hrest 3 rfl
                    obtain ⟨ra, rc, rl, hx, hri, hrf, hrs⟩ := HBW.out w' h.kp
                    obtain ⟨c0, c1, c2, c3, -⟩ := cell4 hx
                    go_simp
                    exact hfin _ _ _ _ _ rfl (Below.refl _ _) rfl ⟨_, rfl, hri, V.foot.mono (fun b _ d hd => by cases hd) _ hrf, V.same_node hrs⟩
                  · obtain ⟨x0, hx0, hi0, hf0, hs0⟩ := hgot 10 85 _ rfl rfl
                    obtain ⟨x1, hx1, hi1, hf1, hs1⟩ := hgot 11 86 _ rfl rfl
                    obtain ⟨x2, hx2, hi2, hf2, hs2⟩ := hgot 12 87 _ rfl rfl
                    obtain ⟨x3, hx3, hi3, hf3, hs3⟩ := hgot 13 88 _ rfl rfl
                    obtain ⟨x4, hx4, hi4, hf4, hs4⟩ := hgot 14 89 _ rfl rfl
                    obtain ⟨x5, hx5, hi5, hf5, hs5⟩ := hgot 15 90 _ rfl rfl
                    simp only [V.val] at hx0 hx1 hx2 hx3 hx4 hx5
                    rw [Array.getD_eq_getD_getElem?] at hx0
                    rw [Array.getD_eq_getD_getElem?] at hx1
                    rw [Array.getD_eq_getD_getElem?] at hx2
                    rw [Array.getD_eq_getD_getElem?] at hx3
                    rw [Array.getD_eq_getD_getElem?] at hx4
                    rw [Array.getD_eq_getD_getElem?] at hx5
                    go_simp
                    refine hfin _ _ _ _ _ rfl (ka _ _) rfl (fact_row (n := 6) (xs := [x0, x1, x2, x3, x4, x5]) ?_ rfl (by unfold maxLen; omega) ⟨hi0, hi1, hi2, hi3, hi4, hi5, trivial⟩ ⟨hf0, hf1, hf2, hf3, hf4, hf5, trivial⟩ (h.fresh (Nat.le_refl _)) (sameL_cons hs0 (sameL_cons hs1 (sameL_cons hs2 (sameL_cons hs3 (sameL_cons hs4 (sameL_cons hs5 (rfl))))))))
                    simp [cellsL, V.cells4]
                  · obtain ⟨ra, rc, rl, hr, hri, hrf, hrs⟩ := hgot 16 91 _ rfl rfl
                    go_simp
                    refine (tuple_any _ _ _ _).mono ?_
                    rintro e w2 ⟨rfl, hk2⟩
                    exact hfin _ _ _ _ _ rfl hk2 rfl (fact_tuple hk2 ⟨_, _, _, rfl, hri, hrf, hrs⟩)
                  · obtain ⟨x0, hx0, hi0, hf0, hs0⟩ := hgot 0 75 _ rfl rfl
                    obtain ⟨x1, hx1, hi1, hf1, hs1⟩ := hgot 1 76 _ rfl rfl
                    obtain ⟨x2, hx2, hi2, hf2, hs2⟩ := hgot 3 78 _ rfl rfl
                    obtain ⟨x3, hx3, hi3, hf3, hs3⟩ := hgot 4 79 _ rfl rfl
                    obtain ⟨x4, hx4, hi4, hf4, hs4⟩ := hgot 5 80 _ rfl rfl
                    obtain ⟨x5, hx5, hi5, hf5, hs5⟩ := hgot 7 82 _ rfl rfl
                    obtain ⟨x6, hx6, hi6, hf6, hs6⟩ := hgot 8 83 _ rfl rfl
                    obtain ⟨x7, hx7, hi7, hf7, hs7⟩ := hgot 9 84 _ rfl rfl
                    obtain ⟨x8, hx8, hi8, hf8, hs8⟩ := hgot 17 92 _ rfl rfl
                    simp only [V.val] at hx0 hx1 hx2 hx3 hx4 hx5 hx6 hx7 hx8
                    rw [Array.getD_eq_getD_getElem?] at hx0
                    rw [Array.getD_eq_getD_getElem?] at hx1
                    rw [Array.getD_eq_getD_getElem?] at hx2
                    rw [Array.getD_eq_getD_getElem?] at hx3
                    rw [Array.getD_eq_getD_getElem?] at hx4
                    rw [Array.getD_eq_getD_getElem?] at hx5
                    rw [Array.getD_eq_getD_getElem?] at hx6
                    rw [Array.getD_eq_getD_getElem?] at hx7
                    rw [Array.getD_eq_getD_getElem?] at hx8
                    go_simp
                    refine hfin _ _ _ _ _ rfl (ka _ _) rfl (fact_row (n := 9) (xs := [x0, x1, x2, x3, x4, x5, x6, x7, x8]) ?_ rfl (by unfold maxLen; omega) ⟨hi0, hi1, hi2, hi3, hi4, hi5, hi6, hi7, hi8, trivial⟩ ⟨hf0, hf1, hf2, hf3, hf4, hf5, hf6, hf7, hf8, trivial⟩ (h.fresh (Nat.le_refl _)) (sameL_cons hs0 (sameL_cons hs1 (sameL_cons hs2 (sameL_cons hs3 (sameL_cons hs4 (sameL_cons hs5 (sameL_cons hs6 (sameL_cons hs7 (sameL_cons hs8 (rfl)))))))))))
                    simp [cellsL, V.cells4]
                  · obtain ⟨ra, rc, rl, hr, hrr⟩ := hgot 18 93 _ rfl rfl
                    go_simp
                    exact hfin _ _ _ _ _ rfl (Below.refl _ _) rfl ⟨_, _, _, rfl, hrr⟩
                · intro listed a' w' h hall
                  obtain ⟨T, hT, hfr⟩ := h.frame
                  have hg := h.holds 19 7 none _ rfl (hall 19 (of_decide_eq_true (by kernel_rfl))) (fun t ht => by cases ht)
                  have hkp := h.kp
                  rw [hT] at hg
                  clear h hall hT
                  subst hfr
                  simp only [List.map, List.foldl, List.setIfInBounds_toArray, List.set_cons_succ, List.set_cons_zero]
                  obtain ⟨a2, c2, l2, hs2, hi2, hf2, hl2⟩ := hg
                  go_wp2_with fail
                  go_meet
                  exact ⟨⟨a2, c2, l2, rfl, hi2, hl2⟩, kk kpD hkp⟩
              case rest =>
                obtain ⟨hgd, hkc⟩ := hcut
                have HGD := Lib.hid hgd
                have HKC := Lib.hid hkc
                clear hgd hkc
                go_upto_region 15 with fail
                have HBD := Lib.hid (show ∀ w', Kp wc.drew w' → BoxV w' db (fun b => b < wc.drew.heap.size) (deepV 5) from fun w' hk => (HDP.out.kp (kk HKC.out kpD)).lt.kp hk)
                have HBW := Lib.hid (show ∀ w', Kp wc.drew w' → BoxT w' (db + 1) (fun b => b < wc.drew.heap.size) (wideL 8) from fun w' hk => (HWD.out.kp (kk HKC.out kpD)).lt.kp hk)
                have hnb : ¬ 9223372036854775807 < b.size + 1 := by omega
                have hbm2 : (b ++ ⟨#[120]⟩ : ByteArray).size ≤ maxLen := by rw [ByteArray.size_append]; show b.size + 1 ≤ _; unfold maxLen; omega
                go_cut [8] from 94 to 139 (fun s wx => RowS wx s (badL b) ∧ Kp wc wx)
                case first =>
                  refine region_ri (by kernel_rfl)
                    [(94, none, .val (intV (-2147483649))), (95, none, .val (intV 2147483648)), (96, none, .is (.string b)), (97, none, .is (.string (b ++ ⟨#[120]⟩))), (98, none, .val (txtV (b ++ ⟨#[120]⟩))), (99, none, .val (txtV ⟨#[10]⟩)), (100, none, .val (txtV ⟨#[127]⟩)), (101, none, .val (intV 0)), (102, none, .val (tagV 8 (intV 0))), (103, none, .val (intV 0)), (104, none, .val (tagV (-1) (intV 0))), (105, none, .val (deepV 5)), (106, none, .row [deepV 5]), (107, none, .val (tupV [deepV 5])), (108, some 17, .own wc.heap.size []), (109, none, .is (.pointer (some ⟨db + 1, 3, none⟩))), (110, none, .row (wideL 8)), (111, some 20, .own wc.heap.size (wideL 8)), (112, none, .val (intV 8)), (113, none, .row [intV 8]), (114, none, .outRow (wideL 9)), (115, none, .out (tupV (wideL 9))), (116, none, .val (tupV (wideL 8))), (117, none, .val (tupV (wideL 8))), (118, none, .val (tupV (wideL 8))), (119, none, .val (tupV (wideL 8))), (120, none, .val (tupV (wideL 8))), (121, none, .val (tupV (wideL 8))), (122, none, .val (tupV (wideL 8))), (123, none, .row (List.replicate 7 (tupV (wideL 8)))), (124, none, .val (tupV (List.replicate 7 (tupV (wideL 8))))), (125, none, .val (.mk 4 0 ⟨#[]⟩ none 0 [])), (126, none, .val (.mk (-1) 0 ⟨#[]⟩ none 0 [])), (127, none, .val (.mk 0 0 ⟨#[97]⟩ none 0 [])), (128, none, .val (intV 0)), (129, none, .row [intV 0]), (130, none, .val (.mk 0 0 ⟨#[]⟩ none 0 [intV 0])), (131, none, .val (.mk 1 1 ⟨#[]⟩ none 0 [])), (132, none, .val (.mk 2 1 ⟨#[]⟩ none 0 [])), (133, none, .val (.mk 3 0 ⟨#[]⟩ none 0 [])), (134, none, .val (intV 0)), (135, none, .val (intV 0)), (136, none, .row [intV 0, intV 0]), (137, none, .val (.mk 3 0 ⟨#[]⟩ none 0 [intV 0, intV 0])), (138, none, .val (.mk 2 0 ⟨#[97]⟩ none 0 [])), (139, none, .outRow (badL b)), (8, none, .outRow (badL b))] [108, 111] (by kernel_rfl) (by kernel_rfl) rfl rfl ?_ ?_
                  · refine each_cons ?_ (each_cons ?_ (each_cons ?_ (each_cons ?_ (each_cons ?_ (each_cons ?_ (each_cons ?_ (each_cons ?_ (each_cons ?_ (each_cons ?_ (each_cons ?_ (each_cons ?_ (each_cons ?_ (each_cons ?_ (each_cons ?_ (each_cons ?_ (each_cons ?_ (each_cons ?_ (each_cons ?_ (each_cons ?_ (each_cons ?_ (each_cons ?_ (each_cons ?_ (each_cons ?_ (each_cons ?_ (each_cons ?_ (each_cons ?_ (each_cons ?_ (each_cons ?_ (each_cons ?_ (each_cons ?_ (each_cons ?_ (each_cons ?_ (each_cons ?_ (each_cons ?_ (each_cons ?_ (each_cons ?_ (each_cons ?_ (each_cons ?_ (each_cons ?_ (each_cons ?_ (each_cons ?_ (each_cons ?_ (each_cons ?_ (each_cons ?_ (each_cons ?_ (each_cons ?_ (each_nil)))))))))))))))))))))))))))))))))))))))))))))))
                    all_goals intro listed a' w' K hin h ho hun hdeps hK hrest hgot hfin hfin2
                    · go_simp
                      refine (int_any _ _).mono ?_
                      rintro e w2 ⟨rfl, hk2⟩
                      exact hfin _ _ _ _ _ rfl hk2 rfl (fact_int _ _ _ (i64c _ (by omega)))
                    · go_simp
                      refine (int_any _ _).mono ?_
                      rintro e w2 ⟨rfl, hk2⟩
                      exact hfin _ _ _ _ _ rfl hk2 rfl (fact_int _ _ _ (i64c _ (by omega)))
                    · have s1 : a'.tmps.getD 1 undef = .string b := hrest 1 rfl
                      go_simp
                      exact hfin _ _ _ _ _ rfl (Below.refl _ _) rfl rfl
                    · have s1 : a'.tmps.getD 96 undef = .string b := hgot 2 96 _ rfl rfl
                      rw [Array.getD_eq_getD_getElem?] at s1
                      go_simp
                      exact hfin _ _ _ _ _ rfl (Below.refl _ _) rfl rfl
                    · have s1 : a'.tmps.getD 97 undef = .string (b ++ ⟨#[120]⟩) := hgot 3 97 _ rfl rfl
                      go_simp
                      refine (text_any _ _).mono ?_
                      rintro e w2 ⟨rfl, hk2⟩
                      exact hfin _ _ _ _ _ rfl hk2 rfl (fact_text _ _ _ hbm2)
                    · go_simp
                      refine (text_any _ _).mono ?_
                      rintro e w2 ⟨rfl, hk2⟩
                      exact hfin _ _ _ _ _ rfl hk2 rfl (fact_text _ _ _ (by unfold maxLen; decide))
                    · go_simp
                      refine (text_any _ _).mono ?_
                      rintro e w2 ⟨rfl, hk2⟩
                      exact hfin _ _ _ _ _ rfl hk2 rfl (fact_text _ _ _ (by unfold maxLen; decide))
                    · go_simp
                      refine (int_any _ _).mono ?_
                      rintro e w2 ⟨rfl, hk2⟩
                      exact hfin _ _ _ _ _ rfl hk2 rfl (fact_int _ _ _ (i64c _ (by omega)))
                    · obtain ⟨⟨xk, xn, xs, xa, xc, xl⟩, hx, hxi, hxf, hxs⟩ := hgot 7 101 _ rfl rfl
                      rw [V.val_mk] at hx
                      go_simp
                      refine (tag_any _ _ _ _ _ _ _ _).mono ?_
                      rintro e w2 ⟨q, rfl, hq, hqz, hk2⟩
                      exact hfin _ _ _ _ _ rfl hk2 rfl (fact_tag (i64c _ (by omega)) hk2 hxi hxf hxs (h.fresh hqz) hq)
                    · go_simp
                      refine (int_any _ _).mono ?_
                      rintro e w2 ⟨rfl, hk2⟩
                      exact hfin _ _ _ _ _ rfl hk2 rfl (fact_int _ _ _ (i64c _ (by omega)))
                    · obtain ⟨⟨xk, xn, xs, xa, xc, xl⟩, hx, hxi, hxf, hxs⟩ := hgot 9 103 _ rfl rfl
                      rw [V.val_mk] at hx
                      go_simp
                      refine (tag_any _ _ _ _ _ _ _ _).mono ?_
                      rintro e w2 ⟨q, rfl, hq, hqz, hk2⟩
                      exact hfin _ _ _ _ _ rfl hk2 rfl (fact_tag (i64c _ (by omega)) hk2 hxi hxf hxs (h.fresh hqz) hq)
                    · have s1 : a'.tmps.getD 2 undef = .pointer (some ⟨db, 0, none⟩) := hrest 2 rfl
                      obtain ⟨⟨xk, xn, xs, xa, xc, xl⟩, hx, hxi, hxf, hxs⟩ := HBD.out w' h.kp
                      dsimp only [V.k, V.n, V.s, V.a, V.l, V.cap] at hx
                      obtain ⟨c0, c1, c2, c3, -⟩ := cell4 hx
                      go_simp
                      exact hfin _ _ _ _ _ rfl (Below.refl _ _) rfl ⟨_, rfl, hxi, V.foot.mono (fun b hb => h.old hb) _ hxf, hxs⟩
                    · obtain ⟨x0, hx0, hi0, hf0, hs0⟩ := hgot 11 105 _ rfl rfl
                      simp only [V.val] at hx0
                      rw [Array.getD_eq_getD_getElem?] at hx0
                      go_simp
                      refine hfin _ _ _ _ _ rfl (ka _ _) rfl (fact_row (n := 1) (xs := [x0]) ?_ rfl (by unfold maxLen; omega) ⟨hi0, trivial⟩ ⟨hf0, trivial⟩ (h.fresh (Nat.le_refl _)) (sameL_cons hs0 (rfl)))
                      simp [cellsL, V.cells4]
                    · obtain ⟨ra, rc, rl, hr, hri, hrf, hrs⟩ := hgot 12 106 _ rfl rfl
                      go_simp
                      refine (tuple_any _ _ _ _).mono ?_
                      rintro e w2 ⟨rfl, hk2⟩
                      exact hfin _ _ _ _ _ rfl hk2 rfl (fact_tuple hk2 ⟨_, _, _, rfl, hri, hrf, hrs⟩)
                    · go_simp
                      have hbs : wc.heap.size ≤ w'.heap.size := h.kp.size
                      exact hfin2 108 _ _ _ _ rfl (by simp) (kk h.kp (ka _ _)) (.inl (ka _ _)) (fun _ b hb => by
                        have : w'.heap.size = b := by simpa [Value.ownBlock] using hb
                        exact ⟨.inl (by omega), by simp; omega⟩) (fun _ => ⟨[], ⟨rfl, .inr ⟨w'.heap.size, 0, #[], rfl, hbs, blockHere rfl, Nat.le_refl _, by unfold maxLen; omega, rfl, rfl⟩⟩, trivial, trivial, rfl⟩)
                    · have s1 : a'.tmps.getD 3 undef = .pointer (some ⟨db + 1, 0, none⟩) := hrest 3 rfl
                      rw [Array.getD_eq_getD_getElem?] at s1
                      go_simp
                      exact hfin _ _ _ _ _ rfl (Below.refl _ _) rfl rfl
                    · have s1 : a'.tmps.getD 109 undef = .pointer (some ⟨db + 1, 3, none⟩) := hgot 15 109 _ rfl rfl
                      obtain ⟨ra, rc, rl, hx, hri, hrf, hrs⟩ := HBW.out w' h.kp
                      obtain ⟨c0, c1, c2, c3, -⟩ := cell4 hx
                      go_simp
                      exact hfin _ _ _ _ _ rfl (Below.refl _ _) rfl ⟨_, _, _, rfl, hri, V.foot.mono (fun b hb => h.old hb) _ hrf, hrs⟩
                    · have hbs : wc.heap.size ≤ w'.heap.size := h.kp.size
                      have hu := unlisted hun
                      obtain ⟨xs, hown, hxi, hxf, hxs⟩ := h.holds 14 108 (some 17) _ rfl (hdeps ⟨14, .data⟩ (by simp) rfl) (fun t ht => by cases ht; exact hu)
                      obtain ⟨ra, rc, rl, hr, hri, hrf, hrs⟩ := hgot 16 110 _ rfl rfl
                      obtain rfl : xs = [] := by cases xs with
                        | nil => rfl
                        | cons x xs => simp [V.sameL] at hxs
                      have hl8 : rl.length = 8 := by rw [V.sameL_length _ _ hrs]; simp [wideL]
                      obtain ⟨ad, rfl, hcl⟩ := row_cells hri (by omega)
                      rw [hl8] at hr
                      refine step_append_lies _ rfl (.tmp 108) (.tmp 110) 22 rfl wc.heap.size 24 i0 _ 4 56 Tryz.underlying22 hi hz0 hz1 hz2 rfl (by omega) (a'.tmps.getD 108 undef) 0 [] rfl hown ad 8 rc (cellsL rl) hr (by rw [cellsL_length, hl8]) hcl (cellsL_oneK rl) (by omega) (by unfold maxLen; omega) (by omega) hbs _ rfl ?_
                      intro g cap w2 hown2 hgrow hat hltg
                      have hmv : ∀ b, b < w'.heap.size → Av [108, 111] a' b → w2.heap[b]? = w'.heap[b]? := fun b hb hv => hgrow.block b hb (Ne.symm (hv 108 (by simp)))
                      have hsz2 : w'.heap.size ≤ w2.heap.size := by obtain ⟨_, _, _, h4, _⟩ := hgrow; exact h4
                      refine hfin2 111 _ _ _ _ rfl hsz2 (kp_grown h.kp hgrow (fun k e => (hown.lt k e).1)) (.inr ⟨hmv, hot_of (ended := []) (unl := [20, 21, 45, 46]) (by kernel_rfl) (fun t ht => by cases ht) ?hunl⟩) (fun _ b hb => ?hav) (fun hnar => ?hF)
                      case hunl =>
                        have u20 := h.unl 20 17 (by kernel_rfl) hu
                        have u21 := h.unl 21 20 (by kernel_rfl) u20
                        have u45 := h.unl 45 21 (by kernel_rfl) u21
                        have u46 := h.unl 46 45 (by kernel_rfl) u45
                        intro j hj
                        simp only [List.mem_cons, List.not_mem_nil, or_false] at hj
                        rcases hj with rfl | rfl | rfl | rfl <;> assumption
                      case hav =>
                        have hgb : g = b := by simpa [Value.ownBlock] using hb
                        subst hgb
                        refine ⟨?_, hltg⟩
                        rcases hat with h1 | h1
                        · exact .inr fun hA => hA 108 (by simp) h1
                        · exact .inl (by omega)
                      case hF => exact ⟨rl, by simpa [hl8] using hown2, V.InL.move hsz2 hmv rl (row_parts hri) (foot_parts hrf), V.footL.mono (fun b hb => hnar b hb.1 hb.2) rl (V.InL.foot_lt rl (row_parts hri) (foot_parts hrf)), hrs⟩
                    · go_simp
                      refine (int_any _ _).mono ?_
                      rintro e w2 ⟨rfl, hk2⟩
                      exact hfin _ _ _ _ _ rfl hk2 rfl (fact_int _ _ _ (i64c _ (by omega)))
                    · obtain ⟨x0, hx0, hi0, hf0, hs0⟩ := hgot 18 112 _ rfl rfl
                      simp only [V.val] at hx0
                      rw [Array.getD_eq_getD_getElem?] at hx0
                      go_simp
                      refine hfin _ _ _ _ _ rfl (ka _ _) rfl (fact_row (n := 1) (xs := [x0]) ?_ rfl (by unfold maxLen; omega) ⟨hi0, trivial⟩ ⟨hf0, trivial⟩ (h.fresh (Nat.le_refl _)) (sameL_cons hs0 (rfl)))
                      simp [cellsL, V.cells4]
                    · have hbs : wc.heap.size ≤ w'.heap.size := h.kp.size
                      have hu := unlisted hun
                      have l17 := hdeps ⟨17, .data⟩ (by simp) rfl
                      obtain ⟨xs, hown, hxi, hxf, hxs⟩ := h.holds 17 111 (some 20) _ rfl l17 (fun t ht => by cases ht; exact hu)
                      obtain ⟨ra, rc, rl, hr, hri, hrf, hrs⟩ := hgot 19 113 _ rfl rfl
                      have hx8 : xs.length = 8 := by rw [V.sameL_length _ _ hxs]; simp [wideL]
                      have hl1 : rl.length = 1 := by rw [V.sameL_length _ _ hrs]; rfl
                      obtain ⟨ad, rfl, hcl⟩ := row_cells hri (by omega)
                      rw [hl1] at hr
                      refine step_append_lies _ rfl (.tmp 111) (.tmp 113) 22 rfl wc.heap.size 24 i0 _ 4 56 Tryz.underlying22 hi hz0 hz1 hz2 rfl (by omega) (a'.tmps.getD 111 undef) xs.length (cellsL xs) rfl hown ad 1 rc (cellsL rl) hr (by rw [cellsL_length, hl1]) hcl (cellsL_oneK rl) (by omega) (by unfold maxLen; omega) (by omega) hbs _ rfl ?_
                      intro g cap w2 hown2 hgrow hat hltg
                      have hmv : ∀ b, b < w'.heap.size → Av [108, 111] a' b → w2.heap[b]? = w'.heap[b]? := fun b hb hv => hgrow.block b hb (Ne.symm (hv 111 (by simp)))
                      have hsz2 : w'.heap.size ≤ w2.heap.size := by obtain ⟨_, _, _, h4, _⟩ := hgrow; exact h4
                      refine hfin2 114 _ _ _ _ rfl hsz2 (kp_grown h.kp hgrow (fun k e => (hown.lt k e).1)) (.inr ⟨hmv, hot_of (ended := [17]) (unl := [21, 45, 46]) (by kernel_rfl) (fun t ht => by simp at ht; exact ht ▸ l17) ?hunl⟩) (fun hd => by simp at hd) (fun _ => ?hF)
                      case hunl =>
                        have u21 := h.unl 21 20 (by kernel_rfl) hu
                        have u45 := h.unl 45 21 (by kernel_rfl) u21
                        have u46 := h.unl 46 45 (by kernel_rfl) u45
                        intro j hj
                        simp only [List.mem_cons, List.not_mem_nil, or_false] at hj
                        rcases hj with rfl | rfl | rfl <;> assumption
                      case hF =>
                        obtain ⟨z, rfl⟩ : ∃ z, rl = [z] := List.length_eq_one_iff.1 hl1
                        have hzs : z.same (intV 8) = true := by simpa [V.sameL] using hrs
                        have hil : V.InL w2 w2.heap.size (xs ++ [z]) := V.InL_snoc (V.InL.move hsz2 hmv xs hxi hxf) (V.InL.move hsz2 hmv [z] (row_parts hri) (foot_parts hrf)).1
                        refine ⟨some ⟨g, 0, none⟩, cap, xs ++ [z], by simp, own_row (base := wc.heap.size) (n := xs.length + 1) (by rw [show cellsL (xs ++ [z]) = cellsL xs ++ cellsL [z] from by simp [cellsL]]; exact hown2) hil (by simp), ?_⟩
                        exact V.sameL_snoc hxs hzs
                    · obtain ⟨ra, rc, rl, hr, hri, hrs⟩ := hgot 20 114 _ rfl rfl
                      go_simp
                      refine (tuple_any _ _ _ _).mono ?_
                      rintro e w2 ⟨rfl, hk2⟩
                      exact hfin _ _ _ _ _ rfl hk2 rfl (fact_outTuple hk2 ⟨_, _, _, rfl, hri, hrs⟩)
                    · have s1 : a'.tmps.getD 3 undef = .pointer (some ⟨db + 1, 0, none⟩) := hrest 3 rfl
                      obtain ⟨ra, rc, rl, hx, hri, hrf, hrs⟩ := HBW.out w' h.kp
                      obtain ⟨c0, c1, c2, c3, -⟩ := cell4 hx
                      go_simp
                      exact hfin _ _ _ _ _ rfl (Below.refl _ _) rfl ⟨_, rfl, hri, V.foot.mono (fun b hb => h.old hb) _ hrf, V.same_node hrs⟩
                    · have s1 : a'.tmps.getD 3 undef = .pointer (some ⟨db + 1, 0, none⟩) := hrest 3 rfl
                      obtain ⟨ra, rc, rl, hx, hri, hrf, hrs⟩ := HBW.out w' h.kp
                      obtain ⟨c0, c1, c2, c3, -⟩ := cell4 hx
                      go_simp
                      exact hfin _ _ _ _ _ rfl (Below.refl _ _) rfl ⟨_, rfl, hri, V.foot.mono (fun b hb => h.old hb) _ hrf, V.same_node hrs⟩
                    · have s1 : a'.tmps.getD 3 undef = .pointer (some ⟨db + 1, 0, none⟩) := hrest 3 rfl
                      obtain ⟨ra, rc, rl, hx, hri, hrf, hrs⟩ := HBW.out w' h.kp
                      obtain ⟨c0, c1, c2, c3, -⟩ := cell4 hx
                      go_simp
                      exact hfin _ _ _ _ _ rfl (Below.refl _ _) rfl ⟨_, rfl, hri, V.foot.mono (fun b hb => h.old hb) _ hrf, V.same_node hrs⟩
                    · have s1 : a'.tmps.getD 3 undef = .pointer (some ⟨db + 1, 0, none⟩) := hrest 3 rfl
                      obtain ⟨ra, rc, rl, hx, hri, hrf, hrs⟩ := HBW.out w' h.kp
                      obtain ⟨c0, c1, c2, c3, -⟩ := cell4 hx
                      go_simp
                      exact hfin _ _ _ _ _ rfl (Below.refl _ _) rfl ⟨_, rfl, hri, V.foot.mono (fun b hb => h.old hb) _ hrf, V.same_node hrs⟩
                    · have s1 : a'.tmps.getD 3 undef = .pointer (some ⟨db + 1, 0, none⟩) := hrest 3 rfl
                      obtain ⟨ra, rc, rl, hx, hri, hrf, hrs⟩ := HBW.out w' h.kp
                      obtain ⟨c0, c1, c2, c3, -⟩ := cell4 hx
                      go_simp
                      exact hfin _ _ _ _ _ rfl (Below.refl _ _) rfl ⟨_, rfl, hri, V.foot.mono (fun b hb => h.old hb) _ hrf, V.same_node hrs⟩
                    · have s1 : a'.tmps.getD 3 undef = .pointer (some ⟨db + 1, 0, none⟩) := hrest 3 rfl
                      obtain ⟨ra, rc, rl, hx, hri, hrf, hrs⟩ := HBW.out w' h.kp
                      obtain ⟨c0, c1, c2, c3, -⟩ := cell4 hx
                      go_simp
                      exact hfin _ _ _ _ _ rfl (Below.refl _ _) rfl ⟨_, rfl, hri, V.foot.mono (fun b hb => h.old hb) _ hrf, V.same_node hrs⟩
                    · have s1 : a'.tmps.getD 3 undef = .pointer (some ⟨db + 1, 0, none⟩) := hrest 3 rfl
                      obtain ⟨ra, rc, rl, hx, hri, hrf, hrs⟩ := HBW.out w' h.kp
                      obtain ⟨c0, c1, c2, c3, -⟩ := cell4 hx
                      go_simp
                      exact hfin _ _ _ _ _ rfl (Below.refl _ _) rfl ⟨_, rfl, hri, V.foot.mono (fun b hb => h.old hb) _ hrf, V.same_node hrs⟩
                    · obtain ⟨x0, hx0, hi0, hf0, hs0⟩ := hgot 22 116 _ rfl rfl
                      obtain ⟨x1, hx1, hi1, hf1, hs1⟩ := hgot 23 117 _ rfl rfl
                      obtain ⟨x2, hx2, hi2, hf2, hs2⟩ := hgot 24 118 _ rfl rfl
                      obtain ⟨x3, hx3, hi3, hf3, hs3⟩ := hgot 25 119 _ rfl rfl
                      obtain ⟨x4, hx4, hi4, hf4, hs4⟩ := hgot 26 120 _ rfl rfl
                      obtain ⟨x5, hx5, hi5, hf5, hs5⟩ := hgot 27 121 _ rfl rfl
                      obtain ⟨x6, hx6, hi6, hf6, hs6⟩ := hgot 28 122 _ rfl rfl
                      simp only [V.val] at hx0 hx1 hx2 hx3 hx4 hx5 hx6
                      rw [Array.getD_eq_getD_getElem?] at hx0
                      rw [Array.getD_eq_getD_getElem?] at hx1
                      rw [Array.getD_eq_getD_getElem?] at hx2
                      rw [Array.getD_eq_getD_getElem?] at hx3
                      rw [Array.getD_eq_getD_getElem?] at hx4
                      rw [Array.getD_eq_getD_getElem?] at hx5
                      rw [Array.getD_eq_getD_getElem?] at hx6
                      go_simp
                      refine hfin _ _ _ _ _ rfl (ka _ _) rfl (fact_row (n := 7) (xs := [x0, x1, x2, x3, x4, x5, x6]) ?_ rfl (by unfold maxLen; omega) ⟨hi0, hi1, hi2, hi3, hi4, hi5, hi6, trivial⟩ ⟨hf0, hf1, hf2, hf3, hf4, hf5, hf6, trivial⟩ (h.fresh (Nat.le_refl _)) (sameL_cons hs0 (sameL_cons hs1 (sameL_cons hs2 (sameL_cons hs3 (sameL_cons hs4 (sameL_cons hs5 (sameL_cons hs6 (rfl)))))))))
                      simp [cellsL, V.cells4]
                    · obtain ⟨ra, rc, rl, hr, hri, hrf, hrs⟩ := hgot 29 123 _ rfl rfl
                      go_simp
                      refine (tuple_any _ _ _ _).mono ?_
                      rintro e w2 ⟨rfl, hk2⟩
                      exact hfin _ _ _ _ _ rfl hk2 rfl (fact_tuple hk2 ⟨_, _, _, rfl, hri, hrf, hrs⟩)
                    · go_simp
                      exact hfin _ _ _ _ _ rfl (Below.refl _ _) rfl (fact_leaf _ _ _ _ _ (i64c _ (by omega)) (i64c _ (by omega)) z0)
                    · go_simp
                      exact hfin _ _ _ _ _ rfl (Below.refl _ _) rfl (fact_leaf _ _ _ _ _ (i64c _ (by omega)) (i64c _ (by omega)) z0)
                    · go_simp
                      exact hfin _ _ _ _ _ rfl (Below.refl _ _) rfl (fact_leaf _ _ _ _ _ (i64c _ (by omega)) (i64c _ (by omega)) (by unfold maxLen; decide))
                    · go_simp
                      exact hfin _ _ _ _ _ rfl (Below.refl _ _) rfl (fact_leaf _ _ _ _ _ (i64c _ (by omega)) (i64c _ (by omega)) z0)
                    · obtain ⟨x0, hx0, hi0, hf0, hs0⟩ := hgot 34 128 _ rfl rfl
                      simp only [V.val] at hx0
                      rw [Array.getD_eq_getD_getElem?] at hx0
                      go_simp
                      refine hfin _ _ _ _ _ rfl (ka _ _) rfl (fact_row (n := 1) (xs := [x0]) ?_ rfl (by unfold maxLen; omega) ⟨hi0, trivial⟩ ⟨hf0, trivial⟩ (h.fresh (Nat.le_refl _)) (sameL_cons hs0 (rfl)))
                      simp [cellsL, V.cells4]
                    · obtain ⟨ra, rc, rl, hr, hri, hrf, hrs⟩ := hgot 35 129 _ rfl rfl
                      rw [Array.getD_eq_getD_getElem?] at hr
                      go_simp
                      exact hfin _ _ _ _ _ rfl (Below.refl _ _) rfl (fact_node _ _ _ (i64c _ (by omega)) (i64c _ (by omega)) z0 ⟨_, _, _, rfl, hri, hrf, hrs⟩)
                    · go_simp
                      exact hfin _ _ _ _ _ rfl (Below.refl _ _) rfl (fact_leaf _ _ _ _ _ (i64c _ (by omega)) (i64c _ (by omega)) z0)
                    · go_simp
                      exact hfin _ _ _ _ _ rfl (Below.refl _ _) rfl (fact_leaf _ _ _ _ _ (i64c _ (by omega)) (i64c _ (by omega)) z0)
                    · go_simp
                      exact hfin _ _ _ _ _ rfl (Below.refl _ _) rfl (fact_leaf _ _ _ _ _ (i64c _ (by omega)) (i64c _ (by omega)) z0)
                    · go_simp
                      exact hfin _ _ _ _ _ rfl (Below.refl _ _) rfl (fact_leaf _ _ _ _ _ (i64c _ (by omega)) (i64c _ (by omega)) z0)
                    · go_simp
                      exact hfin _ _ _ _ _ rfl (Below.refl _ _) rfl (fact_leaf _ _ _ _ _ (i64c _ (by omega)) (i64c _ (by omega)) z0)
                    · obtain ⟨x0, hx0, hi0, hf0, hs0⟩ := hgot 40 134 _ rfl rfl
                      obtain ⟨x1, hx1, hi1, hf1, hs1⟩ := hgot 41 135 _ rfl rfl
                      simp only [V.val] at hx0 hx1
                      rw [Array.getD_eq_getD_getElem?] at hx0
                      rw [Array.getD_eq_getD_getElem?] at hx1
                      go_simp
                      refine hfin _ _ _ _ _ rfl (ka _ _) rfl (fact_row (n := 2) (xs := [x0, x1]) ?_ rfl (by unfold maxLen; omega) ⟨hi0, hi1, trivial⟩ ⟨hf0, hf1, trivial⟩ (h.fresh (Nat.le_refl _)) (sameL_cons hs0 (sameL_cons hs1 (rfl))))
                      simp [cellsL, V.cells4]
                    · obtain ⟨ra, rc, rl, hr, hri, hrf, hrs⟩ := hgot 42 136 _ rfl rfl
                      rw [Array.getD_eq_getD_getElem?] at hr
                      go_simp
                      exact hfin _ _ _ _ _ rfl (Below.refl _ _) rfl (fact_node _ _ _ (i64c _ (by omega)) (i64c _ (by omega)) z0 ⟨_, _, _, rfl, hri, hrf, hrs⟩)
                    · go_simp
                      exact hfin _ _ _ _ _ rfl (Below.refl _ _) rfl (fact_leaf _ _ _ _ _ (i64c _ (by omega)) (i64c _ (by omega)) (by unfold maxLen; decide))
                    · obtain ⟨x0, hx0, hi0, hf0, hs0⟩ := hgot 0 94 _ rfl rfl
                      obtain ⟨x1, hx1, hi1, hf1, hs1⟩ := hgot 1 95 _ rfl rfl
                      obtain ⟨x2, hx2, hi2, hf2, hs2⟩ := hgot 4 98 _ rfl rfl
                      obtain ⟨x3, hx3, hi3, hf3, hs3⟩ := hgot 5 99 _ rfl rfl
                      obtain ⟨x4, hx4, hi4, hf4, hs4⟩ := hgot 6 100 _ rfl rfl
                      obtain ⟨x5, hx5, hi5, hf5, hs5⟩ := hgot 8 102 _ rfl rfl
                      obtain ⟨x6, hx6, hi6, hf6, hs6⟩ := hgot 10 104 _ rfl rfl
                      obtain ⟨x7, hx7, hi7, hf7, hs7⟩ := hgot 13 107 _ rfl rfl
                      obtain ⟨x8, hx8, hi8, hs8⟩ := hgot 21 115 _ rfl rfl
                      obtain ⟨x9, hx9, hi9, hf9, hs9⟩ := hgot 30 124 _ rfl rfl
                      obtain ⟨x10, hx10, hi10, hf10, hs10⟩ := hgot 31 125 _ rfl rfl
                      obtain ⟨x11, hx11, hi11, hf11, hs11⟩ := hgot 32 126 _ rfl rfl
                      obtain ⟨x12, hx12, hi12, hf12, hs12⟩ := hgot 33 127 _ rfl rfl
                      obtain ⟨x13, hx13, hi13, hf13, hs13⟩ := hgot 36 130 _ rfl rfl
                      obtain ⟨x14, hx14, hi14, hf14, hs14⟩ := hgot 37 131 _ rfl rfl
                      obtain ⟨x15, hx15, hi15, hf15, hs15⟩ := hgot 38 132 _ rfl rfl
                      obtain ⟨x16, hx16, hi16, hf16, hs16⟩ := hgot 39 133 _ rfl rfl
                      obtain ⟨x17, hx17, hi17, hf17, hs17⟩ := hgot 43 137 _ rfl rfl
                      obtain ⟨x18, hx18, hi18, hf18, hs18⟩ := hgot 44 138 _ rfl rfl
                      simp only [V.val] at hx0 hx1 hx2 hx3 hx4 hx5 hx6 hx7 hx8 hx9 hx10 hx11 hx12 hx13 hx14 hx15 hx16 hx17 hx18
                      rw [Array.getD_eq_getD_getElem?] at hx0
                      rw [Array.getD_eq_getD_getElem?] at hx1
                      rw [Array.getD_eq_getD_getElem?] at hx2
                      rw [Array.getD_eq_getD_getElem?] at hx3
                      rw [Array.getD_eq_getD_getElem?] at hx4
                      rw [Array.getD_eq_getD_getElem?] at hx5
                      rw [Array.getD_eq_getD_getElem?] at hx6
                      rw [Array.getD_eq_getD_getElem?] at hx7
                      rw [Array.getD_eq_getD_getElem?] at hx8
                      rw [Array.getD_eq_getD_getElem?] at hx9
                      rw [Array.getD_eq_getD_getElem?] at hx10
                      rw [Array.getD_eq_getD_getElem?] at hx11
                      rw [Array.getD_eq_getD_getElem?] at hx12
                      rw [Array.getD_eq_getD_getElem?] at hx13
                      rw [Array.getD_eq_getD_getElem?] at hx14
                      rw [Array.getD_eq_getD_getElem?] at hx15
                      rw [Array.getD_eq_getD_getElem?] at hx16
                      rw [Array.getD_eq_getD_getElem?] at hx17
                      rw [Array.getD_eq_getD_getElem?] at hx18
                      go_simp
                      refine hfin _ _ _ _ _ rfl (ka _ _) rfl (fact_outRow (n := 19) (xs := [x0, x1, x2, x3, x4, x5, x6, x7, x8, x9, x10, x11, x12, x13, x14, x15, x16, x17, x18]) ?_ rfl (by unfold maxLen; omega) ⟨hi0, hi1, hi2, hi3, hi4, hi5, hi6, hi7, hi8, hi9, hi10, hi11, hi12, hi13, hi14, hi15, hi16, hi17, hi18, trivial⟩ (sameL_cons hs0 (sameL_cons hs1 (sameL_cons hs2 (sameL_cons hs3 (sameL_cons hs4 (sameL_cons hs5 (sameL_cons hs6 (sameL_cons hs7 (sameL_cons hs8 (sameL_cons hs9 (sameL_cons hs10 (sameL_cons hs11 (sameL_cons hs12 (sameL_cons hs13 (sameL_cons hs14 (sameL_cons hs15 (sameL_cons hs16 (sameL_cons hs17 (sameL_cons hs18 (rfl)))))))))))))))))))))
                      simp [cellsL, V.cells4]
                    · obtain ⟨ra, rc, rl, hr, hrr⟩ := hgot 45 139 _ rfl rfl
                      go_simp
                      exact hfin _ _ _ _ _ rfl (Below.refl _ _) rfl ⟨_, _, _, rfl, hrr⟩
                  · intro listed a' w' h hall
                    obtain ⟨T, hT, hfr⟩ := h.frame
                    have hg := h.holds 46 8 none _ rfl (hall 46 (of_decide_eq_true (by kernel_rfl))) (fun t ht => by cases ht)
                    have hkp := h.kp
                    rw [hT] at hg
                    clear h hall hT
                    subst hfr
                    simp only [List.map, List.foldl, List.setIfInBounds_toArray, List.set_cons_succ, List.set_cons_zero]
                    go_wp2_with fail
                    go_meet
                    exact ⟨hg, kk kpD hkp⟩
                case rest =>
                  obtain ⟨hbd, hk15⟩ := hcut
                  obtain ⟨ga, gc, gl, rfl, hgi, hgs⟩ := HGD.out.kp hk15
                  obtain ⟨ba, bc, bl, rfl, hbi, hbs⟩ := hbd
                  have hgl : gl.length = 9 := by rw [V.sameL_length _ _ hgs]; rfl
                  have hbl : bl.length = 19 := by rw [V.sameL_length _ _ hbs]; rfl
                  rw [hgl, hbl]
                  have hkw := kk HK.out (kk HKC.out hk15)
                  have hTB := tb.keep hkw hkw.size
                  have hEB := eb.keep hkw hkw.size
                  have HG := Lib.hid hgi
                  have HGS := Lib.hid hgs
                  have HBI := Lib.hid hbi
                  have HBS := Lib.hid hbs
                  have HKW := Lib.hid hkw
                  have HTB := Lib.hid hTB
                  have HEB := Lib.hid hEB
                  have HBL := Lib.hid hbl
                  have HGL := Lib.hid hgl
                  clear hgi hgs hbi hbs hkw hTB hEB hk15 HK HKC HGD HBD HBW HWD HDP hbl hgl
                  go_wp2_with fail
                  go_loopw [9] (fun i wr => ∃ j : Nat, j ≤ 9 ∧ i = .int .i64 j ∧ Kp wc wr) (fun i _ => 9 - (intOf i).toNat)
                  case atStart => exact ⟨0, by omega, rfl, Below.refl _ _⟩
                  case round =>
                    obtain ⟨j, hj, rfl, hk⟩ := hrel
                    by_cases hlt : j < 9
                    · obtain ⟨x, hx⟩ : ∃ x, gl[j]? = some x := ⟨gl[j]'(by rw [HGL.out]; exact hlt), by simp⟩
                      obtain ⟨y, hy, hxy⟩ := same_part HGS.out hx
                      have hv : x.valid = true := by
                        rw [same_valid hxy]
                        have hm := List.mem_of_getElem? hy
                        rw [HLN.out.2] at hm
                        exact List.all_eq_true.1 goodOk y hm
                      obtain ⟨p0, off, rfl, hp0, q0, q1, q2, q3, hxin⟩ := V.atPart HG.out hx
                      have r0 := kc hk q0
                      have r1 := kc hk q1
                      have r2 := kc hk q2
                      have r3 := kc hk q3
                      have C := checkOk x wr (hxin.keep hk.size hk)
                      rw [hv] at C
                      cases x with
                      | mk xk xn xs xa xc xl =>
                      rw [V.val_mk] at C
                      dsimp only [V.k, V.n, V.s, V.a, V.l, V.cap] at r0 r1 r2 r3
                      have HC := Lib.hid C
                      have HK := Lib.hid hk
                      clear C hk hx hy hxy hv q0 q1 q2 q3 hxin
                      go_wp2_with fail
                      refine HC.out.mono ?_
                      rintro e w2 ⟨rfl, hk2⟩
                      have HK2 := Lib.hid (kk HK.out hk2)
                      clear hk2
                      go_wp2_with fail
                      go_roundw
                      case rel => exact ⟨j + 1, by omega, by first | go_num | simp, HK2.out⟩
                      case measure => simp [intOf]; omega
                    · have hji : (j : Int) = 9 := by omega
                      rw [hji]
                      have HK := Lib.hid hk
                      clear hji hlt hj hk
                      go_wp2_with fail
                      have hkb := HK.out
                      rename_i wg
                      go_loopw [10] (fun i wr => ∃ j : Nat, j ≤ 19 ∧ i = .int .i64 j ∧ Kp wc wr) (fun i _ => 19 - (intOf i).toNat)
                      case atStart => exact ⟨0, by omega, rfl, hkb⟩
                      case round =>
                        obtain ⟨j, hj, rfl, hk⟩ := hrel
                        clear hkb HK
                        by_cases hlt : j < 19
                        · obtain ⟨x, hx⟩ : ∃ x, bl[j]? = some x := ⟨bl[j]'(by rw [HBL.out]; exact hlt), by simp⟩
                          obtain ⟨y, hy, hxy⟩ := same_part HBS.out hx
                          have hv : x.valid = false := by
                            rw [same_valid hxy]
                            have hm := List.mem_of_getElem? hy
                            rw [HLN.out.2] at hm
                            simpa using List.all_eq_true.1 badOk y hm
                          have hcn : x.cnt = 0 := (cnt_valid x).2 hv
                          obtain ⟨p0, off, rfl, hp0, q0, q1, q2, q3, hxin⟩ := V.atPart HBI.out hx
                          have A := fun (w1 : World) (h : Kp wc w1) => And.intro (kc h q0) (And.intro (kc h q1) (And.intro (kc h q2) (kc h q3)))
                          have zin : ∀ w1 : World, (intV 0).In w1 w1.heap.size := fun w1 => inLeaf _ _ _ (by unfold I64; omega) (by unfold I64; omega) z0
                          have S : ∀ w1 : World, Kp wc w1 → Calls Tryz.prog 13 #[x.val] w1 fun e w' => e = .returned (.tuple #[.int .i64 0, .int .i64 1]) ∧ Kp w1 w' := fun w1 h => by
                            have := sizeV x.k x.n x.s x.a x.cap x.l w1 (by cases x; exact hxin.keep h.size h)
                            cases x
                            dsimp only [V.k, V.n, V.s, V.a, V.l, V.cap] at this
                            rw [hcn] at this
                            exact this
                          have X : ∀ w1 : World, Kp wc w1 → Calls Tryz.prog 27 #[x.val] w1 fun e w' => e = .returned (.tuple #[.string ⟨#[]⟩, .int .i64 1]) ∧ Kp w1 w' := fun w1 h => by
                            have := textPZ x.k x.n x.s x.a x.cap x.l w1 (by cases x; exact hxin.keep h.size h) (HTB.out.keep h h.size)
                            cases x
                            dsimp only [V.k, V.n, V.s, V.a, V.l, V.cap] at this
                            rw [textOutZ, hv] at this
                            exact this
                          have Y : ∀ w1 : World, Kp wc w1 → Calls Tryz.prog 36 #[x.val] w1 fun e w' => e = .returned (.tuple #[.string ⟨#[]⟩, .int .i64 1]) ∧ Kp w1 w' := fun w1 h => by
                            have := keyP x.k x.n x.s x.a x.cap x.l w1 (by cases x; exact hxin.keep h.size h)
                            cases x
                            dsimp only [V.k, V.n, V.s, V.a, V.l, V.cap] at this
                            rw [keyOut, hv] at this
                            exact this
                          have C1 : ∀ w1 : World, Kp wc w1 → Calls Tryz.prog 25 #[x.val, (intV 0).val] w1 fun e w' => e = .returned (.tuple #[.int .i64 0, .int .i64 1]) ∧ Kp w1 w' := fun w1 h => by
                            have := compare_prog x (intV 0) w1 (hxin.keep h.size h) (zin w1)
                            rw [cmpV, hv] at this
                            exact this
                          have C2 : ∀ w1 : World, Kp wc w1 → Calls Tryz.prog 25 #[(intV 0).val, x.val] w1 fun e w' => e = .returned (.tuple #[.int .i64 0, .int .i64 1]) ∧ Kp w1 w' := fun w1 h => by
                            have := compare_prog (intV 0) x w1 (zin w1) (hxin.keep h.size h)
                            rw [cmpV, hv, Bool.and_false] at this
                            exact this
                          have H : ∀ w1 : World, Kp wc w1 → Calls Tryz.prog 19 #[x.val] w1 fun e w' => e = .returned (.int .i64 1) ∧ Kp w1 w' := fun w1 h => by
                            have := checkOk x w1 (hxin.keep h.size h)
                            rw [hv] at this
                            exact this
                          cases x with
                          | mk xk xn xs xa xc xl =>
                          rw [V.val_mk] at S X Y C1 C2 H
                          dsimp only [V.k, V.n, V.s, V.a, V.l, V.cap, intV, V.val] at A S X Y C1 C2 H
                          obtain ⟨r0, r1, r2, r3⟩ := A wr hk
                          have HA := Lib.hid A
                          have HS := Lib.hid S
                          have HX := Lib.hid X
                          have HY := Lib.hid Y
                          have HC1 := Lib.hid C1
                          have HC2 := Lib.hid C2
                          have HH := Lib.hid H
                          have HK := Lib.hid hk
                          clear A S X Y C1 C2 H hk hx hy hxy hv q0 q1 q2 q3 hxin hcn zin
                          go_wp2_with fail
                          refine (HS.out _ HK.out).mono ?_
                          rintro e w2 ⟨rfl, hk2⟩
                          have HK2 := Lib.hid (kk HK.out hk2)
                          clear hk2 r0 r1 r2 r3
                          obtain ⟨r0, r1, r2, r3⟩ := HA.out _ HK2.out
                          go_wp2_with fail
                          refine (HX.out _ HK2.out).mono ?_
                          rintro e w3 ⟨rfl, hk3⟩
                          have HK3 := Lib.hid (kk HK2.out hk3)
                          clear hk3 r0 r1 r2 r3
                          obtain ⟨r0, r1, r2, r3⟩ := HA.out _ HK3.out
                          go_wp2_with fail
                          refine (HY.out _ HK3.out).mono ?_
                          rintro e w4 ⟨rfl, hk4⟩
                          have HK4 := Lib.hid (kk HK3.out hk4)
                          clear hk4 r0 r1 r2 r3
                          obtain ⟨r0, r1, r2, r3⟩ := HA.out _ HK4.out
                          go_wp2_with fail
                          go_region_held3 (fun w' => w'.cell? ⟨p0, off + j * 4, none⟩ = some (.int .i64 xk) ∧ w'.cell? ⟨p0, off + j * 4 + 1, none⟩ = some (.int .i64 xn) ∧ w'.cell? ⟨p0, off + j * 4 + 2, none⟩ = some (.string xs) ∧ w'.cell? ⟨p0, off + j * 4 + 3, none⟩ = some (.slice xa xl.length xc) ∧ Kp wc w')
                            (first
                              | exact ⟨r0, r1, r2, r3, kk HK4.out kpD⟩
                              | (go_split_ands; exact ⟨kc hkc ‹_›, kc hkc ‹_›, kc hkc ‹_›, kc hkc ‹_›, kk ‹_› hkc⟩)
                              | (go_split_ands; exact ⟨‹_›, ‹_›, ‹_›, ‹_›, ‹_›⟩))
                            (first
                              | (go_at_call 46; refine (int_any _ _).mono ?_; rintro e w5 ⟨rfl, hkc⟩)
                              | (go_at_call 25; refine (HC1.out _ (by first | assumption | (go_split_ands; assumption))).mono ?_; rintro e w5 ⟨rfl, hkc⟩))
                          all_goals
                            go_split_ands
                            have hk5 : Kp wc w5 := by assumption
                            have HK5 := Lib.hid hk5
                            clear r0 r1 r2 r3 hk5
                            obtain ⟨r0, r1, r2, r3⟩ := HA.out _ HK5.out
                            go_wp2_with fail
                            go_region_held3 (fun w' => w'.cell? ⟨p0, off + j * 4, none⟩ = some (.int .i64 xk) ∧ w'.cell? ⟨p0, off + j * 4 + 1, none⟩ = some (.int .i64 xn) ∧ w'.cell? ⟨p0, off + j * 4 + 2, none⟩ = some (.string xs) ∧ w'.cell? ⟨p0, off + j * 4 + 3, none⟩ = some (.slice xa xl.length xc) ∧ Kp wc w')
                              (first
                                | exact ⟨r0, r1, r2, r3, kk HK5.out kpD⟩
                                | (go_split_ands; exact ⟨kc hkc ‹_›, kc hkc ‹_›, kc hkc ‹_›, kc hkc ‹_›, kk ‹_› hkc⟩)
                                | (go_split_ands; exact ⟨‹_›, ‹_›, ‹_›, ‹_›, ‹_›⟩))
                              (first
                                | (go_at_call 46; refine (int_any _ _).mono ?_; rintro e w6 ⟨rfl, hkc⟩)
                                | (go_at_call 25; refine (HC2.out _ (by first | assumption | (go_split_ands; assumption))).mono ?_; rintro e w6 ⟨rfl, hkc⟩))
                          all_goals
                            go_split_ands
                            have hk6 : Kp wc w6 := by assumption
                            have HK6 := Lib.hid hk6
                            clear r0 r1 r2 r3 hk6
                            obtain ⟨r0, r1, r2, r3⟩ := HA.out _ HK6.out
                            go_wp2_with fail
                            refine (HH.out _ HK6.out).mono ?_
                            rintro e w7 ⟨rfl, hk7⟩
                            have HK7 := Lib.hid (kk HK6.out hk7)
                            clear hk7 r0 r1 r2 r3
                            go_wp2_with fail
                            go_roundw
                            case rel => exact ⟨j + 1, by omega, by first | go_num | simp, HK7.out⟩
                            case measure => simp [intOf]; omega
                        · have hji : (j : Int) = 19 := by omega
                          rw [hji]
                          have HK := Lib.hid hk
                          clear hji hlt hj hk HG HGS HBI HBS HBL HGL HLN
                          go_upto_region 31 with fail
                          go_cut [21] from 226 to 251 (fun s wx => RowS wx s orderL ∧ Kp wr wx)
                          case first =>
                            refine region_seq
                              [(226, none, .val (intV (-1))), (227, none, .val (intV 0)), (228, none, .val (intV 7)), (229, none, .val (txtV ⟨#[]⟩)), (230, none, .val (txtV ⟨#[97]⟩)), (231, none, .val (txtV ⟨#[97, 97]⟩)), (232, none, .val (txtV ⟨#[98]⟩)), (233, none, .val (tupV [])), (234, none, .val (intV 1)), (235, none, .row [intV 1]), (236, none, .val (tupV [intV 1])), (237, none, .val (intV 1)), (238, none, .val (intV 0)), (239, none, .row [intV 1, intV 0]), (240, none, .val (tupV [intV 1, intV 0])), (241, none, .val (intV 2)), (242, none, .row [intV 2]), (243, none, .val (tupV [intV 2])), (244, none, .val (txtV ⟨#[]⟩)), (245, none, .row [txtV ⟨#[]⟩]), (246, none, .val (tupV [txtV ⟨#[]⟩])), (247, none, .val (tupV [])), (248, none, .val (tagV 0 (tupV []))), (249, none, .val (intV 5)), (250, none, .val (tagV 1 (intV 5))), (251, none, .row orderL), (21, none, .row orderL)] [] (by kernel_rfl) (by kernel_rfl) rfl rfl ?_ ?_
                            · refine each_cons ?_ (each_cons ?_ (each_cons ?_ (each_cons ?_ (each_cons ?_ (each_cons ?_ (each_cons ?_ (each_cons ?_ (each_cons ?_ (each_cons ?_ (each_cons ?_ (each_cons ?_ (each_cons ?_ (each_cons ?_ (each_cons ?_ (each_cons ?_ (each_cons ?_ (each_cons ?_ (each_cons ?_ (each_cons ?_ (each_cons ?_ (each_cons ?_ (each_cons ?_ (each_cons ?_ (each_cons ?_ (each_cons ?_ (each_cons ?_ (each_nil)))))))))))))))))))))))))))
                              all_goals intro listed a' w' K hin h ho hun hdeps hK hrest hgot hfin hfin2
                              · go_simp
                                refine (int_any _ _).mono ?_
                                rintro e w2 ⟨rfl, hk2⟩
                                exact hfin _ _ _ _ _ rfl hk2 rfl (fact_int _ _ _ (i64c _ (by omega)))
                              · go_simp
                                refine (int_any _ _).mono ?_
                                rintro e w2 ⟨rfl, hk2⟩
                                exact hfin _ _ _ _ _ rfl hk2 rfl (fact_int _ _ _ (i64c _ (by omega)))
                              · go_simp
                                refine (int_any _ _).mono ?_
                                rintro e w2 ⟨rfl, hk2⟩
                                exact hfin _ _ _ _ _ rfl hk2 rfl (fact_int _ _ _ (i64c _ (by omega)))
                              · go_simp
                                refine (text_any _ _).mono ?_
                                rintro e w2 ⟨rfl, hk2⟩
                                exact hfin _ _ _ _ _ rfl hk2 rfl (fact_text _ _ _ z0)
                              · go_simp
                                refine (text_any _ _).mono ?_
                                rintro e w2 ⟨rfl, hk2⟩
                                exact hfin _ _ _ _ _ rfl hk2 rfl (fact_text _ _ _ (by unfold maxLen; decide))
                              · go_simp
                                refine (text_any _ _).mono ?_
                                rintro e w2 ⟨rfl, hk2⟩
                                exact hfin _ _ _ _ _ rfl hk2 rfl (fact_text _ _ _ (by unfold maxLen; decide))
                              · go_simp
                                refine (text_any _ _).mono ?_
                                rintro e w2 ⟨rfl, hk2⟩
                                exact hfin _ _ _ _ _ rfl hk2 rfl (fact_text _ _ _ (by unfold maxLen; decide))
                              · go_simp
                                refine (tuple_any _ _ _ _).mono ?_
                                rintro e w2 ⟨rfl, hk2⟩
                                exact hfin _ _ _ _ _ rfl hk2 rfl (fact_tuple hk2 ⟨none, 0, [], rfl, inLeaf _ _ _ (i64c _ (by omega)) (i64c _ (by omega)) z0, V.foot_leaf _ _ _ _ _, rfl⟩)
                              · go_simp
                                refine (int_any _ _).mono ?_
                                rintro e w2 ⟨rfl, hk2⟩
                                exact hfin _ _ _ _ _ rfl hk2 rfl (fact_int _ _ _ (i64c _ (by omega)))
                              · obtain ⟨x0, hx0, hi0, hf0, hs0⟩ := hgot 8 234 _ rfl rfl
                                simp only [V.val] at hx0
                                rw [Array.getD_eq_getD_getElem?] at hx0
                                go_simp
                                refine hfin _ _ _ _ _ rfl (ka _ _) rfl (fact_row (n := 1) (xs := [x0]) ?_ rfl (by unfold maxLen; omega) ⟨hi0, trivial⟩ ⟨hf0, trivial⟩ (h.fresh (Nat.le_refl _)) (sameL_cons hs0 (rfl)))
                                simp [cellsL, V.cells4]
                              · obtain ⟨ra, rc, rl, hr, hri, hrf, hrs⟩ := hgot 9 235 _ rfl rfl
                                go_simp
                                refine (tuple_any _ _ _ _).mono ?_
                                rintro e w2 ⟨rfl, hk2⟩
                                exact hfin _ _ _ _ _ rfl hk2 rfl (fact_tuple hk2 ⟨_, _, _, rfl, hri, hrf, hrs⟩)
                              · go_simp
                                refine (int_any _ _).mono ?_
                                rintro e w2 ⟨rfl, hk2⟩
                                exact hfin _ _ _ _ _ rfl hk2 rfl (fact_int _ _ _ (i64c _ (by omega)))
                              · go_simp
                                refine (int_any _ _).mono ?_
                                rintro e w2 ⟨rfl, hk2⟩
                                exact hfin _ _ _ _ _ rfl hk2 rfl (fact_int _ _ _ (i64c _ (by omega)))
                              · obtain ⟨x0, hx0, hi0, hf0, hs0⟩ := hgot 11 237 _ rfl rfl
                                obtain ⟨x1, hx1, hi1, hf1, hs1⟩ := hgot 12 238 _ rfl rfl
                                simp only [V.val] at hx0 hx1
                                rw [Array.getD_eq_getD_getElem?] at hx0
                                rw [Array.getD_eq_getD_getElem?] at hx1
                                go_simp
                                refine hfin _ _ _ _ _ rfl (ka _ _) rfl (fact_row (n := 2) (xs := [x0, x1]) ?_ rfl (by unfold maxLen; omega) ⟨hi0, hi1, trivial⟩ ⟨hf0, hf1, trivial⟩ (h.fresh (Nat.le_refl _)) (sameL_cons hs0 (sameL_cons hs1 (rfl))))
                                simp [cellsL, V.cells4]
                              · obtain ⟨ra, rc, rl, hr, hri, hrf, hrs⟩ := hgot 13 239 _ rfl rfl
                                go_simp
                                refine (tuple_any _ _ _ _).mono ?_
                                rintro e w2 ⟨rfl, hk2⟩
                                exact hfin _ _ _ _ _ rfl hk2 rfl (fact_tuple hk2 ⟨_, _, _, rfl, hri, hrf, hrs⟩)
                              · go_simp
                                refine (int_any _ _).mono ?_
                                rintro e w2 ⟨rfl, hk2⟩
                                exact hfin _ _ _ _ _ rfl hk2 rfl (fact_int _ _ _ (i64c _ (by omega)))
                              · obtain ⟨x0, hx0, hi0, hf0, hs0⟩ := hgot 15 241 _ rfl rfl
                                simp only [V.val] at hx0
                                rw [Array.getD_eq_getD_getElem?] at hx0
                                go_simp
                                refine hfin _ _ _ _ _ rfl (ka _ _) rfl (fact_row (n := 1) (xs := [x0]) ?_ rfl (by unfold maxLen; omega) ⟨hi0, trivial⟩ ⟨hf0, trivial⟩ (h.fresh (Nat.le_refl _)) (sameL_cons hs0 (rfl)))
                                simp [cellsL, V.cells4]
                              · obtain ⟨ra, rc, rl, hr, hri, hrf, hrs⟩ := hgot 16 242 _ rfl rfl
                                go_simp
                                refine (tuple_any _ _ _ _).mono ?_
                                rintro e w2 ⟨rfl, hk2⟩
                                exact hfin _ _ _ _ _ rfl hk2 rfl (fact_tuple hk2 ⟨_, _, _, rfl, hri, hrf, hrs⟩)
                              · go_simp
                                refine (text_any _ _).mono ?_
                                rintro e w2 ⟨rfl, hk2⟩
                                exact hfin _ _ _ _ _ rfl hk2 rfl (fact_text _ _ _ z0)
                              · obtain ⟨x0, hx0, hi0, hf0, hs0⟩ := hgot 18 244 _ rfl rfl
                                simp only [V.val] at hx0
                                rw [Array.getD_eq_getD_getElem?] at hx0
                                go_simp
                                refine hfin _ _ _ _ _ rfl (ka _ _) rfl (fact_row (n := 1) (xs := [x0]) ?_ rfl (by unfold maxLen; omega) ⟨hi0, trivial⟩ ⟨hf0, trivial⟩ (h.fresh (Nat.le_refl _)) (sameL_cons hs0 (rfl)))
                                simp [cellsL, V.cells4]
                              · obtain ⟨ra, rc, rl, hr, hri, hrf, hrs⟩ := hgot 19 245 _ rfl rfl
                                go_simp
                                refine (tuple_any _ _ _ _).mono ?_
                                rintro e w2 ⟨rfl, hk2⟩
                                exact hfin _ _ _ _ _ rfl hk2 rfl (fact_tuple hk2 ⟨_, _, _, rfl, hri, hrf, hrs⟩)
                              · go_simp
                                refine (tuple_any _ _ _ _).mono ?_
                                rintro e w2 ⟨rfl, hk2⟩
                                exact hfin _ _ _ _ _ rfl hk2 rfl (fact_tuple hk2 ⟨none, 0, [], rfl, inLeaf _ _ _ (i64c _ (by omega)) (i64c _ (by omega)) z0, V.foot_leaf _ _ _ _ _, rfl⟩)
                              · obtain ⟨⟨xk, xn, xs, xa, xc, xl⟩, hx, hxi, hxf, hxs⟩ := hgot 21 247 _ rfl rfl
                                rw [V.val_mk] at hx
                                go_simp
                                refine (tag_any _ _ _ _ _ _ _ _).mono ?_
                                rintro e w2 ⟨q, rfl, hq, hqz, hk2⟩
                                exact hfin _ _ _ _ _ rfl hk2 rfl (fact_tag (i64c _ (by omega)) hk2 hxi hxf hxs (h.fresh hqz) hq)
                              · go_simp
                                refine (int_any _ _).mono ?_
                                rintro e w2 ⟨rfl, hk2⟩
                                exact hfin _ _ _ _ _ rfl hk2 rfl (fact_int _ _ _ (i64c _ (by omega)))
                              · obtain ⟨⟨xk, xn, xs, xa, xc, xl⟩, hx, hxi, hxf, hxs⟩ := hgot 23 249 _ rfl rfl
                                rw [V.val_mk] at hx
                                go_simp
                                refine (tag_any _ _ _ _ _ _ _ _).mono ?_
                                rintro e w2 ⟨q, rfl, hq, hqz, hk2⟩
                                exact hfin _ _ _ _ _ rfl hk2 rfl (fact_tag (i64c _ (by omega)) hk2 hxi hxf hxs (h.fresh hqz) hq)
                              · obtain ⟨x0, hx0, hi0, hf0, hs0⟩ := hgot 0 226 _ rfl rfl
                                obtain ⟨x1, hx1, hi1, hf1, hs1⟩ := hgot 1 227 _ rfl rfl
                                obtain ⟨x2, hx2, hi2, hf2, hs2⟩ := hgot 2 228 _ rfl rfl
                                obtain ⟨x3, hx3, hi3, hf3, hs3⟩ := hgot 3 229 _ rfl rfl
                                obtain ⟨x4, hx4, hi4, hf4, hs4⟩ := hgot 4 230 _ rfl rfl
                                obtain ⟨x5, hx5, hi5, hf5, hs5⟩ := hgot 5 231 _ rfl rfl
                                obtain ⟨x6, hx6, hi6, hf6, hs6⟩ := hgot 6 232 _ rfl rfl
                                obtain ⟨x7, hx7, hi7, hf7, hs7⟩ := hgot 7 233 _ rfl rfl
                                obtain ⟨x8, hx8, hi8, hf8, hs8⟩ := hgot 10 236 _ rfl rfl
                                obtain ⟨x9, hx9, hi9, hf9, hs9⟩ := hgot 14 240 _ rfl rfl
                                obtain ⟨x10, hx10, hi10, hf10, hs10⟩ := hgot 17 243 _ rfl rfl
                                obtain ⟨x11, hx11, hi11, hf11, hs11⟩ := hgot 20 246 _ rfl rfl
                                obtain ⟨x12, hx12, hi12, hf12, hs12⟩ := hgot 22 248 _ rfl rfl
                                obtain ⟨x13, hx13, hi13, hf13, hs13⟩ := hgot 24 250 _ rfl rfl
                                simp only [V.val] at hx0 hx1 hx2 hx3 hx4 hx5 hx6 hx7 hx8 hx9 hx10 hx11 hx12 hx13
                                rw [Array.getD_eq_getD_getElem?] at hx0
                                rw [Array.getD_eq_getD_getElem?] at hx1
                                rw [Array.getD_eq_getD_getElem?] at hx2
                                rw [Array.getD_eq_getD_getElem?] at hx3
                                rw [Array.getD_eq_getD_getElem?] at hx4
                                rw [Array.getD_eq_getD_getElem?] at hx5
                                rw [Array.getD_eq_getD_getElem?] at hx6
                                rw [Array.getD_eq_getD_getElem?] at hx7
                                rw [Array.getD_eq_getD_getElem?] at hx8
                                rw [Array.getD_eq_getD_getElem?] at hx9
                                rw [Array.getD_eq_getD_getElem?] at hx10
                                rw [Array.getD_eq_getD_getElem?] at hx11
                                rw [Array.getD_eq_getD_getElem?] at hx12
                                rw [Array.getD_eq_getD_getElem?] at hx13
                                go_simp
                                refine hfin _ _ _ _ _ rfl (ka _ _) rfl (fact_row (n := 14) (xs := [x0, x1, x2, x3, x4, x5, x6, x7, x8, x9, x10, x11, x12, x13]) ?_ rfl (by unfold maxLen; omega) ⟨hi0, hi1, hi2, hi3, hi4, hi5, hi6, hi7, hi8, hi9, hi10, hi11, hi12, hi13, trivial⟩ ⟨hf0, hf1, hf2, hf3, hf4, hf5, hf6, hf7, hf8, hf9, hf10, hf11, hf12, hf13, trivial⟩ (h.fresh (Nat.le_refl _)) (sameL_cons hs0 (sameL_cons hs1 (sameL_cons hs2 (sameL_cons hs3 (sameL_cons hs4 (sameL_cons hs5 (sameL_cons hs6 (sameL_cons hs7 (sameL_cons hs8 (sameL_cons hs9 (sameL_cons hs10 (sameL_cons hs11 (sameL_cons hs12 (sameL_cons hs13 (rfl))))))))))))))))
                                simp [cellsL, V.cells4]
                              · obtain ⟨ra, rc, rl, hr, hrr⟩ := hgot 25 251 _ rfl rfl
                                go_simp
                                exact hfin _ _ _ _ _ rfl (Below.refl _ _) rfl ⟨_, _, _, rfl, hrr⟩
                            · intro listed a' w' h hall
                              obtain ⟨T, hT, hfr⟩ := h.frame
                              have hg := h.holds 26 21 none _ rfl (hall 26 (of_decide_eq_true (by kernel_rfl))) (fun t ht => by cases ht)
                              have hkp := h.kp
                              rw [hT] at hg
                              clear h hall hT
                              subst hfr
                              simp only [List.map, List.foldl, List.setIfInBounds_toArray, List.set_cons_succ, List.set_cons_zero]
                              obtain ⟨a2, c2, l2, hs2, hi2, hf2, hl2⟩ := hg
                              go_wp2_with fail
                              go_meet
                              exact ⟨⟨a2, c2, l2, rfl, hi2, hl2⟩, hkp⟩
                          case rest =>
                            obtain ⟨⟨oa, oc, ol, rfl, hoi, hos⟩, hko⟩ := hcut
                            have hol : ol.length = 14 := by rw [V.sameL_length _ _ hos]; rfl
                            rw [hol]
                            have HK2 := Lib.hid (kk HK.out hko)
                            have HOI := Lib.hid hoi
                            have HOS := Lib.hid hos
                            have HOL := Lib.hid hol
                            clear hoi hos hol hko
                            go_wp2_with fail
                            go_loopw [22] (fun i wr => ∃ j : Nat, 1 ≤ j ∧ j ≤ 14 ∧ i = .int .i64 j ∧ Kp wc wr) (fun i _ => 14 - (intOf i).toNat)
                            case atStart => exact ⟨1, by omega, by omega, rfl, Below.refl _ _⟩
                            case round =>
                              obtain ⟨j, hj1, hj, rfl, hk⟩ := hrel
                              by_cases hlt : j < 14
                              · obtain ⟨m, rfl⟩ : ∃ m, j = m + 1 := ⟨j - 1, by omega⟩
                                obtain ⟨x, hx⟩ : ∃ x, ol[m]? = some x := ⟨ol[m]'(by rw [HOL.out]; omega), by simp⟩
                                obtain ⟨y, hy⟩ : ∃ y, ol[m + 1]? = some y := ⟨ol[m + 1]'(by rw [HOL.out]; omega), by simp⟩
                                obtain ⟨x', hx', hxx⟩ := same_part HOS.out hx
                                obtain ⟨y', hy', hyy⟩ := same_part HOS.out hy
                                have vx := List.all_eq_true.1 orderOk x' (List.mem_of_getElem? hx')
                                have vy := List.all_eq_true.1 orderOk y' (List.mem_of_getElem? hy')
                                have hord : x.ord y = -1 := by rw [same_ord hxx hyy vx vy]; exact ord_at hx' hy'
                                obtain ⟨p0, off, rfl, hp0, q0, q1, q2, q3, hxin⟩ := V.atPart HOI.out hx
                                obtain ⟨p0', off', he, -, s0, s1, s2, s3, hyin⟩ := V.atPart HOI.out hy
                                simp only [Option.some.injEq, Addr.mk.injEq] at he
                                obtain ⟨rfl, rfl, -⟩ := he
                                have C : ∀ w1 : World, Kp wc w1 → Calls Tryz.prog 25 #[x.val, y.val] w1 fun e w' => e = .returned (.tuple #[.int .i64 (-1), .int .i64 0]) ∧ Kp w1 w' := fun w1 h => by
                                  have := compare_prog x y w1 (hxin.keep h.size h) (hyin.keep h.size h)
                                  rw [cmpV, same_valid hxx, vx, same_valid hyy, vy, hord] at this
                                  exact this
                                cases x with
                                | mk xk xn xs xa xc xl =>
                                cases y with
                                | mk yk yn ys ya yc yl =>
                                rw [V.val_mk, V.val_mk] at C
                                dsimp only [V.k, V.n, V.s, V.a, V.l, V.cap] at q0 q1 q2 q3 s0 s1 s2 s3
                                have r0 := kc hk q0
                                have r1 := kc hk q1
                                have r2 := kc hk q2
                                have r3 := kc hk q3
                                have t0 := kc hk s0
                                have t1 := kc hk s1
                                have t2 := kc hk s2
                                have t3 := kc hk s3
                                have HC := Lib.hid C
                                have HK3 := Lib.hid hk
                                clear C hk hx hy hxx hyy hx' hy' vx vy hord q0 q1 q2 q3 s0 s1 s2 s3 hxin hyin
                                go_wp2_with fail
                                rw [Int.natCast_add, Int.natCast_one]
                                have g0 : (0 : Int) ≤ (m : Int) := by omega
                                have g1 : (m : Int) < 14 := by omega
                                have g2 : (0 : Int) ≤ (m : Int) + 1 := by omega
                                have g3 : (m : Int) + 1 < 14 := by omega
                                have g4 : IntKind.i64.wrap (m : Int) = m := IntWalk.i64_in _ (by omega)
                                have g5 : ((m : Int) + 1).toNat = m + 1 := by omega
                                have g6 : decide ((m : Int) < 0) = false := by simp
                                have g7 : decide (14 ≤ (m : Int)) = false := by simp; omega
                                have g8 : decide ((m : Int) + 1 < 0) = false := by simp; omega
                                have g9 : decide (14 ≤ (m : Int) + 1) = false := by simp; omega
                                refine region_ri (by kernel_rfl)
                                  [(259, none, .is (.slice (some ⟨p0, off, none⟩) 14 oc)), (260, none, .is (.int .i64 ((m : Int) + 1))), (261, none, .is (.int .i64 (m : Int))), (262, none, .is (.pointer (some ⟨p0, off + m * 4, none⟩))), (263, none, .is (.agg #[.int .i64 xk, .int .i64 xn, .string xs, .slice xa xl.length xc])), (264, none, .is (.slice (some ⟨p0, off, none⟩) 14 oc)), (265, none, .is (.int .i64 ((m : Int) + 1))), (266, none, .is (.pointer (some ⟨p0, off + (m + 1) * 4, none⟩))), (267, none, .is (.agg #[.int .i64 yk, .int .i64 yn, .string ys, .slice ya yl.length yc])), (268, none, .is (.tuple #[.int .i64 (-1), .int .i64 0])), (258, none, .is (.tuple #[.int .i64 (-1), .int .i64 0])), (269, none, .is (.int .i64 (-1))), (270, none, .is (.int .i64 0)), (23, none, .is (.int .i64 (-1))), (24, none, .is (.int .i64 0))] [] (by kernel_rfl) (by kernel_rfl) rfl rfl ?_ ?_
                                · refine each_cons ?_ (each_cons ?_ (each_cons ?_ (each_cons ?_ (each_cons ?_ (each_cons ?_ (each_cons ?_ (each_cons ?_ (each_cons ?_ (each_cons ?_ (each_cons ?_ (each_cons ?_ (each_cons ?_ (each_cons ?_ (each_cons ?_ (each_nil)))))))))))))))
                                  all_goals intro listed a' w' K hin h ho hun hdeps hK hrest hgot hfin hfin2
                                  · have s21 : a'.tmps.getD 21 undef = .slice (some ⟨p0, off, none⟩) 14 oc := hrest 21 rfl
                                    have v21 := s21
                                    rw [Array.getD_eq_getD_getElem?] at v21
                                    go_simp
                                    exact hfin _ _ _ _ _ rfl (Below.refl _ _) rfl rfl
                                  · have s22 : a'.tmps.getD 22 undef = .int .i64 ((m : Int) + 1) := hrest 22 rfl
                                    have v22 := s22
                                    rw [Array.getD_eq_getD_getElem?] at v22
                                    go_simp
                                    exact hfin _ _ _ _ _ rfl (Below.refl _ _) rfl rfl
                                  · have s260 : a'.tmps.getD 260 undef = .int .i64 ((m : Int) + 1) := hgot 1 260 _ rfl rfl
                                    have v260 := s260
                                    rw [Array.getD_eq_getD_getElem?] at v260
                                    go_simp
                                    exact hfin _ _ _ _ _ rfl (Below.refl _ _) rfl rfl
                                  · have s259 : a'.tmps.getD 259 undef = .slice (some ⟨p0, off, none⟩) 14 oc := hgot 0 259 _ rfl rfl
                                    have v259 := s259
                                    rw [Array.getD_eq_getD_getElem?] at v259
                                    have s261 : a'.tmps.getD 261 undef = .int .i64 (m : Int) := hgot 2 261 _ rfl rfl
                                    have v261 := s261
                                    rw [Array.getD_eq_getD_getElem?] at v261
                                    go_simp
                                    exact hfin _ _ _ _ _ rfl (Below.refl _ _) rfl rfl
                                  · have s262 : a'.tmps.getD 262 undef = .pointer (some ⟨p0, off + m * 4, none⟩) := hgot 3 262 _ rfl rfl
                                    have v262 := s262
                                    rw [Array.getD_eq_getD_getElem?] at v262
                                    obtain ⟨c0, c1, c2, c3⟩ : _ ∧ _ ∧ _ ∧ _ := ⟨kc (kk kpD h.kp) r0, kc (kk kpD h.kp) r1, kc (kk kpD h.kp) r2, kc (kk kpD h.kp) r3⟩
                                    go_simp
                                    exact hfin _ _ _ _ _ rfl (Below.refl _ _) rfl rfl
                                  · have s21 : a'.tmps.getD 21 undef = .slice (some ⟨p0, off, none⟩) 14 oc := hrest 21 rfl
                                    have v21 := s21
                                    rw [Array.getD_eq_getD_getElem?] at v21
                                    go_simp
                                    exact hfin _ _ _ _ _ rfl (Below.refl _ _) rfl rfl
                                  · have s22 : a'.tmps.getD 22 undef = .int .i64 ((m : Int) + 1) := hrest 22 rfl
                                    have v22 := s22
                                    rw [Array.getD_eq_getD_getElem?] at v22
                                    go_simp
                                    exact hfin _ _ _ _ _ rfl (Below.refl _ _) rfl rfl
                                  · have s264 : a'.tmps.getD 264 undef = .slice (some ⟨p0, off, none⟩) 14 oc := hgot 5 264 _ rfl rfl
                                    have v264 := s264
                                    rw [Array.getD_eq_getD_getElem?] at v264
                                    have s265 : a'.tmps.getD 265 undef = .int .i64 ((m : Int) + 1) := hgot 6 265 _ rfl rfl
                                    have v265 := s265
                                    rw [Array.getD_eq_getD_getElem?] at v265
                                    go_simp
                                    exact hfin _ _ _ _ _ rfl (Below.refl _ _) rfl rfl
                                  · have s266 : a'.tmps.getD 266 undef = .pointer (some ⟨p0, off + (m + 1) * 4, none⟩) := hgot 7 266 _ rfl rfl
                                    have v266 := s266
                                    rw [Array.getD_eq_getD_getElem?] at v266
                                    obtain ⟨c0, c1, c2, c3⟩ : _ ∧ _ ∧ _ ∧ _ := ⟨kc (kk kpD h.kp) t0, kc (kk kpD h.kp) t1, kc (kk kpD h.kp) t2, kc (kk kpD h.kp) t3⟩
                                    go_simp
                                    exact hfin _ _ _ _ _ rfl (Below.refl _ _) rfl rfl
                                  · have s263 : a'.tmps.getD 263 undef = .agg #[.int .i64 xk, .int .i64 xn, .string xs, .slice xa xl.length xc] := hgot 4 263 _ rfl rfl
                                    have v263 := s263
                                    rw [Array.getD_eq_getD_getElem?] at v263
                                    have s267 : a'.tmps.getD 267 undef = .agg #[.int .i64 yk, .int .i64 yn, .string ys, .slice ya yl.length yc] := hgot 8 267 _ rfl rfl
                                    have v267 := s267
                                    rw [Array.getD_eq_getD_getElem?] at v267
                                    go_simp
                                    refine (HC.out _ (kk HK3.out (kk kpD h.kp))).mono ?_
                                    rintro e w2 ⟨rfl, hk2⟩
                                    exact hfin _ _ _ _ _ rfl hk2 rfl rfl
                                  · have s268 : a'.tmps.getD 268 undef = .tuple #[.int .i64 (-1), .int .i64 0] := hgot 9 268 _ rfl rfl
                                    have v268 := s268
                                    rw [Array.getD_eq_getD_getElem?] at v268
                                    go_simp
                                    exact hfin _ _ _ _ _ rfl (Below.refl _ _) rfl rfl
                                  · have s258 : a'.tmps.getD 258 undef = .tuple #[.int .i64 (-1), .int .i64 0] := hgot 10 258 _ rfl rfl
                                    have v258 := s258
                                    rw [Array.getD_eq_getD_getElem?] at v258
                                    go_simp
                                    exact hfin _ _ _ _ _ rfl (Below.refl _ _) rfl rfl
                                  · have s258 : a'.tmps.getD 258 undef = .tuple #[.int .i64 (-1), .int .i64 0] := hgot 10 258 _ rfl rfl
                                    have v258 := s258
                                    rw [Array.getD_eq_getD_getElem?] at v258
                                    go_simp
                                    exact hfin _ _ _ _ _ rfl (Below.refl _ _) rfl rfl
                                  · have s269 : a'.tmps.getD 269 undef = .int .i64 (-1) := hgot 11 269 _ rfl rfl
                                    have v269 := s269
                                    rw [Array.getD_eq_getD_getElem?] at v269
                                    go_simp
                                    exact hfin _ _ _ _ _ rfl (Below.refl _ _) rfl rfl
                                  · have s270 : a'.tmps.getD 270 undef = .int .i64 0 := hgot 12 270 _ rfl rfl
                                    have v270 := s270
                                    rw [Array.getD_eq_getD_getElem?] at v270
                                    go_simp
                                    exact hfin _ _ _ _ _ rfl (Below.refl _ _) rfl rfl
                                · intro listed a' w5 h hall
                                  obtain ⟨T, hT, hfr⟩ := h.frame
                                  have e259 : T 259 = .slice (some ⟨p0, off, none⟩) 14 oc := (hT 259).symm.trans (h.holds 0 259 none _ rfl (hall 0 (of_decide_eq_true (by kernel_rfl))) (fun t ht => by cases ht))
                                  have e260 : T 260 = .int .i64 ((m : Int) + 1) := (hT 260).symm.trans (h.holds 1 260 none _ rfl (hall 1 (of_decide_eq_true (by kernel_rfl))) (fun t ht => by cases ht))
                                  have e261 : T 261 = .int .i64 (m : Int) := (hT 261).symm.trans (h.holds 2 261 none _ rfl (hall 2 (of_decide_eq_true (by kernel_rfl))) (fun t ht => by cases ht))
                                  have e262 : T 262 = .pointer (some ⟨p0, off + m * 4, none⟩) := (hT 262).symm.trans (h.holds 3 262 none _ rfl (hall 3 (of_decide_eq_true (by kernel_rfl))) (fun t ht => by cases ht))
                                  have e263 : T 263 = .agg #[.int .i64 xk, .int .i64 xn, .string xs, .slice xa xl.length xc] := (hT 263).symm.trans (h.holds 4 263 none _ rfl (hall 4 (of_decide_eq_true (by kernel_rfl))) (fun t ht => by cases ht))
                                  have e264 : T 264 = .slice (some ⟨p0, off, none⟩) 14 oc := (hT 264).symm.trans (h.holds 5 264 none _ rfl (hall 5 (of_decide_eq_true (by kernel_rfl))) (fun t ht => by cases ht))
                                  have e265 : T 265 = .int .i64 ((m : Int) + 1) := (hT 265).symm.trans (h.holds 6 265 none _ rfl (hall 6 (of_decide_eq_true (by kernel_rfl))) (fun t ht => by cases ht))
                                  have e266 : T 266 = .pointer (some ⟨p0, off + (m + 1) * 4, none⟩) := (hT 266).symm.trans (h.holds 7 266 none _ rfl (hall 7 (of_decide_eq_true (by kernel_rfl))) (fun t ht => by cases ht))
                                  have e267 : T 267 = .agg #[.int .i64 yk, .int .i64 yn, .string ys, .slice ya yl.length yc] := (hT 267).symm.trans (h.holds 8 267 none _ rfl (hall 8 (of_decide_eq_true (by kernel_rfl))) (fun t ht => by cases ht))
                                  have e268 : T 268 = .tuple #[.int .i64 (-1), .int .i64 0] := (hT 268).symm.trans (h.holds 9 268 none _ rfl (hall 9 (of_decide_eq_true (by kernel_rfl))) (fun t ht => by cases ht))
                                  have e258 : T 258 = .tuple #[.int .i64 (-1), .int .i64 0] := (hT 258).symm.trans (h.holds 10 258 none _ rfl (hall 10 (of_decide_eq_true (by kernel_rfl))) (fun t ht => by cases ht))
                                  have e269 : T 269 = .int .i64 (-1) := (hT 269).symm.trans (h.holds 11 269 none _ rfl (hall 11 (of_decide_eq_true (by kernel_rfl))) (fun t ht => by cases ht))
                                  have e270 : T 270 = .int .i64 0 := (hT 270).symm.trans (h.holds 12 270 none _ rfl (hall 12 (of_decide_eq_true (by kernel_rfl))) (fun t ht => by cases ht))
                                  have e23 : T 23 = .int .i64 (-1) := (hT 23).symm.trans (h.holds 13 23 none _ rfl (hall 13 (of_decide_eq_true (by kernel_rfl))) (fun t ht => by cases ht))
                                  have e24 : T 24 = .int .i64 0 := (hT 24).symm.trans (h.holds 14 24 none _ rfl (hall 14 (of_decide_eq_true (by kernel_rfl))) (fun t ht => by cases ht))
                                  have HK5 := Lib.hid (kk HK3.out (kk kpD h.kp))
                                  clear h hall hT
                                  subst hfr
                                  simp only [List.map, List.foldl, List.setIfInBounds_toArray, List.set_cons_succ, List.set_cons_zero, e259, e260, e261, e262, e263, e264, e265, e266, e267, e268, e258, e269, e270, e23, e24]
                                  clear e259 e260 e261 e262 e263 e264 e265 e266 e267 e268 e258 e269 e270 e23 e24 r0 r1 r2 r3 t0 t1 t2 t3
                                  go_wp2_with fail
                                  go_roundw
                                  case rel => exact ⟨m + 1 + 1, by omega, by omega, by first | go_num | simp, HK5.out⟩
                                  case measure => simp [intOf]; omega
                              · have hji : (j : Int) = 14 := by omega
                                rw [hji]
                                have HK3 := Lib.hid (kk HK2.out hk)
                                clear hji hlt hj hj1 hk HOI HOS HOL
                                go_wp2_with fail
                                obtain ⟨wo, hwo⟩ : ∃ wo : World, wo = wr := ⟨wr, rfl⟩
                                subst hwo
                                go_loopw [26] (fun i wq => ∃ j : Nat, j ≤ 28 ∧ i = .int .i64 j ∧ Kp wo wq ∧ wq.heap[wo.heap.size]? = some (.cells (texts28.map fun l => Value.string ⟨l.toArray⟩).toArray 9 (0, 0))) (fun i _ => 28 - (intOf i).toNat)
                                case atStart => exact ⟨0, by omega, rfl, ka _ _, blockHere rfl⟩
                                case round =>
                                  obtain ⟨j, hj, rfl, hk, hb⟩ := hrel
                                  by_cases hlt : j < 28
                                  · obtain ⟨l, hl⟩ : ∃ l, texts28[j]? = some l := ⟨_, List.getElem?_eq_getElem (show j < texts28.length from hlt)⟩
                                    have hno := List.all_eq_true.1 texts28_ok l (List.mem_of_getElem? hl)
                                    have hsz : l.length ≤ 100 := by simpa using List.all_eq_true.1 texts28_len l (List.mem_of_getElem? hl)
                                    have c0 : wr.cell? ⟨wo.heap.size, j, none⟩ = some (.string ⟨l.toArray⟩) := cellOf hb (by simp [hl])
                                    have hkq := kk HK3.out hk
                                    have P := parse_none wr ⟨l.toArray⟩ (by rw [size_of]; omega) (HTB.out.keep hkq hkq.size) (HEB.out.keep hkq hkq.size) (by simpa using hno)
                                    have HP := Lib.hid P
                                    have HKQ := Lib.hid hk
                                    have HB := Lib.hid hb
                                    clear P hno hsz hl hkq hk hb
                                    go_wp2_with fail
                                    refine HP.out.mono ?_
                                    rintro e w2 ⟨rfl, hk2⟩
                                    have HB2 := Lib.hid ((hk2.block _ (lt_of_block HB.out)).trans HB.out)
                                    have HK4 := Lib.hid (kk HKQ.out hk2)
                                    clear hk2 c0
                                    go_wp2_with fail
                                    go_roundw
                                    case rel => exact ⟨j + 1, by omega, by first | go_num | simp, kk HK4.out (ka _ _), blockPast HB2.out⟩
                                    case measure => simp [intOf]; omega
                                  · have hji : (j : Int) = 28 := by omega
                                    rw [hji]
                                    have HK5 := Lib.hid (kk HK3.out hk)
                                    clear hji hlt hj hk hb HK3
                                    have HK3 := Lib.hid HK5.out
                                    clear HK5
                                    go_wp2_with fail
                                    obtain ⟨wo, hwo⟩ : ∃ wo : World, wo = wr := ⟨wr, rfl⟩
                                    subst hwo
                                    go_loopw [30] (fun i wq => ∃ j : Nat, j ≤ 10 ∧ i = .int .i64 j ∧ Kp wo wq ∧ wq.heap[wo.heap.size]? = some (.cells (types10.map fun l => Value.string ⟨l.toArray⟩).toArray 9 (0, 0))) (fun i _ => 10 - (intOf i).toNat)
                                    case atStart => exact ⟨0, by omega, rfl, ka _ _, blockHere rfl⟩
                                    case round =>
                                      obtain ⟨j, hj, rfl, hk, hb⟩ := hrel
                                      by_cases hlt : j < 10
                                      · obtain ⟨l, hl⟩ : ∃ l, types10[j]? = some l := ⟨_, List.getElem?_eq_getElem (show j < types10.length from hlt)⟩
                                        have hno := List.all_eq_true.1 types10_ok l (List.mem_of_getElem? hl)
                                        have hsz : l.length ≤ 100 := by simpa using List.all_eq_true.1 types10_len l (List.mem_of_getElem? hl)
                                        have c0 : wr.cell? ⟨wo.heap.size, j, none⟩ = some (.string ⟨l.toArray⟩) := cellOf hb (by simp [hl])
                                        have hkq := kk HK3.out hk
                                        have P := typeParse_none wr ⟨l.toArray⟩ (by rw [size_of]; omega) (by simpa using hno)
                                        have HP := Lib.hid P
                                        have HKQ := Lib.hid hk
                                        have HB := Lib.hid hb
                                        clear P hno hsz hl hkq hk hb
                                        go_wp2_with fail
                                        refine HP.out.mono ?_
                                        rintro e w2 ⟨rfl, hk2⟩
                                        have HB2 := Lib.hid ((hk2.block _ (lt_of_block HB.out)).trans HB.out)
                                        have HK4 := Lib.hid (kk HKQ.out hk2)
                                        clear hk2 c0
                                        go_wp2_with fail
                                        go_roundw
                                        case rel => exact ⟨j + 1, by omega, by first | go_num | simp, kk HK4.out (ka _ _), blockPast HB2.out⟩
                                        case measure => simp [intOf]; omega
                                      · have hji : (j : Int) = 10 := by omega
                                        rw [hji]
                                        have HK5 := Lib.hid (kk HK3.out hk)
                                        clear hji hlt hj hk hb HK3
                                        have HK3 := Lib.hid HK5.out
                                        clear HK5
                                        go_wp2_with fail
                                        obtain ⟨wo, hwo⟩ : ∃ wo : World, wo = wr := ⟨wr, rfl⟩
                                        subst hwo
                                        go_loopw [34] (fun i wq => ∃ j : Nat, j ≤ 10 ∧ i = .int .i64 j ∧ Kp wo wq ∧ wq.heap[wo.heap.size]? = some (.cells (keys10.map fun l => Value.string ⟨l.toArray⟩).toArray 9 (0, 0))) (fun i _ => 10 - (intOf i).toNat)
                                        case atStart => exact ⟨0, by omega, rfl, ka _ _, blockHere rfl⟩
                                        case round =>
                                          obtain ⟨j, hj, rfl, hk, hb⟩ := hrel
                                          by_cases hlt : j < 10
                                          · obtain ⟨l, hl⟩ : ∃ l, keys10[j]? = some l := ⟨_, List.getElem?_eq_getElem (show j < keys10.length from hlt)⟩
                                            have hno := List.all_eq_true.1 keys10_ok l (List.mem_of_getElem? hl)
                                            have hsz : l.length ≤ 100 := by simpa using List.all_eq_true.1 keys10_len l (List.mem_of_getElem? hl)
                                            have c0 : wr.cell? ⟨wo.heap.size, j, none⟩ = some (.string ⟨l.toArray⟩) := cellOf hb (by simp [hl])
                                            have hkq := kk HK3.out hk
                                            have P := ofKey_none wr ⟨l.toArray⟩ (by rw [size_of]; omega) (by simpa using hno)
                                            have HP := Lib.hid P
                                            have HKQ := Lib.hid hk
                                            have HB := Lib.hid hb
                                            clear P hno hsz hl hkq hk hb
                                            go_wp2_with fail
                                            refine HP.out.mono ?_
                                            rintro e w2 ⟨rfl, hk2⟩
                                            have HB2 := Lib.hid ((hk2.block _ (lt_of_block HB.out)).trans HB.out)
                                            have HK4 := Lib.hid (kk HKQ.out hk2)
                                            clear hk2 c0
                                            go_wp2_with fail
                                            go_roundw
                                            case rel => exact ⟨j + 1, by omega, by first | go_num | simp, kk HK4.out (ka _ _), blockPast HB2.out⟩
                                            case measure => simp [intOf]; omega
                                          · have hji : (j : Int) = 10 := by omega
                                            rw [hji]
                                            have HK5 := Lib.hid (kk HK3.out hk)
                                            clear hji hlt hj hk hb HK3
                                            have HK3 := Lib.hid HK5.out
                                            clear HK5
                                            have mk1 := make_bytes 13001 13001 rfl (by omega) wr
                                            have cv1 := conv_bytes 13001 wr
                                            go_wp2_with fail
                                            refine (parse_longZ _ (zeros 13001) (by rw [zeros_size]; omega) (by rw [zeros_size]; omega)).mono ?_
                                            rintro e p1 ⟨rfl, hp1⟩
                                            have HP1 := Lib.hid (kk (kk (kk HK3.out (ka _ _)) hp1) (ka p1 (.cells #[.int .i64 0, .int .i64 0, .string ⟨#[]⟩, .slice none 0 0] 24)))
                                            have mk2 := make_bytes 1001 1001 rfl (by omega) (p1.alloc (.cells #[.int .i64 0, .int .i64 0, .string ⟨#[]⟩, .slice none 0 0] 24))
                                            have cv2 := conv_at 1001 (p1.heap.size + 1) (p1.alloc (.cells #[.int .i64 0, .int .i64 0, .string ⟨#[]⟩, .slice none 0 0] 24)) (by simp)
                                            clear mk1 cv1 hp1
                                            go_wp2_with fail
                                            refine (typeParse_longZ _ (zeros 1001) (by rw [zeros_size]; omega) (by rw [zeros_size]; omega)).mono ?_
                                            rintro e p2 ⟨rfl, hp2⟩
                                            have HP2 := Lib.hid (kk (kk (kk HP1.out (ka _ _)) hp2) (ka p2 (.cells #[.int .i64 0, .slice none 0 0] 27)))
                                            have mk3 := make_bytes 6501 6501 rfl (by omega) (p2.alloc (.cells #[.int .i64 0, .slice none 0 0] 27))
                                            have cv3 := conv_at 6501 (p2.heap.size + 1) (p2.alloc (.cells #[.int .i64 0, .slice none 0 0] 27)) (by simp)
                                            clear mk2 cv2 hp2
                                            go_wp2_with fail
                                            refine (ofKey_longZ _ (zeros 6501) (by rw [zeros_size]; omega) (by rw [zeros_size]; omega)).mono ?_
                                            rintro e p3 ⟨rfl, hp3⟩
                                            have HP3 := Lib.hid (kk (kk (kk HP2.out (ka _ _)) hp3) (ka p3 (.cells #[.int .i64 0, .int .i64 0, .string ⟨#[]⟩, .slice none 0 0] 24)))
                                            have mk4 := make_bytes 13000 13000 rfl (by omega) (p3.alloc (.cells #[.int .i64 0, .int .i64 0, .string ⟨#[]⟩, .slice none 0 0] 24))
                                            have cv4 := conv_at 13000 (p3.heap.size + 1) (p3.alloc (.cells #[.int .i64 0, .int .i64 0, .string ⟨#[]⟩, .slice none 0 0] 24)) (by simp)
                                            clear mk3 cv3 hp3
                                            go_wp2_with fail
                                            have hq4 := kk HP3.out (ka (p3.alloc (.cells #[.int .i64 0, .int .i64 0, .string ⟨#[]⟩, .slice none 0 0] 24)) (.cells (zcells 13000) 5))
                                            refine (parse_zeros _ (HTB.out.keep hq4 hq4.size) (HEB.out.keep hq4 hq4.size)).mono ?_
                                            rintro e p4 ⟨rfl, hp4⟩
                                            have HP4 := Lib.hid (kk (kk hq4 hp4) (ka p4 (.cells #[.int .i64 0, .int .i64 0, .string ⟨#[]⟩, .slice none 0 0] 24)))
                                            clear mk4 cv4 hp4 hq4
                                            go_wp2_with fail
                                            refine (int_any _ _).mono ?_
                                            rintro e p5 ⟨rfl, hp5⟩
                                            have HP5 := Lib.hid (kk HP4.out hp5)
                                            clear hp5
                                            go_wp2_with fail
                                            refine (keyOne _).mono ?_
                                            rintro e p6 ⟨rfl, hp6⟩
                                            have HP6 := Lib.hid (kk HP5.out hp6)
                                            clear hp6
                                            go_wp2_with fail
                                            refine (ofKey_empty _).mono ?_
                                            rintro e p7 ⟨⟨xk, xn, xs, xa, xc, xl⟩, rfl, hxi, -, hxs, hp7⟩
                                            rw [V.val_mk]
                                            have HP7 := Lib.hid (kk HP6.out hp7)
                                            have HXI := Lib.hid hxi
                                            have HXS := Lib.hid hxs
                                            clear hp7 hxi hxs
                                            go_wp2_with fail
                                            have hk8 := kk HP7.out (ka p7 (.cells #[.int .i64 xk, .int .i64 xn, .string xs, .slice xa xl.length xc] 24))
                                            have hb8 : (p7.alloc (.cells #[.int .i64 xk, .int .i64 xn, .string xs, .slice xa xl.length xc] 24)).heap[p7.heap.size]? = some (.cells #[.int .i64 xk, .int .i64 xn, .string xs, .slice xa xl.length xc] 24 (0, 0)) := blockHere rfl
                                            have hi8 := HXI.out.keep (ka p7 (.cells #[.int .i64 xk, .int .i64 xn, .string xs, .slice xa xl.length xc] 24)).size (ka p7 (.cells #[.int .i64 xk, .int .i64 xn, .string xs, .slice xa xl.length xc] 24))
                                            generalize p7.alloc (.cells #[.int .i64 xk, .int .i64 xn, .string xs, .slice xa xl.length xc] 24) = W8 at *
                                            generalize p7.heap.size = q8 at *
                                            obtain ⟨c0, c1, c2, c3, -⟩ := cell4 hb8
                                            have S : ∀ w1 : World, Kp W8 w1 → Calls Tryz.prog 23 #[.agg #[.int .i64 xk, .int .i64 xn, .string xs, .slice xa xl.length xc], .agg #[.int .i64 2, .int .i64 0, .string ⟨#[]⟩, .slice none 0 0]] w1 fun e w' => e = .returned (.bool true) ∧ Kp w1 w' := fun w1 h => by
                                              have := sameV _ (.mk xk xn xs xa xc xl) (tupV []) w1 (Nat.le_refl _) (hi8.keep h.size h) (inLeaf _ _ _ (by unfold I64; omega) (by unfold I64; omega) z0)
                                              rw [HXS.out] at this
                                              exact this
                                            have U : ∀ w1 : World, Kp W8 w1 → Calls Tryz.prog 24 #[] w1 fun e w' => e = .returned (.bool true) ∧ Kp w1 w' := fun w1 h => valued_any w1 (HTB.out.keep (kk hk8 h) (kk hk8 h).size)
                                            have HS := Lib.hid S
                                            have HU := Lib.hid U
                                            have HK8 := Lib.hid hk8
                                            clear S U hk8 hi8 hb8 HXI HXS HP1 HP2 HP3 HP4 HP5 HP6 HP7
                                            go_region_held3 (fun w' => w'.cell? ⟨q8, 0, none⟩ = some (.int .i64 xk) ∧ w'.cell? ⟨q8, 1, none⟩ = some (.int .i64 xn) ∧ w'.cell? ⟨q8, 2, none⟩ = some (.string xs) ∧ w'.cell? ⟨q8, 3, none⟩ = some (.slice xa xl.length xc) ∧ Kp W8 w')
                                              (first
                                                | exact ⟨c0, c1, c2, c3, kpD⟩
                                                | (go_split_ands; exact ⟨kc hkc ‹_›, kc hkc ‹_›, kc hkc ‹_›, kc hkc ‹_›, kk ‹_› hkc⟩)
                                                | (go_split_ands; exact ⟨‹_›, ‹_›, ‹_›, ‹_›, ‹_›⟩))
                                              (first
                                                | (go_at_call 41; refine (tuple_any _ _ _ _).mono ?_; rintro e w9 ⟨rfl, hkc⟩)
                                                | (go_at_call 23; refine (HS.out _ (by first | assumption | (go_split_ands; assumption))).mono ?_; rintro e w9 ⟨rfl, hkc⟩)
                                                | (go_at_call 24; refine (HU.out _ (by first | assumption | (go_split_ands; assumption))).mono ?_; rintro e w9 ⟨rfl, hkc⟩))
                                            all_goals
                                              go_split_ands
                                              rename_i hk9
                                              have HK9 := Lib.hid (kk HK8.out hk9)
                                              go_wp2_with fail
                                              go_ret
                                              exact ⟨rfl, kk HKW.out HK9.out⟩
        
end Go.Proofs.YtkfmgafgokpjhaaGreatDoor
