/-
  Proved: the statement ValueSorts (of values that numbers make, value.Compare and the bytes of value.Key tell one order, no key is the beginning of another one, value.OfKey reads a key, and no key with bytes behind it, and the chapter's examples hold), as its tied card says it, with no condition beyond the card's own.
  Part 1 of 1.
-/
import Derived.Test.YtkofebafmjjljaaGreatDoorBa10
import Derived.Test.YtkofebafmjjljaaGreatDoorBa11
import Derived.Laws.BytesArg
import Derived.Deep.RegionLaw
import Derived.Deep.DeepCutAuto
import Derived.Test.YtkofebafmjjljaaGreatDoorBa07
import Derived.Lib.LaidIn
import Derived.Deep.DeepWitnessRowRef
/-
  ValueSorts: the statement's function, at any two lists of numbers and any bytes.
-/
namespace Go.Proofs.YtkofebafmjjljaaGreatDoor
open Go.RowKit

theorem tail_conv {w w1 : World} {B : Nat} {a : Option Addr} {cap : Nat} {l : List Int} (h : Bys w B a cap l) (k : Below B w w1) (n : Nat) (hn : n ≤ l.length) (c : Nat) :
    (convert 57 9 (.slice a n c)).run Tryz.prog w1 = .ok (.string (strOfNums (l.take n))) w1 := by
  obtain ⟨-, -, h⟩ := h
  by_cases hz : n = 0
  · subst hz
    cases a with
    | none => exact run_convert_bytes_nil w1 _ _ Tryz.underlying57 Tryz.underlying5 _ _ _ Tryz.underlying9
    | some a =>
      rw [run_convert_bytes_string w1 _ _ _ _ _ _ Tryz.underlying57 Tryz.underlying5 Tryz.underlying9]
      exact run_bytesToString w1 a 0 c [] (run_loadCells_list (P := Tryz.prog) w1 a [] (fun j v hj => by simp at hj))
  · rcases h with rfl | ⟨b, off, rfl, hb, hc⟩
    · simp at hn; omega
    · refine run_convert_bytes_arg w1 _ _ Tryz.underlying57 Tryz.underlying5 b off n c (l.take n) (by simp; omega) (fun i hi => ?_) _ Tryz.underlying9
      have hil : i < l.length := by omega
      have := (k.cell (p := ⟨b, off + i, none⟩) hb).trans (hc i l[i] (by simp))
      rw [this, List.getD_eq_getElem?_getD, List.getElem?_take_of_lt hi]
      simp [hil]

/-- What OfKey says of a key and more: the same as what is behind it says. -/
theorem ofKey_tail (w : World) (y : V) (hy : y.sh 3 = true) (hr : y.rank ≤ 13) (r : List Int) (hl : r.length ≤ 30) :
    Calls Tryz.prog 38 #[.string (⟨y.keyB.toArray⟩ ++ strOfNums r)] w fun e w' => ∃ k n s a l c, e = .returned (.tuple #[.agg #[.int .i64 k, .int .i64 n, .string s, .slice a l c], .int .i64 (if r.length = 0 then 0 else 8)]) ∧ Kp w w' := by
  have hkl := V.keyB_len y 3 hy
  have hd : ((⟨y.keyB.toArray⟩ : ByteArray) ++ strOfNums r).data.toList = y.keyB ++ r.map fun n => UInt8.ofNat n.toNat := by
    simp [strOfNums]
  have hs : ((⟨y.keyB.toArray⟩ : ByteArray) ++ strOfNums r).size = y.keyB.length + r.length := by
    have := congrArg List.length hd
    rw [Array.length_toList, List.length_append, List.length_map] at this
    exact this
  by_cases h0 : r.length = 0
  · have : r = [] := List.length_eq_zero_iff.1 h0
    subst this
    have he : ((⟨y.keyB.toArray⟩ : ByteArray) ++ strOfNums []) = ⟨y.keyB.toArray⟩ := by
      apply ByteArray.ext
      apply Array.ext'
      simpa using hd
    rw [he]
    have hval : y.valid = true := by
      have := V.sh_up _ _ (V.sh_up _ _ (V.sh_up _ _ hy))
      simp [V.valid, this]; omega
    refine (ofKeyP w y 3 hy (by omega) (fun x w1 hx hs => ?_)).mono ?_
    · cases x with
      | mk k n s a c l =>
      have hv : (V.mk k n s a c l).valid = true := by rw [same_valid hs]; exact hval
      have := checkV k n s a c l w1 hx
      rw [show bad (V.mk k n s a c l).cnt = 0 from by
        have := (cnt_valid (.mk k n s a c l)); by_cases hc : (V.mk k n s a c l).cnt = 0
        · rw [this.1 hc] at hv; cases hv
        · simp [bad, hc]] at this
      exact this
    · rintro e w' ⟨x, rfl, -, -, -, hk⟩
      cases x with
      | mk k n s a c l => exact ⟨k, n, s, a, l.length, c, by rw [V.val_mk, h0]; rfl, hk⟩
  · refine (ofKey_more w y 3 _ _ hd (by intro h; simp at h; exact h0 (by simp [h])) hy (by omega)).mono ?_
    rintro e w' ⟨rfl, hk⟩
    exact ⟨0, 0, ⟨#[]⟩, none, 0, 0, by simp [h0], hk⟩

/-- Key of a valid value. -/
theorem keyOk (x : V) (w : World) (hin : x.In w w.heap.size) (hv : x.valid = true) :
    Calls Tryz.prog 36 #[x.val] w fun e w' => e = .returned (.tuple #[.string ⟨x.keyB.toArray⟩, .int .i64 0]) ∧ Kp w w' := by
  cases x with
  | mk k n s a c l =>
  have := keyP k n s a c l w hin
  rwa [keyOut, if_pos hv] at this

end Go.Proofs.YtkofebafmjjljaaGreatDoor

/-
  ValueSorts: the statement's function, at any two lists of numbers and any bytes.
-/
namespace Go.Proofs.YtkofebafmjjljaaGreatDoor
open Go.RowKit

theorem code_len (n : Nat) : ((if n = 0 then (0 : Int) else 8) == 0) = ((n : Int) == 0) ∧ (((if n = 0 then (0 : Int) else 8) != 0) = true → ((if n = 0 then (0 : Int) else 8) != 8) = false) := by
  by_cases h : n = 0
  · subst h; decide
  · rw [if_neg h]
    have : ((n : Int) == 0) = false := by rw [beq_eq_false_iff_ne]; omega
    rw [this]; decide

theorem take_code (l : List Int) (m : Nat) (h : m = 0 → l.length = 0) : (if (l.take m).length = 0 then (0 : Int) else 8) = if l.length = 0 then 0 else 8 := by
  rw [List.length_take]
  by_cases h0 : l.length = 0
  · rw [if_pos (by omega), if_pos h0]
  · rw [if_neg (by omega), if_neg h0]

theorem part_case (A B : ByteArray) (n : Int) (h : n ≠ 0 → (A.toList == B.toList.take A.toList.length) = false) :
    (n != 0) = false ∨ ((n != 0) = true ∧ (A.toList == (B.extract 0 A.size).toList) = false) := by
  by_cases hn : n = 0
  · left; subst hn; rfl
  · right
    refine ⟨bne_iff_ne.2 hn, ?_⟩
    have he : (B.extract 0 A.size).toList = B.toList.take A.toList.length := by
      rw [ByteArray.toList_eq, ByteArray.toList_eq, ByteArray.toList_eq, ByteArray.data_extract, Array.toList_extract]
      simp only [List.extract, List.drop_zero, Nat.sub_zero, Array.length_toList]
      rfl
    rw [he]; exact h hn

set_option maxRecDepth 100000 in
set_option maxHeartbeats 8000000 in
theorem sorts_any (a : Option Addr) (cap : Nat) (l : List Int) (a' : Option Addr) (cap' : Nat) (l' : List Int) (a2 : Option Addr) (cap2 : Nat) (l2 : List Int) (w : World) (hin : Ints w w.heap.size a cap l) (hin' : Ints w w.heap.size a' cap' l') (hy : Bys w w.heap.size a2 cap2 l2) (tb : Tb w w.heap.size) :
    Calls Tryz.prog 8 #[.slice a l.length cap, .slice a' l'.length cap', .slice a2 l2.length cap2] w fun e w' => e = .returned (.bool true) ∧ Kp w w' := by
  have T1 := three_any a cap l w hin
  have T2 := fun (w1 : World) (h : Kp w w1) => three_any a' cap' l' w1 (hin'.keep h.size h)
  have E := fun w1 (h : Kp w w1) => valued_any w1 (tb.keep h h.size)
  have CV := fun (w1 : World) (h : Kp w w1) => tail_conv hy h
  have hl2c := hy.1
  have hl2m := hy.2.1
  have HT1 := Lib.hid T1
  have HT2 := Lib.hid T2
  have HE := Lib.hid E
  have HCV := Lib.hid CV
  clear T1 T2 E CV hin hin' tb hy
  go_enter Tryz.func8, Tryz.ntmps8
  go_wp2_with fail
  refine HT1.out.mono ?_
  rintro e w1 ⟨t, x, y, z, rfl, hti, hsh, hrk, hvi, hvf, hgx, hgy, hgz, hk⟩
  obtain ⟨xk, xn, xs, xa, xc, xl⟩ := x
  obtain ⟨yk, yn, ys, ya, yc, yl⟩ := y
  obtain ⟨zk, zn, zs, za, zc, zl⟩ := z
  cases t with
  | mk tk ta tc tl =>
  rw [T.val_mk]
  simp only [cellsL, V.cells4, List.flatMap_cons, List.flatMap_nil, List.cons_append, List.nil_append, List.append_nil, V.k, V.n, V.s, V.a, V.l, V.cap]
  have HVI := Lib.hid hvi
  have HX := Lib.hid hgx
  have HY := Lib.hid hgy
  have HZ := Lib.hid hgz
  have HK := Lib.hid hk
  clear hti hvi hvf hgx hgy hgz hk hsh hrk
  go_wp2_with fail
  have hka := kk (ka w1 (.cells #[.int .i64 tk, .slice ta tl.length tc] 27)) (ka _ (.cells #[.int .i64 xk, .int .i64 xn, .string xs, .slice xa xl.length xc, .int .i64 yk, .int .i64 yn, .string ys, .slice ya yl.length yc, .int .i64 zk, .int .i64 zn, .string zs, .slice za zl.length zc] 49))
  have htr : Trio ((w1.alloc (.cells #[.int .i64 tk, .slice ta tl.length tc] 27)).alloc (.cells #[.int .i64 xk, .int .i64 xn, .string xs, .slice xa xl.length xc, .int .i64 yk, .int .i64 yn, .string ys, .slice ya yl.length yc, .int .i64 zk, .int .i64 zn, .string zs, .slice za zl.length zc] 49)) (w1.heap.size + 1) [.mk xk xn xs xa xc xl, .mk yk yn ys ya yc yl, .mk zk zn zs za zc zl] :=
    ⟨blockHere (by simp), rfl, HVI.out.keep hka.size hka, fun v hv => by simp at hv; rcases hv with rfl | rfl | rfl; exact HX.out.valid; exact HY.out.valid; exact HZ.out.valid⟩
  have hgd : ∀ v ∈ [V.mk xk xn xs xa xc xl, .mk yk yn ys ya yc yl, .mk zk zn zs za zc zl], v.sh 3 = true ∧ v.rank ≤ 13 := fun v hv => by
    simp only [List.mem_cons, List.not_mem_nil, or_false] at hv
    rcases hv with rfl | rfl | rfl
    · exact HX.out.2
    · exact HY.out.2
    · exact HZ.out.2
  have hkW := kk HK.out hka
  have hsz : ((w1.alloc (.cells #[.int .i64 tk, .slice ta tl.length tc] 27)).alloc (.cells #[.int .i64 xk, .int .i64 xn, .string xs, .slice xa xl.length xc, .int .i64 yk, .int .i64 yn, .string ys, .slice ya yl.length yc, .int .i64 zk, .int .i64 zn, .string zs, .slice za zl.length zc] 49)).heap.size = w1.heap.size + 1 + 1 := by simp
  generalize [V.mk xk xn xs xa xc xl, V.mk yk yn ys ya yc yl, V.mk zk zn zs za zc zl] = vs at htr hgd
  clear HVI HX HY HZ HK hka
  generalize (w1.alloc (.cells #[.int .i64 tk, .slice ta tl.length tc] 27)).alloc (.cells #[.int .i64 xk, .int .i64 xn, .string xs, .slice xa xl.length xc, .int .i64 yk, .int .i64 yn, .string ys, .slice ya yl.length yc, .int .i64 zk, .int .i64 zn, .string zs, .slice za zl.length zc] 49) = W0 at *
  generalize w1.heap.size + 1 = g at *
  have HTR := Lib.hid htr
  have HGD := Lib.hid hgd
  have HKW := Lib.hid hkW
  have hgW : g < W0.heap.size := by omega
  clear htr hgd hkW hsz
  refine (HT2.out _ HKW.out).mono ?_
  rintro e w1 ⟨t, x, y, z, rfl, hti, hsh, hrk, hvi, hvf, hgx, hgy, hgz, hk⟩
  obtain ⟨xk, xn, xs, xa, xc, xl⟩ := x
  obtain ⟨yk, yn, ys, ya, yc, yl⟩ := y
  obtain ⟨zk, zn, zs, za, zc, zl⟩ := z
  cases t with
  | mk tk ta tc tl =>
  rw [T.val_mk]
  simp only [cellsL, V.cells4, List.flatMap_cons, List.flatMap_nil, List.cons_append, List.nil_append, List.append_nil, V.k, V.n, V.s, V.a, V.l, V.cap]
  have HVI := Lib.hid hvi
  have HX := Lib.hid hgx
  have HY := Lib.hid hgy
  have HZ := Lib.hid hgz
  have HK := Lib.hid hk
  clear hti hvi hvf hgx hgy hgz hk hsh hrk
  go_wp2_with fail
  have hka := kk (ka w1 (.cells #[.int .i64 tk, .slice ta tl.length tc] 27)) (ka _ (.cells #[.int .i64 xk, .int .i64 xn, .string xs, .slice xa xl.length xc, .int .i64 yk, .int .i64 yn, .string ys, .slice ya yl.length yc, .int .i64 zk, .int .i64 zn, .string zs, .slice za zl.length zc] 49))
  have htr : Trio ((w1.alloc (.cells #[.int .i64 tk, .slice ta tl.length tc] 27)).alloc (.cells #[.int .i64 xk, .int .i64 xn, .string xs, .slice xa xl.length xc, .int .i64 yk, .int .i64 yn, .string ys, .slice ya yl.length yc, .int .i64 zk, .int .i64 zn, .string zs, .slice za zl.length zc] 49)) (w1.heap.size + 1) [.mk xk xn xs xa xc xl, .mk yk yn ys ya yc yl, .mk zk zn zs za zc zl] :=
    ⟨blockHere (by simp), rfl, HVI.out.keep hka.size hka, fun v hv => by simp at hv; rcases hv with rfl | rfl | rfl; exact HX.out.valid; exact HY.out.valid; exact HZ.out.valid⟩
  have hgd : ∀ v ∈ [V.mk xk xn xs xa xc xl, .mk yk yn ys ya yc yl, .mk zk zn zs za zc zl], v.sh 3 = true ∧ v.rank ≤ 13 := fun v hv => by
    simp only [List.mem_cons, List.not_mem_nil, or_false] at hv
    rcases hv with rfl | rfl | rfl
    · exact HX.out.2
    · exact HY.out.2
    · exact HZ.out.2
  have hkW := kk HK.out hka
  have hsz : ((w1.alloc (.cells #[.int .i64 tk, .slice ta tl.length tc] 27)).alloc (.cells #[.int .i64 xk, .int .i64 xn, .string xs, .slice xa xl.length xc, .int .i64 yk, .int .i64 yn, .string ys, .slice ya yl.length yc, .int .i64 zk, .int .i64 zn, .string zs, .slice za zl.length zc] 49)).heap.size = w1.heap.size + 1 + 1 := by simp
  generalize [V.mk xk xn xs xa xc xl, V.mk yk yn ys ya yc yl, V.mk zk zn zs za zc zl] = us at htr hgd
  clear HVI HX HY HZ HK hka
  generalize (w1.alloc (.cells #[.int .i64 tk, .slice ta tl.length tc] 27)).alloc (.cells #[.int .i64 xk, .int .i64 xn, .string xs, .slice xa xl.length xc, .int .i64 yk, .int .i64 yn, .string ys, .slice ya yl.length yc, .int .i64 zk, .int .i64 zn, .string zs, .slice za zl.length zc] 49) = W1 at *
  generalize w1.heap.size + 1 = h at *
  have HTR2 := Lib.hid htr
  have HGD2 := Lib.hid hgd
  have HKW2 := Lib.hid hkW
  clear htr hgd hkW hsz
  go_loopw [11] (fun i wr => ∃ (j : Nat), j ≤ 3 ∧ i = .int .i64 j ∧ Kp W1 wr) (fun i _ => 3 - (intOf i).toNat)
  case atStart => exact ⟨0, by omega, rfl, Below.refl _ _⟩
  case round =>
    obtain ⟨j, hj, rfl, hk⟩ := hrel
    obtain ⟨wo, rfl⟩ : ∃ wo : World, wo = wr := ⟨_, rfl⟩
    by_cases hlt : j < 3
    · have hlt' : (j : Int) < 3 := by omega
      have HK := Lib.hid hk
      clear hk
      go_wp2_with fail
      go_loopw [12] (fun i wr => ∃ (m : Nat), m ≤ 3 ∧ i = .int .i64 m ∧ Kp W1 wr) (fun i _ => 3 - (intOf i).toNat)
      case atStart => exact ⟨0, by omega, rfl, HK.out⟩
      case round =>
        obtain ⟨m, hm, rfl, hk⟩ := hrel
        by_cases hml : m < 3
        · have hml' : (m : Int) < 3 := by omega
          have g0 : (0 : Int) ≤ (j : Int) := by omega
          have g1 : (0 : Int) ≤ (m : Int) := by omega
          obtain ⟨x, hx, hxi, hxv, c0, c1, c2, c3⟩ := HTR.out.at (kk HKW2.out hk) hlt
          obtain ⟨y, hy, hyi, hyv, d0, d1, d2, d3⟩ := HTR2.out.at hk hml
          obtain ⟨hxh, hxr⟩ := HGD.out x (List.mem_of_getElem? hx)
          obtain ⟨hyh, hyr⟩ := HGD2.out y (List.mem_of_getElem? hy)
          have e1 := keys_less x y 3 3 hxh hyh
          have e2 := keys_eql x y 3 3 hxh hyh
          have e3 := keys_part x y 3 3 hxh hyh
          have C := fun (w2 : World) (h : Kp wr w2) => compare_prog x y w2 (hxi.keep h.size h) (hyi.keep h.size h)
          rw [show cmpV x y = .tuple #[.int .i64 (x.ord y), .int .i64 0] from by simp [cmpV, hxv, hyv]] at C
          have hml0 : (min (l2.length : Int) 30).toNat ≤ l2.length := by omega
          have O := fun (w2 : World) => ofKey_tail w2 x hxh hxr (l2.take (min (l2.length : Int) 30).toNat) (by simp; omega)
          rw [show (if (l2.take (min (l2.length : Int) 30).toNat).length = 0 then (0 : Int) else 8) = if l2.length = 0 then 0 else 8 from take_code l2 _ (by omega)] at O
          have CV2 := fun (w1 : World) (hh : Kp wr w1) => HCV.out w1 (kk HKW.out (kk HKW2.out (kk hk hh))) (min (l2.length : Int) 30).toNat (by omega) cap2
          have hts : (strOfNums (l2.take (min (l2.length : Int) 30).toNat)).size ≤ 30 := by
            simp [strOfNums, ByteArray.size]; omega
          generalize strOfNums (l2.take (min (l2.length : Int) 30).toNat) = ts at *
          clear hml0
          have KX := fun (w2 : World) (h : Kp wr w2) => keyOk x w2 (hxi.keep h.size h) hxv
          have KY := fun (w2 : World) (h : Kp wr w2) => keyOk y w2 (hyi.keep h.size h) hyv
          clear hx hy hxv hyv hxi hyi
          obtain ⟨xk, xn, xs, xa, xc, xl⟩ := x
          obtain ⟨yk, yn, ys, ya, yc, yl⟩ := y
          simp only [V.val_mk, V.k, V.n, V.s, V.a, V.l, V.cap] at C KX KY c0 c1 c2 c3 d0 d1 d2 d3
          generalize hA : (⟨(V.mk xk xn xs xa xc xl).keyB.toArray⟩ : ByteArray) = A at *
          generalize hB : (⟨(V.mk yk yn ys ya yc yl).keyB.toArray⟩ : ByteArray) = B at *
          have hAl : (V.mk xk xn xs xa xc xl).keyB = A.toList := by rw [← hA, ByteArray.toList_eq]
          have hBl : (V.mk yk yn ys ya yc yl).keyB = B.toList := by rw [← hB, ByteArray.toList_eq]
          have hAz : A.size ≤ 1430 := by
            have := V.keyB_len _ _ hxh
            rw [← hA]; simp [ByteArray.size]; omega
          have hBz : B.size ≤ 1430 := by
            have := V.keyB_len _ _ hyh
            rw [← hB]; simp [ByteArray.size]; omega
          rw [hAl, hBl] at e1 e2 e3
          clear hA hB hAl hBl
          generalize (V.mk xk xn xs xa xc xl).ord (V.mk yk yn ys ya yc yl) = n at *
          have hgr : g < wr.heap.size := World.block_lt_of_cell? wr _ c0
          have hhr : h < wr.heap.size := World.block_lt_of_cell? wr _ d0
          clear hxh hyh hxr hyr
          have HC := Lib.hid C
          have HKX1 := Lib.hid KX
          have HKY1 := Lib.hid KY
          have HO := Lib.hid O
          have HCV2 := Lib.hid CV2
          have E1 := Lib.hid e1
          have E2 := Lib.hid e2
          have E3 := Lib.hid e3
          have HK2 := Lib.hid hk
          clear C KX KY O CV2 e1 e2 e3 hk
          go_upto_region 9 with fail
          go_cut [13, 14] (fun s13 s14 wx => ∃ bx bw : Nat, s13 = .pointer (some ⟨bx, 0, none⟩) ∧ s14 = .pointer (some ⟨bw, 0, none⟩) ∧ wx.heap[bx]? = some (.cells #[.int .i64 xk, .int .i64 xn, .string xs, .slice xa xl.length xc] 24 (0, 0)) ∧ wx.heap[bw]? = some (.cells #[.int .i64 yk, .int .i64 yn, .string ys, .slice ya yl.length yc] 24 (0, 0)) ∧ Kp wr wx)
          case first =>
            go_region
            · go_wp2_with fail
              go_meet
              exact ⟨_, _, rfl, rfl, blockPast (blockHere rfl), blockHere (by simp), kk (kk (ka _ _) (ka _ _)) kpD⟩
            · go_wp2_with fail
              go_meet
              exact ⟨_, _, rfl, rfl, blockHere (by simp), blockPast (blockHere rfl), kk (kk (ka _ _) (ka _ _)) kpD⟩
          case rest =>
            obtain ⟨bx, bw, rfl, rfl, hbx, hbw, hkx⟩ := hcut
            obtain ⟨wx, rfl⟩ : ∃ wx : World, wx = wc := ⟨_, rfl⟩
            clear c0 c1 c2 c3 d0 d1 d2 d3 hgr hhr
            obtain ⟨c0, c1, c2, c3, -⟩ := cell4 hbx
            obtain ⟨d0, d1, d2, d3, -⟩ := cell4 hbw
            have HBX := Lib.hid hbx
            have HBW := Lib.hid hbw
            have HKX := Lib.hid hkx
            clear hbx hbw hkx
            go_wp2_with fail
            refine (HKX1.out _ HKX.out).mono ?_
            rintro e w2 ⟨rfl, hk2⟩
            replace c0 := kc hk2 c0
            replace c1 := kc hk2 c1
            replace c2 := kc hk2 c2
            replace c3 := kc hk2 c3
            replace d0 := kc hk2 d0
            replace d1 := kc hk2 d1
            replace d2 := kc hk2 d2
            replace d3 := kc hk2 d3
            have HK3 := Lib.hid (kk HKX.out hk2)
            clear hk2
            go_wp2_with fail
            refine (HKY1.out _ HK3.out).mono ?_
            rintro e w3 ⟨rfl, hk3⟩
            replace c0 := kc hk3 c0
            replace c1 := kc hk3 c1
            replace c2 := kc hk3 c2
            replace c3 := kc hk3 c3
            replace d0 := kc hk3 d0
            replace d1 := kc hk3 d1
            replace d2 := kc hk3 d2
            replace d3 := kc hk3 d3
            have HK4 := Lib.hid (kk HK3.out hk3)
            clear hk3
            go_wp2_with fail
            refine (HC.out _ HK4.out).mono ?_
            rintro e w4 ⟨rfl, hk4⟩
            have HK5 := Lib.hid (kk HK4.out hk4)
            clear hk4 c0 c1 c2 c3 d0 d1 d2 d3
            have e1 := E1.out
            have e2 := E2.out
            have hcv := HCV2.out w4 HK5.out
            have hcase := part_case A B n E3.out
            obtain ⟨c, hc⟩ : ∃ c, (if l2.length = 0 then (0 : Int) else 8) = c := ⟨_, rfl⟩
            have hO := HO.out
            rw [hc] at hO
            have HO2 := Lib.hid hO
            have hcc : (c == 0) = ((l2.length : Int) == 0) ∧ ((c != 0) = true → (c != 8) = false) := by
              rw [← hc]; exact code_len l2.length
            obtain ⟨hc1, hc2⟩ := hcc
            have HC2 := Lib.hid hc2
            clear hc hO HO hc2
            rcases hcase with hn | ⟨hn, hab⟩
            all_goals
              go_wp2_with fail
            all_goals
              refine (HO2.out _).mono ?_
              rintro e w5 ⟨k, n5, s5, a5, l5, c5, rfl, hk5⟩
              have HK6 := Lib.hid (kk HK5.out hk5)
              clear hk5
              by_cases h8 : c = 0
              · subst h8
                have hl0 : ((l2.length : Int) == 0) = true := hc1.symm
                clear hc1
                go_wp2_with fail
                go_roundw
                case rel => exact ⟨m + 1, by omega, by first | go_num | simp, kk HK2.out (kk HK6.out (ka _ _))⟩
                case measure => simp [intOf]; omega
              · have hc8 : (c != 0) = true := bne_iff_ne.2 h8
                have hc9 := HC2.out hc8
                have hc10 : (c == 0) = false := beq_eq_false_iff_ne.2 h8
                have hl0 : ((l2.length : Int) == 0) = false := hc1.symm.trans hc10
                clear hc1
                go_wp2_with fail
                go_roundw
                case rel => exact ⟨m + 1, by omega, by first | go_num | simp, kk HK2.out (kk HK6.out (ka _ _))⟩
                case measure => simp [intOf]; omega
        · have hm3 : m = 3 := by omega
          subst hm3
          have HK2 := Lib.hid hk
          clear hk
          go_wp2_with fail
          go_roundw
          case rel => exact ⟨j + 1, by omega, by first | go_num | simp, HK2.out⟩
          case measure => simp [intOf]; omega
    · have hj3 : j = 3 := by omega
      subst hj3
      have HK := Lib.hid (kk HKW.out (kk HKW2.out hk))
      clear hk
      go_wp2_with fail
      refine (HE.out _ HK.out).mono ?_
      rintro e w7 ⟨rfl, hk⟩
      have HK7 := Lib.hid (kk HK.out hk)
      clear hk
      go_wp2_with fail
      go_ret
      exact ⟨rfl, HK7.out⟩

end Go.Proofs.YtkofebafmjjljaaGreatDoor

/-
  ValueSorts: WHAT THE WALKS GIVE, for every arguments that read; THE STATEMENT, AND ITS CARD.
-/
namespace Go.Proofs.YtkofebafmjjljaaGreatDoor.valueSorts
open Go.ChangeShapes Go.WideShapes Go.ChangeAt Go.RowKit Go.Lib

theorem tens {W : World} (h : laidMetH Tryz.prog Rows.valueSortsRow.laid W) : Tb W W.heap.size := by
  have h1 : laidMet Tryz.prog Rows.valueSortsRow.laid W := h
  have h2 := laid_tail (laid_tail h1)
  refine Lib.tabBelow_of_tabIs ?_
  exact Lib.tabIs_of_head gTab (t := 179) (n := 20) (e := 167) (by kernel_rfl) (by kernel_rfl) (by kernel_rfl) (by kernel_rfl) (by kernel_rfl) h2

set_option maxRecDepth 100000 in
theorem contract (H : Type) (enc : TypeId × Value → H) (W : World) (base : Nat) (args : Array Value) (ds gs : List (DataW H)) (before : List MemPlace)
    (hval : ∀ (j : Nat) t v, Tryz.f8.params[j]? = some t → args[j]? = some v → Value.okWide Tryz.prog W .any base t v)
    (hW : DataW.Whole enc Tryz.prog Tryz.f8.params.toList Rows.valueSortsSpec.vars false W args.toList ds gs before) (ht : Tb W W.heap.size) :
    Calls Tryz.prog 8 args W fun e W' => ∃ v, e = .returned v ∧ Rows.valueSortsSpec.post enc Tryz.prog Tryz.f8 false true false false W args v W' := by
  have hW' := hW
  obtain ⟨p, q, hA0, hV, rfl, hfz, hnd⟩ := hW
  have hA : DataW.TrodAll enc Tryz.prog W 0 (fun _ => true) true Tryz.f8.params.toList args.toList ds p := hA0
  rw [Tryz.params8] at hA hval
  obtain ⟨v0, vs0, d0, ds0, p0, q0, hargs, rfl, rfl, h0, r0⟩ := trodAll_cons hA
  obtain ⟨v1, vs1, d1, ds1, p1, q1, rfl, rfl, rfl, h1, r1⟩ := trodAll_cons r0
  obtain ⟨v2, vs2, d2, ds2, p2, q2, rfl, rfl, rfl, h2, r2⟩ := trodAll_cons r1
  obtain ⟨rfl, rfl, rfl⟩ := trodAll_nil r2
  obtain rfl : args = #[v0, v1, v2] := by cases args; simp_all
  obtain ⟨rfl, rfl⟩ := trodVars_none hV
  obtain ⟨a0, c0, l0, rfl, hx0⟩ := open_argI (hval 0 48 v0 rfl rfl) h0
  obtain ⟨a1, c1, l1, rfl, hx1⟩ := open_argI (hval 1 48 v1 rfl rfl) h1
  obtain ⟨a2, c2, l2, rfl, hx2⟩ := open_argY (hval 2 57 v2 rfl rfl) h2
  refine (sorts_any a0 c0 l0 a1 c1 l1 a2 c2 l2 W hx0 hx1 hx2 ht).mono fun e W' ⟨he, hk⟩ => ?_
  subst he
  refine ⟨_, rfl, ?_⟩
  have hlt : ∀ p ∈ p0 ++ (p1 ++ (p2 ++ [])) ++ [], p.block < W.heap.size := fun p hp => hW'.lt p hp
  have hT0 : 48 < Tryz.prog.types.size := of_decide_eq_true (by kernel_rfl)
  have hT1 : 57 < Tryz.prog.types.size := of_decide_eq_true (by kernel_rfl)
  refine post_of_kp (pa := p0 ++ (p1 ++ (p2 ++ []))) (pv := []) hW' hk (fun _ _ _ => trodAll_cons_mk (shut_bool Tryz.underlying4 _) trodAll_mk0) (fun sp hsp => ?_) (fun _ _ => rfl) rfl (ok_one (by kernel_rfl) rfl (okWide_bool_mk Tryz.underlying4 _))
  rw [Tryz.params8]
  exact trodAll_cons_mk (trod_kp (DataW.Trod.respare kidsP fullP hT0 h0 (fun p hp => hsp p (by simp [hp]))) hk (fun p hp => hlt p (by simp [hp])))
    (trodAll_cons_mk (trod_kp (DataW.Trod.respare kidsP fullP hT0 h1 (fun p hp => hsp p (by simp [hp]))) hk (fun p hp => hlt p (by simp [hp])))
    (trodAll_cons_mk (trod_kp (DataW.Trod.respare kidsP fullP hT1 h2 (fun p hp => hsp p (by simp [hp]))) hk (fun p hp => hlt p (by simp [hp])))
    (trodAll_mk0)))

theorem own : ownKnob Tryz.prog.godebug = none := by kernel_rfl

def intsOf (k : IntKind) : DataW Unit → Array Value
  | .agg l => (l.map fun d => match d with | .lit (.int _ n) => Value.int k n | _ => Value.int k 0).toArray
  | _ => #[]

/-- THE WITNESS: the settled world with two blocks more (the two errors), the five variables holding what their initialisers lay. -/
noncomputable def laidWorld (os : Os) : World :=
  let N := (World.settled Tryz.prog os).heap.size
  let w0 := World.holding Tryz.prog os ⟨#[.cells #[.string ⟨#[105, 110, 118, 97, 108, 105, 100, 32, 115, 121, 110, 116, 97, 120]⟩] 187 (0, 0), .cells #[.string ⟨#[118, 97, 108, 117, 101, 32, 111, 117, 116, 32, 111, 102, 32, 114, 97, 110, 103, 101]⟩] 187 (0, 0)], #[], []⟩
  let put (h : Array Obj) (g : Nat) (cs : Array Value) : Array Obj := h.modify g fun
    | .cells _ t frozen => .cells cs t frozen
    | o => o
  let h1 := put w0.heap 1 #[.iface 185 (.pointer (some ⟨N, 0, none⟩))]
  let h2 := put h1 2 #[.iface 185 (.pointer (some ⟨N + 1, 0, none⟩))]
  let h3 := put h2 3 (intsOf .u64 Rows.laid_internal_strconv_uint64pow10)
  let h4 := put h3 4 (intsOf .u8 Rows.laid_math_bits_deBruijn32tab)
  let h5 := put h4 5 (intsOf .u8 Rows.laid_math_bits_deBruijn64tab)
  { w0 with heap := h5 }

noncomputable abbrev N0 : Nat := (World.settled Tryz.prog default).heap.size
/-- The witness's arguments. -/
abbrev wArgs : Array Value := #[.slice none 0 0, .slice none 0 0, .slice none 0 0]

set_option maxRecDepth 1000000 in
theorem laid_met (os : Os) (args : Array Value) : laidMet Tryz.prog Rows.valueSortsRow.laid ((laidWorld os).forCall (fun _ _ => 0) ⟨#[], args, []⟩).memory :=
  (LaidIn.of_run (l := Rows.valueSortsRow.laid) [4, 5, 3, 2, N0 + 1, 1, N0] 8 (by kernel_rfl) (by kernel_rfl) (by kernel_rfl) (by kernel_rfl)).met

theorem witness_row (os : Os) {H : Type} (enc : TypeId × Value → H) :
    (OpenSpec.ofChange Rows.valueSortsSpec).preRow enc Tryz.prog Tryz.f8 Rows.valueSortsRow.domain false Rows.valueSortsRow.laid ((laidWorld os).forCall (fun _ _ => 0) ⟨#[], wArgs, []⟩).memory wArgs := by
  have hw : (DataW.whole enc Tryz.prog ((laidWorld os).forCall (fun _ _ => 0) ⟨#[], wArgs, []⟩).memory Tryz.f8.params.toList Rows.valueSortsSpec.vars false wArgs.toList 8).map (fun x => (x.1, x.2.1)) =
      some ([.nil, .nil, .nil], []) := by kernel_rfl
  obtain ⟨⟨x1, x2, x3⟩, hx, hx1⟩ := Option.map_eq_some_iff.1 hw
  simp only [Prod.mk.injEq] at hx1
  obtain ⟨rfl, rfl⟩ := hx1
  exact OpenSpec.preRow_of_cond 8 hx (by kernel_rfl) (fun k hk => by cases hk) (by kernel_rfl) (laid_met os _)

set_option maxRecDepth 100000 in
set_option maxHeartbeats 2000000 in
theorem lifted (os : Os) (started : os.Started) (H : Type) (enc : TypeId × Value → H) (F : Stop.Interp) :
    ReturnsInHanded {} Tryz.checked os 8 .any ((OpenSpec.ofChange Rows.valueSortsSpec).preRow enc Tryz.prog Tryz.f8 Rows.valueSortsRow.domain false Rows.valueSortsRow.laid) (((OpenSpec.ofChange Rows.valueSortsSpec).at F).post enc Tryz.prog Tryz.f8 false true false false) := by
  refine returnsInHanded_of_row (C := Tryz.checked) (s := OpenSpec.ofChange Rows.valueSortsSpec) own started (by kernel_rfl) Tryz.func8
    (witness_row_atRef (enc := enc) (C := Tryz.checked) false (laidWorld os) wArgs rfl (by kernel_rfl) (by kernel_rfl) (by kernel_rfl) (witness_row os enc)) ?_
  intro W base args ds gs before hval hW _ _ _ hL _ _
  exact contract H enc W base args ds gs before hval hW (tens hL)

theorem said : Rows.ValueSortsSaid :=
  OpenClaim.holds_of_cond 8 Tryz.f8 rfl rfl rfl rfl rfl rfl rfl ⟨rfl, rfl, rfl, rfl, rfl⟩ rfl rfl rfl rfl rfl (by kernel_rfl) Tryz.func8 (by kernel_rfl)
    (of_decide_eq_true (by kernel_rfl)) (by unfold Func.isWrapper; first | (rw [if_pos (by decide +kernel)]; kernel_rfl) | (rw [if_neg (by decide +kernel)]; exact ⟨rfl, rfl⟩))
    (fun os started H enc _ F => by rw [OpenClaim.pre_eq_preRow]; exact lifted os started H enc F)

/-- No parameter wants a stand-in; the program's own looks are off: what the card asks. -/
theorem plain (f : FuncId) (fn : Func) (hf : Tryz.pinned.checked.prog.funcNamed "deltaworks/deltaworkslaw01.ValueSorts" = some f) (hfn : Tryz.pinned.checked.prog.funcs[f]? = some fn) :
    true = Tryz.pinned.checked.prog.looks [] ∧ ∀ (j : Nat) t, fn.params[j]? = some t → Tryz.pinned.checked.prog.wantsStandIn t = false := by
  obtain rfl : f = 8 := Option.some.inj ((show Tryz.prog.funcNamed "deltaworks/deltaworkslaw01.ValueSorts" = some 8 by kernel_rfl).symm.trans hf) |>.symm
  obtain rfl : fn = Tryz.f8 := (Option.some.inj (Tryz.func8.symm.trans hfn)).symm
  refine ⟨by kernel_rfl, fun j t ht => ?_⟩
  rw [Tryz.params8] at ht
  obtain rfl | rfl : t = 48 ∨ t = 57 := by simpa using Array.mem_of_getElem? ht
  · exact (show Tryz.prog.wantsStandIn 48 = false by kernel_rfl)
  · exact (show Tryz.prog.wantsStandIn 57 = false by kernel_rfl)

/-- ████ THE CARD ████ -/
theorem card : Rows.ValueSortsCardSaid :=
  Claim7.holds_tied_plain_at .later [] _ _ _ _ said (fun _ h => by cases h) (by kernel_rfl) (fun _ h => by cases h) valueSorts_row_tie rfl ⟨rfl, rfl⟩ (by kernel_rfl) rfl plain (by kernel_rfl)

end Go.Proofs.YtkofebafmjjljaaGreatDoor.valueSorts
