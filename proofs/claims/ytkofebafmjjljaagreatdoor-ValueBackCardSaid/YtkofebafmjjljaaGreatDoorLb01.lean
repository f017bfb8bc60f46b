/-
  Proved: the statement ValueBack (of a type and values that numbers make, texts and keys are read as what they were written of, none with a blank more behind it, each value is of its type and its parts of the type's parts, and the chapter's examples hold), as its tied card says it, with no condition beyond the card's own.
  Part 1 of 1.
-/
import Derived.Test.YtkofebafmjjljaaGreatDoorBb14
import Derived.Deep.RegionHeld3
import Derived.Deep.RegionLaw
import Derived.Test.YtkofebafmjjljaaGreatDoorBb07
import Derived.Test.YtkofebafmjjljaaGreatDoorBb11
import Derived.Lib.LaidIn
import Derived.Deep.DeepWitnessRowRef
/-
  ValueBack: the statement's function, at any list of numbers.
-/
namespace Go.Proofs.YtkofebafmjjljaaGreatDoor
open Go.RowKit

set_option maxRecDepth 100000 in
set_option maxHeartbeats 16000000 in
theorem back_any (a : Option Addr) (cap : Nat) (l : List Int) (w : World) (hin : Ints w w.heap.size a cap l) (tb : Tb w w.heap.size) (eb : Eb w w.heap.size) :
    Calls Tryz.prog 9 #[.slice a l.length cap] w fun e w' => e = .returned (.bool true) ∧ Kp w w' := by
  have T1 := three_any a cap l w hin
  have E := fun w1 (h : Kp w w1) => valued_any w1 (tb.keep h h.size)
  have TB := fun w1 (h : Kp w w1) => tb.keep h h.size
  have EB := fun w1 (h : Kp w w1) => eb.keep h h.size
  have HT1 := Lib.hid T1
  have HE := Lib.hid E
  have HTB := Lib.hid TB
  have HEB := Lib.hid EB
  clear T1 E hin tb eb TB EB
  go_enter Tryz.func9, Tryz.ntmps9
  go_wp2_with fail
  refine HT1.out.mono ?_
  rintro e w1 ⟨t, x, y, z, rfl, hti, hsh, hrk, hvi, hvf, hgx, hgy, hgz, hk⟩
  cases t with
  | mk tk ta tc tl =>
  have htv := T.valid_made hsh hrk
  have hgd : ∀ v ∈ [x, y, z], v.is (.mk tk ta tc tl) = true ∧ v.rank ≤ 13 := fun v hv => by
    simp only [List.mem_cons, List.not_mem_nil, or_false] at hv
    rcases hv with rfl | rfl | rfl
    · exact ⟨hgx.1, hgx.2.2⟩
    · exact ⟨hgy.1, hgy.2.2⟩
    · exact ⟨hgz.1, hgz.2.2⟩
  have hval : ∀ v ∈ [x, y, z], v.valid = true := fun v hv => by
    simp only [List.mem_cons, List.not_mem_nil, or_false] at hv
    rcases hv with rfl | rfl | rfl
    · exact hgx.valid
    · exact hgy.valid
    · exact hgz.valid
  have hne := txtT_ne htv
  have P1 := fun (w1 : World) (hi : (T.mk tk ta tc tl).In w1 w1.heap.size) => typeTextOk (.mk tk ta tc tl) w1 hi htv hne
  have P2 := fun (w1 : World) => typeParse_txt (.mk tk ta tc tl) htv hrk w1
  have P3 := fun (w1 : World) => typeParse_blank (.mk tk ta tc tl) htv hrk w1
  have hts : (T.mk tk ta tc tl).txt.length ≤ 400 := by have := T.txt_len (.mk tk ta tc tl) 3 hsh; omega
  generalize hA : (⟨(T.mk tk ta tc tl).txt.toArray⟩ : ByteArray) = A at P1 P2 P3
  have hAz : A.size ≤ 400 := by rw [← hA]; simpa [ByteArray.size] using hts
  have P4 := fun (u : T) (w1 : World) (h1 : (T.mk tk ta tc tl).In w1 w1.heap.size) (h2 : u.In w1 w1.heap.size) => sameT (T.mk tk ta tc tl).rank (.mk tk ta tc tl) u w1 (Nat.le_refl _) h1 h2
  have HP1 := Lib.hid P1
  have HP2 := Lib.hid P2
  have HP3 := Lib.hid P3
  have HP4 := Lib.hid P4
  have HTI := Lib.hid hti
  have HVI := Lib.hid hvi
  have HGD := Lib.hid hgd
  have HVAL := Lib.hid hval
  have HTV := Lib.hid htv
  have HK := Lib.hid hk
  clear P1 P2 P3 P4 hti hsh hrk hvi hvf hgx hgy hgz hk hgd hval hne hts hA htv
  obtain ⟨xk, xn, xs, xa, xc, xl⟩ := x
  obtain ⟨yk, yn, ys, ya, yc, yl⟩ := y
  obtain ⟨zk, zn, zs, za, zc, zl⟩ := z
  rw [T.val_mk]
  simp only [cellsL, V.cells4, List.flatMap_cons, List.flatMap_nil, List.cons_append, List.nil_append, List.append_nil, V.k, V.n, V.s, V.a, V.l, V.cap]
  go_wp2_with fail
  have hka := kk (ka w1 (.cells #[.int .i64 tk, .slice ta tl.length tc] 27)) (ka _ (.cells #[.int .i64 xk, .int .i64 xn, .string xs, .slice xa xl.length xc, .int .i64 yk, .int .i64 yn, .string ys, .slice ya yl.length yc, .int .i64 zk, .int .i64 zn, .string zs, .slice za zl.length zc] 49))
  have htr : Trio ((w1.alloc (.cells #[.int .i64 tk, .slice ta tl.length tc] 27)).alloc (.cells #[.int .i64 xk, .int .i64 xn, .string xs, .slice xa xl.length xc, .int .i64 yk, .int .i64 yn, .string ys, .slice ya yl.length yc, .int .i64 zk, .int .i64 zn, .string zs, .slice za zl.length zc] 49)) (w1.heap.size + 1) [.mk xk xn xs xa xc xl, .mk yk yn ys ya yc yl, .mk zk zn zs za zc zl] :=
    ⟨blockHere (by simp), rfl, HVI.out.keep hka.size hka, HVAL.out⟩
  have htb : ((w1.alloc (.cells #[.int .i64 tk, .slice ta tl.length tc] 27)).alloc (.cells #[.int .i64 xk, .int .i64 xn, .string xs, .slice xa xl.length xc, .int .i64 yk, .int .i64 yn, .string ys, .slice ya yl.length yc, .int .i64 zk, .int .i64 zn, .string zs, .slice za zl.length zc] 49)).heap[w1.heap.size]? = some (.cells #[.int .i64 tk, .slice ta tl.length tc] 27 (0, 0)) := blockPast (blockHere rfl)
  have hti := HTI.out.keep hka.size hka
  have hkW := kk HK.out hka
  have hgd := HGD.out
  have hsz : ((w1.alloc (.cells #[.int .i64 tk, .slice ta tl.length tc] 27)).alloc (.cells #[.int .i64 xk, .int .i64 xn, .string xs, .slice xa xl.length xc, .int .i64 yk, .int .i64 yn, .string ys, .slice ya yl.length yc, .int .i64 zk, .int .i64 zn, .string zs, .slice za zl.length zc] 49)).heap.size = w1.heap.size + 1 + 1 := by simp
  clear HTI HVI HGD HVAL HK hka
  generalize [V.mk xk xn xs xa xc xl, V.mk yk yn ys ya yc yl, V.mk zk zn zs za zc zl] = vs at htr hgd
  generalize (w1.alloc (.cells #[.int .i64 tk, .slice ta tl.length tc] 27)).alloc (.cells #[.int .i64 xk, .int .i64 xn, .string xs, .slice xa xl.length xc, .int .i64 yk, .int .i64 yn, .string ys, .slice ya yl.length yc, .int .i64 zk, .int .i64 zn, .string zs, .slice za zl.length zc] 49) = W0 at *
  generalize hgg : w1.heap.size + 1 = g at *
  generalize w1.heap.size = tt at *
  have hgW : g < W0.heap.size := by omega
  have htW : tt < W0.heap.size := by omega
  have HTR := Lib.hid htr
  have HTBL := Lib.hid htb
  have HTI := Lib.hid hti
  have HKW := Lib.hid hkW
  have HGD := Lib.hid hgd
  clear htr htb hti hkW hgd hsz hgg
  refine (HP1.out _ HTI.out).mono ?_
  rintro e w2 ⟨rfl, hk2⟩
  have HK2 := Lib.hid hk2
  clear hk2
  go_wp2_with fail
  refine (HP2.out _).mono ?_
  rintro e w3 ⟨u, rfl, hui, huf, hus, hk3⟩
  have HK3 := Lib.hid (kk HK2.out hk3)
  have HUI := Lib.hid hui
  have HUS := Lib.hid (T.same_symm _ _ hus)
  clear hk3 hui huf hus
  cases u with
  | mk uk ua uc ul =>
  rw [T.val_mk]
  go_wp2_with fail
  have HK4 := Lib.hid (kk HK3.out (ka w3 (.cells #[.int .i64 uk, .slice ua ul.length uc] 27)))
  have hub : (w3.alloc (.cells #[.int .i64 uk, .slice ua ul.length uc] 27)).heap[w3.heap.size]? = some (.cells #[.int .i64 uk, .slice ua ul.length uc] 27 (0, 0)) := blockHere rfl
  have hui2 := HUI.out.keep (ka w3 (.cells #[.int .i64 uk, .slice ua ul.length uc] 27)).size (ka w3 (.cells #[.int .i64 uk, .slice ua ul.length uc] 27))
  generalize w3.alloc (.cells #[.int .i64 uk, .slice ua ul.length uc] 27) = w4 at *
  generalize w3.heap.size = ub at *
  refine (HP3.out _).mono ?_
  rintro e w5 ⟨rfl, hk5⟩
  have HK5 := Lib.hid (kk (kk HK4.out hk5) (ka w5 (.cells #[.int .i64 0, .slice none 0 0] 27)))
  have hub5 := ((kk hk5 (ka w5 (.cells #[.int .i64 0, .slice none 0 0] 27))).block _ (lt_of_block hub)).trans hub
  have hui5 := hui2.keep (kk hk5 (ka w5 (.cells #[.int .i64 0, .slice none 0 0] 27))).size (kk hk5 (ka w5 (.cells #[.int .i64 0, .slice none 0 0] 27)))
  have htb5 := (HK5.out.block _ htW).trans HTBL.out
  obtain ⟨c0, c1, -⟩ := cell2 htb5
  obtain ⟨d0, d1, -⟩ := cell2 hub5
  have HUI5 := Lib.hid hui5
  clear hub hui2 hk5 HK2 HK3 HK4 HUI htb5 hub5 hui5
  go_wp2_with fail
  refine (HP4.out _ _ (HTI.out.keep HK5.out.size HK5.out) HUI5.out).mono ?_
  rintro e w6 ⟨rfl, hk6⟩
  rw [HUS.out]
  have HK6 := Lib.hid (kk HK5.out hk6)
  clear c0 c1 d0 d1 hk6 HUI5
  go_wp2_with fail
  go_loopw [11] (fun i wr => ∃ (j : Nat), j ≤ 3 ∧ i = .int .i64 j ∧ Kp W0 wr) (fun i _ => 3 - (intOf i).toNat)
  case atStart => exact ⟨0, by omega, rfl, HK6.out⟩
  case round =>
    obtain ⟨j, hj, rfl, hk⟩ := hrel
    obtain ⟨wo, rfl⟩ : ∃ wo : World, wo = wr := ⟨_, rfl⟩
    by_cases hlt : j < 3
    · have hlt' : (j : Int) < 3 := by omega
      have gj0 : (0 : Int) ≤ (j : Int) := by omega
      obtain ⟨x, hx, hxi, hxv, c0, c1, c2, c3⟩ := HTR.out.at hk hlt
      obtain ⟨hxt, hxr⟩ := HGD.out x (List.mem_of_getElem? hx)
      have hgr : g < wo.heap.size := World.block_lt_of_cell? wo _ c0
      have htbr := (hk.block _ htW).trans HTBL.out
      have htr : tt < wo.heap.size := lt_of_block htbr
      have Q1 := fun (w2 : World) (h : Kp wo w2) => textOk x w2 (hxi.keep h.size h) hxv (HTB.out w2 (kk HKW.out (kk hk h)))
      have Q2 := fun (w2 : World) (h : Kp wo w2) => parse_txt x hxv w2 (HTB.out w2 (kk HKW.out (kk hk h))) (HEB.out w2 (kk HKW.out (kk hk h)))
      have Q3 := fun (w2 : World) (h : Kp wo w2) => parse_blank x hxv w2 (HTB.out w2 (kk HKW.out (kk hk h))) (HEB.out w2 (kk HKW.out (kk hk h)))
      have Q4 := fun (w2 : World) (h : Kp wo w2) => keyOk x w2 (hxi.keep h.size h) hxv
      have Q5 := fun (w2 : World) => ofKey_back x hxv hxr w2
      have Q6 := fun (v : V) (hs : v.same x = true) (w2 : World) (hv : v.In w2 w2.heap.size) (h : Kp wo w2) => sameV v.rank v x w2 (Nat.le_refl _) hv (hxi.keep h.size h)
      have Q7 := fun (w2 : World) (h : Kp wo w2) => isOk x (.mk tk ta tc tl) w2 (hxi.keep h.size h) (HTI.out.keep (kk hk h).size (kk hk h)) hxv HTV.out hxt
      have hbl : x.txt.length ≤ 12480 := by
        obtain ⟨h1, h2⟩ := V.valid_sh hxv
        have := V.txt_len x 6 h1; omega
      generalize hB : (⟨x.txt.toArray⟩ : ByteArray) = X at Q1 Q2 Q3
      have hXz : X.size ≤ 12480 := by rw [← hB]; simpa [ByteArray.size] using hbl
      generalize (⟨x.keyB.toArray⟩ : ByteArray) = Y at Q4 Q5
      have HX := Lib.hid hx
      have HXI := Lib.hid hxi
      have HXV := Lib.hid hxv
      have HXT := Lib.hid hxt
      clear hx hxi hxv hxt hxr hbl hB
      obtain ⟨xk, xn, xs, xa, xc, xl⟩ := x
      simp only [V.val_mk, V.k, V.n, V.s, V.a, V.l, V.cap] at Q1 Q4 Q6 c0 c1 c2 c3
      have HC3 := Lib.hid c3
      have Q7' : ∀ w2, Kp wo w2 → Calls Tryz.prog 21 #[.agg #[.int .i64 xk, .int .i64 xn, .string xs, .slice xa xl.length xc], .agg #[.int .i64 tk, .slice ta tl.length tc]] w2 fun e w' => e = .returned (.bool true) ∧ Kp w2 w' := Q7
      have HQ1 := Lib.hid Q1
      have HQ2 := Lib.hid Q2
      have HQ3 := Lib.hid Q3
      have HQ4 := Lib.hid Q4
      have HQ5 := Lib.hid Q5
      have HQ6 := Lib.hid Q6
      have HQ7 := Lib.hid Q7'
      have HKR := Lib.hid hk
      have HTBR := Lib.hid htbr
      clear Q1 Q2 Q3 Q4 Q5 Q6 Q7 Q7' hk htbr
      go_wp2_with fail
      refine (HQ1.out _ (Below.refl _ _)).mono ?_
      rintro e w7 ⟨rfl, hk7⟩
      replace c0 := kc hk7 c0
      replace c1 := kc hk7 c1
      replace c2 := kc hk7 c2
      replace c3 := kc hk7 c3
      have HK7 := Lib.hid hk7
      clear hk7
      go_wp2_with fail
      refine (HQ2.out _ HK7.out).mono ?_
      rintro e w8 ⟨v, rfl, hvi, hvf, hvs, hk8⟩
      replace c0 := kc hk8 c0
      replace c1 := kc hk8 c1
      replace c2 := kc hk8 c2
      replace c3 := kc hk8 c3
      have HK8 := Lib.hid (kk HK7.out hk8)
      have HV8 := Lib.hid hvi
      have HVS := Lib.hid hvs
      clear hk8 hvi hvf hvs HK7
      cases v with
      | mk vk vn vs' va vc vl =>
      rw [V.val_mk]
      go_wp2_with fail
      have kv := ka w8 (.cells #[.int .i64 vk, .int .i64 vn, .string vs', .slice va vl.length vc] 24)
      have hvb : (w8.alloc (.cells #[.int .i64 vk, .int .i64 vn, .string vs', .slice va vl.length vc] 24)).heap[w8.heap.size]? = some (.cells #[.int .i64 vk, .int .i64 vn, .string vs', .slice va vl.length vc] 24 (0, 0)) := blockHere rfl
      replace c0 := kc kv c0
      replace c1 := kc kv c1
      replace c2 := kc kv c2
      replace c3 := kc kv c3
      have HK9 := Lib.hid (kk HK8.out kv)
      have HV9 := Lib.hid (HV8.out.keep kv.size kv)
      generalize w8.alloc (.cells #[.int .i64 vk, .int .i64 vn, .string vs', .slice va vl.length vc] 24) = w9 at *
      generalize w8.heap.size = vb at *
      clear kv HV8 HK8
      refine (HQ3.out _ HK9.out).mono ?_
      rintro e w10 ⟨rfl, hk10⟩
      have kz := kk hk10 (ka w10 (.cells zero4 24))
      replace c0 := kc kz c0
      replace c1 := kc kz c1
      replace c2 := kc kz c2
      replace c3 := kc kz c3
      have HVB := Lib.hid ((kz.block _ (lt_of_block hvb)).trans hvb)
      have HK10 := Lib.hid (kk HK9.out kz)
      have HV10 := Lib.hid (HV9.out.keep kz.size kz)
      clear hk10 kz hvb HK9 HV9
      go_wp2_with fail
      refine (HQ4.out _ HK10.out).mono ?_
      rintro e w11 ⟨rfl, hk11⟩
      replace c0 := kc hk11 c0
      replace c1 := kc hk11 c1
      replace c2 := kc hk11 c2
      replace c3 := kc hk11 c3
      have HVB11 := Lib.hid ((hk11.block _ (lt_of_block HVB.out)).trans HVB.out)
      have HK11 := Lib.hid (kk HK10.out hk11)
      have HV11 := Lib.hid (HV10.out.keep hk11.size hk11)
      clear hk11 HVB HK10 HV10
      go_wp2_with fail
      refine (HQ5.out _).mono ?_
      rintro e w12 ⟨v2, rfl, hvi, hvf, hvs, hk12⟩
      cases v2 with
      | mk qk qn qs qa qc ql =>
      rw [V.val_mk]
      have kq := kk hk12 (ka w12 (.cells #[.int .i64 qk, .int .i64 qn, .string qs, .slice qa ql.length qc] 24))
      have HQI := Lib.hid (hvi.keep (ka w12 (.cells #[.int .i64 qk, .int .i64 qn, .string qs, .slice qa ql.length qc] 24)).size (ka w12 (.cells #[.int .i64 qk, .int .i64 qn, .string qs, .slice qa ql.length qc] 24)))
      have HQS := Lib.hid hvs
      replace c0 := kc kq c0
      replace c1 := kc kq c1
      replace c2 := kc kq c2
      replace c3 := kc kq c3
      have hvb := (kq.block _ (lt_of_block HVB11.out)).trans HVB11.out
      have hqb : (w12.alloc (.cells #[.int .i64 qk, .int .i64 qn, .string qs, .slice qa ql.length qc] 24)).heap[w12.heap.size]? = some (.cells #[.int .i64 qk, .int .i64 qn, .string qs, .slice qa ql.length qc] 24 (0, 0)) := blockHere rfl
      have HK12 := Lib.hid (kk HK11.out kq)
      have HV12 := Lib.hid (HV11.out.keep kq.size kq)
      have htb := (HK12.out.block _ htr).trans HTBR.out
      clear hk12 kq hvi hvf hvs HVB11 HK11 HV11
      go_wp2_with fail
      generalize w12.alloc (.cells #[.int .i64 qk, .int .i64 qn, .string qs, .slice qa ql.length qc] 24) = W at *
      generalize w12.heap.size = qb at *
      obtain ⟨m0, m1, m2, m3, -⟩ := cell4 hvb
      obtain ⟨n0, n1, n2, n3, -⟩ := cell4 hqb
      obtain ⟨t0, t1, -⟩ := cell2 htb
      have SV : ∀ w2, Kp W w2 → Calls Tryz.prog 23 #[.agg #[.int .i64 vk, .int .i64 vn, .string vs', .slice va vl.length vc], .agg #[.int .i64 xk, .int .i64 xn, .string xs, .slice xa xl.length xc]] w2 fun e w' => e = .returned (.bool true) ∧ Kp w2 w' := fun w2 h => by
        have := HQ6.out (.mk vk vn vs' va vc vl) HVS.out w2 (HV12.out.keep h.size h) (kk HK12.out h)
        rw [HVS.out] at this
        exact this
      have SQ : ∀ w2, Kp W w2 → Calls Tryz.prog 23 #[.agg #[.int .i64 qk, .int .i64 qn, .string qs, .slice qa ql.length qc], .agg #[.int .i64 xk, .int .i64 xn, .string xs, .slice xa xl.length xc]] w2 fun e w' => e = .returned (.bool true) ∧ Kp w2 w' := fun w2 h => by
        have := HQ6.out (.mk qk qn qs qa qc ql) HQS.out w2 (HQI.out.keep h.size h) (kk HK12.out h)
        rw [HQS.out] at this
        exact this
      have SS : ∀ (k n : Int) (s : ByteArray) (a : Option Addr) (m c : Nat), ((k = vk ∧ n = vn ∧ s = vs' ∧ a = va ∧ m = vl.length ∧ c = vc) ∨ (k = qk ∧ n = qn ∧ s = qs ∧ a = qa ∧ m = ql.length ∧ c = qc)) →
          ∀ w2, Kp W w2 → Calls Tryz.prog 23 #[.agg #[.int .i64 k, .int .i64 n, .string s, .slice a m c], .agg #[.int .i64 xk, .int .i64 xn, .string xs, .slice xa xl.length xc]] w2 fun e w' => e = .returned (.bool true) ∧ Kp w2 w' := by
        rintro k n s a m c (⟨rfl, rfl, rfl, rfl, rfl, rfl⟩ | ⟨rfl, rfl, rfl, rfl, rfl, rfl⟩)
        · exact SV
        · exact SQ
      have HSS := Lib.hid SS
      have IS := fun (w2 : World) (h : Kp W w2) => HQ7.out w2 (kk HK12.out h)
      have HIS := Lib.hid IS
      have HW0 := Lib.hid (kk HKR.out HK12.out)
      clear SV SQ SS IS hvb hqb htb HVS HQS HV12 HQI
      go_region_held3 (fun w' => w'.cell? ⟨g, j * 4, none⟩ = some (.int .i64 xk) ∧ w'.cell? ⟨g, j * 4 + 1, none⟩ = some (.int .i64 xn) ∧ w'.cell? ⟨g, j * 4 + 2, none⟩ = some (.string xs) ∧ w'.cell? ⟨g, j * 4 + 3, none⟩ = some (.slice xa xl.length xc) ∧
          w'.cell? ⟨vb, 0, none⟩ = some (.int .i64 vk) ∧ w'.cell? ⟨vb, 1, none⟩ = some (.int .i64 vn) ∧ w'.cell? ⟨vb, 2, none⟩ = some (.string vs') ∧ w'.cell? ⟨vb, 3, none⟩ = some (.slice va vl.length vc) ∧
          w'.cell? ⟨qb, 0, none⟩ = some (.int .i64 qk) ∧ w'.cell? ⟨qb, 1, none⟩ = some (.int .i64 qn) ∧ w'.cell? ⟨qb, 2, none⟩ = some (.string qs) ∧ w'.cell? ⟨qb, 3, none⟩ = some (.slice qa ql.length qc) ∧
          w'.cell? ⟨tt, 0, none⟩ = some (.int .i64 tk) ∧ w'.cell? ⟨tt, 1, none⟩ = some (.slice ta tl.length tc) ∧ Kp W w')
        (first
          | exact ⟨c0, c1, c2, c3, m0, m1, m2, m3, n0, n1, n2, n3, t0, t1, kpD⟩
          | (go_split_ands; exact ⟨kc hkc ‹_›, kc hkc ‹_›, kc hkc ‹_›, kc hkc ‹_›, kc hkc ‹_›, kc hkc ‹_›, kc hkc ‹_›, kc hkc ‹_›, kc hkc ‹_›, kc hkc ‹_›, kc hkc ‹_›, kc hkc ‹_›, kc hkc ‹_›, kc hkc ‹_›, kk ‹_› hkc⟩)
          | (go_split_ands; exact ⟨‹_›, ‹_›, ‹_›, ‹_›, ‹_›, ‹_›, ‹_›, ‹_›, ‹_›, ‹_›, ‹_›, ‹_›, ‹_›, ‹_›, ‹_›⟩))
        (first
          | (go_at_call 23; refine (HSS.out _ _ _ _ _ _ (by first | exact .inl ⟨rfl, rfl, rfl, rfl, rfl, rfl⟩ | exact .inr ⟨rfl, rfl, rfl, rfl, rfl, rfl⟩) _ (by first | assumption | exact kpD | (go_split_ands; assumption))).mono ?_; rintro e w2 ⟨rfl, hkc⟩)
          | (go_at_call 21; refine (HIS.out _ (by first | assumption | exact kpD | (go_split_ands; assumption))).mono ?_; rintro e w2 ⟨rfl, hkc⟩))
      go_split_ands
      have HWE := Lib.hid (kk HK12.out ‹Kp W _›)
      clear c0 c1 c2 c3 m0 m1 m2 m3 n0 n1 n2 n3 t0 t1
      go_wp2_with fail
      have hll := T.lenLe HTI.out
      go_loopw [22] (fun i wr => ∃ (m : Nat), m ≤ tl.length ∧ i = .int .i64 m ∧ Kp wo wr) (fun i _ => tl.length - (intOf i).toNat)
      case atStart => exact ⟨0, Nat.zero_le _, rfl, HWE.out⟩
      case round =>
        obtain ⟨m, hm, rfl, hk⟩ := hrel
        have htb := (hk.block _ htr).trans HTBR.out
        obtain ⟨t0, t1, -⟩ := cell2 htb
        clear htb
        by_cases hk2 : tk = 2
        · have gk : (tk == 2) = true := beq_iff_eq.2 hk2
          obtain ⟨hpl, hpp⟩ := is_parts (ta := ta) (tc := tc) (tl := tl) (by have := HXT.out; rw [hk2] at this; exact this)
          by_cases hml : m < tl.length
          · have gm : (m : Int) < (tl.length : Int) := by omega
            have gm1 : (m : Int) < (xl.length : Int) := by omega
            have gm0 : (0 : Int) ≤ (m : Int) := by omega
            obtain ⟨xp, hxp⟩ : ∃ xp, xl[m]? = some xp := ⟨xl[m], by simp⟩
            obtain ⟨up, hup⟩ : ∃ up, tl[m]? = some up := ⟨tl[m], by simp [hml]⟩
            have hti := HTI.out.keep (kk HKR.out hk).size (kk HKR.out hk)
            obtain ⟨b0, off, rfl, hb0, q0, q1, q2, q3, hxpi⟩ := V.atPart (HXI.out.keep hk.size hk) hxp
            obtain ⟨b1, off', rfl, hb1, u0, u1, hupi⟩ := T.atPart hti hup
            have cs := (kc hk HC3.out)
            have ct := t1
            have ISP := fun (w2 : World) (h : Kp wr w2) => isOk xp up w2 (hxpi.keep h.size h) (hupi.keep h.size h) (part_valid HXV.out hxp) (partT_valid HTV.out hup) (hpp m xp up hxp hup)
            obtain ⟨pk, pn, ps, pa, pc, pl⟩ := xp
            obtain ⟨ek, ea, ec, el⟩ := up
            simp only [V.val_mk, T.val_mk, V.k, V.n, V.s, V.a, V.l, V.cap, T.k, T.a, T.l, T.cap] at ISP q0 q1 q2 q3 u0 u1
            have HISP := Lib.hid ISP
            have HKX := Lib.hid hk
            clear ISP hti hxpi hupi hpp hxp hup hk hpl hk2 t1 hb0 hb1
            go_wp2_with fail
            go_region_held3 (fun w' => w'.cell? ⟨g, j * 4 + 3, none⟩ = some (.slice (some ⟨b0, off, none⟩) xl.length xc) ∧
                w'.cell? ⟨b0, off + m * 4, none⟩ = some (.int .i64 pk) ∧ w'.cell? ⟨b0, off + m * 4 + 1, none⟩ = some (.int .i64 pn) ∧ w'.cell? ⟨b0, off + m * 4 + 2, none⟩ = some (.string ps) ∧ w'.cell? ⟨b0, off + m * 4 + 3, none⟩ = some (.slice pa pl.length pc) ∧
                w'.cell? ⟨tt, 1, none⟩ = some (.slice (some ⟨b1, off', none⟩) tl.length tc) ∧
                w'.cell? ⟨b1, off' + m * 2, none⟩ = some (.int .i64 ek) ∧ w'.cell? ⟨b1, off' + m * 2 + 1, none⟩ = some (.slice ea el.length ec) ∧ Kp wr w')
              (first
                | exact ⟨cs, q0, q1, q2, q3, ct, u0, u1, kpD⟩
                | (go_split_ands; exact ⟨kc hkc ‹_›, kc hkc ‹_›, kc hkc ‹_›, kc hkc ‹_›, kc hkc ‹_›, kc hkc ‹_›, kc hkc ‹_›, kc hkc ‹_›, kk ‹_› hkc⟩)
                | (go_split_ands; exact ⟨‹_›, ‹_›, ‹_›, ‹_›, ‹_›, ‹_›, ‹_›, ‹_›, ‹_›⟩))
              (first
                | (go_at_call 21; refine (HISP.out _ (by first | assumption | exact kpD | (go_split_ands; assumption))).mono ?_; rintro e w2 ⟨rfl, hkc⟩))
            go_split_ands
            have HWX := Lib.hid (kk HKX.out ‹Kp wr _›)
            go_wp2_with fail
            go_roundw
            case rel => exact ⟨m + 1, by omega, by first | go_num | simp, HWX.out⟩
            case measure => simp [intOf]; omega
          · have hme : m = tl.length := by omega
            subst hme
            have g5 : decide ((tl.length : Int) < (tl.length : Int)) = false := by simp
            have HKX := Lib.hid (kk HKR.out hk)
            clear hk hpl hpp hk2
            go_wp2_with fail
            go_roundw
            case rel => exact ⟨j + 1, by omega, by first | go_num | simp, HKX.out⟩
            case measure => simp [intOf]; omega
        · have gk : (tk == 2) = false := beq_eq_false_iff_ne.2 hk2
          have HKX := Lib.hid (kk HKR.out hk)
          clear hk hk2
          go_wp2_with fail
          go_roundw
          case rel => exact ⟨j + 1, by omega, by first | go_num | simp, HKX.out⟩
          case measure => simp [intOf]; omega
    · have hj3 : j = 3 := by omega
      subst hj3
      have HK7 := Lib.hid (kk HKW.out hk)
      clear hk
      go_wp2_with fail
      refine (HE.out _ HK7.out).mono ?_
      rintro e w7 ⟨rfl, hk⟩
      have HK8 := Lib.hid (kk HK7.out hk)
      clear hk
      go_wp2_with fail
      go_ret
      exact ⟨rfl, HK8.out⟩

end Go.Proofs.YtkofebafmjjljaaGreatDoor

/-
  ValueBack: WHAT THE WALKS GIVE, for every arguments that read; THE STATEMENT, AND ITS CARD.
-/
namespace Go.Proofs.YtkofebafmjjljaaGreatDoor.valueBack
open Go.ChangeShapes Go.WideShapes Go.ChangeAt Go.RowKit Go.Lib

theorem tens {W : World} (h : laidMetH Tryz.prog Rows.valueBackRow.laid W) : Tb W W.heap.size := by
  have h1 : laidMet Tryz.prog Rows.valueBackRow.laid W := h
  have h2 := laid_tail (laid_tail h1)
  refine Lib.tabBelow_of_tabIs ?_
  exact Lib.tabIs_of_head gTab (t := 179) (n := 20) (e := 167) (by kernel_rfl) (by kernel_rfl) (by kernel_rfl) (by kernel_rfl) (by kernel_rfl) h2

theorem iface_of_head {W : World} {name nm : String} {d : DataW Unit} {rest : List (String × DataW Unit)} {g : Nat}
    (hg : Tryz.prog.globalNamed name = some g) (hty : (Tryz.prog.globals[g]?).map (·.type) = some 152) (h : laidMet Tryz.prog ((name, .iface nm d) :: rest) W) : ∃ u v, W.cell? ⟨g, 0, none⟩ = some (.iface u v) := by
  obtain ⟨ps, ⟨g', t', cs, fuel, p, q, hg', ht', hvar, hd, _, _⟩, _⟩ := h
  obtain rfl := Option.some.inj (hg.symm.trans hg')
  obtain rfl := Option.some.inj (hty.symm.trans ht')
  obtain ⟨f', u, v, hcs, -, -⟩ := iface_of_trod Tryz.underlying152 hd
  refine ⟨u, v, ?_⟩
  have := World.var?_cell hg hvar 0
  rw [this, ← Array.getElem?_toList, hcs]; rfl

theorem errs {W : World} (h : laidMetH Tryz.prog Rows.valueBackRow.laid W) : Eb W W.heap.size := by
  have h1 : laidMet Tryz.prog Rows.valueBackRow.laid W := h
  have h2 := laid_tail (laid_tail (laid_tail h1))
  have h3 := laid_tail h2
  obtain ⟨u, v, hr⟩ := iface_of_head (g := 2) (by kernel_rfl) (by kernel_rfl) h2
  obtain ⟨u', v', hs⟩ := iface_of_head (g := 1) (by kernel_rfl) (by kernel_rfl) h3
  exact ⟨_, _, .inr ⟨_, _, rfl⟩, .inr ⟨_, _, rfl⟩, World.block_lt_of_cell? W _ hs, World.block_lt_of_cell? W _ hr, hs, hr⟩

set_option maxRecDepth 100000 in
theorem contract (H : Type) (enc : TypeId × Value → H) (W : World) (base : Nat) (args : Array Value) (ds gs : List (DataW H)) (before : List MemPlace)
    (hval : ∀ (j : Nat) t v, Tryz.f9.params[j]? = some t → args[j]? = some v → Value.okWide Tryz.prog W .any base t v)
    (hW : DataW.Whole enc Tryz.prog Tryz.f9.params.toList Rows.valueBackSpec.vars false W args.toList ds gs before) (ht : Tb W W.heap.size) (he : Eb W W.heap.size) :
    Calls Tryz.prog 9 args W fun e W' => ∃ v, e = .returned v ∧ Rows.valueBackSpec.post enc Tryz.prog Tryz.f9 false true false false W args v W' := by
  have hW' := hW
  obtain ⟨p, q, hA0, hV, rfl, hfz, hnd⟩ := hW
  have hA : DataW.TrodAll enc Tryz.prog W 0 (fun _ => true) true Tryz.f9.params.toList args.toList ds p := hA0
  rw [Tryz.params9] at hA hval
  obtain ⟨v0, vs0, d0, ds0, p0, q0, hargs, rfl, rfl, h0, r0⟩ := trodAll_cons hA
  obtain ⟨rfl, rfl, rfl⟩ := trodAll_nil r0
  obtain rfl : args = #[v0] := by cases args; simp_all
  obtain ⟨rfl, rfl⟩ := trodVars_none hV
  obtain ⟨a0, c0, l0, rfl, hx0⟩ := open_argI (hval 0 48 v0 rfl rfl) h0
  refine (back_any a0 c0 l0 W hx0 ht he).mono fun e W' ⟨hre, hk⟩ => ?_
  subst hre
  refine ⟨_, rfl, ?_⟩
  have hlt : ∀ p ∈ p0 ++ [] ++ [], p.block < W.heap.size := fun p hp => hW'.lt p hp
  have hT0 : 48 < Tryz.prog.types.size := of_decide_eq_true (by kernel_rfl)
  refine post_of_kp (pa := p0 ++ []) (pv := []) hW' hk (fun _ _ _ => trodAll_cons_mk (shut_bool Tryz.underlying4 _) trodAll_mk0) (fun sp hsp => ?_) (fun _ _ => rfl) rfl (ok_one (by kernel_rfl) rfl (okWide_bool_mk Tryz.underlying4 _))
  rw [Tryz.params9]
  exact trodAll_cons_mk (trod_kp (DataW.Trod.respare kidsP fullP hT0 h0 (fun p hp => hsp p (by simp [hp]))) hk (fun p hp => hlt p (by simp [hp])))
    (trodAll_mk0)

theorem own : ownKnob Tryz.prog.godebug = none := by kernel_rfl

def intsOf (k : IntKind) : DataW Unit → Array Value
  | .agg l => (l.map fun d => match d with | .lit (.int _ n) => Value.int k n | _ => Value.int k 0).toArray
  | _ => #[]

/-- THE WITNESS: the settled world with two blocks more (the two errors), the five variables holding what their initialisers lay. -/
noncomputable def laidWorld (os : Os) : World :=
  let N := (World.settled Tryz.prog os).heap.size
  let w0 := World.holding Tryz.prog os ⟨#[.cells #[.string ⟨#[105, 110, 118, 97, 108, 105, 100, 32, 115, 121, 110, 116, 97, 120]⟩] 187 (0, 0), .cells #[.string ⟨#[118, 97, 108, 117, 101, 32, 111, 117, 116, 32, 111, 102, 32, 114, 97, 110, 103, 101]⟩] 187 (0, 0)], #[], []⟩
  let put (h : Array Obj) (g : Nat) (cs : Array Value) : Array Obj := h.modify g fun
    | .cells _ t frozen => .cells cs t frozen
    | o => o
  let h1 := put w0.heap 1 #[.iface 185 (.pointer (some ⟨N, 0, none⟩))]
  let h2 := put h1 2 #[.iface 185 (.pointer (some ⟨N + 1, 0, none⟩))]
  let h3 := put h2 3 (intsOf .u64 Rows.laid_internal_strconv_uint64pow10)
  let h4 := put h3 4 (intsOf .u8 Rows.laid_math_bits_deBruijn32tab)
  let h5 := put h4 5 (intsOf .u8 Rows.laid_math_bits_deBruijn64tab)
  { w0 with heap := h5 }

noncomputable abbrev N0 : Nat := (World.settled Tryz.prog default).heap.size
/-- The witness's arguments. -/
abbrev wArgs : Array Value := #[.slice none 0 0]

set_option maxRecDepth 1000000 in
theorem laid_met (os : Os) (args : Array Value) : laidMet Tryz.prog Rows.valueBackRow.laid ((laidWorld os).forCall (fun _ _ => 0) ⟨#[], args, []⟩).memory :=
  (LaidIn.of_run (l := Rows.valueBackRow.laid) [4, 5, 3, 2, N0 + 1, 1, N0] 8 (by kernel_rfl) (by kernel_rfl) (by kernel_rfl) (by kernel_rfl)).met

theorem witness_row (os : Os) {H : Type} (enc : TypeId × Value → H) :
    (OpenSpec.ofChange Rows.valueBackSpec).preRow enc Tryz.prog Tryz.f9 Rows.valueBackRow.domain false Rows.valueBackRow.laid ((laidWorld os).forCall (fun _ _ => 0) ⟨#[], wArgs, []⟩).memory wArgs := by
  have hw : (DataW.whole enc Tryz.prog ((laidWorld os).forCall (fun _ _ => 0) ⟨#[], wArgs, []⟩).memory Tryz.f9.params.toList Rows.valueBackSpec.vars false wArgs.toList 8).map (fun x => (x.1, x.2.1)) =
      some ([.nil], []) := by kernel_rfl
  obtain ⟨⟨x1, x2, x3⟩, hx, hx1⟩ := Option.map_eq_some_iff.1 hw
  simp only [Prod.mk.injEq] at hx1
  obtain ⟨rfl, rfl⟩ := hx1
  exact OpenSpec.preRow_of_cond 8 hx (by kernel_rfl) (fun k hk => by cases hk) (by kernel_rfl) (laid_met os _)

set_option maxRecDepth 100000 in
set_option maxHeartbeats 2000000 in
theorem lifted (os : Os) (started : os.Started) (H : Type) (enc : TypeId × Value → H) (F : Stop.Interp) :
    ReturnsInHanded {} Tryz.checked os 9 .any ((OpenSpec.ofChange Rows.valueBackSpec).preRow enc Tryz.prog Tryz.f9 Rows.valueBackRow.domain false Rows.valueBackRow.laid) (((OpenSpec.ofChange Rows.valueBackSpec).at F).post enc Tryz.prog Tryz.f9 false true false false) := by
  refine returnsInHanded_of_row (C := Tryz.checked) (s := OpenSpec.ofChange Rows.valueBackSpec) own started (by kernel_rfl) Tryz.func9
    (witness_row_atRef (enc := enc) (C := Tryz.checked) false (laidWorld os) wArgs rfl (by kernel_rfl) (by kernel_rfl) (by kernel_rfl) (witness_row os enc)) ?_
  intro W base args ds gs before hval hW _ _ _ hL _ _
  exact contract H enc W base args ds gs before hval hW (tens hL) (errs hL)

theorem said : Rows.ValueBackSaid :=
  OpenClaim.holds_of_cond 9 Tryz.f9 rfl rfl rfl rfl rfl rfl rfl ⟨rfl, rfl, rfl, rfl, rfl⟩ rfl rfl rfl rfl rfl (by kernel_rfl) Tryz.func9 (by kernel_rfl)
    (of_decide_eq_true (by kernel_rfl)) (by unfold Func.isWrapper; first | (rw [if_pos (by decide +kernel)]; kernel_rfl) | (rw [if_neg (by decide +kernel)]; exact ⟨rfl, rfl⟩))
    (fun os started H enc _ F => by rw [OpenClaim.pre_eq_preRow]; exact lifted os started H enc F)

/-- No parameter wants a stand-in; the program's own looks are off: what the card asks. -/
theorem plain (f : FuncId) (fn : Func) (hf : Tryz.pinned.checked.prog.funcNamed "deltaworks/deltaworkslaw01.ValueBack" = some f) (hfn : Tryz.pinned.checked.prog.funcs[f]? = some fn) :
    true = Tryz.pinned.checked.prog.looks [] ∧ ∀ (j : Nat) t, fn.params[j]? = some t → Tryz.pinned.checked.prog.wantsStandIn t = false := by
  obtain rfl : f = 9 := Option.some.inj ((show Tryz.prog.funcNamed "deltaworks/deltaworkslaw01.ValueBack" = some 9 by kernel_rfl).symm.trans hf) |>.symm
  obtain rfl : fn = Tryz.f9 := (Option.some.inj (Tryz.func9.symm.trans hfn)).symm
  refine ⟨by kernel_rfl, fun j t ht => ?_⟩
  rw [Tryz.params9] at ht
  obtain rfl : t = 48 := by simpa using Array.mem_of_getElem? ht
  exact (show Tryz.prog.wantsStandIn 48 = false by kernel_rfl)

/-- ████ THE CARD ████ -/
theorem card : Rows.ValueBackCardSaid :=
  Claim7.holds_tied_plain_at .later [] _ _ _ _ said (fun _ h => by cases h) (by kernel_rfl) (fun _ h => by cases h) valueBack_row_tie rfl ⟨rfl, rfl⟩ (by kernel_rfl) rfl plain (by kernel_rfl)

end Go.Proofs.YtkofebafmjjljaaGreatDoor.valueBack
