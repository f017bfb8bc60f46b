/-
  Proved: the statement ValueLeast (value.Least of any type that numbers make is of it, no value of it is ahead, its parts are the least ones of the parts, and the chapter's examples hold), as its tied card says it, with no condition beyond the card's own.
  Part 1 of 1.
-/
import Derived.Test.YtbiljalhabnhlaaGreatDoorBa10
import Derived.Test.YtbiljalhabnhlaaGreatDoorBa07
import Derived.Test.YtbiljalhabnhlaaGreatDoorBa08
import Derived.Lib.LaidIn
import Derived.Deep.DeepWitnessRowRef
/-
  ValueLeast: the statement's function, at any list of numbers.
-/
namespace Go.Proofs.YtbiljalhabnhlaaGreatDoor
open Go.RowKit

theorem lst_part {t : T} {d j : Nat} {y : V} (ht : t.sh d = true) (h : t.lst.l[j]? = some y) : ∃ u, t.l[j]? = some u ∧ y = u.lst := by
  cases t with
  | mk k ta tc tl =>
  cases d with
  | zero => simp [T.sh] at ht
  | succ d =>
  simp [T.sh] at ht
  obtain ⟨hf, -⟩ := ht
  by_cases k1 : k = 1
  · subst k1; rw [lst1] at h; simp [V.l] at h
  by_cases k2 : k = 2
  · subst k2
    rw [lst2] at h
    simp only [V.l] at h
    have hj : j < tl.length := by
      have := (List.getElem?_eq_some_iff.1 h).1
      rwa [lstL_length] at this
    obtain ⟨u, hu⟩ : ∃ u, tl[j]? = some u := ⟨tl[j], by simp [hj]⟩
    rw [lstL_at hu] at h
    cases h
    exact ⟨u, hu, rfl⟩
  by_cases k3 : k = 3
  · subst k3
    have hl : 0 < tl.length ∧ tl.length ≤ 8 := by simpa [fitsT] using hf
    match tl, hl with
    | u :: us, _ =>
      rw [lst3] at h
      simp only [V.l] at h
      cases j with
      | zero => simp at h; subst h; exact ⟨u, rfl, rfl⟩
      | succ j => simp at h
  · have : (T.mk k ta tc tl).lst.l = [] := by simp [T.lst, k1, k2, k3, V.l]
    rw [this] at h
    simp at h

theorem lst_form {k : Int} {ta : Option Addr} {tc : Nat} {tl : List T} {d : Nat} (ht : (T.mk k ta tc tl).sh d = true) : (k = 3 → (T.mk k ta tc tl).lst.n = 0 ∧ (T.mk k ta tc tl).lst.l.length = 1) ∧ (k ≠ 3 → (T.mk k ta tc tl).lst.l.length = tl.length) := by
  cases d with
  | zero => simp [T.sh] at ht
  | succ d =>
  simp [T.sh] at ht
  obtain ⟨hf, -⟩ := ht
  refine ⟨fun h => ?_, fun h => ?_⟩
  · subst h
    have hl : 0 < tl.length ∧ tl.length ≤ 8 := by simpa [fitsT] using hf
    match tl, hl with
    | u :: us, _ => rw [lst3]; exact ⟨rfl, rfl⟩
  · by_cases k0 : k = 0
    · subst k0
      have : tl = [] := by simpa [fitsT] using hf
      subst this; rw [lst0]; rfl
    by_cases k1 : k = 1
    · subst k1
      have : tl = [] := by simpa [fitsT] using hf
      subst this; rw [lst1]; rfl
    by_cases k2 : k = 2
    · subst k2; rw [lst2]; simp [V.l, lstL_length]
    · simp [fitsT, k0, k1, k2, h] at hf

mutual
theorem T.sh_up : ∀ (x : T) (d : Nat), x.sh d = true → x.sh (d + 1) = true
  | .mk k a c l, d, h => by
    cases d with
    | zero => simp [T.sh] at h
    | succ d =>
      simp [T.sh] at h ⊢
      exact ⟨h.1, T.shL_up l d h.2⟩
theorem T.shL_up : ∀ (l : List T) (d : Nat), T.shL l d = true → T.shL l (d + 1) = true
  | [], _, _ => by simp [T.shL]
  | x :: xs, d, h => by
    simp [T.shL] at h ⊢
    exact ⟨T.sh_up x d h.1, T.shL_up xs d h.2⟩
end
theorem T.valid_of {t : T} (h : t.sh 3 = true) (hr : t.rank ≤ 13) : t.valid = true := by
  have := T.sh_up _ _ (T.sh_up _ _ (T.sh_up _ _ h))
  simp [T.valid, this]; omega

/-- The first value of a type, as the walk wants it. -/
structure First (k : Int) (ta : Option Addr) (tc : Nat) (tl : List T) (x : V) : Prop where
  tv : (T.mk k ta tc tl).valid = true
  isv : isV x (.mk k ta tc tl) = true
  xv : x.valid = true
  le : ∀ z, Good (.mk k ta tc tl) z → x.ord z ≤ 0
  part : ∀ (j : Nat) (y : V), x.l[j]? = some y → ∃ u, tl[j]? = some u ∧ y.same u.lst = true ∧ u.valid = true
  sum : k = 3 → x.n = 0 ∧ x.l.length = 1
  rest : k ≠ 3 → x.l.length = tl.length

theorem First.mk' {k : Int} {ta : Option Addr} {tc : Nat} {tl : List T} {x : V} (hs : (T.mk k ta tc tl).sh 3 = true) (hr : (T.mk k ta tc tl).rank ≤ 13) (hx : x.same (T.mk k ta tc tl).lst = true) : First k ta tc tl x := by
  have htv := T.valid_of hs hr
  obtain ⟨h1, h2, h3⟩ := lst_of _ _ 3 (Nat.le_refl _) hs
  have hsh6 := h2 6 (T.sh_up _ _ (T.sh_up _ _ (T.sh_up _ _ hs)))
  have hxv : x.valid = true := by
    rw [same_valid hx]
    simp [V.valid, hsh6]; omega
  obtain ⟨f1, f2⟩ := lst_form hs
  have hform : x.n = (T.mk k ta tc tl).lst.n ∧ x.l.length = (T.mk k ta tc tl).lst.l.length ∧ V.sameL x.l (T.mk k ta tc tl).lst.l = true := by
    generalize (T.mk k ta tc tl).lst = y at hx
    cases x; cases y
    simp [V.same] at hx
    exact ⟨hx.2.1, V.sameL_length _ _ hx.2.2.2, hx.2.2.2⟩
  refine ⟨htv, ?_, hxv, fun z hz => ?_, fun j y hy => ?_, fun h => ?_, fun h => ?_⟩
  · rw [isV, hxv, htv, same_is _ _ _ hx, h1]; rfl
  · have hle := lst_le _ _ 3 3 z (Nat.le_refl _) hs hz.1 hz.2.1
    exact ord_trans x _ z (by rw [(ord_same _ _).2 hx]; omega) hle
  · obtain ⟨y', hy', hyy⟩ := same_part hform.2.2 hy
    obtain ⟨u, hu, rfl⟩ := lst_part hs hy'
    refine ⟨u, hu, hyy, ?_⟩
    have h0 := hs
    simp only [T.sh] at h0
    simp at h0
    have hu2 := T.sh_up _ _ (shLT_at h0.2 hu)
    have hu' : tl[j]? = some u := hu
    have hm := T.ranks_mem hu'
    have hr2 : (T.mk k ta tc tl).rank = 1 + T.rank.ranks tl := by simp [T.rank]
    exact T.valid_of hu2 (by omega)
  · rw [hform.1, hform.2.1]; exact f1 h
  · rw [hform.2.1]; exact f2 h

set_option maxRecDepth 100000 in
set_option maxHeartbeats 8000000 in
theorem leastL_any (a : Option Addr) (cap : Nat) (l : List Int) (w : World) (hin : Ints w w.heap.size a cap l) (tb : Tb w w.heap.size) :
    Calls Tryz.prog 10 #[.slice a l.length cap] w fun e w' => e = .returned (.bool true) ∧ Kp w w' := by
  have T1 := three_any a cap l w hin
  have E := fun w1 (h : Kp w w1) => valued_any w1 (tb.keep h h.size)
  have HT1 := Lib.hid T1
  have HE := Lib.hid E
  clear T1 E hin tb
  go_enter Tryz.func10, Tryz.ntmps10
  go_wp2_with fail
  refine HT1.out.mono ?_
  rintro e w1 ⟨t, x, y, z, rfl, hti, hsh, hrk, hvi, hvf, hgx, hgy, hgz, hk⟩
  obtain ⟨xk, xn, xs, xa, xc, xl⟩ := x
  obtain ⟨yk, yn, ys, ya, yc, yl⟩ := y
  obtain ⟨zk, zn, zs, za, zc, zl⟩ := z
  cases t with
  | mk tk ta tc tl =>
  rw [T.val_mk]
  simp only [cellsL, V.cells4, List.flatMap_cons, List.flatMap_nil, List.cons_append, List.nil_append, List.append_nil, V.k, V.n, V.s, V.a, V.l, V.cap]
  have HTI := Lib.hid hti
  have HSH := Lib.hid hsh
  have HRK := Lib.hid hrk
  have HVI := Lib.hid hvi
  have HX := Lib.hid hgx
  have HY := Lib.hid hgy
  have HZ := Lib.hid hgz
  have HK := Lib.hid hk
  clear hti hvi hvf hgx hgy hgz hk hsh hrk
  go_wp2_with fail
  have hka := kk (ka w1 (.cells #[.int .i64 tk, .slice ta tl.length tc] 27)) (ka _ (.cells #[.int .i64 xk, .int .i64 xn, .string xs, .slice xa xl.length xc, .int .i64 yk, .int .i64 yn, .string ys, .slice ya yl.length yc, .int .i64 zk, .int .i64 zn, .string zs, .slice za zl.length zc] 49))
  have hkW := kk HK.out hka
  have htr : Trio ((w1.alloc (.cells #[.int .i64 tk, .slice ta tl.length tc] 27)).alloc (.cells #[.int .i64 xk, .int .i64 xn, .string xs, .slice xa xl.length xc, .int .i64 yk, .int .i64 yn, .string ys, .slice ya yl.length yc, .int .i64 zk, .int .i64 zn, .string zs, .slice za zl.length zc] 49)) (w1.heap.size + 1) [.mk xk xn xs xa xc xl, .mk yk yn ys ya yc yl, .mk zk zn zs za zc zl] :=
    ⟨blockHere (by simp), rfl, HVI.out.keep hka.size hka, fun v hv => by simp at hv; rcases hv with rfl | rfl | rfl; exact HX.out.valid; exact HY.out.valid; exact HZ.out.valid⟩
  have hbt0 : ((w1.alloc (.cells #[.int .i64 tk, .slice ta tl.length tc] 27)).alloc (.cells #[.int .i64 xk, .int .i64 xn, .string xs, .slice xa xl.length xc, .int .i64 yk, .int .i64 yn, .string ys, .slice ya yl.length yc, .int .i64 zk, .int .i64 zn, .string zs, .slice za zl.length zc] 49)).heap[w1.heap.size]? = some (.cells #[.int .i64 tk, .slice ta tl.length tc] 27 (0, 0)) := blockPast (blockHere rfl)
  generalize hvs : [V.mk xk xn xs xa xc xl, V.mk yk yn ys ya yc yl, V.mk zk zn zs za zc zl] = vs at htr
  have hsz : ((w1.alloc (.cells #[.int .i64 tk, .slice ta tl.length tc] 27)).alloc (.cells #[.int .i64 xk, .int .i64 xn, .string xs, .slice xa xl.length xc, .int .i64 yk, .int .i64 yn, .string ys, .slice ya yl.length yc, .int .i64 zk, .int .i64 zn, .string zs, .slice za zl.length zc] 49)).heap.size = w1.heap.size + 1 + 1 := by simp
  generalize (w1.alloc (.cells #[.int .i64 tk, .slice ta tl.length tc] 27)).alloc (.cells #[.int .i64 xk, .int .i64 xn, .string xs, .slice xa xl.length xc, .int .i64 yk, .int .i64 yn, .string ys, .slice ya yl.length yc, .int .i64 zk, .int .i64 zn, .string zs, .slice za zl.length zc] 49) = W0 at *
  generalize w1.heap.size + 1 = g at *
  have HG : Hid (∀ v ∈ vs, Good (.mk tk ta tc tl) v) := Lib.hid (fun v hv => by subst hvs; simp at hv; rcases hv with rfl | rfl | rfl; exact HX.out; exact HY.out; exact HZ.out)
  have hbt : W0.heap[w1.heap.size]? = some (.cells #[.int .i64 tk, .slice ta tl.length tc] 27 (0, 0)) := hbt0
  have LL := leastTopP tk ta tc tl W0 (HTI.out.keep hka.size hka)
  have htv := T.valid_of HSH.out HRK.out
  rw [show lstV (.mk tk ta tc tl) = (T.mk tk ta tc tl).lst from by simp [lstV, htv], htv] at LL
  have HLL := Lib.hid LL
  have HKA := Lib.hid hka
  have HKW := Lib.hid hkW
  have HTR := Lib.hid htr
  have HBT := Lib.hid hbt
  clear LL hka hkW htr hbt hbt0 hvs HX HY HZ HVI hsz htv
  refine HLL.out.mono ?_
  rintro e w3 ⟨first, rfl, hfi, hff, hfs, hk3⟩
  have hF := First.mk' HSH.out HRK.out hfs
  obtain ⟨fk, fn, fs, fa, fc, fl⟩ := first
  rw [V.val_mk]
  have HFI := Lib.hid hfi
  have HF := Lib.hid hF
  have HK3 := Lib.hid hk3
  have hbt3 := (hk3.block _ (lt_of_block HBT.out)).trans HBT.out
  obtain ⟨b0, b1, -⟩ := cell2 hbt3
  have hlt3 := lt_of_block hbt3
  clear hfi hff hfs hF hk3 HSH HRK HLL hbt3
  go_wp2_with fail
  clear b0 b1 hlt3
  have hkb := ka w3 (.cells #[.int .i64 fk, .int .i64 fn, .string fs, .slice fa fl.length fc] 24)
  have hk0 := kk HK3.out hkb
  have htr := HTR.out
  have hbx : (w3.alloc (.cells #[.int .i64 fk, .int .i64 fn, .string fs, .slice fa fl.length fc] 24)).heap[w3.heap.size]? = some (.cells #[.int .i64 fk, .int .i64 fn, .string fs, .slice fa fl.length fc] 24 (0, 0)) := blockHere rfl
  have hbt := (hk0.block _ (lt_of_block HBT.out)).trans HBT.out
  have hfi := HFI.out.keep hkb.size hkb
  have hti := HTI.out.keep (kk HKA.out hk0).size (kk HKA.out hk0)
  generalize w3.alloc (.cells #[.int .i64 fk, .int .i64 fn, .string fs, .slice fa fl.length fc] 24) = W1 at *
  generalize w3.heap.size = fb at *
  generalize w1.heap.size = tbk at *
  have I := fun (w2 : World) (h : Kp W1 w2) => isP fk fn fs fa fc fl tk ta tc tl w2 (hfi.keep h.size h) (hti.keep h.size h)
  rw [HF.out.isv] at I
  have H0 := Lib.hid hk0
  have HBX := Lib.hid hbx
  have HBT1 := Lib.hid hbt
  have HFI1 := Lib.hid hfi
  have HTI1 := Lib.hid hti
  have HI := Lib.hid I
  obtain ⟨b0, b1, -⟩ := cell2 hbt
  obtain ⟨c0, c1, c2, c3, -⟩ := cell4 hbx
  have HKW1 := Lib.hid (kk HKW.out hk0)
  clear hkb hk0 htr hbx hbt hfi hti I HFI HTI HBT HKA HK3 HKW HK
  refine (HI.out _ (Below.refl _ _)).mono ?_
  rintro e w4 ⟨rfl, hk4⟩
  replace b0 := kc hk4 b0
  replace b1 := kc hk4 b1
  replace c0 := kc hk4 c0
  replace c1 := kc hk4 c1
  replace c2 := kc hk4 c2
  replace c3 := kc hk4 c3
  have HK4 := Lib.hid hk4
  have hsum := HF.out.sum
  have hrst := HF.out.rest
  simp only [V.n, V.l] at hsum hrst
  have hW : Hid (Kp W1 w4 ∧ True) := Lib.hid ⟨hk4, trivial⟩
  clear hk4
  have hcase : ∃ p q r t : Bool, (tk == 3) = p ∧ ((fl.length : Int) != (tl.length : Int)) = q ∧ (fn != 0) = r ∧ ((fl.length : Int) != 1) = t ∧ ((p = true ∧ r = false ∧ t = false) ∨ (p = false ∧ q = false)) := by
    refine ⟨_, _, _, _, rfl, rfl, rfl, rfl, ?_⟩
    by_cases h3 : tk = 3
    · obtain ⟨h4, h5⟩ := hsum h3
      left; simp [h3, h4, h5]
    · right; simp [h3, hrst h3]
  clear hsum hrst hW
  obtain ⟨p, q, r, t, e1, e2, e3, e4, hc⟩ := hcase
  have hc2 : (p = true ∧ q = true ∧ r = false ∧ t = false) ∨ (p = true ∧ q = false ∧ r = false ∧ t = false) ∨ (p = false ∧ q = false) := by
    cases p <;> cases q <;> cases r <;> cases t <;> simp at hc ⊢
  have e5 : (tk != 3) = !p := by rw [← e1]; rfl
  clear hc
  obtain ⟨rfl, rfl, rfl, rfl⟩ | ⟨rfl, rfl, rfl, rfl⟩ | ⟨rfl, rfl⟩ := hc2
  all_goals
    simp only [Bool.not_true, Bool.not_false] at e5
    go_wp2_with fail
    clear e1 e2 e3 e4 e5 b0 b1 c0 c1 c2 c3
    go_loopw [7] (fun i wr => ∃ j : Nat, j ≤ 3 ∧ i = .int .i64 j ∧ Kp W1 wr) (fun i _ => 3 - (intOf i).toNat)
    case atStart => exact ⟨0, by omega, rfl, HK4.out⟩
    case round =>
      obtain ⟨j, hj, rfl, hk⟩ := hrel
      by_cases hlt : j < 3
      · have hlt' : (j : Int) < 3 := by omega
        have g0 : (0 : Int) ≤ (j : Int) := by omega
        obtain ⟨v, hv, hvi, hvv, d0, d1, d2, d3⟩ := HTR.out.at (kk H0.out hk) hlt
        obtain ⟨c0, c1, c2, c3, -⟩ := cell4 ((hk.block _ (lt_of_block HBX.out)).trans HBX.out)
        have C := fun (w2 : World) (h : Kp wr w2) => compare_prog (V.mk fk fn fs fa fc fl) v w2 (HFI1.out.keep (kk hk h).size (kk hk h)) (hvi.keep h.size h)
        have hle := HF.out.le v (HG.out v (List.mem_of_getElem? hv))
        rw [show cmpV (V.mk fk fn fs fa fc fl) v = .tuple #[.int .i64 ((V.mk fk fn fs fa fc fl).ord v), .int .i64 0] from by simp [cmpV, HF.out.xv, hvv]] at C
        generalize (V.mk fk fn fs fa fc fl).ord v = n at *
        obtain ⟨vk, vn, vs', va, vc, vl⟩ := v
        simp only [V.val_mk, V.k, V.n, V.s, V.a, V.l, V.cap] at C d0 d1 d2 d3
        have hgt : decide (0 < n) = false := by simp; omega
        have HC := Lib.hid C
        have HK := Lib.hid hk
        clear C hk hv hvi hvv hle
        go_wp2_with fail
        go_region_held3 (fun w' => w'.cell? ⟨fb, 0, none⟩ = some (.int .i64 fk) ∧ w'.cell? ⟨fb, 1, none⟩ = some (.int .i64 fn) ∧ w'.cell? ⟨fb, 2, none⟩ = some (.string fs) ∧ w'.cell? ⟨fb, 3, none⟩ = some (.slice fa fl.length fc) ∧
            w'.cell? ⟨g, j * 4, none⟩ = some (.int .i64 vk) ∧ w'.cell? ⟨g, j * 4 + 1, none⟩ = some (.int .i64 vn) ∧ w'.cell? ⟨g, j * 4 + 2, none⟩ = some (.string vs') ∧ w'.cell? ⟨g, j * 4 + 3, none⟩ = some (.slice va vl.length vc) ∧ Kp wr w')
          (first
            | exact ⟨c0, c1, c2, c3, d0, d1, d2, d3, kpD⟩
            | (go_split_ands; exact ⟨kc hkc ‹_›, kc hkc ‹_›, kc hkc ‹_›, kc hkc ‹_›, kc hkc ‹_›, kc hkc ‹_›, kc hkc ‹_›, kc hkc ‹_›, kk ‹_› hkc⟩))
          (first | (go_at_call 25; refine (HC.out _ (by first | assumption | exact kpD | (go_split_ands; assumption))).mono ?_; rintro e w2 ⟨rfl, hkc⟩))
        go_split_ands
        have hk2 : Kp wr w2 := by assumption
        have HK2 := Lib.hid (kk HK.out hk2)
        clear hk2 c0 c1 c2 c3 d0 d1 d2 d3
        go_wp2_with fail
        go_roundw
        case rel => exact ⟨j + 1, by omega, by first | go_num | simp, HK2.out⟩
        case measure => simp [intOf]; omega
      · have hj3 : (j : Int) = 3 := by omega
        have hfl := V.lenLe HFI1.out
        have HK := Lib.hid hk
        clear hk
        go_wp2_with fail
        rw [hj3]
        clear hj3 hlt hj
        go_loopw [10] (fun i wr => ∃ j : Nat, j ≤ fl.length ∧ i = .int .i64 j ∧ Kp W1 wr) (fun i _ => fl.length - (intOf i).toNat)
        case atStart => exact ⟨0, by omega, rfl, HK.out⟩
        case round =>
          obtain ⟨j, hj, rfl, hk⟩ := hrel
          obtain ⟨c0, c1, c2, c3, -⟩ := cell4 ((hk.block _ (lt_of_block HBX.out)).trans HBX.out)
          by_cases hlt : j < fl.length
          · obtain ⟨y, hy⟩ : ∃ y, fl[j]? = some y := ⟨fl[j], by simp [hlt]⟩
            obtain ⟨u, hu, hyu, huv⟩ := HF.out.part j y hy
            obtain ⟨q0, off0, rfl, hq0, m0, m1, m2, m3, hyi⟩ := V.atPart HFI1.out hy
            obtain ⟨q1, off1, rfl, hq1, r0, r1, hui⟩ := T.atPart HTI1.out hu
            have hlu : j < tl.length := (List.getElem?_eq_some_iff.1 hu).1
            have hlt' : (j : Int) < (fl.length : Int) := by omega
            have hlu' : (j : Int) < (tl.length : Int) := by omega
            have g0 : (0 : Int) ≤ (j : Int) := by omega
            replace m0 := kc hk m0
            replace m1 := kc hk m1
            replace m2 := kc hk m2
            replace m3 := kc hk m3
            replace r0 := kc hk r0
            replace r1 := kc hk r1
            obtain ⟨b0, b1, -⟩ := cell2 ((hk.block _ (lt_of_block HBT1.out)).trans HBT1.out)
            have hyi2 := hyi.keep hk.size hk
            have hui2 := hui.keep hk.size hk
            obtain ⟨uk, ua, uc, ul⟩ := u
            obtain ⟨yk, yn, ys, ya, yc, yl⟩ := y
            have L := leastTopP uk ua uc ul wr hui2
            rw [show lstV (.mk uk ua uc ul) = (T.mk uk ua uc ul).lst from by simp [lstV, huv], huv] at L
            simp only [V.k, V.n, V.s, V.a, V.l, V.cap, T.k, T.a, T.l, T.cap] at m0 m1 m2 m3 r0 r1
            have HL := Lib.hid L
            have HK2 := Lib.hid hk
            have HYU := Lib.hid hyu
            have HYI := Lib.hid hyi2
            clear L hk hy hu hyu huv hyi hui hyi2 hui2
            go_wp2_with fail
            refine HL.out.mono ?_
            rintro e w5 ⟨⟨zk, zn, zs, za, zc, zl⟩, rfl, hzi, hzf, hzs, hk5⟩
            rw [V.val_mk]
            replace m0 := kc hk5 m0
            replace m1 := kc hk5 m1
            replace m2 := kc hk5 m2
            replace m3 := kc hk5 m3
            replace c3 := kc hk5 c3
            have l1 := World.block_lt_of_cell? w5 _ m0
            have l2 := World.block_lt_of_cell? w5 _ c3
            have hka5 := ka w5 (.cells #[.int .i64 zk, .int .i64 zn, .string zs, .slice za zl.length zc] 24)
            have hsame := V.same_trans _ _ _ hzs (V.same_symm _ _ HYU.out)
            have S := fun (w6 : World) (h : Kp (w5.alloc (.cells #[.int .i64 zk, .int .i64 zn, .string zs, .slice za zl.length zc] 24)) w6) => sameV _ (V.mk zk zn zs za zc zl) (.mk yk yn ys ya yc yl) w6 (Nat.le_refl _) (hzi.keep (kk hka5 h).size (kk hka5 h)) (HYI.out.keep (kk hk5 (kk hka5 h)).size (kk hk5 (kk hka5 h)))
            rw [hsame] at S
            simp only [V.val_mk] at S
            have HS := Lib.hid S
            have HK5 := Lib.hid (kk HK2.out (kk hk5 hka5))
            clear S hsame hzi hzf hzs hk5 hka5 c0 c1 c2 b0 b1 r0 r1
            go_wp2_with fail
            have x0 : (w5.alloc (.cells #[.int .i64 zk, .int .i64 zn, .string zs, .slice za zl.length zc] 24)).cell? ⟨w5.heap.size, 0, none⟩ = some (.int .i64 zk) := here rfl rfl
            have x1 : (w5.alloc (.cells #[.int .i64 zk, .int .i64 zn, .string zs, .slice za zl.length zc] 24)).cell? ⟨w5.heap.size, 1, none⟩ = some (.int .i64 zn) := here rfl rfl
            have x2 : (w5.alloc (.cells #[.int .i64 zk, .int .i64 zn, .string zs, .slice za zl.length zc] 24)).cell? ⟨w5.heap.size, 2, none⟩ = some (.string zs) := here rfl rfl
            have x3 : (w5.alloc (.cells #[.int .i64 zk, .int .i64 zn, .string zs, .slice za zl.length zc] 24)).cell? ⟨w5.heap.size, 3, none⟩ = some (.slice za zl.length zc) := here rfl rfl
            replace m0 := past (o := .cells #[.int .i64 zk, .int .i64 zn, .string zs, .slice za zl.length zc] 24) m0
            replace m1 := past (o := .cells #[.int .i64 zk, .int .i64 zn, .string zs, .slice za zl.length zc] 24) m1
            replace m2 := past (o := .cells #[.int .i64 zk, .int .i64 zn, .string zs, .slice za zl.length zc] 24) m2
            replace m3 := past (o := .cells #[.int .i64 zk, .int .i64 zn, .string zs, .slice za zl.length zc] 24) m3
            replace c3 := past (o := .cells #[.int .i64 zk, .int .i64 zn, .string zs, .slice za zl.length zc] 24) c3
            generalize w5.alloc (.cells #[.int .i64 zk, .int .i64 zn, .string zs, .slice za zl.length zc] 24) = W5 at *
            generalize w5.heap.size = zb at *
            go_region_held3 (fun w' => w'.cell? ⟨zb, 0, none⟩ = some (.int .i64 zk) ∧ w'.cell? ⟨zb, 1, none⟩ = some (.int .i64 zn) ∧ w'.cell? ⟨zb, 2, none⟩ = some (.string zs) ∧ w'.cell? ⟨zb, 3, none⟩ = some (.slice za zl.length zc) ∧ w'.cell? ⟨fb, 3, none⟩ = some (.slice (some ⟨q0, off0, none⟩) fl.length fc) ∧
                w'.cell? ⟨q0, off0 + j * 4, none⟩ = some (.int .i64 yk) ∧ w'.cell? ⟨q0, off0 + j * 4 + 1, none⟩ = some (.int .i64 yn) ∧ w'.cell? ⟨q0, off0 + j * 4 + 2, none⟩ = some (.string ys) ∧ w'.cell? ⟨q0, off0 + j * 4 + 3, none⟩ = some (.slice ya yl.length yc) ∧ Kp W5 w')
              (first
                | exact ⟨x0, x1, x2, x3, c3, m0, m1, m2, m3, kpD⟩
                | (go_split_ands; exact ⟨kc hkc ‹_›, kc hkc ‹_›, kc hkc ‹_›, kc hkc ‹_›, kc hkc ‹_›, kc hkc ‹_›, kc hkc ‹_›, kc hkc ‹_›, kc hkc ‹_›, kk ‹_› hkc⟩))
              (first | (go_at_call 23; refine (HS.out _ (by first | assumption | exact kpD | (go_split_ands; assumption))).mono ?_; rintro e w6 ⟨rfl, hkc⟩))
            go_split_ands
            rename_i hk6
            have HK6 := Lib.hid (kk HK5.out hk6)
            clear hk6 x0 x1 x2 x3 c3 m0 m1 m2 m3
            go_wp2_with fail
            go_roundw
            case rel => exact ⟨j + 1, by omega, by first | go_num | simp, HK6.out⟩
            case measure => simp [intOf]; omega
          · have hjl : j = fl.length := by omega
            subst hjl
            have HK2 := Lib.hid (kk HKW1.out hk)
            clear hk
            go_wp2_with fail
            refine (HE.out _ HK2.out).mono ?_
            rintro e w7 ⟨rfl, hk⟩
            have HK7 := Lib.hid (kk HK2.out hk)
            clear hk
            go_wp2_with fail
            go_ret
            exact ⟨rfl, HK7.out⟩

end Go.Proofs.YtbiljalhabnhlaaGreatDoor

/-
  ValueLeast: WHAT THE WALKS GIVE, for every arguments that read; THE STATEMENT, AND ITS CARD.
-/
namespace Go.Proofs.YtbiljalhabnhlaaGreatDoor.valueLeast
open Go.ChangeShapes Go.WideShapes Go.ChangeAt Go.RowKit Go.Lib

theorem tens {W : World} (h : laidMetH Tryz.prog Rows.valueLeastRow.laid W) : Tb W W.heap.size := by
  have h1 : laidMet Tryz.prog Rows.valueLeastRow.laid W := h
  have h2 := laid_tail (laid_tail h1)
  refine Lib.tabBelow_of_tabIs ?_
  exact Lib.tabIs_of_head gTab (t := 179) (n := 20) (e := 167) (by kernel_rfl) (by kernel_rfl) (by kernel_rfl) (by kernel_rfl) (by kernel_rfl) h2

set_option maxRecDepth 100000 in
theorem contract (H : Type) (enc : TypeId × Value → H) (W : World) (base : Nat) (args : Array Value) (ds gs : List (DataW H)) (before : List MemPlace)
    (hval : ∀ (j : Nat) t v, Tryz.f10.params[j]? = some t → args[j]? = some v → Value.okWide Tryz.prog W .any base t v)
    (hW : DataW.Whole enc Tryz.prog Tryz.f10.params.toList Rows.valueLeastSpec.vars false W args.toList ds gs before) (ht : Tb W W.heap.size) :
    Calls Tryz.prog 10 args W fun e W' => ∃ v, e = .returned v ∧ Rows.valueLeastSpec.post enc Tryz.prog Tryz.f10 false true false false W args v W' := by
  have hW' := hW
  obtain ⟨p, q, hA0, hV, rfl, hfz, hnd⟩ := hW
  have hA : DataW.TrodAll enc Tryz.prog W 0 (fun _ => true) true Tryz.f10.params.toList args.toList ds p := hA0
  rw [Tryz.params10] at hA hval
  obtain ⟨v0, vs0, d0, ds0, p0, q0, hargs, rfl, rfl, h0, r0⟩ := trodAll_cons hA
  obtain ⟨rfl, rfl, rfl⟩ := trodAll_nil r0
  obtain rfl : args = #[v0] := by cases args; simp_all
  obtain ⟨rfl, rfl⟩ := trodVars_none hV
  obtain ⟨a0, c0, l0, rfl, hx0⟩ := open_argI (hval 0 48 v0 rfl rfl) h0
  refine (leastL_any a0 c0 l0 W hx0 ht).mono fun e W' ⟨he, hk⟩ => ?_
  subst he
  refine ⟨_, rfl, ?_⟩
  have hlt : ∀ p ∈ p0 ++ [] ++ [], p.block < W.heap.size := fun p hp => hW'.lt p hp
  have hT0 : 48 < Tryz.prog.types.size := of_decide_eq_true (by kernel_rfl)
  refine post_of_kp (pa := p0 ++ []) (pv := []) hW' hk (fun _ _ _ => trodAll_cons_mk (shut_bool Tryz.underlying4 _) trodAll_mk0) (fun sp hsp => ?_) (fun _ _ => rfl) rfl (ok_one (by kernel_rfl) rfl (okWide_bool_mk Tryz.underlying4 _))
  rw [Tryz.params10]
  exact trodAll_cons_mk (trod_kp (DataW.Trod.respare kidsP fullP hT0 h0 (fun p hp => hsp p (by simp [hp]))) hk (fun p hp => hlt p (by simp [hp])))
    (trodAll_mk0)

theorem own : ownKnob Tryz.prog.godebug = none := by kernel_rfl

def intsOf (k : IntKind) : DataW Unit → Array Value
  | .agg l => (l.map fun d => match d with | .lit (.int _ n) => Value.int k n | _ => Value.int k 0).toArray
  | _ => #[]

/-- THE WITNESS: the settled world with two blocks more (the two errors), the five variables holding what their initialisers lay. -/
noncomputable def laidWorld (os : Os) : World :=
  let N := (World.settled Tryz.prog os).heap.size
  let w0 := World.holding Tryz.prog os ⟨#[.cells #[.string ⟨#[105, 110, 118, 97, 108, 105, 100, 32, 115, 121, 110, 116, 97, 120]⟩] 187 (0, 0), .cells #[.string ⟨#[118, 97, 108, 117, 101, 32, 111, 117, 116, 32, 111, 102, 32, 114, 97, 110, 103, 101]⟩] 187 (0, 0)], #[], []⟩
  let put (h : Array Obj) (g : Nat) (cs : Array Value) : Array Obj := h.modify g fun
    | .cells _ t frozen => .cells cs t frozen
    | o => o
  let h1 := put w0.heap 1 #[.iface 185 (.pointer (some ⟨N, 0, none⟩))]
  let h2 := put h1 2 #[.iface 185 (.pointer (some ⟨N + 1, 0, none⟩))]
  let h3 := put h2 3 (intsOf .u64 Rows.laid_internal_strconv_uint64pow10)
  let h4 := put h3 4 (intsOf .u8 Rows.laid_math_bits_deBruijn32tab)
  let h5 := put h4 5 (intsOf .u8 Rows.laid_math_bits_deBruijn64tab)
  { w0 with heap := h5 }

noncomputable abbrev N0 : Nat := (World.settled Tryz.prog default).heap.size
/-- The witness's arguments. -/
abbrev wArgs : Array Value := #[.slice none 0 0]

set_option maxRecDepth 1000000 in
theorem laid_met (os : Os) (args : Array Value) : laidMet Tryz.prog Rows.valueLeastRow.laid ((laidWorld os).forCall (fun _ _ => 0) ⟨#[], args, []⟩).memory :=
  (LaidIn.of_run (l := Rows.valueLeastRow.laid) [4, 5, 3, 2, N0 + 1, 1, N0] 8 (by kernel_rfl) (by kernel_rfl) (by kernel_rfl) (by kernel_rfl)).met

theorem witness_row (os : Os) {H : Type} (enc : TypeId × Value → H) :
    (OpenSpec.ofChange Rows.valueLeastSpec).preRow enc Tryz.prog Tryz.f10 Rows.valueLeastRow.domain false Rows.valueLeastRow.laid ((laidWorld os).forCall (fun _ _ => 0) ⟨#[], wArgs, []⟩).memory wArgs := by
  have hw : (DataW.whole enc Tryz.prog ((laidWorld os).forCall (fun _ _ => 0) ⟨#[], wArgs, []⟩).memory Tryz.f10.params.toList Rows.valueLeastSpec.vars false wArgs.toList 8).map (fun x => (x.1, x.2.1)) =
      some ([.nil], []) := by kernel_rfl
  obtain ⟨⟨x1, x2, x3⟩, hx, hx1⟩ := Option.map_eq_some_iff.1 hw
  simp only [Prod.mk.injEq] at hx1
  obtain ⟨rfl, rfl⟩ := hx1
  exact OpenSpec.preRow_of_cond 8 hx (by kernel_rfl) (fun k hk => by cases hk) (by kernel_rfl) (laid_met os _)

set_option maxRecDepth 100000 in
set_option maxHeartbeats 2000000 in
theorem lifted (os : Os) (started : os.Started) (H : Type) (enc : TypeId × Value → H) (F : Stop.Interp) :
    ReturnsInHanded {} Tryz.checked os 10 .any ((OpenSpec.ofChange Rows.valueLeastSpec).preRow enc Tryz.prog Tryz.f10 Rows.valueLeastRow.domain false Rows.valueLeastRow.laid) (((OpenSpec.ofChange Rows.valueLeastSpec).at F).post enc Tryz.prog Tryz.f10 false true false false) := by
  refine returnsInHanded_of_row (C := Tryz.checked) (s := OpenSpec.ofChange Rows.valueLeastSpec) own started (by kernel_rfl) Tryz.func10
    (witness_row_atRef (enc := enc) (C := Tryz.checked) false (laidWorld os) wArgs rfl (by kernel_rfl) (by kernel_rfl) (by kernel_rfl) (witness_row os enc)) ?_
  intro W base args ds gs before hval hW _ _ _ hL _ _
  exact contract H enc W base args ds gs before hval hW (tens hL)

theorem said : Rows.ValueLeastSaid :=
  OpenClaim.holds_of_cond 10 Tryz.f10 rfl rfl rfl rfl rfl rfl rfl ⟨rfl, rfl, rfl, rfl, rfl⟩ rfl rfl rfl rfl rfl (by kernel_rfl) Tryz.func10 (by kernel_rfl)
    (of_decide_eq_true (by kernel_rfl)) (by unfold Func.isWrapper; first | (rw [if_pos (by decide +kernel)]; kernel_rfl) | (rw [if_neg (by decide +kernel)]; exact ⟨rfl, rfl⟩))
    (fun os started H enc _ F => by rw [OpenClaim.pre_eq_preRow]; exact lifted os started H enc F)

/-- No parameter wants a stand-in; the program's own looks are off: what the card asks. -/
theorem plain (f : FuncId) (fn : Func) (hf : Tryz.pinned.checked.prog.funcNamed "deltaworks/deltaworkslaw01.ValueLeast" = some f) (hfn : Tryz.pinned.checked.prog.funcs[f]? = some fn) :
    true = Tryz.pinned.checked.prog.looks [] ∧ ∀ (j : Nat) t, fn.params[j]? = some t → Tryz.pinned.checked.prog.wantsStandIn t = false := by
  obtain rfl : f = 10 := Option.some.inj ((show Tryz.prog.funcNamed "deltaworks/deltaworkslaw01.ValueLeast" = some 10 by kernel_rfl).symm.trans hf) |>.symm
  obtain rfl : fn = Tryz.f10 := (Option.some.inj (Tryz.func10.symm.trans hfn)).symm
  refine ⟨by kernel_rfl, fun j t ht => ?_⟩
  rw [Tryz.params10] at ht
  obtain rfl : t = 48 := by simpa using Array.mem_of_getElem? ht
  exact (show Tryz.prog.wantsStandIn 48 = false by kernel_rfl)

/-- ████ THE CARD ████ -/
theorem card : Rows.ValueLeastCardSaid :=
  Claim7.holds_tied_plain_at .later [] _ _ _ _ said (fun _ h => by cases h) (by kernel_rfl) (fun _ h => by cases h) valueLeast_row_tie rfl ⟨rfl, rfl⟩ (by kernel_rfl) rfl plain (by kernel_rfl)

end Go.Proofs.YtbiljalhabnhlaaGreatDoor.valueLeast
