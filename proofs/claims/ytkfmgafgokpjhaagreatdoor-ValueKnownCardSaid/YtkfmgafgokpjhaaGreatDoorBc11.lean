/-
  Contracts of the functions of package value, of its specification and of what the statements of layer 1 share (values and types made of numbers, the chapter's examples), each for every argument: used by the proofs of layer 1's statements.
  Part 11 of 12.
-/
import Derived.Test.YtkfmgafgokpjhaaGreatDoorBc10
/-
  PLAIN MATHEMATICS: WHAT THE READER READS OF ANY BYTES, as the program goes through them.
-/
namespace Go.Proofs.YtkfmgafgokpjhaaGreatDoor
open Go.RowKit

/-- The number with which bytes begin, and what is behind it. -/
def pN (l : List UInt8) : Option (Int × List UInt8) :=
  match Lib.atoiAll (l.takeWhile numC) with
  | .ok v => if Lib.itoa v = l.takeWhile numC then some (v, l.dropWhile numC) else none
  | _ => none

/-- The text that ends with the next mark, and what is behind it; true: behind a backslash. -/
def pE : Bool → List UInt8 → Option (List UInt8 × List UInt8)
  | _, [] => none
  | true, c :: r => if c = 34 ∨ c = 92 then (pE false r).map fun x => (c :: x.1, x.2) else none
  | false, b :: r => if b = 34 then some ([], r) else if b = 92 then pE true r else (pE false r).map fun x => (b :: x.1, x.2)
def pQ (l : List UInt8) : Option (List UInt8 × List UInt8) := pE false l

theorem pQ_nil : pQ [] = none := rfl
theorem pQ_end {r : List UInt8} : pQ (34 :: r) = some ([], r) := rfl
theorem pQ_esc {c : UInt8} {r : List UInt8} (h : c = 34 ∨ c = 92) : pQ (92 :: c :: r) = (pQ r).map fun x => (c :: x.1, x.2) := by
  show pE true (c :: r) = _
  rw [pE, if_pos h]; rfl
theorem pQ_bad {c : UInt8} {r : List UInt8} (h : ¬ (c = 34 ∨ c = 92)) : pQ (92 :: c :: r) = none := by
  show pE true (c :: r) = _
  rw [pE, if_neg h]
theorem pQ_cut : pQ [92] = none := rfl
theorem pQ_go {b : UInt8} {r : List UInt8} (h : b ≠ 34) (h' : b ≠ 92) : pQ (b :: r) = (pQ r).map fun x => (b :: x.1, x.2) := by
  show pE false (b :: r) = _
  rw [pE, if_neg h, if_neg h']; rfl

mutual
/-- What the reader makes of the bytes that come next: a value and what is behind it, or nothing. -/
inductive PV : List UInt8 → Option (V × List UInt8) → Prop
  | quoted {r : List UInt8} : PV (34 :: r) ((pQ r).map fun x => (.mk 1 0 ⟨x.1.toArray⟩ none 0 [], x.2))
  | tuple {r : List UInt8} {o : Option (List V × List UInt8)} : PL 0 r o → PV (40 :: r) (o.map fun x => (.mk 2 0 ⟨#[]⟩ none 0 x.1, x.2))
  | tag0 {r : List UInt8} : pN r = none → PV (35 :: r) none
  | tag1 {r r1 : List UInt8} {n : Int} : pN r = some (n, r1) → r1.head? ≠ some 32 → PV (35 :: r) none
  | tag2 {r r2 : List UInt8} {n : Int} {o : Option (V × List UInt8)} : pN r = some (n, 32 :: r2) → PV r2 o → PV (35 :: r) (o.map fun x => (.mk 3 n ⟨#[]⟩ none 0 [x.1], x.2))
  | word {l : List UInt8} : l.head? ≠ some 34 → l.head? ≠ some 40 → l.head? ≠ some 35 → PV l ((pN l).map fun x => (.mk 0 x.1 ⟨#[]⟩ none 0 [], x.2))
/-- The parts of a tuple from the j-th on. -/
inductive PL : Nat → List UInt8 → Option (List V × List UInt8) → Prop
  | done {j : Nat} {r : List UInt8} : PL j (41 :: r) (some ([], r))
  | wide {j : Nat} {l : List UInt8} : l.head? ≠ some 41 → j = 8 → PL j l none
  | first0 {l : List UInt8} : l.head? ≠ some 41 → PV l none → PL 0 l none
  | first1 {l r : List UInt8} {x : V} {o : Option (List V × List UInt8)} : l.head? ≠ some 41 → PV l (some (x, r)) → PL 1 r o → PL 0 l (o.map fun y => (x :: y.1, y.2))
  | next0 {j : Nat} {l : List UInt8} : l.head? ≠ some 41 → 0 < j → j < 8 → ¬ [44, 32] <+: l → PL j l none
  | next1 {j : Nat} {r : List UInt8} : 0 < j → j < 8 → PV r none → PL j (44 :: 32 :: r) none
  | next2 {j : Nat} {r r1 : List UInt8} {x : V} {o : Option (List V × List UInt8)} : 0 < j → j < 8 → PV r (some (x, r1)) → PL (j + 1) r1 o → PL j (44 :: 32 :: r) (o.map fun y => (x :: y.1, y.2))
end

end Go.Proofs.YtkfmgafgokpjhaaGreatDoor

/-
  number, AT ANY BYTES.
-/
namespace Go.Proofs.YtkfmgafgokpjhaaGreatDoor
open Go.RowKit

/-- The errors of package strconv lie there, below block B. -/
def Eb (w : World) (B : Nat) : Prop := ∃ v1 v2 : Value, (v1 = .nilIface ∨ ∃ te pe, v1 = .iface te pe) ∧ (v2 = .nilIface ∨ ∃ te pe, v2 = .iface te pe) ∧ 1 < B ∧ 2 < B ∧ w.cell? ⟨1, 0, none⟩ = some v1 ∧ w.cell? ⟨2, 0, none⟩ = some v2
theorem Eb.keep {w w' : World} {B C : Nat} (h : Eb w B) (k : Below B w w') (hC : B ≤ C) : Eb w' C := by
  obtain ⟨v1, v2, h1, h2, b1, b2, c1, c2⟩ := h
  exact ⟨v1, v2, h1, h2, by omega, by omega, (k.cell (p := ⟨1, 0, none⟩) b1).trans c1, (k.cell (p := ⟨2, 0, none⟩) b2).trans c2⟩

set_option maxHeartbeats 1000000 in
theorem atoi_none (w : World) (s : ByteArray) (B : Nat) (hs : s.size ≤ 1000000) (he : Eb w B) (h : ∀ v, Lib.atoiAll s.data.toList ≠ .ok v) (h' : Lib.atoiAll s.data.toList ≠ .range) :
    Calls Tryz.prog 132 #[.string s] w fun e w' => (∃ n te pe, e = .returned (.tuple #[.int .i64 n, .iface te pe])) ∧ Kp w w' := by
  have C := Tryz.internal_strconv_Atoi_all s (by omega) w
  have hi : ∀ T sat, Lib.intTuple T sat (Lib.atoiAll s.data.toList) = .tuple #[.int .i64 0, .iface T (.int .i64 2)] := fun T sat => by
    cases hq : Lib.atoiAll s.data.toList with
    | ok v => exact absurd hq (h v)
    | range => exact absurd hq h'
    | _ => rfl
  rw [hi] at C
  have CC := Lib.hid C
  have HE := Lib.hid he
  have HS := Lib.hid hs
  clear C he h h' hs hi
  go_enter Tryz.func132, Tryz.ntmps132
  go_wp2_with fail
  refine CC.out.mono ?_
  rintro e w1 ⟨rfl, hw⟩
  have hk : Kp w w1 := by
    rcases hw with rfl | ⟨t, rfl⟩
    · exact Below.refl _ _
    · exact kp_bytes _ _
  obtain ⟨v1, v2, h1, h2, b1, b2, c1, c2⟩ := HE.out
  have hb1 := World.block_lt_of_cell? w _ c1
  have HK := Lib.hid hk
  have hc1 := (hk.cell (p := ⟨1, 0, none⟩) hb1).trans c1
  clear hw hk h2 c2
  go_wp2_with fail
  refine (Tryz.strconv_toError_syntax _ s _ _ v1 _ (by have := HS.out; omega) hc1 h1).mono ?_
  rintro e w2 ⟨N, rfl, -, -, hk2⟩
  have HK2 := Lib.hid (kk HK.out hk2)
  clear hk2
  go_wp2_with fail
  go_ret2
  exact ⟨⟨_, _, _, rfl⟩, HK2.out⟩

/-- Atoi of any bytes: the number, or some error. -/
theorem atoi_any (w : World) (s : ByteArray) (B : Nat) (hs : s.size ≤ 1000000) (he : Eb w B) :
    Calls Tryz.prog 132 #[.string s] w fun e w' => ((∃ v, Lib.atoiAll s.data.toList = .ok v ∧ e = .returned (.tuple #[.int .i64 v, .nilIface])) ∨ ((∀ v, Lib.atoiAll s.data.toList ≠ .ok v) ∧ ∃ n te pe, e = .returned (.tuple #[.int .i64 n, .iface te pe]))) ∧ Kp w w' := by
  cases h : Lib.atoiAll s.data.toList with
  | ok v =>
    refine (atoi_ok w s v hs h).mono ?_
    rintro e w' ⟨rfl, hk⟩
    exact ⟨.inl ⟨v, rfl, rfl⟩, hk⟩
  | range =>
    obtain ⟨v1, v2, h1, h2, b1, b2, c1, c2⟩ := he
    refine (Tryz.strconv_Atoi_range s (by omega) h v2 w c2 h2).mono ?_
    rintro e w' ⟨N, rfl, -, -, hk⟩
    exact ⟨.inr ⟨(fun v hv => by cases hv), _, _, _, rfl⟩, hk⟩
  | _ =>
    refine (atoi_none w s B hs he (fun v hv => by rw [h] at hv; cases hv) (fun hv => by rw [h] at hv; cases hv)).mono ?_
    rintro e w' ⟨hn, hk⟩
    exact ⟨.inr ⟨(fun v hv => by cases hv), hn⟩, hk⟩

theorem atoi_range {l : List UInt8} {v : Int} (h : Lib.atoiAll l = .ok v) : I64 v := by
  unfold Lib.atoiAll at h
  cases l with
  | nil => cases h
  | cons c r =>
    simp only at h
    split at h
    · cases h
    · cases h
    · rename_i u _
      split at h
      · cases h
      · split at h
        · cases h
        · injection h with h
          unfold I64
          split at h <;> omega

theorem dropWhile_head : ∀ (l : List UInt8) (b : UInt8) (r : List UInt8), l.dropWhile numC = b :: r → numC b = false
  | [], b, r, h => by simp at h
  | c :: l, b, r, h => by
    rw [List.dropWhile_cons] at h
    split at h
    · exact dropWhile_head l b r h
    · rename_i hc
      injection h with h1 h2
      subst h1
      simpa using hc

/-- What number tells: the number that pN tells, or it is refused. -/
def OutN (w : World) (R : Nat) (s : ByteArray) (p : Nat) (e : Ending) (w' : World) : Prop :=
  (∃ n q, pN (s.data.toList.drop p) = some (n, s.data.toList.drop q) ∧ p ≤ q ∧ q ≤ s.size ∧ I64 n ∧ e = .returned (.int .i64 n) ∧ Reader w' R s q ∧ Bt R w w') ∨
  (pN (s.data.toList.drop p) = none ∧ e = .panicked formP ∧ Bt R w w')

set_option maxRecDepth 100000 in
set_option maxHeartbeats 4000000 in
theorem number_any (w : World) (R : Nat) (s : ByteArray) (p : Nat) (hr : Reader w R s p) (hp : p ≤ s.size) (hs : s.size ≤ 1000000) (ht : Tb w R) (he : Eb w R) :
    Calls Tryz.prog 117 #[.pointer (some ⟨R, 0, none⟩)] w (OutN w R s p) := by
  have hRl := lt_of_block hr
  have hspl : s.data.toList.drop p = (s.data.toList.drop p).takeWhile numC ++ (s.data.toList.drop p).dropWhile numC := (List.takeWhile_append_dropWhile).symm
  have hH : HasAt s p ((s.data.toList.drop p).takeWhile numC) := ⟨_, hspl⟩
  have hpn : pN (s.data.toList.drop p) = (match Lib.atoiAll ((s.data.toList.drop p).takeWhile numC) with
    | .ok v => if Lib.itoa v = (s.data.toList.drop p).takeWhile numC then some (v, (s.data.toList.drop p).dropWhile numC) else none
    | _ => none) := rfl
  have hall : ∀ c ∈ (s.data.toList.drop p).takeWhile numC, numC c = true := fun c hc => by
    have := @List.all_takeWhile _ numC (s.data.toList.drop p)
    exact List.all_eq_true.1 this c hc
  have hhd := dropWhile_head (s.data.toList.drop p)
  have hrest : (s.data.toList.drop p).dropWhile numC = s.data.toList.drop (p + ((s.data.toList.drop p).takeWhile numC).length) := by
    have h2 := congrArg (List.drop ((s.data.toList.drop p).takeWhile numC).length) hspl
    rw [List.drop_drop, List.drop_left] at h2
    exact h2.symm
  have hlen : p + ((s.data.toList.drop p).takeWhile numC).length ≤ s.size := by
    have := congrArg List.length hspl
    rw [List.length_drop, List.length_append, Array.length_toList] at this
    have e : s.data.size = s.size := rfl
    omega
  generalize hD : (s.data.toList.drop p).takeWhile numC = D at *
  rw [hrest] at hpn hhd
  clear hspl hrest hD
  have hget : ∀ q, p ≤ q → q < p + D.length → ∃ h : q < s.size, numC s[q] = true := fun q h1 h2 => by
    obtain ⟨b, hb⟩ : ∃ b, D[q - p]? = some b := ⟨D[q - p], by simp⟩
    obtain ⟨g1, g2⟩ := hH.get hb
    have e : p + (q - p) = q := by omega
    simp only [e] at g1 g2
    exact ⟨g1, by rw [g2]; exact hall b (List.mem_of_getElem? hb)⟩
  have hd : s.extract p (p + D.length) = ⟨D.toArray⟩ := by
    obtain ⟨r, hr⟩ := hH
    apply ByteArray.ext
    apply Array.ext'
    rw [ByteArray.data_extract, Array.toList_extract]
    simp only [List.extract]
    rw [hr]
    simp
  have hstop : ∀ h : p + D.length < s.size, numC s[p + D.length] = false := fun h => hhd s[p + D.length] (s.data.toList.drop (p + D.length + 1)) (by
    rw [List.drop_eq_getElem_cons (by simpa using h)]; rfl)
  have hA := fun (w1 : World) (hb : Bt R w w1) => atoi_any w1 ⟨D.toArray⟩ R (by simp [ByteArray.size]; omega) (he.keep (hb.below (Nat.le_refl _) (by omega)) (Nat.le_refl _))
  have hI := fun (n : Int) (hn : I64 n) (w1 : World) (hb : Bt R w w1) => itoa_any w1 n R hn (ht.keep (hb.below (Nat.le_refl _) (by omega)) (Nat.le_refl _))
  have hple : p ≤ p + D.length := by omega
  generalize hE : p + D.length = e at *
  have HR := Lib.hid hr
  have HALL := Lib.hid hget
  have HST := Lib.hid hstop
  have HA := Lib.hid hA
  have HI := Lib.hid hI
  have HPN := Lib.hid hpn
  clear hr hH hall hhd hget hstop hA hI hpn ht he hE
  have c0 := HR.out.c0
  have c1 := HR.out.c1
  go_enter Tryz.func117, Tryz.ntmps117
  go_wp2_with fail
  clear c0 c1
  go_loopw [] (fun wr => ∃ q : Nat, p ≤ q ∧ q ≤ e ∧ Reader wr R s q ∧ Bt R w wr) (fun wr => e - posOf wr R)
  case atStart => exact ⟨p, Nat.le_refl _, hple, HR.out, Bt.refl _ _⟩
  case round =>
    obtain ⟨q, hq1, hq2, hrd, hbt⟩ := hrel
    have c0 := hrd.c0
    have c1 := hrd.c1
    have f1 := hrd.free 1
    have hps := posOf_reader hrd
    have HRD := Lib.hid hrd
    have HBT := Lib.hid hbt
    have HPS := Lib.hid hps
    clear hrd hbt hps
    by_cases hlt : q < e
    · obtain ⟨g1, g2⟩ := HALL.out q hq1 hlt
      have g3 : (q : Int) < (s.size : Int) := by omega
      have g4 : decide ((q : Int) < (s.size : Int)) = true := by simpa using g3
      have g5 : (0 : Int) ≤ (q : Int) := by omega
      by_cases h45 : s[q].toNat = 45
      · have a1 : ((s[q].toNat : Int) == 45) = true := by rw [h45]; rfl
        clear g2 h45
        go_wp2_with fail
        go_quiet (fail)
        go_wp2_with fail
        have hr1 := rd_put (m := q + 1) (v := (q : Int) + 1) (HRD.out.kp (drew_kp wr nq)) (by omega)
        have hp1 := posOf_reader hr1
        go_roundw
        case rel => exact ⟨q + 1, by omega, by omega, hr1, (HBT.out.trans (.kp (drew_kp wr nq))).trans (Bt.set _ ⟨R, 1, none⟩ _)⟩
        case measure => rw [HPS.out, hp1]; omega
      · have a1 : ((s[q].toNat : Int) == 45) = false := by rw [beq_eq_false_iff_ne]; omega
        have a2 : decide ((48 : Int) ≤ (s[q].toNat : Int)) = true := by simp [numC, h45] at g2; simp; omega
        have a3 : decide ((s[q].toNat : Int) ≤ (57 : Int)) = true := by simp [numC, h45] at g2; simp; omega
        clear g2 h45
        go_wp2_with fail
        go_quiet (fail)
        go_wp2_with fail
        have hr1 := rd_put (m := q + 1) (v := (q : Int) + 1) (HRD.out.kp (drew_kp wr nq)) (by omega)
        have hp1 := posOf_reader hr1
        go_roundw
        case rel => exact ⟨q + 1, by omega, by omega, hr1, (HBT.out.trans (.kp (drew_kp wr nq))).trans (Bt.set _ ⟨R, 1, none⟩ _)⟩
        case measure => rw [HPS.out, hp1]; omega
    · obtain rfl : q = e := by omega
      have g5 : (0 : Int) ≤ (q : Int) := by omega
      have b1 : (p : Int) ≤ (q : Int) := by omega
      have b2 : (q : Int) ≤ (s.size : Int) := by omega
      have hway : decide ((q : Int) < (s.size : Int)) = false ∨ ∃ h : q < s.size, ((s[q].toNat : Int) == 45) = false ∧ (decide ((48 : Int) ≤ (s[q].toNat : Int)) = false ∨ (decide ((48 : Int) ≤ (s[q].toNat : Int)) = true ∧ decide ((s[q].toNat : Int) ≤ (57 : Int)) = false)) := by
        by_cases h : q < s.size
        · right
          have hn := HST.out h
          refine ⟨h, ?_⟩
          unfold numC at hn
          simp only [Bool.or_eq_false_iff, Bool.and_eq_false_iff, decide_eq_false_iff_not] at hn
          obtain ⟨n1, n2⟩ := hn
          refine ⟨by rw [beq_eq_false_iff_ne]; omega, ?_⟩
          rcases n2 with n2 | n2
          · left; rw [decide_eq_false_iff_not]; omega
          · by_cases n3 : 48 ≤ s[q].toNat
            · right; exact ⟨by rw [decide_eq_true_iff]; omega, by rw [decide_eq_false_iff_not]; omega⟩
            · left; rw [decide_eq_false_iff_not]; omega
        · left; rw [decide_eq_false_iff_not]; omega
      rcases hway with g4 | ⟨hq, a1, a2 | ⟨a2, a3⟩⟩
      all_goals
        try have g3 : (q : Int) < (s.size : Int) := by omega
        try have g4 : decide ((q : Int) < (s.size : Int)) = true := by simpa using g3
        try have g6 : decide (q < s.size) = false := by simpa using g4
        go_wp2_with fail
        go_quiet (fail)
        go_wp2_with fail
        go_quiet (fail)
        go_wp2_with fail
        refine (HA.out _ (HBT.out.trans (.kp (drew_kp wr _)))).mono ?_
        rintro e1 w1 ⟨hout, hk1⟩
        have HB1 := Lib.hid (HBT.out.trans (.kp (kk (drew_kp wr _) hk1)))
        have HR1 := Lib.hid (HRD.out.kp (kk (drew_kp wr _) hk1))
        clear hk1 c0 c1 f1
        rcases hout with ⟨v, hv, rfl⟩ | ⟨hv, n, te, pe, rfl⟩
        · have hIv := Lib.hid (HI.out v (atoi_range hv))
          by_cases hvd : Lib.itoa v = D
          · have hcmp : ((⟨(Lib.itoa v).toArray⟩ : ByteArray).toList == D) = true := by rw [hvd]; simp
            have hpn2 : pN (s.data.toList.drop p) = some (v, s.data.toList.drop q) := by rw [HPN.out, hv]; simp only [if_pos hvd]
            have HV := Lib.hid (atoi_range hv)
            have HPN2 := Lib.hid hpn2
            clear hv hvd hpn2
            generalize (⟨(Lib.itoa v).toArray⟩ : ByteArray) = J at *
            go_wp2_with fail
            refine (hIv.out _ HB1.out).mono ?_
            rintro e2 w2 ⟨rfl, hk2⟩
            have HB2 := Lib.hid (HB1.out.trans (.kp hk2))
            have HR2 := Lib.hid (HR1.out.kp hk2)
            clear hk2
            go_wp2_with fail
            go_ret
            exact .inl ⟨v, q, HPN2.out, hq1, by omega, HV.out, rfl, HR2.out, HB2.out⟩
          · have hcmp : ((⟨(Lib.itoa v).toArray⟩ : ByteArray).toList == D) = false := by
              rw [beq_eq_false_iff_ne]
              intro h
              rw [ByteArray.toList_eq] at h
              exact hvd (by simpa using h)
            have hpn2 : pN (s.data.toList.drop p) = none := by rw [HPN.out, hv]; simp only [if_neg hvd]
            have HPN2 := Lib.hid hpn2
            clear hv hvd hpn2
            generalize (⟨(Lib.itoa v).toArray⟩ : ByteArray) = J at *
            go_wp2_with fail
            refine (hIv.out _ HB1.out).mono ?_
            rintro e2 w2 ⟨rfl, hk2⟩
            have HB2 := Lib.hid (HB1.out.trans (.kp hk2))
            clear hk2
            go_wp2_with fail
            refine (refuse_any _).mono ?_
            rintro e3 w3 ⟨rfl, rfl⟩
            exact ⟨rfl, .inr ⟨HPN2.out, rfl, HB2.out⟩⟩
        · have hpn2 : pN (s.data.toList.drop p) = none := by
            rw [HPN.out]
            cases hc : Lib.atoiAll D with
            | ok v => exact absurd hc (hv v)
            | range => rfl
            | _ => rfl
          have HPN2 := Lib.hid hpn2
          clear hv hpn2
          go_wp2_with fail
          refine (refuse_any _).mono ?_
          rintro e3 w3 ⟨rfl, rfl⟩
          exact ⟨rfl, .inr ⟨HPN2.out, rfl, HB1.out⟩⟩

end Go.Proofs.YtkfmgafgokpjhaaGreatDoor

/-
  quoted, AT ANY BYTES.
-/
namespace Go.Proofs.YtkfmgafgokpjhaaGreatDoor
open Go.RowKit

/-- next at any place: the byte that lies there, or it is refused. -/
theorem next_any (w : World) (R : Nat) (s : ByteArray) (n : Nat) (h : Reader w R s n) (hn : n ≤ s.size) (hs : s.size ≤ 1000000) :
    Calls Tryz.prog 125 #[.pointer (some ⟨R, 0, none⟩)] w fun e w' =>
      (∃ b, s.data.toList.drop n = b :: s.data.toList.drop (n + 1) ∧ n < s.size ∧ e = .returned (.int .u8 (b.toNat : Int)) ∧ Reader w' R s (n + 1) ∧ Bt R w w') ∨ (s.data.toList.drop n = [] ∧ e = .panicked formP ∧ Bt R w w') := by
  by_cases hlt : n < s.size
  · refine (next_yes w R s n h hlt hs).mono ?_
    rintro e w' ⟨rfl, hr, hb⟩
    refine .inl ⟨s[n], ?_, hlt, rfl, hr, hb⟩
    rw [List.drop_eq_getElem_cons (by simpa using hlt)]; rfl
  · obtain rfl : n = s.size := by omega
    refine (next_no w R s h).mono ?_
    rintro e w' ⟨rfl, hk⟩
    exact .inr ⟨by rw [List.drop_of_length_le]; simp, rfl, .kp hk⟩

/-- What quoted tells. -/
def OutQ (w : World) (R : Nat) (s : ByteArray) (p : Nat) (e : Ending) (w' : World) : Prop :=
  (∃ t q, pQ (s.data.toList.drop p) = some (t, s.data.toList.drop q) ∧ p ≤ q ∧ q ≤ s.size ∧ ReadsV w R s q (.mk 1 0 ⟨t.toArray⟩ none 0 []) e w') ∨
  (pQ (s.data.toList.drop p) = none ∧ e = .panicked formP ∧ Bt R w w')

theorem map_step {o : Option (List UInt8 × List UInt8)} {t : List UInt8} {c : UInt8} : (o.map fun x => (c :: x.1, x.2)).map (fun x => (t ++ x.1, x.2)) = o.map fun x => ((t ++ [c]) ++ x.1, x.2) := by
  cases o <;> simp

set_option maxRecDepth 100000 in
set_option maxHeartbeats 8000000 in
theorem quoted_any (w : World) (R : Nat) (s : ByteArray) (p : Nat) (hr : Reader w R s p) (hp : p ≤ s.size) (hs : s.size ≤ 1000000) :
    Calls Tryz.prog 115 #[.pointer (some ⟨R, 0, none⟩)] w (OutQ w R s p) := by
  have hRl := lt_of_block hr
  have HR := Lib.hid hr
  clear hr
  go_enter Tryz.func115, Tryz.ntmps115
  go_wp2_with fail
  refine (next_any _ R s p (HR.out.kp (kk (ka _ _) (ka _ _))) hp hs).mono ?_
  rintro e w1 (⟨b0, hb0, hlt0, rfl, hr1, hb1⟩ | ⟨h0, rfl, hb1⟩)
  rotate_left
  · exact ⟨rfl, .inr ⟨by rw [h0]; rfl, rfl, (Bt.kp (c := R) (kk (ka _ _) (ka _ _))).trans hb1⟩⟩
  have hS0 : w1.heap[w.heap.size + 1]? = some (.cells #[.slice none 0 0] 97 (0, 0)) := (hb1.block _ (by simp) (by omega)).trans (blockHere (by simp))
  have hres := (hb1.block w.heap.size (by simp; omega) (by omega)).trans (blockPast (blockHere (w := w) (o := .cells zero4 24 (0, 0)) rfl))
  have HR1 := Lib.hid hr1
  have HS1 := Lib.hid (⟨.slice none 0 0, hS0, World.ownsRow_nil _ _ _ _⟩ : Sink w1 (w.heap.size + 1) [])
  have HC1 := Lib.hid (cell_of_one hS0)
  have HRS := Lib.hid hres
  have HB0 := Lib.hid hb0
  have HB1 := Lib.hid ((Bt.kp (c := R) (kk (ka w (.cells zero4 24)) (ka _ (.cells #[.slice none 0 0] 97)))).trans hb1)
  clear hr1 hb1 hS0 hres hb0
  go_wp2_with fail
  go_loopw [4] (fun bb wr => ∃ (q : Nat) (b : UInt8) (t : List UInt8), bb = .int .u8 (b.toNat : Int) ∧ p ≤ q ∧ q < s.size ∧ t.length ≤ q ∧ s.data.toList.drop q = b :: s.data.toList.drop (q + 1) ∧ Sink wr (w.heap.size + 1) t ∧ Reader wr R s (q + 1) ∧ Bt R w wr ∧ (t = [] → wr.cell? ⟨w.heap.size + 1, 0, none⟩ = some (.slice none 0 0)) ∧ wr.heap[w.heap.size]? = some (.cells zero4 24 (0, 0)) ∧ pQ (s.data.toList.drop p) = (pQ (s.data.toList.drop q)).map fun x => (t ++ x.1, x.2)) (fun _ wr => s.size + 1 - posOf wr R)
  case atStart => exact ⟨p, b0, [], rfl, Nat.le_refl _, hlt0, Nat.zero_le _, HB0.out, HS1.out, HR1.out, HB1.out, fun _ => HC1.out, HRS.out, by cases pQ (s.data.toList.drop p) <;> simp⟩
  case round =>
    obtain ⟨q, b, t, rfl, hpq, hqs, htq, hdr, hsk, hrd, hbt, hz, hres, hpQ⟩ := hrel
    have hps := posOf_reader hrd
    have HSK := Lib.hid hsk
    have HRD := Lib.hid hrd
    have HBT := Lib.hid hbt
    have HRS2 := Lib.hid hres
    have HPS := Lib.hid hps
    have HDR := Lib.hid hdr
    have HPQ := Lib.hid hpQ
    have HZ := Lib.hid hz
    clear hsk hrd hbt hz hres hps hdr hpQ
    by_cases h34 : b = 34
    · subst h34
      have hpq2 : pQ (s.data.toList.drop p) = some (t, s.data.toList.drop (q + 1)) := by rw [HPQ.out, HDR.out, pQ_end]; simp
      have HPQ2 := Lib.hid hpq2
      clear hpq2
      have hres := HRS2.out
      obtain ⟨d0, d1, d2, d3, f0, f1, f2, f3⟩ := cell4 hres
      clear hres
      by_cases hl0 : t = []
      · subst hl0
        have hz := HZ.out rfl
        go_wp2_with fail
        rw [run_convert_bytes_nil wr 57 5 Tryz.underlying57 Tryz.underlying5 0 0 9 Tryz.underlying9]
        go_wp2_with fail
        obtain ⟨g0, g1, g2, g3, -⟩ := cell4 (put4_block (v0 := .int .i64 1) (v1 := .int .i64 0) (v2 := .string ByteArray.empty) (v3 := .slice none 0 0) HRS2.out)
        refine bodyPost_ret (v := .agg #[.int .i64 1, .int .i64 0, .string ByteArray.empty, .slice none 0 0]) (by simp [results, Tryz.results115, go_sem, g0, g1, g2, g3]) rfl ?_
        exact .inl ⟨[], q + 1, HPQ2.out, by omega, by omega, .mk 1 0 ⟨#[]⟩ none 0 [], rfl, inLeaf _ _ _ (by unfold I64; omega) (by unfold I64; omega) (by decide), V.foot_leaf _ _ _ _ _, V.same_refl _, (put4_other (by omega)).trans HRD.out, put4_bt HBT.out (Nat.le_refl _)⟩
      · have hsk := HSK.out
        obtain ⟨g, cap3, hc3, hcv⟩ := hsk.out hl0
        clear hsk
        go_wp2_with fail
        obtain ⟨g0, g1, g2, g3, -⟩ := cell4 (put4_block (v0 := .int .i64 1) (v1 := .int .i64 0) (v2 := .string ⟨t.toArray⟩) (v3 := .slice none 0 0) HRS2.out)
        refine bodyPost_ret (v := .agg #[.int .i64 1, .int .i64 0, .string ⟨t.toArray⟩, .slice none 0 0]) (by simp [results, Tryz.results115, go_sem, g0, g1, g2, g3]) rfl ?_
        exact .inl ⟨t, q + 1, HPQ2.out, by omega, by omega, .mk 1 0 ⟨t.toArray⟩ none 0 [], rfl, inLeaf _ _ _ (by unfold I64; omega) (by unfold I64; omega) (show t.length ≤ maxLen by unfold maxLen; omega), V.foot_leaf _ _ _ _ _, V.same_refl _, (put4_other (by omega)).trans HRD.out, put4_bt HBT.out (Nat.le_refl _)⟩
    · have n34 : ((b.toNat : Int) != 34) = true := by
        rw [bne_iff_ne]; intro h; exact h34 (UInt8.toNat_inj.1 (show b.toNat = 34 by omega))
      by_cases h92 : b = 92
      · subst h92
        go_wp2_with fail
        refine (next_any _ R s (q + 1) HRD.out (by omega) hs).mono ?_
        rintro e w2 (⟨c, hc, hlt2, rfl, hr2, hb2⟩ | ⟨hc, rfl, hb2⟩)
        rotate_left
        · exact ⟨rfl, .inr ⟨by rw [HPQ.out, HDR.out, hc, pQ_cut]; rfl, rfl, HBT.out.trans hb2⟩⟩
        have HSK2 := Lib.hid (HSK.out.bt hb2 (by omega))
        have HRS3 := Lib.hid ((hb2.block w.heap.size (lt_of_block HRS2.out) (by omega)).trans HRS2.out)
        have HBT2 := Lib.hid (HBT.out.trans hb2)
        have HR2 := Lib.hid hr2
        have HC := Lib.hid hc
        clear hr2 hb2 hc
        by_cases hcc : c = 34 ∨ c = 92
        · have hm : ((c.toNat : Int) != 34) = false ∨ (((c.toNat : Int) != 34) = true ∧ ((c.toNat : Int) != 92) = false) := by
            rcases hcc with rfl | rfl
            · left; rfl
            · right; exact ⟨rfl, rfl⟩
          have hpq3 : pQ (s.data.toList.drop p) = (pQ (s.data.toList.drop (q + 1 + 1))).map fun x => ((t ++ [c]) ++ x.1, x.2) := by
            rw [HPQ.out, HDR.out, HC.out, pQ_esc hcc, map_step]
          have HPQ3 := Lib.hid hpq3
          clear hpq3 hcc
          rcases hm with m1 | ⟨m1, m2⟩
          all_goals
            go_wp2_with fail
            refine (take_any _ (w.heap.size + 1) t _ c rfl HSK2.out (by omega)).mono ?_
            rintro e w3 ⟨rfl, hs3, hk3⟩
            have hbl := hk3.below HSK2.out
            have HS3 := Lib.hid hs3
            have HR3 := Lib.hid (show Reader w3 R s (q + 1 + 1) from (hbl.block R (by omega)).trans HR2.out)
            have HBT3 := Lib.hid (bt_below HBT2.out hbl (by omega))
            have HRS4 := Lib.hid ((hbl.block w.heap.size (by omega)).trans HRS3.out)
            clear hs3 hk3 hbl
            go_wp2_with fail
            refine (next_any _ R s (q + 1 + 1) HR3.out (by omega) hs).mono ?_
            rintro e w4 (⟨b4, hb4, hlt4, rfl, hr4, hk4⟩ | ⟨hb4, rfl, hk4⟩)
            rotate_left
            · exact ⟨rfl, .inr ⟨by rw [HPQ3.out, hb4]; rfl, rfl, HBT3.out.trans hk4⟩⟩
            have hps4 := posOf_reader hr4
            have HS4 := Lib.hid (HS3.out.bt hk4 (by omega))
            have HRS5 := Lib.hid ((hk4.block w.heap.size (lt_of_block HRS4.out) (by omega)).trans HRS4.out)
            have HBT4 := Lib.hid (HBT3.out.trans hk4)
            have HR4 := Lib.hid hr4
            have HB4 := Lib.hid hb4
            clear hr4 hk4 hb4
            go_wp2_with fail
            go_roundw
            case rel => exact ⟨q + 1 + 1, b4, t ++ [c], rfl, by omega, hlt4, by simp; omega, HB4.out, HS4.out, HR4.out, HBT4.out, (fun h => by simp at h), HRS5.out, HPQ3.out⟩
            case measure => rw [HPS.out, hps4]; omega
        · have m1 : ((c.toNat : Int) != 34) = true := by
            rw [bne_iff_ne]; intro h; exact hcc (.inl (UInt8.toNat_inj.1 (show c.toNat = 34 by omega)))
          have m2 : ((c.toNat : Int) != 92) = true := by
            rw [bne_iff_ne]; intro h; exact hcc (.inr (UInt8.toNat_inj.1 (show c.toNat = 92 by omega)))
          have hpq3 : pQ (s.data.toList.drop p) = none := by
            rw [HPQ.out, HDR.out, HC.out, pQ_bad hcc]; rfl
          go_wp2_with fail
          refine (refuse_any _).mono ?_
          rintro e3 w3 ⟨rfl, rfl⟩
          exact ⟨rfl, .inr ⟨hpq3, rfl, HBT2.out⟩⟩
      · have n92 : ((b.toNat : Int) == 92) = false := by
          rw [beq_eq_false_iff_ne]; intro h; exact h92 (UInt8.toNat_inj.1 (show b.toNat = 92 by omega))
        have hpq3 : pQ (s.data.toList.drop p) = (pQ (s.data.toList.drop (q + 1))).map fun x => ((t ++ [b]) ++ x.1, x.2) := by
          rw [HPQ.out, HDR.out, pQ_go h34 h92, map_step]
        have HPQ3 := Lib.hid hpq3
        clear hpq3
        go_wp2_with fail
        refine (take_any _ (w.heap.size + 1) t _ b rfl HSK.out (by omega)).mono ?_
        rintro e w3 ⟨rfl, hs3, hk3⟩
        have hbl := hk3.below HSK.out
        have HS3 := Lib.hid hs3
        have HR3 := Lib.hid (show Reader w3 R s (q + 1) from (hbl.block R (by omega)).trans HRD.out)
        have HBT3 := Lib.hid (bt_below HBT.out hbl (by omega))
        have HRS4 := Lib.hid ((hbl.block w.heap.size (by omega)).trans HRS2.out)
        clear hs3 hk3 hbl
        go_wp2_with fail
        refine (next_any _ R s (q + 1) HR3.out (by omega) hs).mono ?_
        rintro e w4 (⟨b4, hb4, hlt4, rfl, hr4, hk4⟩ | ⟨hb4, rfl, hk4⟩)
        rotate_left
        · exact ⟨rfl, .inr ⟨by rw [HPQ3.out, hb4]; rfl, rfl, HBT3.out.trans hk4⟩⟩
        have hps4 := posOf_reader hr4
        have HS4 := Lib.hid (HS3.out.bt hk4 (by omega))
        have HRS5 := Lib.hid ((hk4.block w.heap.size (lt_of_block HRS4.out) (by omega)).trans HRS4.out)
        have HBT4 := Lib.hid (HBT3.out.trans hk4)
        have HR4 := Lib.hid hr4
        have HB4 := Lib.hid hb4
        clear hr4 hk4 hb4
        go_wp2_with fail
        go_roundw
        case rel => exact ⟨q + 1, b4, t ++ [b], rfl, by omega, hlt4, by simp; omega, HB4.out, HS4.out, HR4.out, HBT4.out, (fun h => by simp at h), HRS5.out, HPQ3.out⟩
        case measure => rw [HPS.out, hps4]; omega

end Go.Proofs.YtkfmgafgokpjhaaGreatDoor

/-
  readList OF VALUES, AT ANY BYTES.
-/
namespace Go.Proofs.YtkfmgafgokpjhaaGreatDoor
open Go.RowKit

/-- What value tells. -/
def OutV (w : World) (R : Nat) (s : ByteArray) (p : Nat) (e : Ending) (w' : World) : Prop :=
  (∃ y q, PV (s.data.toList.drop p) (some (y, s.data.toList.drop q)) ∧ p < q ∧ q ≤ s.size ∧ ReadsV w R s q y e w') ∨
  (PV (s.data.toList.drop p) none ∧ e = .panicked formP ∧ Bt R w w')

/-- What readList tells. -/
def OutL (w : World) (R : Nat) (s : ByteArray) (p : Nat) (e : Ending) (w' : World) : Prop :=
  (∃ (ys : List V) (q g : Nat) (vs : List V), PL 0 (s.data.toList.drop p) (some (ys, s.data.toList.drop q)) ∧ p < q ∧ q ≤ s.size ∧ ys.length ≤ 8 ∧ e = .returned (.slice (some ⟨g, 0, none⟩) ys.length ys.length) ∧ w.heap.size ≤ g ∧ w'.heap[g]? = some (.cells (cellsL vs).toArray 24 (0, 0)) ∧
    V.sameL vs ys = true ∧ V.InL w' w'.heap.size vs ∧ V.footL (fun b => w.heap.size ≤ b) vs ∧ Reader w' R s q ∧ Bt R w w') ∨
  (PL 0 (s.data.toList.drop p) none ∧ e = .panicked formP ∧ Bt R w w')

theorem rest_eq (s : ByteArray) (p : Nat) : (s.extract p s.size).data.toList = s.data.toList.drop p := by
  simp
  exact List.take_of_length_le (by simp)

theorem head_yes {l : List UInt8} {c : UInt8} (h : l.head? = some c) : ∃ r, l = c :: r := by
  cases l with
  | nil => simp at h
  | cons b r => simp at h; exact ⟨r, by rw [h]⟩

theorem pre_one {l : List UInt8} {c : UInt8} : Lib.hasPrefix l (⟨#[c]⟩ : ByteArray).data.toList = decide (l.head? = some c) := by
  show List.isPrefixOf [c] l = _
  cases l with
  | nil => rfl
  | cons b r =>
    show (c == b && List.isPrefixOf [] r) = decide (some b = some c)
    have h0 : List.isPrefixOf [] r = true := by cases r <;> rfl
    rw [h0, Bool.and_true, Bool.eq_iff_iff, beq_iff_eq, decide_eq_true_iff]
    exact ⟨fun h => by rw [h], fun h => (Option.some.inj h).symm⟩

theorem pre_iff {l : List UInt8} {p : ByteArray} : Lib.hasPrefix l p.data.toList = true ↔ p.data.toList <+: l := by
  show List.isPrefixOf p.data.toList l = true ↔ _
  exact List.isPrefixOf_iff_prefix

theorem drop_tail {s : ByteArray} {q : Nat} {c : UInt8} {r : List UInt8} (h : s.data.toList.drop q = c :: r) : r = s.data.toList.drop (q + 1) ∧ q < s.size := by
  have h1 := congrArg (List.drop 1) h
  rw [List.drop_drop] at h1
  refine ⟨by simpa using h1.symm, ?_⟩
  rcases Nat.lt_or_ge q s.size with hq | hq
  · exact hq
  · rw [List.drop_of_length_le (by simpa using hq)] at h; cases h

theorem RowV.grow {w : World} {g j : Nat} {ys : List V} {cs : Array Value} {vs : List V} (h : RowV w g ys j cs vs) (hj : ys.length = j) (y : V) : RowV w g (ys ++ [y]) j cs vs :=
  ⟨h.blk, h.size, h.take, by rw [List.take_append_of_le_length (by omega)]; exact h.same, h.hin, h.foot⟩

set_option maxRecDepth 100000 in
set_option maxHeartbeats 8000000 in
theorem list_any (w : World) (R : Nat) (s : ByteArray) (p : Nat) (hr : Reader w R s p) (hp : p ≤ s.size) (hs : s.size ≤ 1000000) (ht : Tb w R) (he : Eb w R)
    (ih : ∀ (q : Nat) (w1 : World), p ≤ q → q ≤ s.size → Reader w1 R s q → Tb w1 R → Eb w1 R → Calls Tryz.prog 74 #[.pointer (some ⟨R, 0, none⟩)] w1 (OutV w1 R s q)) :
    Calls Tryz.prog 116 #[.pointer (some ⟨R, 0, none⟩), .string ⟨#[44, 32]⟩, .string ⟨#[41]⟩, .func (.func 74) #[] #[]] w (OutL w R s p) := by
  have hRl := lt_of_block hr
  have HR := Lib.hid hr
  have ih2 := fun (q : Nat) (w1 : World) (h1 : p ≤ q) (h2 : q ≤ s.size) (h3 : Reader w1 R s q) (hb : Bt R w w1) => ih q w1 h1 h2 h3 (ht.keep (hb.below (Nat.le_refl _) (by omega)) (Nat.le_refl _)) (he.keep (hb.below (Nat.le_refl _) (by omega)) (Nat.le_refl _))
  have HI := Lib.hid ih2
  clear hr ih ih2 ht he
  go_enter Tryz.func116, Tryz.ntmps116
  go_wp2_with fail
  go_loopw [10] (fun i wr => ∃ (j q : Nat) (cs : Array Value) (vs ys : List V), j ≤ 8 ∧ ys.length = j ∧ i = .int .i64 j ∧ RowV wr w.heap.size ys j cs vs ∧ Bt R w wr ∧ Reader wr R s q ∧ p ≤ q ∧ q ≤ s.size ∧ (∀ o, PL j (s.data.toList.drop q) o → PL 0 (s.data.toList.drop p) (o.map fun x => (ys ++ x.1, x.2)))) (fun i _ => 9 - (intOf i).toNat)
  case atStart => exact ⟨0, p, _, [], [], Nat.zero_le _, rfl, rfl, ⟨blockHere rfl, rfl, by simp [cellsL], by simp [V.sameL], trivial, trivial⟩, Bt.kp (ka _ _), HR.out.kp (ka _ _), Nat.le_refl _, hp, fun o h => by cases o <;> simpa using h⟩
  case round =>
    obtain ⟨j, q, cs, vs, ys, hj, hyl, rfl, hrow, hbt, hrd, hpq, hqs, hPL⟩ := hrel
    have hgl := lt_of_block hrow.blk
    have HROW := Lib.hid hrow
    have HBT := Lib.hid hbt
    have HRD := Lib.hid hrd
    have HPL := Lib.hid hPL
    clear hrow hbt hrd hPL
    by_cases h41 : (s.data.toList.drop q).head? = some 41
    · obtain ⟨r, hr⟩ := head_yes h41
      obtain ⟨hr2, hq⟩ := drop_tail hr
      have hes : Lib.hasPrefix (s.extract q s.size).data.toList (⟨#[41]⟩ : ByteArray).data.toList = true := by
        rw [rest_eq, pre_one]; simpa using h41
      have hfin := HPL.out (some ([], s.data.toList.drop (q + 1))) (by rw [hr, ← hr2]; exact .done)
      rw [Option.map_some, List.append_nil] at hfin
      have hrow := HROW.out
      have hlv : vs.length = j := by
        have := congrArg List.length hrow.take
        have hcl : cs.toList.length = 8 * 4 := Array.length_toList.trans hrow.size
        rw [cellsL_length, List.length_take, hcl] at this
        omega
      have htg := fun (w1 : World) (h : Bt R wr w1) => together_rows w1 w.heap.size 8 j (cellsL vs) (by rw [cellsL_length, hlv]) (fun i v hv => by
        have h1 : cs[i]? = some v := by
          rw [← hrow.take] at hv
          rw [← Array.getElem?_toList]
          rw [List.getElem?_take] at hv
          split at hv
          · exact hv
          · cases hv
        exact cellOf ((hrow.bt h (by omega)).blk) h1) (cellsL_one vs) hj
      have HS := Lib.hid (fun (w1 : World) (h : Reader w1 R s _) => skip_yes w1 R s ⟨#[41]⟩ _ h (by omega) hs (by decide) hes)
      have HTG := Lib.hid htg
      have HFIN := Lib.hid hfin
      clear hes htg hrow hr hr2 h41 hfin
      go_wp2_with fail
      refine (HS.out _ HRD.out).mono ?_
      rintro e w1 ⟨rfl, hr1, hb1⟩
      have HR1 := Lib.hid hr1
      have HB1 := Lib.hid hb1
      clear hr1 hb1
      go_wp2_with fail
      rw [slice_arr w1 w.heap.size j hj]
      go_wp2_with fail
      refine (HTG.out _ HB1.out).mono ?_
      rintro e w2 ⟨g, rfl, hg, hgb, hk2⟩
      have HG := Lib.hid hgb
      have HK := Lib.hid hk2
      clear hgb hk2
      go_wp2_with fail
      go_ret
      have hh := HROW.out.bt HB1.out (by omega)
      have hz := HBT.out.size
      have hz1 := HB1.out.size
      have hsm := hh.same
      rw [List.take_of_length_le (by omega)] at hsm
      subst hyl
      exact .inl ⟨ys, q + 1, g, vs, HFIN.out, by omega, by omega, hj, rfl, by omega, HG.out, hsm, hh.hin.keep HK.out.size HK.out, V.footL.mono (fun b hb => by omega) _ hh.foot, HR1.out.kp HK.out, (HBT.out.trans HB1.out).trans (.kp HK.out)⟩
    · have hgo : Lib.hasPrefix (s.extract q s.size).data.toList (⟨#[41]⟩ : ByteArray).data.toList = false := by
        rw [rest_eq, pre_one]; simpa using h41
      have hsk := fun (w1 : World) (h : Reader w1 R s q) => skip_no w1 R s ⟨#[41]⟩ q h (by omega) hgo
      have HSK := Lib.hid hsk
      clear hsk hgo
      by_cases h8 : j = 8
      · have g8 : ((j : Int) == 8) = true := by subst h8; rfl
        have hfin := HPL.out none (.wide h41 h8)
        rw [Option.map_none] at hfin
        go_wp2_with fail
        refine (HSK.out _ HRD.out).mono ?_
        rintro e w1 ⟨rfl, hk1⟩
        have HB1 := Lib.hid (HBT.out.trans (Bt.kp hk1))
        clear hk1
        go_wp2_with fail
        refine (refuse_any _).mono ?_
        rintro e3 w3 ⟨rfl, rfl⟩
        exact ⟨rfl, .inr ⟨hfin, rfl, HB1.out⟩⟩
      · have g8 : ((j : Int) == 8) = false := by rw [beq_eq_false_iff_ne]; omega
        by_cases h0 : j = 0
        · have g0 : decide ((0 : Int) < (j : Int)) = false := by subst h0; rfl
          have g1 : decide (0 < j) = false := by subst h0; rfl
          have HJ := Lib.hid h0
          clear h0
          go_wp2_with fail
          refine (HSK.out _ HRD.out).mono ?_
          rintro e w1 ⟨rfl, hk1⟩
          have HB1 := Lib.hid (HBT.out.trans (Bt.kp hk1))
          have HR1 := Lib.hid (HRD.out.kp hk1)
          have HRW1 := Lib.hid (HROW.out.bt (Bt.kp (c := R) hk1) (by omega))
          clear hk1
          go_wp2_with fail
          refine (HI.out q _ hpq hqs HR1.out HB1.out).mono ?_
          rintro e w3 (⟨y, q3, hpv, hq3, hq3s, z, rfl, hzi, hzf, hzs, hr3, hb3⟩ | ⟨hpv, rfl, hb3⟩)
          rotate_left
          · exact ⟨rfl, .inr ⟨by
              have := HPL.out none (by rw [HJ.out]; exact .first0 h41 hpv)
              simpa using this, rfl, HB1.out.trans hb3⟩⟩
          have hPL3 : ∀ o, PL (j + 1) (s.data.toList.drop q3) o → PL 0 (s.data.toList.drop p) (o.map fun x => ((ys ++ [y]) ++ x.1, x.2)) := fun o ho => by
            have := HPL.out _ (by rw [HJ.out] at ho ⊢; exact .first1 h41 hpv ho)
            cases o <;> simpa using this
          have hgl1 := lt_of_block HRW1.out.blk
          have hst := (HRW1.out.grow hyl y).step (by omega) (by omega) hgl1 hb3 hzi (V.foot.mono (fun b hb => by omega) z hzf) hzs (show (ys ++ [y])[j]? = some y by rw [← hyl]; simp)
          have hb2 := (HRW1.out.bt hb3 (by omega)).blk
          have hsz := HRW1.out.size
          obtain ⟨u0, hu0⟩ : ∃ u, cs[j * 4]? = some u := ⟨cs[j * 4]'(by omega), by simp⟩
          obtain ⟨u1, hu1⟩ : ∃ u, cs[j * 4 + 1]? = some u := ⟨cs[j * 4 + 1]'(by omega), by simp⟩
          obtain ⟨u2, hu2⟩ : ∃ u, cs[j * 4 + 2]? = some u := ⟨cs[j * 4 + 2]'(by omega), by simp⟩
          obtain ⟨u3, hu3⟩ : ∃ u, cs[j * 4 + 3]? = some u := ⟨cs[j * 4 + 3]'(by omega), by simp⟩
          have m0 := cellOf hb2 hu0
          have m1 := cellOf hb2 hu1
          have m2 := cellOf hb2 hu2
          have m3 := cellOf hb2 hu3
          have n0 := freeOf (i := j * 4) hb2
          have n1 := freeOf (i := j * 4 + 1) hb2
          have n2 := freeOf (i := j * 4 + 2) hb2
          have n3 := freeOf (i := j * 4 + 3) hb2
          have HST := Lib.hid hst
          have HB3 := Lib.hid (HB1.out.trans hb3)
          have HR3 := Lib.hid hr3
          have HPL3 := Lib.hid hPL3
          clear hst hzi hzf hzs hb2 hu0 hu1 hu2 hu3 hr3 hb3 hPL3
          cases z with
          | mk k n t za zc zl =>
          simp only [V.val_mk]
          go_wp2_with fail
          go_roundw
          case rel => exact ⟨j + 1, q3, _, _, ys ++ [y], by omega, by simp; omega, by first | go_num | simp, HST.out, putAt_bt HB3.out (Nat.le_refl _), (putAt_other (by omega)).trans HR3.out, by omega, hq3s, HPL3.out⟩
          case measure => simp [intOf]; omega
        · have g0 : (0 : Int) < (j : Int) := by omega
          have g1 : decide ((0 : Int) < (j : Int)) = true := by simpa using g0
          by_cases hbt2 : ([44, 32] : List UInt8) <+: s.data.toList.drop q
          · obtain ⟨r, hr⟩ := hbt2
            have hr' : s.data.toList.drop q = 44 :: (32 :: r) := hr.symm
            obtain ⟨hr2, hq1⟩ := drop_tail hr'
            obtain ⟨hr3, hq2⟩ := drop_tail hr2.symm
            have hpre : Lib.hasPrefix (s.extract q s.size).data.toList (⟨#[44, 32]⟩ : ByteArray).data.toList = true := by
              rw [rest_eq, pre_iff]; exact ⟨r, hr⟩
            have HEX := Lib.hid (fun (w1 : World) (h : Reader w1 R s q) => expect_yes w1 R s ⟨#[44, 32]⟩ q h (by omega) hs (by decide) hpre)
            have HRR := Lib.hid (show s.data.toList.drop q = 44 :: 32 :: s.data.toList.drop (q + 2) by rw [hr', hr3])
            clear hpre hr hr' hr2 hr3
            go_wp2_with fail
            refine (HSK.out _ HRD.out).mono ?_
            rintro e w1 ⟨rfl, hk1⟩
            have HB0 := Lib.hid (HBT.out.trans (Bt.kp hk1))
            have HR0 := Lib.hid (HRD.out.kp hk1)
            have HRW0 := Lib.hid (HROW.out.bt (Bt.kp (c := R) hk1) (by omega))
            clear hk1
            go_wp2_with fail
            refine (HEX.out _ HR0.out).mono ?_
            rintro e w2 ⟨rfl, hr2, hb2⟩
            have HB1 := Lib.hid (HB0.out.trans hb2)
            have HR1 := Lib.hid (show Reader w2 R s (q + 2) from hr2)
            have HRW1 := Lib.hid (HRW0.out.bt hb2 (by omega))
            clear hr2 hb2
            go_wp2_with fail
            refine (HI.out (q + 2) _ (by omega) (by omega) HR1.out HB1.out).mono ?_
            rintro e w3 (⟨y, q3, hpv, hq3, hq3s, z, rfl, hzi, hzf, hzs, hr3, hb3⟩ | ⟨hpv, rfl, hb3⟩)
            rotate_left
            · exact ⟨rfl, .inr ⟨by
                have := HPL.out none (by rw [HRR.out]; exact .next1 (by omega) (by omega) hpv)
                simpa using this, rfl, HB1.out.trans hb3⟩⟩
            have hPL3 : ∀ o, PL (j + 1) (s.data.toList.drop q3) o → PL 0 (s.data.toList.drop p) (o.map fun x => ((ys ++ [y]) ++ x.1, x.2)) := fun o ho => by
              have := HPL.out _ (by rw [HRR.out]; exact .next2 (by omega) (by omega) hpv ho)
              cases o <;> simpa using this
            have hgl1 := lt_of_block HRW1.out.blk
            have hst := (HRW1.out.grow hyl y).step (by omega) (by omega) hgl1 hb3 hzi (V.foot.mono (fun b hb => by omega) z hzf) hzs (show (ys ++ [y])[j]? = some y by rw [← hyl]; simp)
            have hb2 := (HRW1.out.bt hb3 (by omega)).blk
            have hsz := HRW1.out.size
            obtain ⟨u0, hu0⟩ : ∃ u, cs[j * 4]? = some u := ⟨cs[j * 4]'(by omega), by simp⟩
            obtain ⟨u1, hu1⟩ : ∃ u, cs[j * 4 + 1]? = some u := ⟨cs[j * 4 + 1]'(by omega), by simp⟩
            obtain ⟨u2, hu2⟩ : ∃ u, cs[j * 4 + 2]? = some u := ⟨cs[j * 4 + 2]'(by omega), by simp⟩
            obtain ⟨u3, hu3⟩ : ∃ u, cs[j * 4 + 3]? = some u := ⟨cs[j * 4 + 3]'(by omega), by simp⟩
            have m0 := cellOf hb2 hu0
            have m1 := cellOf hb2 hu1
            have m2 := cellOf hb2 hu2
            have m3 := cellOf hb2 hu3
            have n0 := freeOf (i := j * 4) hb2
            have n1 := freeOf (i := j * 4 + 1) hb2
            have n2 := freeOf (i := j * 4 + 2) hb2
            have n3 := freeOf (i := j * 4 + 3) hb2
            have HST := Lib.hid hst
            have HB3 := Lib.hid (HB1.out.trans hb3)
            have HR3 := Lib.hid hr3
            have HPL3 := Lib.hid hPL3
            clear hst hzi hzf hzs hb2 hu0 hu1 hu2 hu3 hr3 hb3 hPL3
            cases z with
            | mk k n t za zc zl =>
            simp only [V.val_mk]
            go_wp2_with fail
            go_roundw
            case rel => exact ⟨j + 1, q3, _, _, ys ++ [y], by omega, by simp; omega, by first | go_num | simp, HST.out, putAt_bt HB3.out (Nat.le_refl _), (putAt_other (by omega)).trans HR3.out, by omega, hq3s, HPL3.out⟩
            case measure => simp [intOf]; omega
          · have hpre : Lib.hasPrefix (s.extract q s.size).data.toList (⟨#[44, 32]⟩ : ByteArray).data.toList = false := by
              rw [Bool.eq_false_iff]
              intro h
              rw [rest_eq, pre_iff] at h
              exact hbt2 h
            have HEX := Lib.hid (fun (w1 : World) (h : Reader w1 R s q) => expect_no w1 R s ⟨#[44, 32]⟩ q h (by omega) hpre)
            have hfin := HPL.out none (.next0 h41 (by omega) (by omega) hbt2)
            rw [Option.map_none] at hfin
            clear hpre
            go_wp2_with fail
            refine (HSK.out _ HRD.out).mono ?_
            rintro e w1 ⟨rfl, hk1⟩
            have HB0 := Lib.hid (HBT.out.trans (Bt.kp hk1))
            have HR0 := Lib.hid (HRD.out.kp hk1)
            clear hk1
            go_wp2_with fail
            refine (HEX.out _ HR0.out).mono ?_
            rintro e w2 ⟨rfl, hk2⟩
            exact ⟨rfl, .inr ⟨hfin, rfl, HB0.out.trans (.kp hk2)⟩⟩

end Go.Proofs.YtkfmgafgokpjhaaGreatDoor

/-
  value, AT ANY BYTES.
-/
namespace Go.Proofs.YtkfmgafgokpjhaaGreatDoor
open Go.RowKit

theorem put4_fin {w w2 : World} {R q : Nat} {s : ByteArray} {z : V} {v0 v1 v2 v3 : Value} (hzi : z.In w2 w2.heap.size) (hzf : z.foot (fun b => w.heap.size + 1 ≤ b)) (hr : Reader w2 R s q) (hb : Bt R w w2) (hRl : R < w.heap.size) :
    z.In (put4 w2 w.heap.size v0 v1 v2 v3) (put4 w2 w.heap.size v0 v1 v2 v3).heap.size ∧ z.foot (fun b => w.heap.size ≤ b) ∧ Reader (put4 w2 w.heap.size v0 v1 v2 v3) R s q ∧ Bt R w (put4 w2 w.heap.size v0 v1 v2 v3) := by
  have hS : (put4 w2 w.heap.size v0 v1 v2 v3).heap.size = w2.heap.size := by simp [World.setCell]
  refine ⟨?_, V.foot.mono (fun b hb => by omega) z hzf, (put4_other (by omega)).trans hr, put4_bt hb (Nat.le_refl _)⟩
  rw [hS]
  exact V.In.move (Nat.le_refl _) (fun b _ hb => put4_other (by omega)) _ hzi hzf

set_option maxRecDepth 100000 in
set_option maxHeartbeats 4000000 in
theorem value_quo (w : World) (R : Nat) (s : ByteArray) (p : Nat) (r : List UInt8) (hr : Reader w R s p) (hs : s.size ≤ 1000000) (h : s.data.toList.drop p = 34 :: r) :
    Calls Tryz.prog 74 #[.pointer (some ⟨R, 0, none⟩)] w (OutV w R s p) := by
  obtain ⟨hr2, hp⟩ := drop_tail h
  have hRl := lt_of_block hr
  have hpre : Lib.hasPrefix (s.extract p s.size).data.toList strQ.data.toList = true := by
    rw [rest_eq]; show Lib.hasPrefix _ (⟨#[34]⟩ : ByteArray).data.toList = true; rw [pre_one, h]; rfl
  have HP1 := Lib.hid (fun (w1 : World) (h : Reader w1 R s p) => skip_yes w1 R s strQ p h (by omega) hs (by decide) hpre)
  have HR := Lib.hid hr
  have HH := Lib.hid (show s.data.toList.drop p = 34 :: s.data.toList.drop (p + 1) by rw [h, hr2])
  clear hr hpre h hr2
  go_enter Tryz.func74, Tryz.ntmps74
  go_wp2_with fail
  refine (HP1.out _ (HR.out.kp (ka _ _))).mono ?_
  rintro e w1 ⟨rfl, hr1, hb1⟩
  have hs1 := hb1.size
  simp at hs1
  have HB1 := Lib.hid hb1
  have HR1 := Lib.hid (show Reader w1 R s (p + 1) from hr1)
  clear hr1 hb1
  go_wp2_with fail
  refine (quoted_any _ R s (p + 1) HR1.out (by omega) hs).mono ?_
  rintro e w2 (⟨t, q, hpq, hq1, hq2, z, rfl, hzi, hzf, hzs, hr2, hb2⟩ | ⟨hpq, rfl, hb2⟩)
  rotate_left
  · refine ⟨rfl, .inr ⟨?_, rfl, (Bt.kp (c := R) (ka w (.cells zero4 24))).trans (HB1.out.trans hb2)⟩⟩
    have := PV.quoted (r := s.data.toList.drop (p + 1))
    rw [hpq, ← HH.out] at this
    exact this
  have hpv : PV (s.data.toList.drop p) (some (.mk 1 0 ⟨t.toArray⟩ none 0 [], s.data.toList.drop q)) := by
    have := PV.quoted (r := s.data.toList.drop (p + 1))
    rw [hpq, ← HH.out] at this
    exact this
  have hblk := boxAny hRl (HB1.out.trans hb2)
  obtain ⟨c0, c1, c2, c3, f0, f1, f2, f3⟩ := cell4 hblk
  have HBL := Lib.hid hblk
  have HPV := Lib.hid hpv
  have HB2 := Lib.hid ((Bt.kp (c := R) (ka w (.cells zero4 24))).trans (HB1.out.trans hb2))
  have HR2 := Lib.hid hr2
  have HZI := Lib.hid hzi
  have HZF := Lib.hid (V.foot.mono (Q := fun b => w.heap.size + 1 ≤ b) (fun b hb => by omega) z hzf)
  have HZS := Lib.hid hzs
  clear hpq hpv hblk hr2 hb2 hzi hzf hzs
  cases z with
  | mk k n t' a cap zl =>
  simp only [V.val_mk]
  go_wp2_with fail
  obtain ⟨d0, d1, d2, d3, _⟩ := cell4 (put4_block (v0 := .int .i64 k) (v1 := .int .i64 n) (v2 := .string t') (v3 := .slice a zl.length cap) HBL.out)
  refine bodyPost_ret (v := .agg #[.int .i64 k, .int .i64 n, .string t', .slice a zl.length cap]) (by simp [results, Tryz.results74, go_sem, d0, d1, d2, d3]) rfl ?_
  obtain ⟨g1, g2, g3, g4⟩ := put4_fin (v0 := .int .i64 k) (v1 := .int .i64 n) (v2 := .string t') (v3 := .slice a zl.length cap) HZI.out HZF.out HR2.out HB2.out hRl
  exact .inl ⟨_, q, HPV.out, by omega, hq2, .mk k n t' a cap zl, rfl, g1, g2, HZS.out, g3, g4⟩

set_option maxRecDepth 100000 in
set_option maxHeartbeats 4000000 in
theorem value_tup (w : World) (R : Nat) (s : ByteArray) (p : Nat) (r : List UInt8) (hr : Reader w R s p) (hs : s.size ≤ 1000000) (h : s.data.toList.drop p = 40 :: r)
    (ih : ∀ w1 : World, Reader w1 R s (p + 1) → Bt R w w1 → Calls Tryz.prog 116 #[.pointer (some ⟨R, 0, none⟩), .string ⟨#[44, 32]⟩, .string ⟨#[41]⟩, .func (.func 74) #[] #[]] w1 (OutL w1 R s (p + 1))) :
    Calls Tryz.prog 74 #[.pointer (some ⟨R, 0, none⟩)] w (OutV w R s p) := by
  obtain ⟨hr2, hp⟩ := drop_tail h
  have hRl := lt_of_block hr
  have hpre0 : Lib.hasPrefix (s.extract p s.size).data.toList strQ.data.toList = false := by
    rw [rest_eq]; show Lib.hasPrefix _ (⟨#[34]⟩ : ByteArray).data.toList = false; rw [pre_one, h]; rfl
  have hpre : Lib.hasPrefix (s.extract p s.size).data.toList strL.data.toList = true := by
    rw [rest_eq]; show Lib.hasPrefix _ (⟨#[40]⟩ : ByteArray).data.toList = true; rw [pre_one, h]; rfl
  have HP0 := Lib.hid (fun (w1 : World) (h : Reader w1 R s p) => skip_no w1 R s strQ p h (by omega) hpre0)
  have HP1 := Lib.hid (fun (w1 : World) (h : Reader w1 R s p) => skip_yes w1 R s strL p h (by omega) hs (by decide) hpre)
  have HR := Lib.hid hr
  have HI := Lib.hid ih
  have HH := Lib.hid (show s.data.toList.drop p = 40 :: s.data.toList.drop (p + 1) by rw [h, hr2])
  clear hr hpre hpre0 h hr2 ih
  go_enter Tryz.func74, Tryz.ntmps74
  go_wp2_with fail
  refine (HP0.out _ (HR.out.kp (ka _ _))).mono ?_
  rintro e w0 ⟨rfl, hk0⟩
  have HK0 := Lib.hid hk0
  clear hk0
  go_wp2_with fail
  refine (HP1.out _ (HR.out.kp (kk (ka _ _) HK0.out))).mono ?_
  rintro e w1 ⟨rfl, hr1, hb1⟩
  have HB1 := Lib.hid ((Bt.kp (c := R) HK0.out).trans hb1)
  have hs1 := HB1.out.size
  simp at hs1
  have HR1 := Lib.hid (show Reader w1 R s (p + 1) from hr1)
  clear hr1 hb1
  go_wp2_with fail
  refine (HI.out _ HR1.out ((Bt.kp (c := R) (ka _ _)).trans HB1.out)).mono ?_
  rintro e w2 (⟨ys, q, g, vs, hpl, hq1, hq2, hl8, rfl, hg, hgb, hsm, hvi, hvf, hr2, hb2⟩ | ⟨hpl, rfl, hb2⟩)
  rotate_left
  · refine ⟨rfl, .inr ⟨?_, rfl, (Bt.kp (c := R) (ka w (.cells zero4 24))).trans (HB1.out.trans hb2)⟩⟩
    have := PV.tuple hpl
    rw [← HH.out] at this
    exact this
  have hpv : PV (s.data.toList.drop p) (some (.mk 2 0 ⟨#[]⟩ none 0 ys, s.data.toList.drop q)) := by
    have := PV.tuple hpl
    rw [← HH.out] at this
    exact this
  have hblk := boxAny hRl (HB1.out.trans hb2)
  obtain ⟨c0, c1, c2, c3, f0, f1, f2, f3⟩ := cell4 hblk
  have HBL := Lib.hid hblk
  have HPV := Lib.hid hpv
  have HB2 := Lib.hid ((Bt.kp (c := R) (ka w (.cells zero4 24))).trans (HB1.out.trans hb2))
  have HR2 := Lib.hid hr2
  have HG := Lib.hid hgb
  have HSM := Lib.hid hsm
  have HVI := Lib.hid hvi
  have HVF := Lib.hid (V.footL.mono (Q := fun b => w.heap.size + 1 ≤ b) (fun b hb => by omega) vs hvf)
  clear hpl hpv hblk hr2 hb2 hgb hsm hvi hvf
  go_wp2_with fail
  obtain ⟨e0, e1, e2, e3, -⟩ := cell4 (put4_block (v0 := .int .i64 2) (v1 := .int .i64 0) (v2 := .string ⟨#[]⟩) (v3 := .slice (some ⟨g, 0, none⟩) ys.length ys.length) HBL.out)
  refine bodyPost_ret (v := .agg #[.int .i64 2, .int .i64 0, .string ⟨#[]⟩, .slice (some ⟨g, 0, none⟩) ys.length ys.length]) (by simp [results, Tryz.results74, go_sem, e0, e1, e2, e3]) rfl ?_
  have hgs := lt_of_block HG.out
  have hlen : vs.length = ys.length := V.sameL_length _ _ HSM.out
  rw [← hlen]
  have hz : (V.mk 2 0 ⟨#[]⟩ (some ⟨g, 0, none⟩) vs.length vs).In w2 w2.heap.size := by
    simp only [V.In]
    exact ⟨by unfold I64; omega, by unfold I64; omega, by decide, Nat.le_refl _, by unfold maxLen; omega, .inr ⟨g, 0, rfl, hgs, At.of_block HG.out rfl⟩, HVI.out⟩
  have hzf : (V.mk 2 0 ⟨#[]⟩ (some ⟨g, 0, none⟩) vs.length vs).foot (fun b => w.heap.size + 1 ≤ b) := by
    simp only [V.foot]
    exact ⟨.inr ⟨g, 0, rfl, by omega⟩, HVF.out⟩
  obtain ⟨g1, g2, g3, g4⟩ := put4_fin (v0 := .int .i64 2) (v1 := .int .i64 0) (v2 := .string ⟨#[]⟩) (v3 := .slice (some ⟨g, 0, none⟩) vs.length vs.length) hz hzf HR2.out HB2.out hRl
  exact .inl ⟨_, q, HPV.out, by omega, hq2, .mk 2 0 ⟨#[]⟩ (some ⟨g, 0, none⟩) vs.length vs, rfl, g1, g2, V.same_node HSM.out, g3, g4⟩

set_option maxRecDepth 100000 in
set_option maxHeartbeats 4000000 in
theorem value_word (w : World) (R : Nat) (s : ByteArray) (p : Nat) (hr : Reader w R s p) (hp : p ≤ s.size) (hs : s.size ≤ 1000000) (ht : Tb w R) (he : Eb w R) (n34 : (s.data.toList.drop p).head? ≠ some 34) (n40 : (s.data.toList.drop p).head? ≠ some 40) (n35 : (s.data.toList.drop p).head? ≠ some 35) :
    Calls Tryz.prog 74 #[.pointer (some ⟨R, 0, none⟩)] w (OutV w R s p) := by
  have hRl := lt_of_block hr
  have P (c : UInt8) (h : (s.data.toList.drop p).head? ≠ some c) : Lib.hasPrefix (s.extract p s.size).data.toList (⟨#[c]⟩ : ByteArray).data.toList = false := by
    rw [rest_eq, pre_one]; simpa using h
  have HP1 := Lib.hid (fun (w1 : World) (h : Reader w1 R s p) => skip_no w1 R s strQ p h hp (P 34 n34))
  have HP2 := Lib.hid (fun (w1 : World) (h : Reader w1 R s p) => skip_no w1 R s strL p h hp (P 40 n40))
  have HP3 := Lib.hid (fun (w1 : World) (h : Reader w1 R s p) => skip_no w1 R s strH p h hp (P 35 n35))
  have HN := Lib.hid (fun (w1 : World) (hr : Reader w1 R s p) (hb : Bt R w w1) => number_any w1 R s p hr hp hs (ht.keep (hb.below (Nat.le_refl _) (by omega)) (Nat.le_refl _)) (he.keep (hb.below (Nat.le_refl _) (by omega)) (Nat.le_refl _)))
  have HPV := Lib.hid (PV.word n34 n40 n35)
  have HR := Lib.hid hr
  clear hr P n34 n40 n35 ht he
  go_enter Tryz.func74, Tryz.ntmps74
  go_wp2_with fail
  refine (HP1.out _ (HR.out.kp (ka _ _))).mono ?_
  rintro e w1 ⟨rfl, hk1⟩
  have HK1 := Lib.hid hk1
  clear hk1
  go_wp2_with fail
  refine (HP2.out _ (HR.out.kp (kk (ka _ _) HK1.out))).mono ?_
  rintro e w2 ⟨rfl, hk2⟩
  have HK2 := Lib.hid (kk HK1.out hk2)
  clear hk2
  go_wp2_with fail
  refine (HP3.out _ (HR.out.kp (kk (ka _ _) HK2.out))).mono ?_
  rintro e w3 ⟨rfl, hk3⟩
  have HK3 := Lib.hid (kk HK2.out hk3)
  clear hk3
  go_wp2_with fail
  refine (HN.out _ (HR.out.kp (kk (ka _ _) HK3.out)) (.kp (kk (ka _ _) HK3.out))).mono ?_
  rintro e w4 (⟨n, q, hpn, hq1, hq2, hn, rfl, hr4, hb4⟩ | ⟨hpn, rfl, hb4⟩)
  rotate_left
  · refine ⟨rfl, .inr ⟨?_, rfl, (Bt.kp (c := R) (kk (ka w (.cells zero4 24)) HK3.out)).trans hb4⟩⟩
    have := HPV.out
    rw [hpn] at this
    exact this
  have hpv : PV (s.data.toList.drop p) (some (.mk 0 n ⟨#[]⟩ none 0 [], s.data.toList.drop q)) := by
    have := HPV.out
    rw [hpn] at this
    exact this
  have hlt : p < q := by
    rcases Nat.lt_or_ge p q with h | h
    · exact h
    · have hqp : q = p := by omega
      rw [hqp] at hpn
      exfalso
      unfold pN at hpn
      split at hpn
      · rename_i v hv
        split at hpn
        · rename_i hi
          injection hpn with hpn
          injection hpn with h1 h2
          have hsp := (List.takeWhile_append_dropWhile (p := numC) (l := s.data.toList.drop p))
          rw [h2] at hsp
          have : (s.data.toList.drop p).takeWhile numC = [] := by
            have := congrArg List.length hsp
            rw [List.length_append] at this
            exact List.length_eq_zero_iff.1 (by omega)
          rw [this] at hi
          obtain ⟨c, t, hc, -⟩ := itoa_cons v
          rw [hc] at hi; cases hi
        · cases hpn
      · cases hpn
  obtain ⟨hblk, hz⟩ := box4b hRl ((Bt.kp HK3.out).trans hb4)
  obtain ⟨c0, c1, c2, c3, f0, f1, f2, f3⟩ := cell4 hblk
  have HR4 := Lib.hid hr4
  have HB4 := Lib.hid ((Bt.kp (c := R) (kk (ka w (.cells zero4 24)) HK3.out)).trans hb4)
  have HV := Lib.hid hpv
  have HN2 := Lib.hid hn
  have HBL := Lib.hid hblk
  clear hr4 hb4 hblk hpv hpn hn
  go_wp2_with fail
  obtain ⟨d0, d1, d2, d3, _⟩ := cell4 (put4_block (v0 := .int .i64 0) (v1 := .int .i64 n) (v2 := .string ⟨#[]⟩) (v3 := .slice none 0 0) HBL.out)
  refine bodyPost_ret (v := .agg #[.int .i64 0, .int .i64 n, .string ⟨#[]⟩, .slice none 0 0]) (by simp [results, Tryz.results74, go_sem, d0, d1, d2, d3]) rfl ?_
  exact .inl ⟨_, q, HV.out, hlt, hq2, .mk 0 n ⟨#[]⟩ none 0 [], rfl, inLeaf _ _ _ (by unfold I64; omega) HN2.out (by decide), V.foot_leaf _ _ _ _ _, V.same_refl _, (put4_other (by omega)).trans HR4.out, put4_bt HB4.out (Nat.le_refl _)⟩

end Go.Proofs.YtkfmgafgokpjhaaGreatDoor

/-
  value, AT ANY BYTES: tags; all of it.
-/
namespace Go.Proofs.YtkfmgafgokpjhaaGreatDoor
open Go.RowKit

abbrev strB : ByteArray := ⟨#[32]⟩

set_option maxRecDepth 100000 in
set_option maxHeartbeats 8000000 in
theorem value_tag (w : World) (R : Nat) (s : ByteArray) (p : Nat) (r : List UInt8) (hr : Reader w R s p) (hs : s.size ≤ 1000000) (ht : Tb w R) (he : Eb w R) (h : s.data.toList.drop p = 35 :: r)
    (ih : ∀ (q : Nat) (w1 : World), p < q → q ≤ s.size → Reader w1 R s q → Bt R w w1 → Calls Tryz.prog 74 #[.pointer (some ⟨R, 0, none⟩)] w1 (OutV w1 R s q)) :
    Calls Tryz.prog 74 #[.pointer (some ⟨R, 0, none⟩)] w (OutV w R s p) := by
  obtain ⟨hr2, hp⟩ := drop_tail h
  have hRl := lt_of_block hr
  have hpre0 : Lib.hasPrefix (s.extract p s.size).data.toList strQ.data.toList = false := by
    rw [rest_eq]; show Lib.hasPrefix _ (⟨#[34]⟩ : ByteArray).data.toList = false; rw [pre_one, h]; rfl
  have hpre1 : Lib.hasPrefix (s.extract p s.size).data.toList strL.data.toList = false := by
    rw [rest_eq]; show Lib.hasPrefix _ (⟨#[40]⟩ : ByteArray).data.toList = false; rw [pre_one, h]; rfl
  have hpre : Lib.hasPrefix (s.extract p s.size).data.toList strH.data.toList = true := by
    rw [rest_eq]; show Lib.hasPrefix _ (⟨#[35]⟩ : ByteArray).data.toList = true; rw [pre_one, h]; rfl
  have HP0 := Lib.hid (fun (w1 : World) (h : Reader w1 R s p) => skip_no w1 R s strQ p h (by omega) hpre0)
  have HP1 := Lib.hid (fun (w1 : World) (h : Reader w1 R s p) => skip_no w1 R s strL p h (by omega) hpre1)
  have HP2 := Lib.hid (fun (w1 : World) (h : Reader w1 R s p) => skip_yes w1 R s strH p h (by omega) hs (by decide) hpre)
  have HN := Lib.hid (fun (w1 : World) (hr : Reader w1 R s (p + 1)) (hb : Bt R w w1) => number_any w1 R s (p + 1) hr (by omega) hs (ht.keep (hb.below (Nat.le_refl _) (by omega)) (Nat.le_refl _)) (he.keep (hb.below (Nat.le_refl _) (by omega)) (Nat.le_refl _)))
  have HR := Lib.hid hr
  have HI := Lib.hid ih
  have HH := Lib.hid (show s.data.toList.drop p = 35 :: s.data.toList.drop (p + 1) by rw [h, hr2])
  clear hr hpre hpre0 hpre1 h hr2 ih ht he
  go_enter Tryz.func74, Tryz.ntmps74
  go_wp2_with fail
  refine (HP0.out _ (HR.out.kp (ka _ _))).mono ?_
  rintro e w0 ⟨rfl, hk0⟩
  have HK0 := Lib.hid hk0
  clear hk0
  go_wp2_with fail
  refine (HP1.out _ (HR.out.kp (kk (ka _ _) HK0.out))).mono ?_
  rintro e w0' ⟨rfl, hk0⟩
  have HK1 := Lib.hid (kk HK0.out hk0)
  clear hk0
  go_wp2_with fail
  refine (HP2.out _ (HR.out.kp (kk (ka _ _) HK1.out))).mono ?_
  rintro e w1 ⟨rfl, hr1, hb1⟩
  have HB1 := Lib.hid ((Bt.kp (c := R) HK1.out).trans hb1)
  have hs1 := HB1.out.size
  simp at hs1
  have HR1 := Lib.hid (show Reader w1 R s (p + 1) from hr1)
  clear hr1 hb1
  go_wp2_with fail
  refine (HN.out _ HR1.out ((Bt.kp (c := R) (ka _ _)).trans HB1.out)).mono ?_
  rintro e w2 (⟨n, q, hpn, hq1, hq2, hn, rfl, hr2, hb2⟩ | ⟨hpn, rfl, hb2⟩)
  rotate_left
  · refine ⟨rfl, .inr ⟨?_, rfl, (Bt.kp (c := R) (ka w (.cells zero4 24))).trans (HB1.out.trans hb2)⟩⟩
    have := PV.tag0 hpn
    rw [← HH.out] at this
    exact this
  have HB2 := Lib.hid (HB1.out.trans hb2)
  have HR2 := Lib.hid hr2
  have HPN := Lib.hid hpn
  have HNN := Lib.hid hn
  clear hr2 hb2 hpn hn
  by_cases h32 : (s.data.toList.drop q).head? = some 32
  · obtain ⟨r1, hr1⟩ := head_yes h32
    obtain ⟨hr1', hql⟩ := drop_tail hr1
    have hpr : Lib.hasPrefix (s.extract q s.size).data.toList strB.data.toList = true := by
      rw [rest_eq]; show Lib.hasPrefix _ (⟨#[32]⟩ : ByteArray).data.toList = true; rw [pre_one, hr1]; rfl
    have HE := Lib.hid (fun (w1 : World) (h : Reader w1 R s q) => expect_yes w1 R s strB q h (by omega) hs (by decide) hpr)
    have HPN2 := Lib.hid (show pN (s.data.toList.drop (p + 1)) = some (n, 32 :: s.data.toList.drop (q + 1)) by rw [HPN.out, hr1, hr1'])
    clear hpr hr1 hr1' h32
    go_wp2_with fail
    refine (HE.out _ HR2.out).mono ?_
    rintro e w3 ⟨rfl, hr3, hb3⟩
    have HB3 := Lib.hid (HB2.out.trans hb3)
    have HR3 := Lib.hid (show Reader w3 R s (q + 1) from hr3)
    clear hr3 hb3
    go_wp2_with fail
    refine (HI.out (q + 1) _ (by omega) (by omega) HR3.out ((Bt.kp (c := R) (ka _ _)).trans HB3.out)).mono ?_
    rintro e w4 (⟨y, q4, hpv, hq4, hq4s, z, rfl, hzi, hzf, hzs, hr4, hb4⟩ | ⟨hpv, rfl, hb4⟩)
    rotate_left
    · refine ⟨rfl, .inr ⟨?_, rfl, (Bt.kp (c := R) (ka w (.cells zero4 24))).trans (HB3.out.trans hb4)⟩⟩
      have := PV.tag2 HPN2.out hpv
      rw [← HH.out] at this
      exact this
    have hpv2 : PV (s.data.toList.drop p) (some (.mk 3 n ⟨#[]⟩ none 0 [y], s.data.toList.drop q4)) := by
      have := PV.tag2 HPN2.out hpv
      rw [← HH.out] at this
      exact this
    have hs3 := HB3.out.size
    simp at hs3
    have hblk := boxAny hRl (HB3.out.trans hb4)
    have HBL := Lib.hid hblk
    have HB4 := Lib.hid (HB3.out.trans hb4)
    have HR4 := Lib.hid hr4
    have HPV := Lib.hid hpv2
    have HZI := Lib.hid hzi
    have HZF := Lib.hid (V.foot.mono (Q := fun b => w.heap.size + 1 ≤ b) (fun b hb => by omega) z hzf)
    have HZS := Lib.hid hzs
    clear hblk hr4 hb4 hpv hpv2 hzi hzf hzs
    cases z with
    | mk k m t a cap zl =>
    simp only [V.val_mk]
    go_wp2_with fail
    refine (together_one _ w4.heap.size 0 1 (.int .i64 k) (.int .i64 m) (.string t) (.slice a zl.length cap) (here rfl rfl) (here rfl rfl) (here rfl rfl) (here rfl rfl) (by simp [Value.oneCell'])).mono ?_
    rintro e w5 ⟨g, rfl, hg, hgb, hk5⟩
    simp at hg
    have hk45 := kk (ka _ _) hk5
    have hblk := (hk45.block _ (lt_of_block HBL.out)).trans HBL.out
    obtain ⟨d0, d1, d2, d3, g0, g1, g2, g3⟩ := cell4 hblk
    have HBL5 := Lib.hid hblk
    have HR5 := Lib.hid (HR4.out.kp hk45)
    have HB5 := Lib.hid ((Bt.kp (c := R) (ka w (.cells zero4 24))).trans (HB4.out.trans (Bt.kp hk45)))
    have HQ := Lib.hid hgb
    have HZ2 := Lib.hid (HZI.out.keep hk45.size hk45)
    have hs5 := HB4.out.size
    simp at hs5
    clear hk5 hk45 hblk hgb
    go_wp2_with fail
    obtain ⟨e0, e1, e2, e3, -⟩ := cell4 (put4_block (v0 := .int .i64 3) (v1 := .int .i64 n) (v2 := .string ⟨#[]⟩) (v3 := .slice (some ⟨g, 0, none⟩) 1 1) HBL5.out)
    refine bodyPost_ret (v := .agg #[.int .i64 3, .int .i64 n, .string ⟨#[]⟩, .slice (some ⟨g, 0, none⟩) 1 1]) (by simp [results, Tryz.results74, go_sem, e0, e1, e2, e3]) rfl ?_
    have hgs := lt_of_block HQ.out
    have hz : (V.mk 3 n ⟨#[]⟩ (some ⟨g, 0, none⟩) 1 [.mk k m t a cap zl]).In w5 w5.heap.size := by
      simp only [V.In, V.InL]
      exact ⟨by unfold I64; omega, HNN.out, by decide, Nat.le_refl _, by decide, .inr ⟨g, 0, rfl, hgs, At.of_block HQ.out rfl⟩, HZ2.out, trivial⟩
    have hzf : (V.mk 3 n ⟨#[]⟩ (some ⟨g, 0, none⟩) 1 [.mk k m t a cap zl]).foot (fun b => w.heap.size + 1 ≤ b) := by
      simp only [V.foot, V.footL]
      exact ⟨.inr ⟨g, 0, rfl, by omega⟩, HZF.out, trivial⟩
    obtain ⟨g1, g2, g3, g4⟩ := put4_fin (v0 := .int .i64 3) (v1 := .int .i64 n) (v2 := .string ⟨#[]⟩) (v3 := .slice (some ⟨g, 0, none⟩) 1 1) hz hzf HR5.out HB5.out hRl
    exact .inl ⟨_, q4, HPV.out, by omega, hq4s, .mk 3 n ⟨#[]⟩ (some ⟨g, 0, none⟩) 1 [.mk k m t a cap zl], rfl, g1, g2, V.same_node (V.sameL_one HZS.out), g3, g4⟩
  · have hpr : Lib.hasPrefix (s.extract q s.size).data.toList strB.data.toList = false := by
      rw [rest_eq]; show Lib.hasPrefix _ (⟨#[32]⟩ : ByteArray).data.toList = false; rw [pre_one]; simpa using h32
    have HE := Lib.hid (fun (w1 : World) (h : Reader w1 R s q) => expect_no w1 R s strB q h (by omega) hpr)
    have hpv : PV (s.data.toList.drop p) none := by
      have := PV.tag1 HPN.out h32
      rw [← HH.out] at this
      exact this
    clear hpr
    go_wp2_with fail
    refine (HE.out _ HR2.out).mono ?_
    rintro e w3 ⟨rfl, hk3⟩
    exact ⟨rfl, .inr ⟨hpv, rfl, (Bt.kp (c := R) (ka w (.cells zero4 24))).trans (HB2.out.trans (.kp hk3))⟩⟩

theorem value_any : ∀ (N : Nat) (w : World) (R : Nat) (s : ByteArray) (p : Nat), s.size - p ≤ N → Reader w R s p → p ≤ s.size → s.size ≤ 1000000 → Tb w R → Eb w R →
    Calls Tryz.prog 74 #[.pointer (some ⟨R, 0, none⟩)] w (OutV w R s p) := by
  intro N
  induction N using Nat.strongRecOn with
  | ind N IH =>
    intro w R s p hN hr hp hs ht he
    have hRl := lt_of_block hr
    have ih : ∀ (q : Nat) (w1 : World), p < q → q ≤ s.size → Reader w1 R s q → Tb w1 R → Eb w1 R → Calls Tryz.prog 74 #[.pointer (some ⟨R, 0, none⟩)] w1 (OutV w1 R s q) := fun q w1 h1 h2 h3 h4 h5 =>
      IH (s.size - q) (by omega) w1 R s q (Nat.le_refl _) h3 h2 hs h4 h5
    by_cases n34 : (s.data.toList.drop p).head? = some 34
    · obtain ⟨r, h⟩ := head_yes n34
      exact value_quo w R s p r hr hs h
    by_cases n40 : (s.data.toList.drop p).head? = some 40
    · obtain ⟨r, h⟩ := head_yes n40
      have hlt := (drop_tail h).2
      exact value_tup w R s p r hr hs h fun w1 h1 hb => list_any w1 R s (p + 1) h1 (by omega) hs (ht.keep (hb.below (Nat.le_refl _) (by omega)) (Nat.le_refl _)) (he.keep (hb.below (Nat.le_refl _) (by omega)) (Nat.le_refl _))
        fun q w2 g1 g2 g3 g4 g5 => ih q w2 (by omega) g2 g3 g4 g5
    by_cases n35 : (s.data.toList.drop p).head? = some 35
    · obtain ⟨r, h⟩ := head_yes n35
      exact value_tag w R s p r hr hs ht he h fun q w1 g1 g2 g3 hb => ih q w1 g1 g2 g3 (ht.keep (hb.below (Nat.le_refl _) (by omega)) (Nat.le_refl _)) (he.keep (hb.below (Nat.le_refl _) (by omega)) (Nat.le_refl _))
    · exact value_word w R s p hr hp hs ht he n34 n40 n35

end Go.Proofs.YtkfmgafgokpjhaaGreatDoor

/-
  THE READER AT THE KEY OF ANY VALUE.
-/
namespace Go.Proofs.YtkfmgafgokpjhaaGreatDoor
open Go.RowKit

set_option maxRecDepth 100000 in
set_option maxHeartbeats 4000000 in
theorem ofKey_keyWord (w : World) (R : Nat) (s : ByteArray) (p q : Nat) (y : V) (hr : Reader w R s p) (hs : s.size ≤ 1000000) (hp : p < s.size) (hb : s[p] = 1)
    (ih : ∀ w1 : World, Reader w1 R s (p + 1) → Calls Tryz.prog 86 #[.pointer (some ⟨R, 0, none⟩)] w1 (ReadsV w1 R s q y)) :
    Calls Tryz.prog 81 #[.pointer (some ⟨R, 0, none⟩)] w (ReadsV w R s q y) := by
  have HR := Lib.hid hr
  have hRl := lt_of_block hr
  have N : ∀ w1 : World, Reader w1 R s p → Calls Tryz.prog 125 #[.pointer (some ⟨R, 0, none⟩)] w1 fun e w' => e = .returned (.int .u8 1) ∧ Reader w' R s (p + 1) ∧ Bt R w1 w' := fun w1 hq => by
    have := next_yes w1 R s p hq hp hs
    rw [hb] at this
    exact this
  have HN := Lib.hid N
  have HC := Lib.hid ih
  clear hr N ih hb
  go_enter Tryz.func81, Tryz.ntmps81
  go_wp2_with fail
  refine (kinds_any _).mono ?_
  rintro e w1 ⟨rfl, hk⟩
  have HK := Lib.hid (kk (ka _ _) hk)
  have HRS0 := Lib.hid ((hk.block w.heap.size (by simp)).trans (blockHere (w := w) (o := .cells zero4 24 (0, 0)) rfl))
  have hz1 := lt_of_block HRS0.out
  clear hk
  go_wp2_with fail
  have hk2 : Kp w (w1.alloc (.cells kindsA 71)) := kk HK.out (ka _ _)
  refine (HN.out _ (HR.out.kp hk2)).mono ?_
  rintro e w3 ⟨rfl, hr3, hb3⟩
  have hblk := boxAny (R := R) (by omega) hb3
  have c5 := cellOf (i := 1) hblk rfl
  have hres := (hb3.block w.heap.size (by simp; omega) (by omega)).trans ((ka w1 (.cells kindsA 71)).block w.heap.size (by omega) |>.trans HRS0.out)
  have HR3 := Lib.hid hr3
  have HRS := Lib.hid hres
  have HB3 := Lib.hid ((Bt.kp (c := R) hk2).trans hb3)
  clear hr3 hb3 hblk hk2 hres
  go_wp2_with fail
  refine (HC.out _ HR3.out).mono ?_
  rintro e w4 ⟨x, rfl, hxi, hxf, hxs, hr4, hb4⟩
  have hz3 := lt_of_block HRS.out
  have hxf2 : x.foot (fun b => w.heap.size + 1 ≤ b) := V.foot.mono (fun b hb => by omega) _ hxf
  have hblk := (hb4.block w.heap.size (by omega) (by omega)).trans HRS.out
  obtain ⟨d0, d1, d2, d3, g0, g1, g2, g3⟩ := cell4 hblk
  have HBL := Lib.hid hblk
  have HXI := Lib.hid hxi
  have HXF := Lib.hid hxf2
  have HXS := Lib.hid hxs
  have HR4 := Lib.hid hr4
  have HB4 := Lib.hid (HB3.out.trans hb4)
  clear hxi hxf hxf2 hxs hr4 hb4 hblk
  cases x with
  | mk k n t a cap l =>
  simp only [V.val_mk]
  go_wp2_with fail
  obtain ⟨e0, e1, e2, e3, -⟩ := cell4 (put4_block (v0 := .int .i64 k) (v1 := .int .i64 n) (v2 := .string t) (v3 := .slice a l.length cap) HBL.out)
  refine bodyPost_ret (v := .agg #[.int .i64 k, .int .i64 n, .string t, .slice a l.length cap]) (by simp [results, Tryz.results81, go_sem, e0, e1, e2, e3]) rfl ?_
  have hS : (put4 w4 w.heap.size (.int .i64 k) (.int .i64 n) (.string t) (.slice a l.length cap)).heap.size = w4.heap.size := by simp [World.setCell]
  exact ⟨.mk k n t a cap l, rfl, by rw [hS]; exact V.In.move (Nat.le_refl _) (fun b _ hb => put4_other (by omega)) _ HXI.out HXF.out, V.foot.mono (fun b hb => by omega) _ HXF.out, HXS.out, (put4_other (by omega)).trans HR4.out, put4_bt HB4.out (Nat.le_refl _)⟩

set_option maxRecDepth 100000 in
set_option maxHeartbeats 4000000 in
theorem ofKey_keyText (w : World) (R : Nat) (s : ByteArray) (p q : Nat) (y : V) (hr : Reader w R s p) (hs : s.size ≤ 1000000) (hp : p < s.size) (hb : s[p] = 2)
    (ih : ∀ w1 : World, Reader w1 R s (p + 1) → Calls Tryz.prog 88 #[.pointer (some ⟨R, 0, none⟩)] w1 (ReadsV w1 R s q y)) :
    Calls Tryz.prog 81 #[.pointer (some ⟨R, 0, none⟩)] w (ReadsV w R s q y) := by
  have HR := Lib.hid hr
  have hRl := lt_of_block hr
  have N : ∀ w1 : World, Reader w1 R s p → Calls Tryz.prog 125 #[.pointer (some ⟨R, 0, none⟩)] w1 fun e w' => e = .returned (.int .u8 2) ∧ Reader w' R s (p + 1) ∧ Bt R w1 w' := fun w1 hq => by
    have := next_yes w1 R s p hq hp hs
    rw [hb] at this
    exact this
  have HN := Lib.hid N
  have HC := Lib.hid ih
  clear hr N ih hb
  go_enter Tryz.func81, Tryz.ntmps81
  go_wp2_with fail
  refine (kinds_any _).mono ?_
  rintro e w1 ⟨rfl, hk⟩
  have HK := Lib.hid (kk (ka _ _) hk)
  have HRS0 := Lib.hid ((hk.block w.heap.size (by simp)).trans (blockHere (w := w) (o := .cells zero4 24 (0, 0)) rfl))
  have hz1 := lt_of_block HRS0.out
  clear hk
  go_wp2_with fail
  have hk2 : Kp w (w1.alloc (.cells kindsA 71)) := kk HK.out (ka _ _)
  refine (HN.out _ (HR.out.kp hk2)).mono ?_
  rintro e w3 ⟨rfl, hr3, hb3⟩
  have hblk := boxAny (R := R) (by omega) hb3
  have c5 := cellOf (i := 3) hblk rfl
  have hres := (hb3.block w.heap.size (by simp; omega) (by omega)).trans ((ka w1 (.cells kindsA 71)).block w.heap.size (by omega) |>.trans HRS0.out)
  have HR3 := Lib.hid hr3
  have HRS := Lib.hid hres
  have HB3 := Lib.hid ((Bt.kp (c := R) hk2).trans hb3)
  clear hr3 hb3 hblk hk2 hres
  go_wp2_with fail
  refine (HC.out _ HR3.out).mono ?_
  rintro e w4 ⟨x, rfl, hxi, hxf, hxs, hr4, hb4⟩
  have hz3 := lt_of_block HRS.out
  have hxf2 : x.foot (fun b => w.heap.size + 1 ≤ b) := V.foot.mono (fun b hb => by omega) _ hxf
  have hblk := (hb4.block w.heap.size (by omega) (by omega)).trans HRS.out
  obtain ⟨d0, d1, d2, d3, g0, g1, g2, g3⟩ := cell4 hblk
  have HBL := Lib.hid hblk
  have HXI := Lib.hid hxi
  have HXF := Lib.hid hxf2
  have HXS := Lib.hid hxs
  have HR4 := Lib.hid hr4
  have HB4 := Lib.hid (HB3.out.trans hb4)
  clear hxi hxf hxf2 hxs hr4 hb4 hblk
  cases x with
  | mk k n t a cap l =>
  simp only [V.val_mk]
  go_wp2_with fail
  obtain ⟨e0, e1, e2, e3, -⟩ := cell4 (put4_block (v0 := .int .i64 k) (v1 := .int .i64 n) (v2 := .string t) (v3 := .slice a l.length cap) HBL.out)
  refine bodyPost_ret (v := .agg #[.int .i64 k, .int .i64 n, .string t, .slice a l.length cap]) (by simp [results, Tryz.results81, go_sem, e0, e1, e2, e3]) rfl ?_
  have hS : (put4 w4 w.heap.size (.int .i64 k) (.int .i64 n) (.string t) (.slice a l.length cap)).heap.size = w4.heap.size := by simp [World.setCell]
  exact ⟨.mk k n t a cap l, rfl, by rw [hS]; exact V.In.move (Nat.le_refl _) (fun b _ hb => put4_other (by omega)) _ HXI.out HXF.out, V.foot.mono (fun b hb => by omega) _ HXF.out, HXS.out, (put4_other (by omega)).trans HR4.out, put4_bt HB4.out (Nat.le_refl _)⟩

set_option maxRecDepth 100000 in
set_option maxHeartbeats 4000000 in
theorem ofKey_keyTuple (w : World) (R : Nat) (s : ByteArray) (p q : Nat) (y : V) (hr : Reader w R s p) (hs : s.size ≤ 1000000) (hp : p < s.size) (hb : s[p] = 3)
    (ih : ∀ w1 : World, Reader w1 R s (p + 1) → Calls Tryz.prog 90 #[.pointer (some ⟨R, 0, none⟩)] w1 (ReadsV w1 R s q y)) :
    Calls Tryz.prog 81 #[.pointer (some ⟨R, 0, none⟩)] w (ReadsV w R s q y) := by
  have HR := Lib.hid hr
  have hRl := lt_of_block hr
  have N : ∀ w1 : World, Reader w1 R s p → Calls Tryz.prog 125 #[.pointer (some ⟨R, 0, none⟩)] w1 fun e w' => e = .returned (.int .u8 3) ∧ Reader w' R s (p + 1) ∧ Bt R w1 w' := fun w1 hq => by
    have := next_yes w1 R s p hq hp hs
    rw [hb] at this
    exact this
  have HN := Lib.hid N
  have HC := Lib.hid ih
  clear hr N ih hb
  go_enter Tryz.func81, Tryz.ntmps81
  go_wp2_with fail
  refine (kinds_any _).mono ?_
  rintro e w1 ⟨rfl, hk⟩
  have HK := Lib.hid (kk (ka _ _) hk)
  have HRS0 := Lib.hid ((hk.block w.heap.size (by simp)).trans (blockHere (w := w) (o := .cells zero4 24 (0, 0)) rfl))
  have hz1 := lt_of_block HRS0.out
  clear hk
  go_wp2_with fail
  have hk2 : Kp w (w1.alloc (.cells kindsA 71)) := kk HK.out (ka _ _)
  refine (HN.out _ (HR.out.kp hk2)).mono ?_
  rintro e w3 ⟨rfl, hr3, hb3⟩
  have hblk := boxAny (R := R) (by omega) hb3
  have c5 := cellOf (i := 5) hblk rfl
  have hres := (hb3.block w.heap.size (by simp; omega) (by omega)).trans ((ka w1 (.cells kindsA 71)).block w.heap.size (by omega) |>.trans HRS0.out)
  have HR3 := Lib.hid hr3
  have HRS := Lib.hid hres
  have HB3 := Lib.hid ((Bt.kp (c := R) hk2).trans hb3)
  clear hr3 hb3 hblk hk2 hres
  go_wp2_with fail
  refine (HC.out _ HR3.out).mono ?_
  rintro e w4 ⟨x, rfl, hxi, hxf, hxs, hr4, hb4⟩
  have hz3 := lt_of_block HRS.out
  have hxf2 : x.foot (fun b => w.heap.size + 1 ≤ b) := V.foot.mono (fun b hb => by omega) _ hxf
  have hblk := (hb4.block w.heap.size (by omega) (by omega)).trans HRS.out
  obtain ⟨d0, d1, d2, d3, g0, g1, g2, g3⟩ := cell4 hblk
  have HBL := Lib.hid hblk
  have HXI := Lib.hid hxi
  have HXF := Lib.hid hxf2
  have HXS := Lib.hid hxs
  have HR4 := Lib.hid hr4
  have HB4 := Lib.hid (HB3.out.trans hb4)
  clear hxi hxf hxf2 hxs hr4 hb4 hblk
  cases x with
  | mk k n t a cap l =>
  simp only [V.val_mk]
  go_wp2_with fail
  obtain ⟨e0, e1, e2, e3, -⟩ := cell4 (put4_block (v0 := .int .i64 k) (v1 := .int .i64 n) (v2 := .string t) (v3 := .slice a l.length cap) HBL.out)
  refine bodyPost_ret (v := .agg #[.int .i64 k, .int .i64 n, .string t, .slice a l.length cap]) (by simp [results, Tryz.results81, go_sem, e0, e1, e2, e3]) rfl ?_
  have hS : (put4 w4 w.heap.size (.int .i64 k) (.int .i64 n) (.string t) (.slice a l.length cap)).heap.size = w4.heap.size := by simp [World.setCell]
  exact ⟨.mk k n t a cap l, rfl, by rw [hS]; exact V.In.move (Nat.le_refl _) (fun b _ hb => put4_other (by omega)) _ HXI.out HXF.out, V.foot.mono (fun b hb => by omega) _ HXF.out, HXS.out, (put4_other (by omega)).trans HR4.out, put4_bt HB4.out (Nat.le_refl _)⟩

set_option maxRecDepth 100000 in
set_option maxHeartbeats 4000000 in
theorem ofKey_keyTagged (w : World) (R : Nat) (s : ByteArray) (p q : Nat) (y : V) (hr : Reader w R s p) (hs : s.size ≤ 1000000) (hp : p < s.size) (hb : s[p] = 4)
    (ih : ∀ w1 : World, Reader w1 R s (p + 1) → Calls Tryz.prog 92 #[.pointer (some ⟨R, 0, none⟩)] w1 (ReadsV w1 R s q y)) :
    Calls Tryz.prog 81 #[.pointer (some ⟨R, 0, none⟩)] w (ReadsV w R s q y) := by
  have HR := Lib.hid hr
  have hRl := lt_of_block hr
  have N : ∀ w1 : World, Reader w1 R s p → Calls Tryz.prog 125 #[.pointer (some ⟨R, 0, none⟩)] w1 fun e w' => e = .returned (.int .u8 4) ∧ Reader w' R s (p + 1) ∧ Bt R w1 w' := fun w1 hq => by
    have := next_yes w1 R s p hq hp hs
    rw [hb] at this
    exact this
  have HN := Lib.hid N
  have HC := Lib.hid ih
  clear hr N ih hb
  go_enter Tryz.func81, Tryz.ntmps81
  go_wp2_with fail
  refine (kinds_any _).mono ?_
  rintro e w1 ⟨rfl, hk⟩
  have HK := Lib.hid (kk (ka _ _) hk)
  have HRS0 := Lib.hid ((hk.block w.heap.size (by simp)).trans (blockHere (w := w) (o := .cells zero4 24 (0, 0)) rfl))
  have hz1 := lt_of_block HRS0.out
  clear hk
  go_wp2_with fail
  have hk2 : Kp w (w1.alloc (.cells kindsA 71)) := kk HK.out (ka _ _)
  refine (HN.out _ (HR.out.kp hk2)).mono ?_
  rintro e w3 ⟨rfl, hr3, hb3⟩
  have hblk := boxAny (R := R) (by omega) hb3
  have c5 := cellOf (i := 7) hblk rfl
  have hres := (hb3.block w.heap.size (by simp; omega) (by omega)).trans ((ka w1 (.cells kindsA 71)).block w.heap.size (by omega) |>.trans HRS0.out)
  have HR3 := Lib.hid hr3
  have HRS := Lib.hid hres
  have HB3 := Lib.hid ((Bt.kp (c := R) hk2).trans hb3)
  clear hr3 hb3 hblk hk2 hres
  go_wp2_with fail
  refine (HC.out _ HR3.out).mono ?_
  rintro e w4 ⟨x, rfl, hxi, hxf, hxs, hr4, hb4⟩
  have hz3 := lt_of_block HRS.out
  have hxf2 : x.foot (fun b => w.heap.size + 1 ≤ b) := V.foot.mono (fun b hb => by omega) _ hxf
  have hblk := (hb4.block w.heap.size (by omega) (by omega)).trans HRS.out
  obtain ⟨d0, d1, d2, d3, g0, g1, g2, g3⟩ := cell4 hblk
  have HBL := Lib.hid hblk
  have HXI := Lib.hid hxi
  have HXF := Lib.hid hxf2
  have HXS := Lib.hid hxs
  have HR4 := Lib.hid hr4
  have HB4 := Lib.hid (HB3.out.trans hb4)
  clear hxi hxf hxf2 hxs hr4 hb4 hblk
  cases x with
  | mk k n t a cap l =>
  simp only [V.val_mk]
  go_wp2_with fail
  obtain ⟨e0, e1, e2, e3, -⟩ := cell4 (put4_block (v0 := .int .i64 k) (v1 := .int .i64 n) (v2 := .string t) (v3 := .slice a l.length cap) HBL.out)
  refine bodyPost_ret (v := .agg #[.int .i64 k, .int .i64 n, .string t, .slice a l.length cap]) (by simp [results, Tryz.results81, go_sem, e0, e1, e2, e3]) rfl ?_
  have hS : (put4 w4 w.heap.size (.int .i64 k) (.int .i64 n) (.string t) (.slice a l.length cap)).heap.size = w4.heap.size := by simp [World.setCell]
  exact ⟨.mk k n t a cap l, rfl, by rw [hS]; exact V.In.move (Nat.le_refl _) (fun b _ hb => put4_other (by omega)) _ HXI.out HXF.out, V.foot.mono (fun b hb => by omega) _ HXF.out, HXS.out, (put4_other (by omega)).trans HR4.out, put4_bt HB4.out (Nat.le_refl _)⟩

end Go.Proofs.YtkfmgafgokpjhaaGreatDoor

/-
  THE READER AT THE KEY OF ANY VALUE WITHIN THE LIMITS: the recursion.
-/
namespace Go.Proofs.YtkfmgafgokpjhaaGreatDoor
open Go.RowKit

theorem ReadsV.to {w w' : World} {R q : Nat} {s : ByteArray} {y z : V} {e : Ending} (h : ReadsV w R s q y e w') (hyz : y.same z = true) : ReadsV w R s q z e w' := by
  obtain ⟨x, h1, h2, h3, h4, h5, h6⟩ := h
  exact ⟨x, h1, h2, h3, V.same_trans _ _ _ h4 hyz, h5, h6⟩

set_option maxHeartbeats 1000000 in
theorem readK : ∀ (N : Nat) (y : V) (d : Nat) (w : World) (R : Nat) (s : ByteArray) (p : Nat), y.rank ≤ N → y.sh d = true → Reader w R s p → s.size ≤ 1000000 → HasAt s p y.keyB →
    Calls Tryz.prog 81 #[.pointer (some ⟨R, 0, none⟩)] w (ReadsV w R s (p + y.keyB.length) y) := by
  intro N
  induction N with
  | zero => intro y d w R s p h; have := y.rank_pos; omega
  | succ N ih =>
    intro y d w R s p hN hy hr hs hat
    cases y with
    | mk k n t a cap l =>
    cases d with
    | zero => simp [V.sh] at hy
    | succ d =>
    simp [V.sh] at hy
    obtain ⟨hf, hp⟩ := hy
    have hih : ∀ (j : Nat) (y : V), l[j]? = some y → ∀ (w1 : World) (q : Nat), Reader w1 R s q → HasAt s q y.keyB → Calls Tryz.prog 81 #[.pointer (some ⟨R, 0, none⟩)] w1 (ReadsV w1 R s (q + y.keyB.length) y) := fun j y hy w1 q h1 h2 =>
      ih y d w1 R s q (by have := V.rank_part (v := .mk k n t a cap l) (j := j) (x := y) hy; omega) (shLK_at hp hy) h1 hs h2
    by_cases k1 : k = 1
    · subst k1
      have e : (V.mk 1 n t a cap l).keyB = 2 :: (t.data.toList ++ [0]) := by simp [V.keyB]
      rw [e] at hat ⊢
      simp [fitsB, textB] at hf
      obtain ⟨rfl, rfl, ht, hch⟩ := hf
      obtain ⟨hp0, hb0, h1⟩ := hat.cons
      refine (ofKey_keyText w R s p _ _ hr hs hp0 hb0 (fun w1 hr1 => keyText_read w1 R s (p + 1) t.data.toList hr1 hs (by simpa using ht) (chars_pos hch) h1)).mono ?_
      intro e w' h
      rw [show p + (2 :: (t.data.toList ++ [0])).length = p + 1 + t.data.toList.length + 1 by simp; omega]
      exact h.to (V.same_node rfl)
    by_cases k2 : k = 2
    · subst k2
      have e : (V.mk 2 n t a cap l).keyB = 3 :: (V.keyBL l ++ [0]) := by simp [V.keyB]
      rw [e] at hat ⊢
      simp [fitsB, tupleB] at hf
      obtain ⟨rfl, ht, hl⟩ := hf
      obtain ⟨hp0, hb0, h1⟩ := hat.cons
      have hne : ∀ (j : Nat) (y : V), l[j]? = some y → ∃ b t, y.keyB = b :: t ∧ b ≠ 0 := fun j y hj => by
        obtain ⟨b, t, h1, h2, h3, h4⟩ := keyB_head y d (shLK_at hp hj)
        exact ⟨b, t, h1, fun hb => by rw [hb] at h2; simp at h2; omega⟩
      refine (ofKey_keyTuple w R s p _ _ hr hs hp0 hb0 (fun w1 hr1 => keyTuple_read w1 R s (p + 1) l hr1 hs hl h1 hne hih)).mono ?_
      intro e w' h
      rw [show p + (3 :: (V.keyBL l ++ [0])).length = p + 1 + (V.keyBL l).length + 1 by simp; omega]
      exact h.to (by simp [V.same, V.sameL_refl]; simpa using ht)
    by_cases k3 : k = 3
    · subst k3
      simp [fitsB, taggedB] at hf
      obtain ⟨hn0, hn8, ht, hl⟩ := hf
      match l, hl, hih, hat with
      | [x], _, hih, hat =>
      have e : (V.mk 3 n t a cap [x]).keyB = 4 :: UInt8.ofNat (n + 1).toNat :: x.keyB := by simp [V.keyB, V.keyBH]
      rw [e] at hat ⊢
      obtain ⟨hp0, hb0, h1⟩ := hat.cons
      refine (ofKey_keyTagged w R s p _ _ hr hs hp0 hb0 (fun w1 hr1 => keyTagged_read w1 R s (p + 1) n x hr1 hs ⟨hn0, by omega⟩ h1 (fun w2 hr2 => hih 0 x rfl w2 _ hr2 h1.cons.2.2))).mono ?_
      intro e w' h
      rw [show p + (4 :: UInt8.ofNat (n + 1).toNat :: x.keyB).length = p + 1 + 1 + x.keyB.length by simp; omega]
      exact h.to (by simp [V.same, V.sameL_refl]; simpa using ht)
    by_cases k0 : k = 0
    · subst k0
      have e : (V.mk 0 n t a cap l).keyB = 1 :: wordBytes n := by simp [V.keyB]
      rw [e] at hat ⊢
      simp [fitsB, wordB] at hf
      obtain ⟨hn0, hn1, ht, rfl⟩ := hf
      obtain ⟨hp0, hb0, h1⟩ := hat.cons
      refine (ofKey_keyWord w R s p _ _ hr hs hp0 hb0 (fun w1 hr1 => keyWord_read w1 R s (p + 1) n hr1 hs ⟨hn0, hn1⟩ h1)).mono ?_
      intro e w' h
      rw [show p + (1 :: wordBytes n).length = p + 1 + 4 by simp [wordBytes]]
      exact h.to (by simp [V.same, V.sameL_refl]; simpa using ht)
    · simp [fitsB, k0, k1, k2, k3] at hf

end Go.Proofs.YtkfmgafgokpjhaaGreatDoor
