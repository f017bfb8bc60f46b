/-
  Contracts of the functions of package value, of its specification and of what the statements of layer 1 share (values and types made of numbers, the chapter's examples), each for every argument: used by the proofs of layer 1's statements.
  Part 9 of 12.
-/
import Derived.Test.YtkfmgafgokpjhaaGreatDoorBc07
import Derived.Test.YtkfmgafgokpjhaaGreatDoorBc08
import Derived.Deep.AppendLies
import Derived.Test.YtkfmgafgokpjhaaGreatDoorBc06
import Derived.Deep.RegionHeld3
import Derived.Deep.RegionLaw
import Derived.Test.YtkfmgafgokpjhaaGreatDoorBc05
import Derived.Test.YtkfmgafgokpjhaaGreatDoorBc03
/-
  MadeType: A TYPE THAT NUMBERS MAKE IS VALID, AND SMALL.
-/
namespace Go.Proofs.YtkfmgafgokpjhaaGreatDoor
open Go.RowKit

/-- How many types a made type has, at the most. -/
def RD : Nat → Nat
  | 0 => 0
  | d + 1 => 1 + 3 * RD d

theorem infoT : (Tryz.prog.info? 27).map (fun i => (i.zero, i.size, i.bytes)) = some (some (.agg #[.int .i64 0, .slice none 0 0]), 2, 32) := by kernel_rfl

def MadeTy (d : Nat) (at_ : Int) (x : T) (c : Int) : Prop := x.sh d = true ∧ x.rank ≤ RD d ∧ at_ ≤ c ∧ c ≤ at_ + 2 * (RD d : Int)

theorem RD_pos (d : Nat) (h : 1 ≤ d) : 1 ≤ RD d := by
  cases d with
  | zero => omega
  | succ d => simp [RD]

abbrev put2 (w : World) (b : Nat) (v0 v1 : Value) : World := (w.setCell ⟨b, 0, none⟩ v0).setCell ⟨b, 1, none⟩ v1
theorem cell2 {w : World} {b : Nat} {c0 c1 : Value} {t : Nat} (h : w.heap[b]? = some (.cells #[c0, c1] t (0, 0))) :
    w.cell? ⟨b, 0, none⟩ = some c0 ∧ w.cell? ⟨b, 1, none⟩ = some c1 ∧ w.frozen? ⟨b, 0, none⟩ = false ∧ w.frozen? ⟨b, 1, none⟩ = false := by
  simp [World.cell?, World.frozen?, h]
theorem put2_block {w : World} {b : Nat} {c0 c1 v0 v1 : Value} {t : Nat} (h : w.heap[b]? = some (.cells #[c0, c1] t (0, 0))) :
    (put2 w b v0 v1).heap[b]? = some (.cells #[v0, v1] t (0, 0)) := by
  have h1 := heap_setCell_same w b 0 _ _ v0 h
  have h2 := heap_setCell_same _ b 1 _ _ v1 h1
  simpa using h2
theorem put2_other {w : World} {b k : Nat} {v0 v1 : Value} (h : k ≠ b) : (put2 w b v0 v1).heap[k]? = w.heap[k]? := by
  rw [Below.heap_setCell _ _ _ _ (by simpa using h), Below.heap_setCell _ _ _ _ (by simpa using h)]
theorem put2_kp {b : Nat} {w w' : World} {v0 v1 : Value} (h : Kp w w') (hb : w.heap.size ≤ b) : Kp w (put2 w' b v0 v1) := put1_kp (put1_kp h hb) hb

theorem shLT_snoc {l : List T} {x : T} {d : Nat} (h : T.shL l d = true) (hx : x.sh d = true) : T.shL (l ++ [x]) d = true := by
  induction l with
  | nil => simp [T.shL, hx]
  | cons y ys ih => simp [T.shL] at h ⊢; exact ⟨h.1, ih h.2⟩
theorem ranksT_snoc (l : List T) (x : T) : T.rank.ranks (l ++ [x]) = T.rank.ranks l + x.rank := by
  induction l with
  | nil => simp [T.rank.ranks]
  | cons y ys ih => simp [T.rank.ranks, ih]; omega

/-- A made type without parts. -/
theorem madeT_leaf (k : Int) (hk : k = 0 ∨ k = 1) (d : Nat) (hd : 1 ≤ d) (at_ : Int) : MadeTy d at_ (.mk k none 0 []) (at_ + 1) := by
  have := RD_pos d hd
  cases d with
  | zero => omega
  | succ d =>
    refine ⟨?_, ?_, by omega, by omega⟩
    · rcases hk with rfl | rfl <;> simp [T.sh, T.shL, fitsT]
    · simp [T.rank, T.rank.ranks]; omega

theorem inTLeaf {w : World} {B : Nat} (k : Int) (hk : I64 k) : (T.mk k none 0 []).In w B := by
  simp [T.In, T.InL, hk]

set_option maxRecDepth 100000 in
set_option maxHeartbeats 4000000 in
theorem madeType_leaf (a : Option Addr) (cap : Nat) (l : List Int) (d : Nat) (dp at_ : Int) (w : World) (hin : Ints w w.heap.size a cap l) (hd : 1 ≤ d) (hdp : 0 ≤ dp ∧ dp ≤ 10) (h0 : 0 ≤ at_) (h1 : at_ ≤ 2000000000)
    (h : turnI (nthI l at_) 8 < 3 ∨ dp < 2) :
    Calls Tryz.prog 83 #[.slice a l.length cap, .int .i64 at_, .int .i64 dp] w (MakesT w (MadeTy d at_)) := by
  have N := fun (w1 : World) (h : Kp w w1) => nth_any a cap l at_ w1 (hin.keep h.size h) (by unfold I64; omega)
  have HL := Lib.hid (madeT_leaf 0 (.inl rfl) d hd at_)
  obtain ⟨hr0, hr1⟩ := turnI_range (n := nthI l at_) (m := 8) (by omega)
  generalize nthI l at_ = m at *
  have Q := fun (w1 : World) (h : I64 m) => turn_any m 8 w1 h (by unfold I64; omega)
  generalize turnI m 8 = q at *
  have HN := Lib.hid N
  have HQ := Lib.hid Q
  clear N Q hin
  by_cases hq : q < 3
  · have g1 : decide (q < 3) = true := by simpa using hq
    clear h
    go_enter Tryz.func83, Tryz.ntmps83
    go_wp2_with fail
    refine (HN.out _ (ka _ _)).mono ?_
    rintro e w1 ⟨rfl, rfl, hI⟩
    have HI := Lib.hid hI
    clear hI
    go_wp2_with fail
    refine (HQ.out _ HI.out).mono ?_
    rintro e w1 ⟨rfl, rfl⟩
    go_wp2_with fail
    refine bodyPost_ret (v := .tuple #[.agg #[.int .i64 0, .slice none 0 0], .int .i64 (at_ + 1)]) (by simp [results, Tryz.results83, go_sem]) rfl ?_
    exact ⟨.mk 0 none 0 [], _, rfl, inTLeaf 0 (by unfold I64; omega), T.foot_leaf _ _ _, HL.out, ka _ _⟩
  · have g1 : decide (q < 3) = false := by simpa using hq
    have g2 : decide (dp < 2) = true := by simp; omega
    clear h
    go_enter Tryz.func83, Tryz.ntmps83
    go_wp2_with fail
    refine (HN.out _ (ka _ _)).mono ?_
    rintro e w1 ⟨rfl, rfl, hI⟩
    have HI := Lib.hid hI
    clear hI
    go_wp2_with fail
    refine (HQ.out _ HI.out).mono ?_
    rintro e w1 ⟨rfl, rfl⟩
    go_wp2_with fail
    refine bodyPost_ret (v := .tuple #[.agg #[.int .i64 0, .slice none 0 0], .int .i64 (at_ + 1)]) (by simp [results, Tryz.results83, go_sem]) rfl ?_
    exact ⟨.mk 0 none 0 [], _, rfl, inTLeaf 0 (by unfold I64; omega), T.foot_leaf _ _ _, HL.out, ka _ _⟩

set_option maxRecDepth 100000 in
set_option maxHeartbeats 4000000 in
theorem madeType_text (a : Option Addr) (cap : Nat) (l : List Int) (d : Nat) (dp at_ : Int) (w : World) (hin : Ints w w.heap.size a cap l) (hd : 1 ≤ d) (_hdp : 0 ≤ dp ∧ dp ≤ 10) (h0 : 0 ≤ at_) (h1 : at_ ≤ 2000000000)
    (h : turnI (nthI l at_) 8 = 3) (h2 : 2 ≤ dp) :
    Calls Tryz.prog 83 #[.slice a l.length cap, .int .i64 at_, .int .i64 dp] w (MakesT w (MadeTy d at_)) := by
  have N := fun (w1 : World) (h : Kp w w1) => nth_any a cap l at_ w1 (hin.keep h.size h) (by unfold I64; omega)
  have HL := Lib.hid (madeT_leaf 1 (.inr rfl) d hd at_)
  generalize nthI l at_ = m at *
  have Q := fun (w1 : World) (h : I64 m) => turn_any m 8 w1 h (by unfold I64; omega)
  rw [h] at Q
  have HN := Lib.hid N
  have HQ := Lib.hid Q
  have g2 : decide (dp < 2) = false := by simp; omega
  clear N Q hin h
  go_enter Tryz.func83, Tryz.ntmps83
  go_wp2_with fail
  refine (HN.out _ (ka _ _)).mono ?_
  rintro e w1 ⟨rfl, rfl, hI⟩
  have HI := Lib.hid hI
  clear hI
  go_wp2_with fail
  refine (HQ.out _ HI.out).mono ?_
  rintro e w1 ⟨rfl, rfl⟩
  go_wp2_with fail
  refine bodyPost_ret (v := .tuple #[.agg #[.int .i64 1, .slice none 0 0], .int .i64 (at_ + 1)]) (by simp [results, Tryz.results83, go_sem]) rfl ?_
  exact ⟨.mk 1 none 0 [], _, rfl, inTLeaf 1 (by unfold I64; omega), T.foot_leaf _ _ _, HL.out, ka _ _⟩

set_option maxRecDepth 100000 in
set_option maxHeartbeats 8000000 in
theorem madeType_parts (a : Option Addr) (cap : Nat) (l : List Int) (d : Nat) (dp at_ : Int) (w : World) (hin : Ints w w.heap.size a cap l) (hd : 1 ≤ d ∧ d ≤ 9) (hdp : dp = d + 1) (h0 : 0 ≤ at_) (h1 : at_ + 2 * (RD (d + 1) : Int) ≤ 2000000000)
    (h : ¬ turnI (nthI l at_) 8 < 3) (h' : turnI (nthI l at_) 8 ≠ 3)
    (ih : ∀ (dp' at' : Int) (w1 : World), dp' = d → 0 ≤ at' → at' + 2 * (RD d : Int) ≤ 2000000000 → Ints w1 w1.heap.size a cap l → Calls Tryz.prog 83 #[.slice a l.length cap, .int .i64 at', .int .i64 dp'] w1 (MakesT w1 (MadeTy d at'))) :
    Calls Tryz.prog 83 #[.slice a l.length cap, .int .i64 at_, .int .i64 dp] w (MakesT w (MadeTy (d + 1) at_)) := by
  obtain ⟨i0, hi, hz0, hz1, hz2⟩ := info_parts infoT
  have hR : (RD (d + 1) : Int) = 1 + 3 * (RD d : Int) := by simp [RD]
  have N := fun (w1 : World) (h : Kp w w1) => nth_any a cap l at_ w1 (hin.keep h.size h) (by unfold I64; omega)
  have N2 := fun (w1 : World) (h : Kp w w1) => nth_any a cap l (at_ + 1) w1 (hin.keep h.size h) (by unfold I64; omega)
  obtain ⟨hr0, hr1⟩ := turnI_range (n := nthI l at_) (m := 8) (by omega)
  obtain ⟨hs0, hs1⟩ := turnI_range (n := nthI l (at_ + 1)) (m := 4) (by omega)
  generalize nthI l at_ = m at *
  generalize nthI l (at_ + 1) = m2 at *
  have Q := fun (w1 : World) (h : I64 m) => turn_any m 8 w1 h (by unfold I64; omega)
  have Q2 := fun (w1 : World) (h : I64 m2) => turn_any m2 4 w1 h (by unfold I64; omega)
  generalize turnI m 8 = q at *
  generalize turnI m2 4 = q2 at *
  have HN := Lib.hid N
  have HQ := Lib.hid Q
  have HN2 := Lib.hid N2
  have HQ2 := Lib.hid Q2
  have HIN := Lib.hid hin
  have IH := Lib.hid ih
  have HR := Lib.hid hR
  have HDP := Lib.hid hdp
  have b1 : 2 ≤ dp := by omega
  have b2 : dp ≤ 10 := by omega
  have b3 : at_ ≤ 2000000000 := by omega
  have b4 : at_ + 2 + 6 * (RD d : Int) ≤ 2000000000 := by omega
  have g1 : decide (q < 3) = false := by simpa using h
  have g2 : decide (dp < 2) = false := by simp; omega
  have g3 : (q == 3) = false := by rw [beq_eq_false_iff_ne]; exact h'
  clear N Q N2 Q2 hin ih hR hdp h h' h1
  by_cases h7 : q = 7
  · have g4 : (q == 7) = true := by rw [beq_iff_eq]; exact h7
    go_enter Tryz.func83, Tryz.ntmps83
    go_wp2_with fail
    refine (HN.out _ (ka _ _)).mono ?_
    rintro e w1 ⟨rfl, rfl, hI⟩
    have HI := Lib.hid hI
    clear hI
    go_wp2_with fail
    refine (HQ.out _ HI.out).mono ?_
    rintro e w1 ⟨rfl, rfl⟩
    go_wp2_with fail
    refine (HN2.out _ (kk (ka _ _) (ka _ _))).mono ?_
    rintro e w1 ⟨rfl, rfl, hI2⟩
    have HI2 := Lib.hid hI2
    clear hI2
    go_wp2_with fail
    refine (HQ2.out _ HI2.out).mono ?_
    rintro e w1 ⟨rfl, rfl⟩
    go_wp2_with fail
    obtain ⟨mm, hmm, hm1, hm2⟩ : ∃ mm, max 1 q2 = mm ∧ 1 ≤ mm ∧ mm ≤ 3 := ⟨_, rfl, by omega, by omega⟩
    rw [hmm]
    clear hmm
    have hkW := kk (ka w (.cells #[.int .i64 0, .slice none 0 0] 27)) (ka _ (.cells #[.int .i64 3, .slice none 0 0] 27))
    have hres : ((w.alloc (.cells #[.int .i64 0, .slice none 0 0] 27)).alloc (.cells #[.int .i64 3, .slice none 0 0] 27)).heap[w.heap.size]? = some (.cells #[.int .i64 0, .slice none 0 0] 27 (0, 0)) := blockPast (blockHere rfl)
    have htup : TupAtT ((w.alloc (.cells #[.int .i64 0, .slice none 0 0] 27)).alloc (.cells #[.int .i64 3, .slice none 0 0] 27)) (w.heap.size + 1) 3 (.slice none 0 0) [] := ⟨blockHere (by simp), World.ownsRow_nil _ _ _ _, trivial, trivial⟩
    generalize (w.alloc (.cells #[.int .i64 0, .slice none 0 0] 27)).alloc (.cells #[.int .i64 3, .slice none 0 0] 27) = W at *
    have HKW := Lib.hid hkW
    have HRS := Lib.hid hres
    have HTP := Lib.hid htup
    clear hkW hres htup
    go_loopw [1, 11] (fun ac i wr => ∃ (j : Nat) (sl : Value) (vs : List T) (c B : Int), (j : Int) ≤ mm ∧ ac = .int .i64 c ∧ i = .int .i64 j ∧ vs.length = j ∧ T.shL vs d = true ∧ B = j * (RD d : Int) ∧ (T.rank.ranks vs : Int) ≤ B ∧ at_ + 2 ≤ c ∧ c ≤ at_ + 2 + 2 * B ∧ TupAtT wr (w.heap.size + 1) 3 sl vs ∧ Kp w wr ∧ wr.heap[w.heap.size]? = some (.cells #[.int .i64 0, .slice none 0 0] 27 (0, 0))) (fun _ i _ => (mm).toNat - (intOf i).toNat)
    case atStart => exact ⟨0, _, _, at_ + 1 + 1, 0, by omega, rfl, rfl, rfl, rfl, by simp, by simp [T.rank.ranks], by omega, by omega, HTP.out, HKW.out, HRS.out⟩
    case round =>
      obtain ⟨j, sl, vs, c, B, hj, rfl, rfl, hvl, hsh, hB, hrk, hc1, hc2, htp, hk, hres⟩ := hrel
      have hB3 : B ≤ 3 * (RD d : Int) := by
        have := Int.mul_le_mul_of_nonneg_right (show (j : Int) ≤ 3 by omega) (show 0 ≤ (RD d : Int) by omega)
        omega
      by_cases hlt : (j : Int) < mm
      · have hBR : B + (RD d : Int) = ((j : Int) + 1) * (RD d : Int) := by rw [Int.add_mul, Int.one_mul, ← hB]
        have hB4 : B + (RD d : Int) ≤ 3 * (RD d : Int) := by
          rw [hBR]
          exact Int.mul_le_mul_of_nonneg_right (show (j : Int) + 1 ≤ 3 by omega) (show 0 ≤ (RD d : Int) by omega)
        have hih := IH.out (dp - 1) c wr (by have := HDP.out; omega) (by omega) (by omega) (HIN.out.keep hk.size hk)
        have hvb := htp.lt
        have v1 : wr.cell? ⟨w.heap.size + 1, 1, none⟩ = some sl := cellOf htp.box rfl
        have nb0 : some w.heap.size ≠ sl.ownBlock := fun e => by have := (htp.own.lt _ e.symm).1; omega
        have nvb : some (w.heap.size + 1) ≠ sl.ownBlock := fun e => by have := (htp.own.lt _ e.symm).1; omega
        have hvs : vs.length ≤ 3 := by omega
        have HIH := Lib.hid hih
        have HB := Lib.hid hB
        have HBR := Lib.hid hBR
        have HSH := Lib.hid hsh
        have HVL := Lib.hid hvl
        have HTP2 := Lib.hid htp
        have HK := Lib.hid hk
        have HRS2 := Lib.hid hres
        clear hih hB hBR hsh hvl htp hk hres
        go_wp2_with fail
        refine HIH.out.mono ?_
        rintro e w2 ⟨⟨zk, za, zc, zl⟩, c', rfl, hzi, hzf, ⟨hzs, hzr, hd1, hd2⟩, hk2⟩
        rw [T.val_mk]
        have hb2 := (hk2.block _ hvb).trans HTP2.out.box
        have hvb2 := lt_of_block hb2
        have v2 : w2.cell? ⟨w.heap.size + 1, 1, none⟩ = some sl := cellOf hb2 rfl
        have HB2 := Lib.hid hb2
        have HZI := Lib.hid hzi
        have HZF := Lib.hid hzf
        have HZS := Lib.hid hzs
        have HK2 := Lib.hid hk2
        clear hb2 hzi hzf hzs hk2 v1
        go_wp2_with (at_builtin; refine wpList_append_lies _ rfl _ _ 25 rfl (w.heap.size + 1 + 1) 27 i0 _ 2 32 Tryz.underlying25 hi hz0 hz1 hz2 rfl (by decide) _ _ _ rfl (((ownsRow_kp HTP2.out.own HK2.out).alloc _).alloc _) ⟨w2.heap.size + 1, 0, none⟩ 1 1 [.int .i64 zk, .slice za zl.length zc] rfl rfl ?c1 ?c2 (by decide) ?c3 ?c4 ?c5 (w2.heap.size + 1 + 1) (by simp) ?_)
        case c1 =>
          intro j u hj
          match j, hj with
          | 0, hj => simp at hj; subst hj; simp [Addr.add]
          | 1, hj => simp at hj; subst hj; simp [Addr.add]
        case c2 => intro u hu; simp at hu; rcases hu with rfl | rfl <;> rfl
        case c3 => unfold maxLen; omega
        case c4 => omega
        case c5 => simp; omega
        intro gg gcap w3 hown1 hgrow hat hltg
        have hka2 := ka w2 (.cells #[.int .i64 zk, .slice za zl.length zc] 27)
        have hkc := kk hka2 (ka (w2.alloc (.cells #[.int .i64 zk, .slice za zl.length zc] 27)) (.cells #[.int .i64 zk, .slice za zl.length zc] 27))
        have hb3 := (hgrow.block (w.heap.size + 1) (by simp; omega) nvb).trans (blockPast (blockPast HB2.out))
        have v3 : w3.cell? ⟨w.heap.size + 1, 1, none⟩ = some sl := cellOf hb3 rfl
        have f3 : w3.frozen? ⟨w.heap.size + 1, 1, none⟩ = false := freeOf hb3
        have HST := Lib.hid (HTP2.out.step HK2.out HZI.out HZF.out hkc hown1 hgrow (by simpa using hat))
        have HK3 := Lib.hid (put1_kp (i := 1) (v := .slice (some ⟨gg, 0, none⟩) (vs.length + 1) gcap) (kp_grown (kk (kk HK.out HK2.out) hkc) hgrow (fun k e => by have := (HTP2.out.own.lt k e).1; omega)) (by omega : w.heap.size ≤ w.heap.size + 1))
        have HR4 := Lib.hid (step_block (i := 1) (u := .slice (some ⟨gg, 0, none⟩) (vs.length + 1) gcap) HK2.out hkc hgrow nb0 (by omega : w.heap.size ≠ w.heap.size + 1) HRS2.out)
        clear hka2 hkc hb3 hown1 hgrow hat v2
        go_wp2_with fail
        go_roundw
        case rel => exact ⟨j + 1, _, _, c', B + (RD d : Int), by omega, rfl, by first | go_num | simp, by simp [HVL.out], by rw [shLT_snoc HSH.out HZS.out], by rw [HBR.out]; push_cast; rfl, by rw [ranksT_snoc]; push_cast; omega, by omega, by omega, HST.out, HK3.out, HR4.out⟩
        case measure => simp [intOf]; omega
      · have hjj : (j : Int) = mm := by omega
        obtain ⟨a', cap', rfl, hvin, hvft⟩ := htp.value (by unfold I64; omega)
        have hvb := htp.lt
        obtain ⟨c0, c1, -⟩ := cell2 htp.box
        obtain ⟨d0, d1, f0, f1⟩ := cell2 hres
        have hP : MadeTy (d + 1) at_ (.mk 3 a' cap' vs) c := by
          have hR := HR.out
          refine ⟨?_, ?_, by omega, by omega⟩
          · simp [T.sh, fitsT, hsh]; omega
          · simp [T.rank]; omega
        have HK := Lib.hid hk
        have HRS2 := Lib.hid hres
        have HVI := Lib.hid hvin
        have HVF := Lib.hid hvft
        have HP := Lib.hid hP
        clear htp hk hres hvin hvft hP hB hsh hvl
        go_wp2_with fail
        obtain ⟨e0, e1, -⟩ := cell2 (put2_block (v0 := .int .i64 3) (v1 := .slice a' vs.length cap') HRS2.out)
        refine bodyPost_ret (v := .tuple #[.agg #[.int .i64 3, .slice a' vs.length cap'], .int .i64 c]) (by simp [results, Tryz.results83, go_sem, e0, e1]) rfl ?_
        have hS : (put2 wr w.heap.size (.int .i64 3) (.slice a' vs.length cap')).heap.size = wr.heap.size := by simp [World.setCell]
        refine ⟨.mk 3 a' cap' vs, c, rfl, ?_, T.foot.mono (fun b hb => by omega) _ HVF.out, HP.out, put2_kp HK.out (by omega)⟩
        rw [hS]
        exact T.In.move (Nat.le_refl _) (fun b _ hb => put2_other (by omega)) _ HVI.out HVF.out
  · have g4 : (q == 7) = false := by rw [beq_eq_false_iff_ne]; exact h7
    go_enter Tryz.func83, Tryz.ntmps83
    go_wp2_with fail
    refine (HN.out _ (ka _ _)).mono ?_
    rintro e w1 ⟨rfl, rfl, hI⟩
    have HI := Lib.hid hI
    clear hI
    go_wp2_with fail
    refine (HQ.out _ HI.out).mono ?_
    rintro e w1 ⟨rfl, rfl⟩
    go_wp2_with fail
    refine (HN2.out _ (kk (ka _ _) (ka _ _))).mono ?_
    rintro e w1 ⟨rfl, rfl, hI2⟩
    have HI2 := Lib.hid hI2
    clear hI2
    go_wp2_with fail
    refine (HQ2.out _ HI2.out).mono ?_
    rintro e w1 ⟨rfl, rfl⟩
    go_wp2_with fail
    have hkW := kk (ka w (.cells #[.int .i64 0, .slice none 0 0] 27)) (ka _ (.cells #[.int .i64 2, .slice none 0 0] 27))
    have hres : ((w.alloc (.cells #[.int .i64 0, .slice none 0 0] 27)).alloc (.cells #[.int .i64 2, .slice none 0 0] 27)).heap[w.heap.size]? = some (.cells #[.int .i64 0, .slice none 0 0] 27 (0, 0)) := blockPast (blockHere rfl)
    have htup : TupAtT ((w.alloc (.cells #[.int .i64 0, .slice none 0 0] 27)).alloc (.cells #[.int .i64 2, .slice none 0 0] 27)) (w.heap.size + 1) 2 (.slice none 0 0) [] := ⟨blockHere (by simp), World.ownsRow_nil _ _ _ _, trivial, trivial⟩
    generalize (w.alloc (.cells #[.int .i64 0, .slice none 0 0] 27)).alloc (.cells #[.int .i64 2, .slice none 0 0] 27) = W at *
    have HKW := Lib.hid hkW
    have HRS := Lib.hid hres
    have HTP := Lib.hid htup
    clear hkW hres htup
    go_loopw [1, 11] (fun ac i wr => ∃ (j : Nat) (sl : Value) (vs : List T) (c B : Int), (j : Int) ≤ q2 ∧ ac = .int .i64 c ∧ i = .int .i64 j ∧ vs.length = j ∧ T.shL vs d = true ∧ B = j * (RD d : Int) ∧ (T.rank.ranks vs : Int) ≤ B ∧ at_ + 2 ≤ c ∧ c ≤ at_ + 2 + 2 * B ∧ TupAtT wr (w.heap.size + 1) 2 sl vs ∧ Kp w wr ∧ wr.heap[w.heap.size]? = some (.cells #[.int .i64 0, .slice none 0 0] 27 (0, 0))) (fun _ i _ => (q2).toNat - (intOf i).toNat)
    case atStart => exact ⟨0, _, _, at_ + 1 + 1, 0, by omega, rfl, rfl, rfl, rfl, by simp, by simp [T.rank.ranks], by omega, by omega, HTP.out, HKW.out, HRS.out⟩
    case round =>
      obtain ⟨j, sl, vs, c, B, hj, rfl, rfl, hvl, hsh, hB, hrk, hc1, hc2, htp, hk, hres⟩ := hrel
      have hB3 : B ≤ 3 * (RD d : Int) := by
        have := Int.mul_le_mul_of_nonneg_right (show (j : Int) ≤ 3 by omega) (show 0 ≤ (RD d : Int) by omega)
        omega
      by_cases hlt : (j : Int) < q2
      · have hBR : B + (RD d : Int) = ((j : Int) + 1) * (RD d : Int) := by rw [Int.add_mul, Int.one_mul, ← hB]
        have hB4 : B + (RD d : Int) ≤ 3 * (RD d : Int) := by
          rw [hBR]
          exact Int.mul_le_mul_of_nonneg_right (show (j : Int) + 1 ≤ 3 by omega) (show 0 ≤ (RD d : Int) by omega)
        have hih := IH.out (dp - 1) c wr (by have := HDP.out; omega) (by omega) (by omega) (HIN.out.keep hk.size hk)
        have hvb := htp.lt
        have v1 : wr.cell? ⟨w.heap.size + 1, 1, none⟩ = some sl := cellOf htp.box rfl
        have nb0 : some w.heap.size ≠ sl.ownBlock := fun e => by have := (htp.own.lt _ e.symm).1; omega
        have nvb : some (w.heap.size + 1) ≠ sl.ownBlock := fun e => by have := (htp.own.lt _ e.symm).1; omega
        have hvs : vs.length ≤ 3 := by omega
        have HIH := Lib.hid hih
        have HB := Lib.hid hB
        have HBR := Lib.hid hBR
        have HSH := Lib.hid hsh
        have HVL := Lib.hid hvl
        have HTP2 := Lib.hid htp
        have HK := Lib.hid hk
        have HRS2 := Lib.hid hres
        clear hih hB hBR hsh hvl htp hk hres
        go_wp2_with fail
        refine HIH.out.mono ?_
        rintro e w2 ⟨⟨zk, za, zc, zl⟩, c', rfl, hzi, hzf, ⟨hzs, hzr, hd1, hd2⟩, hk2⟩
        rw [T.val_mk]
        have hb2 := (hk2.block _ hvb).trans HTP2.out.box
        have hvb2 := lt_of_block hb2
        have v2 : w2.cell? ⟨w.heap.size + 1, 1, none⟩ = some sl := cellOf hb2 rfl
        have HB2 := Lib.hid hb2
        have HZI := Lib.hid hzi
        have HZF := Lib.hid hzf
        have HZS := Lib.hid hzs
        have HK2 := Lib.hid hk2
        clear hb2 hzi hzf hzs hk2 v1
        go_wp2_with (at_builtin; refine wpList_append_lies _ rfl _ _ 25 rfl (w.heap.size + 1 + 1) 27 i0 _ 2 32 Tryz.underlying25 hi hz0 hz1 hz2 rfl (by decide) _ _ _ rfl (((ownsRow_kp HTP2.out.own HK2.out).alloc _).alloc _) ⟨w2.heap.size + 1, 0, none⟩ 1 1 [.int .i64 zk, .slice za zl.length zc] rfl rfl ?c1 ?c2 (by decide) ?c3 ?c4 ?c5 (w2.heap.size + 1 + 1) (by simp) ?_)
        case c1 =>
          intro j u hj
          match j, hj with
          | 0, hj => simp at hj; subst hj; simp [Addr.add]
          | 1, hj => simp at hj; subst hj; simp [Addr.add]
        case c2 => intro u hu; simp at hu; rcases hu with rfl | rfl <;> rfl
        case c3 => unfold maxLen; omega
        case c4 => omega
        case c5 => simp; omega
        intro gg gcap w3 hown1 hgrow hat hltg
        have hka2 := ka w2 (.cells #[.int .i64 zk, .slice za zl.length zc] 27)
        have hkc := kk hka2 (ka (w2.alloc (.cells #[.int .i64 zk, .slice za zl.length zc] 27)) (.cells #[.int .i64 zk, .slice za zl.length zc] 27))
        have hb3 := (hgrow.block (w.heap.size + 1) (by simp; omega) nvb).trans (blockPast (blockPast HB2.out))
        have v3 : w3.cell? ⟨w.heap.size + 1, 1, none⟩ = some sl := cellOf hb3 rfl
        have f3 : w3.frozen? ⟨w.heap.size + 1, 1, none⟩ = false := freeOf hb3
        have HST := Lib.hid (HTP2.out.step HK2.out HZI.out HZF.out hkc hown1 hgrow (by simpa using hat))
        have HK3 := Lib.hid (put1_kp (i := 1) (v := .slice (some ⟨gg, 0, none⟩) (vs.length + 1) gcap) (kp_grown (kk (kk HK.out HK2.out) hkc) hgrow (fun k e => by have := (HTP2.out.own.lt k e).1; omega)) (by omega : w.heap.size ≤ w.heap.size + 1))
        have HR4 := Lib.hid (step_block (i := 1) (u := .slice (some ⟨gg, 0, none⟩) (vs.length + 1) gcap) HK2.out hkc hgrow nb0 (by omega : w.heap.size ≠ w.heap.size + 1) HRS2.out)
        clear hka2 hkc hb3 hown1 hgrow hat v2
        go_wp2_with fail
        go_roundw
        case rel => exact ⟨j + 1, _, _, c', B + (RD d : Int), by omega, rfl, by first | go_num | simp, by simp [HVL.out], by rw [shLT_snoc HSH.out HZS.out], by rw [HBR.out]; push_cast; rfl, by rw [ranksT_snoc]; push_cast; omega, by omega, by omega, HST.out, HK3.out, HR4.out⟩
        case measure => simp [intOf]; omega
      · have hjj : (j : Int) = q2 := by omega
        obtain ⟨a', cap', rfl, hvin, hvft⟩ := htp.value (by unfold I64; omega)
        have hvb := htp.lt
        obtain ⟨c0, c1, -⟩ := cell2 htp.box
        obtain ⟨d0, d1, f0, f1⟩ := cell2 hres
        have hP : MadeTy (d + 1) at_ (.mk 2 a' cap' vs) c := by
          have hR := HR.out
          refine ⟨?_, ?_, by omega, by omega⟩
          · simp [T.sh, fitsT, hsh]; omega
          · simp [T.rank]; omega
        have HK := Lib.hid hk
        have HRS2 := Lib.hid hres
        have HVI := Lib.hid hvin
        have HVF := Lib.hid hvft
        have HP := Lib.hid hP
        clear htp hk hres hvin hvft hP hB hsh hvl
        go_wp2_with fail
        obtain ⟨e0, e1, -⟩ := cell2 (put2_block (v0 := .int .i64 2) (v1 := .slice a' vs.length cap') HRS2.out)
        refine bodyPost_ret (v := .tuple #[.agg #[.int .i64 2, .slice a' vs.length cap'], .int .i64 c]) (by simp [results, Tryz.results83, go_sem, e0, e1]) rfl ?_
        have hS : (put2 wr w.heap.size (.int .i64 2) (.slice a' vs.length cap')).heap.size = wr.heap.size := by simp [World.setCell]
        refine ⟨.mk 2 a' cap' vs, c, rfl, ?_, T.foot.mono (fun b hb => by omega) _ HVF.out, HP.out, put2_kp HK.out (by omega)⟩
        rw [hS]
        exact T.In.move (Nat.le_refl _) (fun b _ hb => put2_other (by omega)) _ HVI.out HVF.out

set_option maxHeartbeats 1000000 in
theorem madeType (a : Option Addr) (cap : Nat) (l : List Int) : ∀ (d : Nat) (dp at_ : Int) (w : World), 1 ≤ d → d ≤ 10 → dp = d → 0 ≤ at_ → at_ + 2 * (RD d : Int) ≤ 2000000000 → Ints w w.heap.size a cap l →
    Calls Tryz.prog 83 #[.slice a l.length cap, .int .i64 at_, .int .i64 dp] w (MakesT w (MadeTy d at_)) := by
  intro d
  induction d with
  | zero => intro dp at_ w h; omega
  | succ d ih =>
    intro dp at_ w _ hd hdp h0 h1 hin
    by_cases h : turnI (nthI l at_) 8 < 3 ∨ dp < 2
    · exact madeType_leaf a cap l (d + 1) dp at_ w hin (by omega) (by omega) h0 (by omega) h
    · have h2 : ¬ turnI (nthI l at_) 8 < 3 := fun e => h (.inl e)
      have h3 : 2 ≤ dp := by have : ¬ dp < 2 := fun e => h (.inr e); omega
      by_cases h4 : turnI (nthI l at_) 8 = 3
      · exact madeType_text a cap l (d + 1) dp at_ w hin (by omega) (by omega) h0 (by omega) h4 h3
      · exact madeType_parts a cap l d dp at_ w hin (by omega) (by omega) h0 h1 h2 h4 (fun dp' at' w1 e1 e2 e3 e4 => ih dp' at' w1 (by omega) (by omega) e1 e2 e3 e4)

end Go.Proofs.YtkfmgafgokpjhaaGreatDoor

/-
  THE SPECIFICATION's least, Least; THE PROGRAM's Least.
-/
namespace Go.Proofs.YtkfmgafgokpjhaaGreatDoor
open Go.RowKit

theorem World.drew_size (w : World) : w.drew.heap.size = w.heap.size := rfl

set_option maxRecDepth 100000 in
set_option maxHeartbeats 4000000 in
theorem leastR_int (w : World) (a : Option Addr) (l c : Nat) :
    Calls Tryz.prog 56 #[.agg #[.int .i64 0, .slice a l c]] w (Makes w (.mk 0 (-2147483648) ⟨#[]⟩ none 0 [])) := by
  go_enter Tryz.func56, Tryz.ntmps56
  go_wp2_with fail
  refine (int_any _ _).mono ?_
  rintro e w1 ⟨rfl, hk1⟩
  have hz1 := hk1.size
  simp at hz1
  have hblk : w1.heap[w.heap.size + 1]? = some (.cells zero4 24 (0, 0)) := (hk1.block _ (by simp)).trans (blockHere (by simp))
  obtain ⟨c0, c1, c2, c3, f0, f1, f2, f3⟩ := cell4 hblk
  have HB := Lib.hid hblk
  have HK1 := Lib.hid (kk (kk (ka _ _) (ka _ _)) hk1)
  clear hk1 hblk
  go_wp2_with fail
  obtain ⟨e0, e1, e2, e3, -⟩ := cell4 (put4_block (v0 := .int .i64 0) (v1 := .int .i64 (-2147483648)) (v2 := .string ⟨#[]⟩) (v3 := .slice none 0 0) HB.out)
  refine bodyPost_ret (v := .agg #[.int .i64 0, .int .i64 (-2147483648), .string ⟨#[]⟩, .slice none 0 0]) (by simp [results, Tryz.results56, go_sem, e0, e1, e2, e3]) rfl ?_
  exact ⟨.mk 0 (-2147483648) ⟨#[]⟩ none 0 [], rfl, inLeaf _ _ _ (by unfold I64; omega) (by unfold I64; omega) (by decide), V.foot_leaf _ _ _ _ _, V.same_refl _, put4_kp HK1.out (by omega)⟩

set_option maxRecDepth 100000 in
set_option maxHeartbeats 4000000 in
theorem leastR_text (w : World) (a : Option Addr) (l c : Nat) :
    Calls Tryz.prog 56 #[.agg #[.int .i64 1, .slice a l c]] w (Makes w (.mk 1 0 ⟨#[]⟩ none 0 [])) := by
  go_enter Tryz.func56, Tryz.ntmps56
  go_wp2_with fail
  refine (text_any _ _).mono ?_
  rintro e w1 ⟨rfl, hk1⟩
  have hz1 := hk1.size
  simp at hz1
  have hblk : w1.heap[w.heap.size + 1]? = some (.cells zero4 24 (0, 0)) := (hk1.block _ (by simp)).trans (blockHere (by simp))
  obtain ⟨c0, c1, c2, c3, f0, f1, f2, f3⟩ := cell4 hblk
  have HB := Lib.hid hblk
  have HK1 := Lib.hid (kk (kk (ka _ _) (ka _ _)) hk1)
  clear hk1 hblk
  go_wp2_with fail
  obtain ⟨e0, e1, e2, e3, -⟩ := cell4 (put4_block (v0 := .int .i64 1) (v1 := .int .i64 0) (v2 := .string ⟨#[]⟩) (v3 := .slice none 0 0) HB.out)
  refine bodyPost_ret (v := .agg #[.int .i64 1, .int .i64 0, .string ⟨#[]⟩, .slice none 0 0]) (by simp [results, Tryz.results56, go_sem, e0, e1, e2, e3]) rfl ?_
  exact ⟨.mk 1 0 ⟨#[]⟩ none 0 [], rfl, inLeaf _ _ _ (by unfold I64; omega) (by unfold I64; omega) (by decide), V.foot_leaf _ _ _ _ _, V.same_refl _, put4_kp HK1.out (by omega)⟩

set_option maxRecDepth 100000 in
set_option maxHeartbeats 4000000 in
theorem leastR_sum (g off l c : Nat) (x : T) (w : World) (x1 : w.cell? ⟨g, off, none⟩ = some (.int .i64 x.k)) (x2 : w.cell? ⟨g, off + 1, none⟩ = some (.slice x.a x.l.length x.cap)) (hx : x.In w w.heap.size)
    (ih : ∀ w1 : World, x.In w1 w1.heap.size → Calls Tryz.prog 56 #[.agg #[.int .i64 x.k, .slice x.a x.l.length x.cap]] w1 (Makes w1 x.lst)) :
    Calls Tryz.prog 56 #[.agg #[.int .i64 3, .slice (some ⟨g, off, none⟩) (l + 1) c]] w (Makes w (.mk 3 0 ⟨#[]⟩ none 0 [x.lst])) := by
  have hg := World.block_lt_of_cell? w _ x1
  have C := fun w1 (h : Kp w w1) => ih w1 (hx.keep h.size h)
  generalize x.lst = y at C ⊢
  generalize x.k = xk at *
  generalize x.a = xa at *
  generalize x.l.length = xl at *
  generalize x.cap = xc at *
  have HC := Lib.hid C
  clear C ih hx
  go_enter Tryz.func56, Tryz.ntmps56
  go_wp2_with fail
  refine (HC.out _ (kk (ka _ _) (ka _ _))).mono ?_
  rintro e w1 ⟨z, rfl, hzi, hzf, hzs, hk1⟩
  have hz1 := hk1.size
  simp at hz1
  have hblk : w1.heap[w.heap.size + 1]? = some (.cells zero4 24 (0, 0)) := (hk1.block _ (by simp)).trans (blockHere (by simp))
  obtain ⟨c0, c1, c2, c3, f0, f1, f2, f3⟩ := cell4 hblk
  have HB := Lib.hid hblk
  have HK1 := Lib.hid (kk (kk (ka _ _) (ka _ _)) hk1)
  have hzf2 : z.foot (fun b => w.heap.size + 2 ≤ b) := V.foot.mono (fun b hb => by simp at hb; omega) z hzf
  have HZI := Lib.hid hzi
  have HZF := Lib.hid hzf2
  have HZS := Lib.hid hzs
  clear hk1 hblk hzi hzf hzf2 hzs
  cases z with
  | mk k n s a cap zl =>
  simp only [V.val_mk]
  go_wp2_with fail
  refine (tag_any _ _ _ _ _ _ _ _).mono ?_
  rintro e w2 ⟨q, rfl, hqb, hq, hk2⟩
  have hblk := (hk2.block _ (lt_of_block HB.out)).trans HB.out
  obtain ⟨d0, d1, d2, d3, g0, g1, g2, g3⟩ := cell4 hblk
  have HB2 := Lib.hid hblk
  have HK2 := Lib.hid (kk HK1.out hk2)
  have HQ := Lib.hid hqb
  have HZ2 := Lib.hid (HZI.out.keep hk2.size hk2)
  clear hk2 hblk hqb c0 c1 c2 c3 f0 f1 f2 f3
  go_wp2_with fail
  obtain ⟨e0, e1, e2, e3, -⟩ := cell4 (put4_block (v0 := .int .i64 3) (v1 := .int .i64 0) (v2 := .string ⟨#[]⟩) (v3 := .slice (some ⟨q, 0, none⟩) 1 1) HB2.out)
  refine bodyPost_ret (v := .agg #[.int .i64 3, .int .i64 0, .string ⟨#[]⟩, .slice (some ⟨q, 0, none⟩) 1 1]) (by simp [results, Tryz.results56, go_sem, e0, e1, e2, e3]) rfl ?_
  have hqs := lt_of_block HQ.out
  have hmv : ∀ b, b < w2.heap.size → w.heap.size + 2 ≤ b → (put4 w2 (w.heap.size + 1) (.int .i64 3) (.int .i64 0) (.string ⟨#[]⟩) (.slice (some ⟨q, 0, none⟩) 1 1)).heap[b]? = w2.heap[b]? := fun b _ hb => put4_other (by omega)
  have hS : (put4 w2 (w.heap.size + 1) (.int .i64 3) (.int .i64 0) (.string ⟨#[]⟩) (.slice (some ⟨q, 0, none⟩) 1 1)).heap.size = w2.heap.size := by simp [World.setCell]
  refine ⟨.mk 3 0 ⟨#[]⟩ (some ⟨q, 0, none⟩) 1 [.mk k n s a cap zl], rfl, ?_, ?_, V.same_node (V.sameL_one HZS.out), put4_kp HK2.out (by omega)⟩
  · rw [hS]
    simp only [V.In, V.InL]
    refine ⟨by unfold I64; omega, by unfold I64; omega, by decide, Nat.le_refl _, by decide, .inr ⟨q, 0, rfl, hqs, ?_⟩, ?_, trivial⟩
    · exact At.of_block ((hmv q hqs (by omega)).trans HQ.out) rfl
    · exact V.In.move (Nat.le_refl _) hmv _ HZ2.out HZF.out
  · simp only [V.foot, V.footL]
    exact ⟨.inr ⟨q, 0, rfl, by omega⟩, V.foot.mono (fun b hb => by omega) _ HZF.out, trivial⟩

set_option maxRecDepth 100000 in
set_option maxHeartbeats 8000000 in
theorem leastR_tuple (a : Option Addr) (cap : Nat) (l : List T) (w : World) (hin : (T.mk 2 a cap l).In w w.heap.size) (hl8 : l.length ≤ 8)
    (ih : ∀ (j : Nat) (x : T), l[j]? = some x → ∀ w1 : World, x.In w1 w1.heap.size → Calls Tryz.prog 56 #[.agg #[.int .i64 x.k, .slice x.a x.l.length x.cap]] w1 (Makes w1 x.lst)) :
    Calls Tryz.prog 56 #[.agg #[.int .i64 2, .slice a l.length cap]] w (Makes w (.mk 2 0 ⟨#[]⟩ none 0 (T.lstL l))) := by
  obtain ⟨i0, hi, hz0, hz1, hz2⟩ := info_parts infoV
  have HIN := Lib.hid hin
  have IH := Lib.hid ih
  clear hin ih
  go_enter Tryz.func56, Tryz.ntmps56
  go_wp2_with fail
  refine (tuple_any _ _ _ _).mono ?_
  rintro e w1 ⟨rfl, hk1⟩
  go_wp2_with fail
  have hvz : w.heap.size + 2 ≤ w1.heap.size := by have := hk1.size; simp at this; omega
  have hkW := kk (kk (kk (ka _ _) (ka _ _)) hk1) (ka w1 (.cells #[.int .i64 2, .int .i64 0, .string ⟨#[]⟩, .slice none 0 0] 24))
  have hbox : (w1.alloc (.cells #[.int .i64 2, .int .i64 0, .string ⟨#[]⟩, .slice none 0 0] 24)).heap[w.heap.size]? = some (.cells #[.int .i64 2, .slice a l.length cap] 27 (0, 0)) := blockPast ((hk1.block _ (by simp; omega)).trans (blockPast (blockHere rfl)))
  have hres : (w1.alloc (.cells #[.int .i64 2, .int .i64 0, .string ⟨#[]⟩, .slice none 0 0] 24)).heap[w.heap.size + 1]? = some (.cells zero4 24 (0, 0)) := blockPast ((hk1.block _ (by simp)).trans (blockHere (by simp)))
  have htup : TupAt (w1.alloc (.cells #[.int .i64 2, .int .i64 0, .string ⟨#[]⟩, .slice none 0 0] 24)) w1.heap.size [] (.slice none 0 0) [] := ⟨blockHere rfl, World.ownsRow_nil _ _ _ _, rfl, trivial, trivial⟩
  generalize w1.alloc (.cells #[.int .i64 2, .int .i64 0, .string ⟨#[]⟩, .slice none 0 0] 24) = W at *
  generalize w1.heap.size = vb at *
  have HKW := Lib.hid hkW
  have HBX := Lib.hid hbox
  have HRS := Lib.hid hres
  have HTP := Lib.hid htup
  clear hk1 hkW hbox hres htup
  go_loopw [4] (fun i wr => ∃ (j : Nat) (sl : Value) (vs : List V), j ≤ l.length ∧ i = .int .i64 j ∧ TupAt wr vb (T.lstL (l.take j)) sl vs ∧ Kp w wr ∧ wr.heap[w.heap.size]? = some (.cells #[.int .i64 2, .slice a l.length cap] 27 (0, 0)) ∧ wr.heap[w.heap.size + 1]? = some (.cells zero4 24 (0, 0))) (fun i _ => l.length - (intOf i).toNat)
  case atStart => exact ⟨0, _, _, Nat.zero_le _, rfl, by simpa [T.lstL] using HTP.out, HKW.out, HBX.out, HRS.out⟩
  case round =>
    obtain ⟨j, sl, vs, hj, rfl, htp, hk, hbox, hres⟩ := hrel
    by_cases hlt : j < l.length
    · obtain ⟨x, hx⟩ : ∃ x, l[j]? = some x := ⟨l[j], by simp [hlt]⟩
      obtain ⟨p0, off, rfl, hp0, q0, q1, hxin⟩ := T.atPart HIN.out hx
      have r0 := kc hk q0
      have r1 := kc hk q1
      have b1 : wr.cell? ⟨w.heap.size, 1, none⟩ = some (.slice (some ⟨p0, off, none⟩) l.length cap) := cellOf hbox rfl
      have v3 : wr.cell? ⟨vb, 3, none⟩ = some sl := cellOf htp.box rfl
      have f3 := freeOf (i := 3) htp.box
      have hvl := htp.lt
      have hvs : vs.length ≤ 8 := by have := V.sameL_length _ _ htp.same; rw [lstL_length] at this; simp at this; omega
      have g0 : (0 : Int) ≤ (j : Int) := by omega
      have g1 : (j : Int) < (l.length : Int) := by omega
      have nb0 : some w.heap.size ≠ sl.ownBlock := fun e => by have := (htp.own.lt _ e.symm).1; omega
      have np0 : some p0 ≠ sl.ownBlock := fun e => by have := (htp.own.lt _ e.symm).1; omega
      have nb1 : some (w.heap.size + 1) ≠ sl.ownBlock := fun e => by have := (htp.own.lt _ e.symm).1; omega
      have nvb : some vb ≠ sl.ownBlock := fun e => by have := (htp.own.lt _ e.symm).1; omega
      have hih := fun (w1 : World) (h : Kp wr w1) => IH.out j x hx w1 (hxin.keep (kk hk h).size (kk hk h))
      have htk := lstL_take l j x hx
      generalize x.lst = y at *
      generalize x.k = xk at *
      generalize x.a = xa at *
      generalize x.l.length = xl at *
      generalize x.cap = xc at *
      have HIH := Lib.hid hih
      have HTK := Lib.hid htk
      have HTP2 := Lib.hid htp
      have HK := Lib.hid hk
      have HBX2 := Lib.hid hbox
      have HRS2 := Lib.hid hres
      clear hih htk htp hk hbox hres hx hxin q0 q1
      go_wp2_with fail
      go_region_law
        (first
          | (go_simp; go_at_call 56; refine (HIH.out _ kpD).mono ?_; rintro e w2 ⟨⟨zk, zn, zs, za, zc, zl⟩, rfl, hzi, hzf, hzs, hk2⟩; rw [V.val_mk]; have hsz2 := hk2.size; simp only [World.drew_size] at hsz2; have HB2 := Lib.hid ((hk2.block vb hvl).trans HTP2.out.box); have v3c : w2.cell? ⟨vb, 3, none⟩ = some sl := cellOf HB2.out rfl; have v3d : (w2.alloc (.cells #[.int .i64 zk, .int .i64 zn, .string zs, .slice za zl.length zc] 24)).cell? ⟨vb, 3, none⟩ = some sl := past v3c; dsimp only)
          | (refine step_append_lies _ (by rfl) _ _ _ (by rfl) (vb + 1) 24 i0 _ 4 56 Tryz.underlying22 hi hz0 hz1 hz2 rfl (by omega) sl vs.length (cellsL vs) (by rfl) ((ownsRow_kp HTP2.out.own (kk kpD hk2)).alloc _)
              ⟨w2.heap.size, 0, none⟩ 1 1 [.int .i64 zk, .int .i64 zn, .string zs, .slice za zl.length zc] (by rfl) (by rfl) (World.news_of_block (cs := #[.int .i64 zk, .int .i64 zn, .string zs, .slice za zl.length zc]) (t := 24) (fr := (0, 0)) (heap_alloc_new w2 _)) (by simp [Value.oneCell'])
              (by omega) (by unfold maxLen; omega) (by omega) (by have := hk2.size; simp at this ⊢; omega) (w2.heap.size + 1) (by simp) ?_; intro gg gcap w3 hown1 hgrow hat hltg; have HB3 := Lib.hid ((hgrow.block vb (by simp; omega) nvb).trans (blockPast HB2.out)); have v3e : w3.cell? ⟨vb, 3, none⟩ = some sl := cellOf HB3.out rfl; have f3e : w3.frozen? ⟨vb, 3, none⟩ = false := freeOf HB3.out))
      all_goals
        have hkz := kk (kpD (w := wr)) hk2
        have HST := Lib.hid (HTP2.out.step hkz hzi hzf hzs (ka _ _) hown1 hgrow (by simpa using hat))
        have HK3 := Lib.hid (put1_kp (i := 3) (v := .slice (some ⟨gg, 0, none⟩) (vs.length + 1) gcap) (kp_grown (kk (kk HK.out hkz) (ka _ _)) hgrow (fun k e => by have := (HTP2.out.own.lt k e).1; omega)) (by omega : w.heap.size ≤ vb))
        have HB4 := Lib.hid (step_block (i := 3) (u := .slice (some ⟨gg, 0, none⟩) (vs.length + 1) gcap) hkz (ka _ _) hgrow nb0 (by omega : w.heap.size ≠ vb) HBX2.out)
        have HR4 := Lib.hid (step_block (i := 3) (u := .slice (some ⟨gg, 0, none⟩) (vs.length + 1) gcap) hkz (ka _ _) hgrow nb1 (by omega : w.heap.size + 1 ≠ vb) HRS2.out)
        clear hzi hzf hzs hk2 hkz hown1 hgrow hat v3c v3d v3e f3e v3 f3 b1 r0 r1
        go_wp2_with fail
        go_roundw
        case rel => exact ⟨j + 1, _, _, by omega, by first | go_num | simp, by rw [HTK.out]; exact HST.out, HK3.out, HB4.out, HR4.out⟩
        case measure => simp [intOf]; omega
    · have hjj : j = l.length := by omega
      subst hjj
      have b1 : wr.cell? ⟨w.heap.size, 1, none⟩ = some (.slice a l.length cap) := cellOf hbox rfl
      obtain ⟨a', cap', rfl, hvin, hvft⟩ := htp.value
      have hsm := htp.same
      rw [List.take_of_length_le (Nat.le_refl _)] at hsm
      obtain ⟨d0, d1, d2, d3, f0, f1, f2, f3⟩ := cell4 hres
      obtain ⟨c0, c1, c2, c3, -⟩ := cell4 htp.box
      have hvl := htp.lt
      have HK := Lib.hid hk
      have HRS2 := Lib.hid hres
      have HVI := Lib.hid hvin
      have HVF := Lib.hid hvft
      have HSM := Lib.hid hsm
      clear htp hk hbox hres hvin hvft hsm
      go_wp2_with fail
      obtain ⟨e0, e1, e2, e3, -⟩ := cell4 (put4_block (v0 := .int .i64 2) (v1 := .int .i64 0) (v2 := .string ⟨#[]⟩) (v3 := .slice a' vs.length cap') HRS2.out)
      refine bodyPost_ret (v := .agg #[.int .i64 2, .int .i64 0, .string ⟨#[]⟩, .slice a' vs.length cap']) (by simp [results, Tryz.results56, go_sem, e0, e1, e2, e3]) rfl ?_
      have hS : (put4 wr (w.heap.size + 1) (.int .i64 2) (.int .i64 0) (.string ⟨#[]⟩) (.slice a' vs.length cap')).heap.size = wr.heap.size := by simp [World.setCell]
      refine ⟨.mk 2 0 ⟨#[]⟩ a' cap' vs, rfl, ?_, V.foot.mono (fun b hb => by omega) _ HVF.out, V.same_node HSM.out, put4_kp HK.out (by omega)⟩
      rw [hS]
      exact V.In.move (Nat.le_refl _) (fun b _ hb => put4_other (by omega)) _ HVI.out HVF.out

set_option maxHeartbeats 1000000 in
theorem leastR : ∀ (N : Nat) (t : T) (d : Nat) (w : World), t.rank ≤ N → t.sh d = true → t.In w w.heap.size →
    Calls Tryz.prog 56 #[.agg #[.int .i64 t.k, .slice t.a t.l.length t.cap]] w (Makes w t.lst) := by
  intro N
  induction N with
  | zero => intro t d w h; have := t.rank_pos; omega
  | succ N ih =>
    intro t d w hN ht hin
    cases t with
    | mk k a cap l =>
    cases d with
    | zero => simp [T.sh] at ht
    | succ d =>
    simp [T.sh] at ht
    obtain ⟨hf, hp⟩ := ht
    have hih : ∀ (j : Nat) (x : T), l[j]? = some x → ∀ w1 : World, x.In w1 w1.heap.size → Calls Tryz.prog 56 #[.agg #[.int .i64 x.k, .slice x.a x.l.length x.cap]] w1 (Makes w1 x.lst) := fun j x hx w1 h1 =>
      ih x d w1 (by have := T.rank_part (v := .mk k a cap l) (j := j) (x := x) hx; omega) (shLT_at hp hx) h1
    show Calls Tryz.prog 56 #[.agg #[.int .i64 k, .slice a l.length cap]] w _
    by_cases h0 : k = 0
    · subst h0; simp [T.lst]; exact leastR_int w a l.length cap
    by_cases h1 : k = 1
    · subst h1; simp [T.lst]; exact leastR_text w a l.length cap
    by_cases h2 : k = 2
    · subst h2; simp [T.lst]
      exact leastR_tuple a cap l w hin (by simp [fitsT] at hf; exact hf) hih
    by_cases h3 : k = 3
    · subst h3
      have hl : 0 < l.length := by simp [fitsT] at hf; exact hf.1
      cases l with
      | nil => simp at hl
      | cons x xs =>
        simp [T.lst, T.lstH]
        obtain ⟨p0, off, rfl, hp0, q0, q1, hxin⟩ := T.atPart hin (j := 0) (x := x) rfl
        exact leastR_sum p0 off xs.length cap x w (by simpa using q0) (by simpa using q1) hxin (fun w1 h1 => hih 0 x rfl w1 h1)
    · simp [fitsT, h0, h1, h2, h3] at hf

end Go.Proofs.YtkfmgafgokpjhaaGreatDoor

/-
  Made: A VALUE OF A TYPE, THAT NUMBERS MAKE.
-/
namespace Go.Proofs.YtkfmgafgokpjhaaGreatDoor
open Go.RowKit

/-- A value of this type, no deeper and with no more values than the type has types; the place goes on by as many at the most. -/
def MadeVal (t : T) (at_ : Int) (x : V) (c : Int) : Prop := x.is t = true ∧ (∀ d, t.sh d = true → x.sh d = true) ∧ x.rank ≤ t.rank ∧ at_ ≤ c ∧ c ≤ at_ + (t.rank : Int)

set_option maxRecDepth 100000 in
set_option maxHeartbeats 4000000 in
theorem made_int (ta : Option Addr) (tl tc : Nat) (a : Option Addr) (cap : Nat) (l : List Int) (at_ : Int) (w : World) (hin : Ints w w.heap.size a cap l) (h0 : 0 ≤ at_) (h1 : at_ ≤ 2000000000) :
    Calls Tryz.prog 84 #[.agg #[.int .i64 0, .slice ta tl tc], .slice a l.length cap, .int .i64 at_] w
      (MakesV w fun x c => (∃ n, x = .mk 0 n ⟨#[]⟩ none 0 [] ∧ -2 ≤ n ∧ n ≤ 6) ∧ c = at_ + 1) := by
  have N := fun (w1 : World) (h : Kp w w1) => nth_any a cap l at_ w1 (hin.keep h.size h) (by unfold I64; omega)
  obtain ⟨hr0, hr1⟩ := turnI_range (n := nthI l at_) (m := 9) (by omega)
  generalize nthI l at_ = m at *
  have Q := fun (w1 : World) (h : I64 m) => turn_any m 9 w1 h (by unfold I64; omega)
  generalize turnI m 9 = q at *
  have HN := Lib.hid N
  have HQ := Lib.hid Q
  clear N Q hin
  go_enter Tryz.func84, Tryz.ntmps84
  go_wp2_with fail
  refine (HN.out _ (kk (ka _ _) (ka _ _))).mono ?_
  rintro e w1 ⟨rfl, rfl, hI⟩
  have HI := Lib.hid hI
  clear hI
  go_wp2_with fail
  refine (HQ.out _ HI.out).mono ?_
  rintro e w1 ⟨rfl, rfl⟩
  go_wp2_with fail
  refine (int_any _ _).mono ?_
  rintro e w1 ⟨rfl, hk⟩
  have hres : w1.heap[w.heap.size + 1]? = some (.cells zero4 24 (0, 0)) := (hk.block _ (by simp)).trans (blockHere (by simp))
  obtain ⟨d0, d1, d2, d3, f0, f1, f2, f3⟩ := cell4 hres
  have HRS := Lib.hid hres
  have HK := Lib.hid (kk (kk (ka _ _) (ka _ _)) hk)
  clear hk hres
  go_wp2_with fail
  obtain ⟨e0, e1, e2, e3, -⟩ := cell4 (put4_block (v0 := .int .i64 0) (v1 := .int .i64 (q - 2)) (v2 := .string ⟨#[]⟩) (v3 := .slice none 0 0) HRS.out)
  refine bodyPost_ret (v := .tuple #[.agg #[.int .i64 0, .int .i64 (q - 2), .string ⟨#[]⟩, .slice none 0 0], .int .i64 (at_ + 1)]) (by simp [results, Tryz.results84, go_sem, e0, e1, e2, e3]) rfl ?_
  exact ⟨.mk 0 (q - 2) ⟨#[]⟩ none 0 [], _, rfl, inLeaf _ _ _ (by unfold I64; omega) (by unfold I64; omega) (by unfold maxLen; decide), V.foot_leaf _ _ _ _ _, ⟨⟨_, rfl, by omega, by omega⟩, rfl⟩, put4_kp HK.out (by omega)⟩

theorem chars_app {a b : ByteArray} (h : charsB a = true) (h' : charsB b = true) : charsB (a ++ b) = true := by
  unfold charsB at *
  rw [ByteArray.data_append, Array.toList_append, List.all_append, h, h']
  rfl

set_option maxRecDepth 100000 in
set_option maxHeartbeats 4000000 in
theorem made_text (ta : Option Addr) (tl tc : Nat) (a : Option Addr) (cap : Nat) (l : List Int) (at_ : Int) (w : World) (hin : Ints w w.heap.size a cap l) (h0 : 0 ≤ at_) (h1 : at_ ≤ 2000000000) :
    Calls Tryz.prog 84 #[.agg #[.int .i64 1, .slice ta tl tc], .slice a l.length cap, .int .i64 at_] w
      (MakesV w fun x c => (∃ s : ByteArray, x = .mk 1 0 s none 0 [] ∧ s.size ≤ 3 ∧ charsB s = true) ∧ c = at_ + 1) := by
  have N := fun (w1 : World) (h : Kp w w1) => nth_any a cap l at_ w1 (hin.keep h.size h) (by unfold I64; omega)
  obtain ⟨hr0, hr1⟩ := turnI_range (n := nthI l at_) (m := 4) (by omega)
  generalize nthI l at_ = m at *
  have Q := fun (w1 : World) (h : I64 m) => turn_any m 4 w1 h (by unfold I64; omega)
  generalize turnI m 4 = q at *
  have HN := Lib.hid N
  have HQ := Lib.hid Q
  clear N Q hin
  go_enter Tryz.func84, Tryz.ntmps84
  go_wp2_with fail
  refine (HN.out _ (kk (ka _ _) (ka _ _))).mono ?_
  rintro e w1 ⟨rfl, rfl, hI⟩
  have HI := Lib.hid hI
  clear hI
  go_wp2_with fail
  refine (HQ.out _ HI.out).mono ?_
  rintro e w1 ⟨rfl, rfl⟩
  go_wp2_with fail
  go_loop [8, 9, 10] (fun nn s i => ∃ (n : Int) (b : ByteArray) (j : Nat), I64 n ∧ j ≤ 3 ∧ b.size + j ≤ 3 ∧ charsB b = true ∧ nn = .int .i64 n ∧ s = .string b ∧ i = .int .i64 j) (fun _ _ i => (intOf i).toNat)
  case atStart => exact ⟨m, ⟨#[]⟩, q.toNat, HI.out, by omega, by show 0 + q.toNat ≤ 3; omega, rfl, rfl, rfl, by rw [Int.toNat_of_nonneg hr0]⟩
  case round =>
    obtain ⟨n, b, j, hn, hj, hbj, hch, rfl, rfl, rfl⟩ := hrel
    by_cases hlt : 0 < j
    · have hW64 : I64 (wrap64 (n.tdiv 4)) := by unfold I64 wrap64; omega
      go_wp2_with fail
      generalize wrap64 (n.tdiv 4) = n2 at *
      obtain ⟨hq0, hq1⟩ := turnI_range (n := n2) (m := 3) (by omega)
      refine (turn_any n2 3 _ hW64 (by unfold I64; omega)).mono ?_
      rintro e w1 ⟨rfl, rfl⟩
      generalize turnI n2 3 = q2 at *
      have HW := Lib.hid hW64
      have HC := Lib.hid hch
      have HN2 := Lib.hid hn
      clear hW64 hch hn
      obtain rfl | rfl | rfl : q2 = 0 ∨ q2 = 1 ∨ q2 = 2 := by omega
      · have e1 : (Utf8.encode 97).size = 1 := by decide
        have e2 : (b ++ Utf8.encode 97).size = b.size + 1 := by rw [ByteArray.size_append, e1]
        have e3 : charsB (b ++ Utf8.encode 97) = true := chars_app HC.out (by decide)
        have z1 : b.size + (Utf8.encode 97).size ≤ 9223372036854775807 := by omega
        have z2 : (b ++ Utf8.encode 97).size ≤ 9223372036854775807 := by omega
        have E2 := Lib.hid e2
        have E3 := Lib.hid e3
        clear e1 e2 e3
        go_wp2_with fail
        go_round
        case rel => exact ⟨n2, _, j - 1, HW.out, by omega, by rw [E2.out]; omega, E3.out, rfl, rfl, by first | rfl | (rw [show ((j - 1 : Nat) : Int) = (j : Int) - 1 from by omega])⟩
        case measure => simp [intOf]; omega
      · have e1 : (Utf8.encode 98).size = 1 := by decide
        have e2 : (b ++ Utf8.encode 98).size = b.size + 1 := by rw [ByteArray.size_append, e1]
        have e3 : charsB (b ++ Utf8.encode 98) = true := chars_app HC.out (by decide)
        have z1 : b.size + (Utf8.encode 98).size ≤ 9223372036854775807 := by omega
        have z2 : (b ++ Utf8.encode 98).size ≤ 9223372036854775807 := by omega
        have E2 := Lib.hid e2
        have E3 := Lib.hid e3
        clear e1 e2 e3
        go_wp2_with fail
        go_round
        case rel => exact ⟨n2, _, j - 1, HW.out, by omega, by rw [E2.out]; omega, E3.out, rfl, rfl, by first | rfl | (rw [show ((j - 1 : Nat) : Int) = (j : Int) - 1 from by omega])⟩
        case measure => simp [intOf]; omega
      · have e1 : (Utf8.encode 99).size = 1 := by decide
        have e2 : (b ++ Utf8.encode 99).size = b.size + 1 := by rw [ByteArray.size_append, e1]
        have e3 : charsB (b ++ Utf8.encode 99) = true := chars_app HC.out (by decide)
        have z1 : b.size + (Utf8.encode 99).size ≤ 9223372036854775807 := by omega
        have z2 : (b ++ Utf8.encode 99).size ≤ 9223372036854775807 := by omega
        have E2 := Lib.hid e2
        have E3 := Lib.hid e3
        clear e1 e2 e3
        go_wp2_with fail
        go_round
        case rel => exact ⟨n2, _, j - 1, HW.out, by omega, by rw [E2.out]; omega, E3.out, rfl, rfl, by first | rfl | (rw [show ((j - 1 : Nat) : Int) = (j : Int) - 1 from by omega])⟩
        case measure => simp [intOf]; omega
    · have hj0 : j = 0 := by omega
      subst hj0
      go_wp2_with fail
      refine (text_any _ _).mono ?_
      rintro e w1 ⟨rfl, hk⟩
      have hres : w1.heap[w.heap.size + 1]? = some (.cells zero4 24 (0, 0)) := (hk.block _ (by simp)).trans (blockHere (by simp))
      obtain ⟨d0, d1, d2, d3, f0, f1, f2, f3⟩ := cell4 hres
      have HRS := Lib.hid hres
      have HK := Lib.hid (kk (kk (ka _ _) (ka _ _)) hk)
      clear hk hres
      go_wp2_with fail
      obtain ⟨e0, e1, e2, e3, -⟩ := cell4 (put4_block (v0 := .int .i64 1) (v1 := .int .i64 0) (v2 := .string b) (v3 := .slice none 0 0) HRS.out)
      refine bodyPost_ret (v := .tuple #[.agg #[.int .i64 1, .int .i64 0, .string b, .slice none 0 0], .int .i64 (at_ + 1)]) (by simp [results, Tryz.results84, go_sem, e0, e1, e2, e3]) rfl ?_
      exact ⟨.mk 1 0 b none 0 [], _, rfl, inLeaf _ _ _ (by unfold I64; omega) (by unfold I64; omega) (by unfold maxLen; omega), V.foot_leaf _ _ _ _ _, ⟨⟨_, rfl, by omega, hch⟩, rfl⟩, put4_kp HK.out (by omega)⟩
    
set_option maxRecDepth 100000 in
set_option maxHeartbeats 4000000 in
theorem made_sum (ta : Option Addr) (tcap : Nat) (tl : List T) (a : Option Addr) (cap : Nat) (l : List Int) (at_ : Int) (w : World) (ht : (T.mk 3 ta tcap tl).In w w.heap.size) (hl : 0 < tl.length ∧ tl.length ≤ 8) (hin : Ints w w.heap.size a cap l) (h0 : 0 ≤ at_) (h1 : at_ ≤ 2000000000)
    (ih : ∀ (j : Nat) (x : T), tl[j]? = some x → ∀ w1 : World, x.In w1 w1.heap.size → Ints w1 w1.heap.size a cap l → Calls Tryz.prog 84 #[.agg #[.int .i64 x.k, .slice x.a x.l.length x.cap], .slice a l.length cap, .int .i64 (at_ + 1)] w1 (MakesV w1 (MadeVal x (at_ + 1)))) :
    Calls Tryz.prog 84 #[.agg #[.int .i64 3, .slice ta tl.length tcap], .slice a l.length cap, .int .i64 at_] w
      (MakesV w fun x c => ∃ (j : Nat) (u : T) (qa : Option Addr) (z : V), tl[j]? = some u ∧ x = .mk 3 j ⟨#[]⟩ qa 1 [z] ∧ MadeVal u (at_ + 1) z c) := by
  have N := fun (w1 : World) (h : Kp w w1) => nth_any a cap l at_ w1 (hin.keep h.size h) (by unfold I64; omega)
  obtain ⟨hr0, hr1⟩ := turnI_range (n := nthI l at_) (m := (tl.length : Int)) (by omega)
  generalize nthI l at_ = m at *
  have Q := fun (w1 : World) (h : I64 m) => turn_any m tl.length w1 h (by unfold I64; omega)
  generalize turnI m tl.length = q at *
  obtain ⟨j, rfl⟩ := Int.eq_ofNat_of_zero_le hr0
  have hj : j < tl.length := by omega
  obtain ⟨x, hx⟩ : ∃ x, tl[j]? = some x := ⟨tl[j], by simp [hj]⟩
  obtain ⟨p0, off, rfl, hp0, q0, q1, hxin⟩ := T.atPart ht hx
  have hih := fun (w1 : World) (h : Kp w w1) => ih j x hx w1 (hxin.keep h.size h) (hin.keep h.size h)
  have HX := Lib.hid hx
  generalize hxk : x.k = xk at *
  generalize hxa : x.a = xa at *
  generalize hxl : x.l.length = xl at *
  generalize hxc : x.cap = xc at *
  have HN := Lib.hid N
  have HQ := Lib.hid Q
  have HIH := Lib.hid hih
  clear N Q hin hih ih hx hxk hxa hxl hxc ht hxin
  go_enter Tryz.func84, Tryz.ntmps84
  go_wp2_with fail
  refine (HN.out _ (kk (ka _ _) (ka _ _))).mono ?_
  rintro e w1 ⟨rfl, rfl, hI⟩
  have HI := Lib.hid hI
  clear hI
  go_wp2_with fail
  refine (HQ.out _ HI.out).mono ?_
  rintro e w1 ⟨rfl, rfl⟩
  go_wp2_with fail
  refine (HIH.out _ (kk (ka _ _) (ka _ _))).mono ?_
  rintro e w1 ⟨⟨zk, zn, zs, za, zc, zl⟩, c, rfl, hzi, hzf, hP, hk1⟩
  rw [V.val_mk]
  have hz1 := hk1.size
  simp at hz1
  have hblk : w1.heap[w.heap.size + 1]? = some (.cells zero4 24 (0, 0)) := (hk1.block _ (by simp)).trans (blockHere (by simp))
  have HB := Lib.hid hblk
  have HK1 := Lib.hid (kk (kk (ka _ _) (ka _ _)) hk1)
  have hzf2 : (V.mk zk zn zs za zc zl).foot (fun b => w.heap.size + 2 ≤ b) := V.foot.mono (fun b hb => by simp at hb; omega) _ hzf
  have HZI := Lib.hid hzi
  have HZF := Lib.hid hzf2
  have HP := Lib.hid hP
  clear hk1 hblk hzi hzf hzf2 hP q0 q1
  go_wp2_with fail
  refine (tag_any _ _ _ _ _ _ _ _).mono ?_
  rintro e w2 ⟨r, rfl, hqb, hq, hk2⟩
  have hka := ka w1 (.cells #[.int .i64 zk, .int .i64 zn, .string zs, .slice za zl.length zc] 24)
  have hk12 := kk hka hk2
  have hz2 := hka.size
  have hblk := (hk12.block _ (lt_of_block HB.out)).trans HB.out
  obtain ⟨d0, d1, d2, d3, g0, g1, g2, g3⟩ := cell4 hblk
  have HB2 := Lib.hid hblk
  have HK2 := Lib.hid (kk HK1.out hk12)
  have HR := Lib.hid hqb
  have HZ2 := Lib.hid (HZI.out.keep hk12.size hk12)
  clear hk2 hk12 hka hblk hqb
  go_wp2_with fail
  obtain ⟨e0, e1, e2, e3, -⟩ := cell4 (put4_block (v0 := .int .i64 3) (v1 := .int .i64 j) (v2 := .string ⟨#[]⟩) (v3 := .slice (some ⟨r, 0, none⟩) 1 1) HB2.out)
  refine bodyPost_ret (v := .tuple #[.agg #[.int .i64 3, .int .i64 j, .string ⟨#[]⟩, .slice (some ⟨r, 0, none⟩) 1 1], .int .i64 c]) (by simp [results, Tryz.results84, go_sem, e0, e1, e2, e3]) rfl ?_
  have hqs := lt_of_block HR.out
  have hmv : ∀ b, b < w2.heap.size → w.heap.size + 2 ≤ b → (put4 w2 (w.heap.size + 1) (.int .i64 3) (.int .i64 j) (.string ⟨#[]⟩) (.slice (some ⟨r, 0, none⟩) 1 1)).heap[b]? = w2.heap[b]? := fun b _ hb => put4_other (by omega)
  have hS : (put4 w2 (w.heap.size + 1) (.int .i64 3) (.int .i64 j) (.string ⟨#[]⟩) (.slice (some ⟨r, 0, none⟩) 1 1)).heap.size = w2.heap.size := by simp [World.setCell]
  refine ⟨.mk 3 j ⟨#[]⟩ (some ⟨r, 0, none⟩) 1 [.mk zk zn zs za zc zl], c, rfl, ?_, ?_, ⟨j, x, _, _, HX.out, rfl, HP.out⟩, put4_kp HK2.out (by omega)⟩
  · rw [hS]
    simp only [V.In, V.InL]
    refine ⟨by unfold I64; omega, by unfold I64; omega, by decide, Nat.le_refl _, by decide, .inr ⟨r, 0, rfl, hqs, ?_⟩, ?_, trivial⟩
    · exact At.of_block ((hmv r hqs (by omega)).trans HR.out) rfl
    · exact V.In.move (Nat.le_refl _) hmv _ HZ2.out HZF.out
  · simp only [V.foot, V.footL]
    exact ⟨.inr ⟨r, 0, rfl, by omega⟩, V.foot.mono (fun b hb => by omega) _ HZF.out, trivial⟩

end Go.Proofs.YtkfmgafgokpjhaaGreatDoor

/-
  Made OF A TUPLE; OF ANY VALID TYPE.
-/
namespace Go.Proofs.YtkfmgafgokpjhaaGreatDoor
open Go.RowKit

/-- The parts made so far: each of its type. -/
def Parts (tl : List T) (vs : List V) : Prop := ∀ (i : Nat) (x : V) (u : T), vs[i]? = some x → tl[i]? = some u → x.is u = true ∧ (∀ d, u.sh d = true → x.sh d = true)

theorem Parts.snoc {tl : List T} {vs : List V} {x : V} {u : T} (h : Parts tl vs) (hu : tl[vs.length]? = some u) (hx : x.is u = true ∧ (∀ d, u.sh d = true → x.sh d = true)) : Parts tl (vs ++ [x]) := by
  intro i y u' hy hu'
  by_cases hi : i < vs.length
  · rw [List.getElem?_append_left hi] at hy
    exact h i y u' hy hu'
  · rw [List.getElem?_append_right (by omega)] at hy
    have : i = vs.length := by
      have := (List.getElem?_eq_some_iff.1 hy).1
      simp at this; omega
    subst this
    simp at hy
    subst hy
    rw [hu] at hu'
    cases hu'
    exact hx

theorem ranksV_snoc (l : List V) (x : V) : V.rank.ranks (l ++ [x]) = V.rank.ranks l + x.rank := by
  induction l with
  | nil => simp [V.rank.ranks]
  | cons y ys ih => simp [V.rank.ranks, ih]; omega

theorem isL_of {t : T} : ∀ (vs : List V) (i : Nat), (∀ (j : Nat) (x : V), vs[j]? = some x → ∃ u, t.l[i + j]? = some u ∧ x.is u = true) → V.isL 2 0 t vs i = true
  | [], _, _ => by simp [V.isL]
  | y :: ys, i, h => by
    obtain ⟨u, hu, hy⟩ := h 0 y rfl
    simp only [V.isL]
    have h2 : ¬ (2 : Int) = 3 := by decide
    simp only [h2, if_false]
    rw [Nat.add_zero] at hu
    rw [hu]
    simp only [hy, Bool.true_and]
    exact isL_of ys (i + 1) (fun j x hj => by
      obtain ⟨u, hu, hx⟩ := h (j + 1) x (by simpa using hj)
      exact ⟨u, by rw [← hu]; congr 1; omega, hx⟩)

theorem shLV_of {d : Nat} : ∀ (vs : List V), (∀ (j : Nat) (x : V), vs[j]? = some x → x.sh d = true) → V.shL vs d = true
  | [], _ => by simp [V.shL]
  | y :: ys, h => by
    simp only [V.shL, h 0 y rfl, Bool.true_and]
    exact shLV_of ys (fun j x hj => h (j + 1) x (by simpa using hj))

theorem madeVal_tuple {ta a' : Option Addr} {tcap cap' : Nat} {tl : List T} {vs : List V} (hlen : vs.length = tl.length) (h : Parts tl vs) (hr : V.rank.ranks vs ≤ T.rank.ranks tl) {at_ c : Int} (h1 : at_ + 1 ≤ c) (h2 : c ≤ at_ + 1 + (T.rank.ranks tl : Int)) :
    MadeVal (.mk 2 ta tcap tl) at_ (.mk 2 0 ⟨#[]⟩ a' cap' vs) c := by
  have hg : ∀ (j : Nat) (x : V), vs[j]? = some x → ∃ u, tl[j]? = some u := fun j x hj => by
    have := (List.getElem?_eq_some_iff.1 hj).1
    exact ⟨tl[j], by simp [hlen ▸ this]⟩
  refine ⟨?_, fun d hd => ?_, by simp [V.rank, T.rank]; exact hr, by omega, by simp [T.rank]; omega⟩
  · have hi : V.isL 2 0 (.mk 2 ta tcap tl) vs 0 = true := isL_of vs 0 (fun j x hj => by
      obtain ⟨u, hu⟩ := hg j x hj
      exact ⟨u, by simpa [T.l] using hu, (h j x u hj hu).1⟩)
    simp [V.is, okB, kindI, T.k, T.l, hlen, hi]
  · cases d with
    | zero => simp [T.sh] at hd
    | succ d =>
      simp [T.sh] at hd
      obtain ⟨hf, hs⟩ := hd
      have hs' : V.shL vs d = true := shLV_of vs (fun j x hj => by
        obtain ⟨u, hu⟩ := hg j x hj
        exact (h j x u hj hu).2 d (shLT_at hs hu))
      have h8 : tl.length ≤ 8 := fitsT_len hf
      simp [V.sh, fitsB, tupleB, hs', hlen, h8]

theorem madeVal_sum {ta qa : Option Addr} {tcap : Nat} {tl : List T} {j : Nat} {u : T} {z : V} (hu : tl[j]? = some u) (hl : tl.length ≤ 8) {at_ c : Int} (h : MadeVal u (at_ + 1) z c) : MadeVal (.mk 3 ta tcap tl) at_ (.mk 3 j ⟨#[]⟩ qa 1 [z]) c := by
  have hj := (List.getElem?_eq_some_iff.1 hu).1
  obtain ⟨h1, h2, h3, h4, h5⟩ := h
  have hm := T.ranks_mem hu
  refine ⟨?_, fun d hd => ?_, by simp [V.rank, V.rank.ranks, T.rank]; omega, by omega, by simp [T.rank]; omega⟩
  · have : ¬ ((tl.length : Int) ≤ (j : Int)) := by omega
    simp [V.is, okB, kindI, T.k, T.l, V.isL, hu, h1, this]
  · cases d with
    | zero => simp [T.sh] at hd
    | succ d =>
      simp [T.sh] at hd
      have hz := h2 d (shLT_at hd.2 hu)
      have h8 : (j : Int) < 8 := by omega
      simp [V.sh, V.shL, fitsB, taggedB, hz, h8]

theorem madeVal_int (ta : Option Addr) (tcap : Nat) (at_ n : Int) (h : -2 ≤ n ∧ n ≤ 6) : MadeVal (.mk 0 ta tcap []) at_ (.mk 0 n ⟨#[]⟩ none 0 []) (at_ + 1) := by
  refine ⟨by simp [V.is, okB, kindI, T.k, V.isL], fun d hd => ?_, by simp [V.rank, V.rank.ranks, T.rank, T.rank.ranks], by omega, by simp [T.rank, T.rank.ranks]⟩
  cases d with
  | zero => simp [T.sh] at hd
  | succ d =>
    have h1 : -2147483648 ≤ n := by omega
    have h2 : n ≤ 2147483647 := by omega
    simp [V.sh, V.shL, fitsB, wordB, h1, h2]

theorem madeVal_text (ta : Option Addr) (tcap : Nat) (at_ : Int) (s : ByteArray) (h : s.size ≤ 3 ∧ charsB s = true) : MadeVal (.mk 1 ta tcap []) at_ (.mk 1 0 s none 0 []) (at_ + 1) := by
  refine ⟨by simp [V.is, okB, kindI, T.k, V.isL], fun d hd => ?_, by simp [V.rank, V.rank.ranks, T.rank, T.rank.ranks], by omega, by simp [T.rank, T.rank.ranks]⟩
  cases d with
  | zero => simp [T.sh] at hd
  | succ d =>
    have h1 : s.size ≤ 100 := by omega
    simp [V.sh, V.shL, fitsB, textB, h1, h.2]

end Go.Proofs.YtkfmgafgokpjhaaGreatDoor

/-
  Made OF A TUPLE, WALKED; Made OF ANY VALID TYPE.
-/
namespace Go.Proofs.YtkfmgafgokpjhaaGreatDoor
open Go.RowKit

set_option maxRecDepth 100000 in
set_option maxHeartbeats 8000000 in
theorem made_tuple (ta : Option Addr) (tcap : Nat) (tl : List T) (a : Option Addr) (cap : Nat) (l : List Int) (at_ : Int) (w : World) (ht : (T.mk 2 ta tcap tl).In w w.heap.size) (hl8 : tl.length ≤ 8) (hin : Ints w w.heap.size a cap l) (h0 : 0 ≤ at_) (h1 : at_ + 1 + (T.rank.ranks tl : Int) ≤ 2000000000)
    (ih : ∀ (j : Nat) (x : T), tl[j]? = some x → ∀ (at' : Int) (w1 : World), 0 ≤ at' → at' + (x.rank : Int) ≤ 2000000000 → x.In w1 w1.heap.size → Ints w1 w1.heap.size a cap l → Calls Tryz.prog 84 #[.agg #[.int .i64 x.k, .slice x.a x.l.length x.cap], .slice a l.length cap, .int .i64 at'] w1 (MakesV w1 (MadeVal x at'))) :
    Calls Tryz.prog 84 #[.agg #[.int .i64 2, .slice ta tl.length tcap], .slice a l.length cap, .int .i64 at_] w
      (MakesV w (MadeVal (.mk 2 ta tcap tl) at_)) := by
  obtain ⟨i0, hi, hz0, hz1, hz2⟩ := info_parts infoV
  have N := fun (w1 : World) (h : Kp w w1) => nth_any a cap l at_ w1 (hin.keep h.size h) (by unfold I64; omega)
  generalize nthI l at_ = m at *
  have HN := Lib.hid N
  have HT := Lib.hid ht
  have HIN := Lib.hid hin
  have IH := Lib.hid ih
  clear N ht hin ih
  go_enter Tryz.func84, Tryz.ntmps84
  go_wp2_with fail
  refine (HN.out _ (kk (ka _ _) (ka _ _))).mono ?_
  rintro e w1 ⟨rfl, rfl, hI⟩
  clear hI
  go_wp2_with fail
  refine (tuple_any _ _ _ _).mono ?_
  rintro e w1 ⟨rfl, hk1⟩
  go_wp2_with fail
  have hvz : w.heap.size + 2 ≤ w1.heap.size := by have := hk1.size; simp at this; omega
  have hkW := kk (kk (kk (ka _ _) (ka _ _)) hk1) (ka w1 (.cells #[.int .i64 2, .int .i64 0, .string ⟨#[]⟩, .slice none 0 0] 24))
  have hbox : (w1.alloc (.cells #[.int .i64 2, .int .i64 0, .string ⟨#[]⟩, .slice none 0 0] 24)).heap[w.heap.size]? = some (.cells #[.int .i64 2, .slice ta tl.length tcap] 27 (0, 0)) := blockPast ((hk1.block _ (by simp; omega)).trans (blockPast (blockHere rfl)))
  have hres : (w1.alloc (.cells #[.int .i64 2, .int .i64 0, .string ⟨#[]⟩, .slice none 0 0] 24)).heap[w.heap.size + 1]? = some (.cells zero4 24 (0, 0)) := blockPast ((hk1.block _ (by simp)).trans (blockHere (by simp)))
  have htup : TupAt (w1.alloc (.cells #[.int .i64 2, .int .i64 0, .string ⟨#[]⟩, .slice none 0 0] 24)) w1.heap.size [] (.slice none 0 0) [] := ⟨blockHere rfl, World.ownsRow_nil _ _ _ _, rfl, trivial, trivial⟩
  generalize w1.alloc (.cells #[.int .i64 2, .int .i64 0, .string ⟨#[]⟩, .slice none 0 0] 24) = W at *
  generalize w1.heap.size = vb at *
  have HKW := Lib.hid hkW
  have HBX := Lib.hid hbox
  have HRS := Lib.hid hres
  have HTP := Lib.hid htup
  clear hk1 hkW hbox hres htup
  go_loopw [2, 15] (fun ac i wr => ∃ (j : Nat) (sl : Value) (vs : List V) (c : Int), j ≤ tl.length ∧ ac = .int .i64 c ∧ i = .int .i64 j ∧ vs.length = j ∧ Parts tl vs ∧ V.rank.ranks vs ≤ T.rank.ranks (tl.take j) ∧ at_ + 1 ≤ c ∧ c ≤ at_ + 1 + (T.rank.ranks (tl.take j) : Int) ∧ TupAt wr vb vs sl vs ∧ Kp w wr ∧ wr.heap[w.heap.size]? = some (.cells #[.int .i64 2, .slice ta tl.length tcap] 27 (0, 0)) ∧ wr.heap[w.heap.size + 1]? = some (.cells zero4 24 (0, 0))) (fun _ i _ => tl.length - (intOf i).toNat)
  case atStart => exact ⟨0, _, [], at_ + 1, Nat.zero_le _, rfl, rfl, rfl, (fun i x u h _ => by simp at h), by simp [V.rank.ranks], by omega, by omega, HTP.out, HKW.out, HBX.out, HRS.out⟩
  case round =>
    obtain ⟨j, sl, vs, c, hj, rfl, rfl, hvl, hpt, hrk, hc1, hc2, htp, hk, hbox, hres⟩ := hrel
    by_cases hlt : j < tl.length
    · obtain ⟨x, hx⟩ : ∃ x, tl[j]? = some x := ⟨tl[j], by simp [hlt]⟩
      have htk := ranksT_take tl j x hx
      have hle := ranksT_le tl (j + 1)
      obtain ⟨p0, off, rfl, hp0, q0, q1, hxin⟩ := T.atPart HT.out hx
      have r0 := kc hk q0
      have r1 := kc hk q1
      have b1 : wr.cell? ⟨w.heap.size, 1, none⟩ = some (.slice (some ⟨p0, off, none⟩) tl.length tcap) := cellOf hbox rfl
      have v3 : wr.cell? ⟨vb, 3, none⟩ = some sl := cellOf htp.box rfl
      have hvb := htp.lt
      have hvs : vs.length ≤ 8 := by omega
      have g0 : (0 : Int) ≤ (j : Int) := by omega
      have g1 : (j : Int) < (tl.length : Int) := by omega
      have nb0 : some w.heap.size ≠ sl.ownBlock := fun e => by have := (htp.own.lt _ e.symm).1; omega
      have nb1 : some (w.heap.size + 1) ≠ sl.ownBlock := fun e => by have := (htp.own.lt _ e.symm).1; omega
      have nvb : some vb ≠ sl.ownBlock := fun e => by have := (htp.own.lt _ e.symm).1; omega
      have hih := IH.out j x hx c wr (by omega) (by omega) (hxin.keep hk.size hk) (HIN.out.keep hk.size hk)
      have HX := Lib.hid hx
      have HHL := Lib.hid (show tl[vs.length]? = some x by rw [hvl]; exact hx)
      have hxr : T.rank.ranks (tl.take j) + x.rank = T.rank.ranks (tl.take (j + 1)) := htk.symm
      have HIH := Lib.hid hih
      have HVL := Lib.hid hvl
      have HPT := Lib.hid hpt
      have HTP2 := Lib.hid htp
      have HK := Lib.hid hk
      have HBX2 := Lib.hid hbox
      have HRS2 := Lib.hid hres
      have HXR := Lib.hid hxr
      clear hih htk hx hvl hpt htp hk hbox hres hxr hxin q0 q1 hle
      generalize hxk : x.k = xk at *
      generalize hxa : x.a = xa at *
      generalize hxl : x.l.length = xl at *
      generalize hxc : x.cap = xc at *
      clear hxk hxa hxl hxc
      go_wp2_with fail
      refine HIH.out.mono ?_
      rintro e w2 ⟨⟨zk, zn, zs, za, zc, zl⟩, c', rfl, hzi, hzf, ⟨hzt, hzs, hzr, hd1, hd2⟩, hk2⟩
      rw [V.val_mk]
      have hb2 := (hk2.block _ hvb).trans HTP2.out.box
      have hvb2 := lt_of_block hb2
      have v2 : w2.cell? ⟨vb, 3, none⟩ = some sl := cellOf hb2 rfl
      have HB2 := Lib.hid hb2
      have HZI := Lib.hid hzi
      have HZF := Lib.hid hzf
      have HZP := Lib.hid (show (V.mk zk zn zs za zc zl).is x = true ∧ (∀ d, x.sh d = true → (V.mk zk zn zs za zc zl).sh d = true) from ⟨hzt, hzs⟩)
      have HK2 := Lib.hid hk2
      clear hb2 hzi hzf hzt hzs hk2 v3 r0 r1 b1
      go_wp2_with (at_builtin; refine wpList_append_lies _ rfl _ _ 22 rfl (vb + 1) 24 i0 _ 4 56 Tryz.underlying22 hi hz0 hz1 hz2 rfl (by decide) _ _ _ rfl (((ownsRow_kp HTP2.out.own HK2.out).alloc _).alloc _) ⟨w2.heap.size + 1, 0, none⟩ 1 1 [.int .i64 zk, .int .i64 zn, .string zs, .slice za zl.length zc] rfl rfl ?c1 ?c2 (by decide) ?c3 ?c4 ?c5 (w2.heap.size + 1 + 1) (by simp) ?_)
      case c1 =>
        intro j u hj
        match j, hj with
        | 0, hj => simp at hj; subst hj; simp [Addr.add]
        | 1, hj => simp at hj; subst hj; simp [Addr.add]
        | 2, hj => simp at hj; subst hj; simp [Addr.add]
        | 3, hj => simp at hj; subst hj; simp [Addr.add]
      case c2 => intro u hu; simp at hu; rcases hu with rfl | rfl | rfl | rfl <;> rfl
      case c3 => unfold maxLen; omega
      case c4 => omega
      case c5 => simp; omega
      intro gg gcap w3 hown1 hgrow hat hltg
      have hka2 := ka w2 (.cells #[.int .i64 zk, .int .i64 zn, .string zs, .slice za zl.length zc] 24)
      have hkc := kk hka2 (ka (w2.alloc (.cells #[.int .i64 zk, .int .i64 zn, .string zs, .slice za zl.length zc] 24)) (.cells #[.int .i64 zk, .int .i64 zn, .string zs, .slice za zl.length zc] 24))
      have hb3 := (hgrow.block vb (by simp; omega) nvb).trans (blockPast (blockPast HB2.out))
      have v3 : w3.cell? ⟨vb, 3, none⟩ = some sl := cellOf hb3 rfl
      have f3 : w3.frozen? ⟨vb, 3, none⟩ = false := freeOf hb3
      have HST := Lib.hid (HTP2.out.step HK2.out HZI.out HZF.out (V.same_refl _) hkc hown1 hgrow (by simpa using hat))
      have HK3 := Lib.hid (put1_kp (i := 3) (v := .slice (some ⟨gg, 0, none⟩) (vs.length + 1) gcap) (kp_grown (kk (kk HK.out HK2.out) hkc) hgrow (fun k e => by have := (HTP2.out.own.lt k e).1; omega)) (by omega : w.heap.size ≤ vb))
      have HB4 := Lib.hid (step_block (i := 3) (u := .slice (some ⟨gg, 0, none⟩) (vs.length + 1) gcap) HK2.out hkc hgrow nb0 (by omega : w.heap.size ≠ vb) HBX2.out)
      have HR4 := Lib.hid (step_block (i := 3) (u := .slice (some ⟨gg, 0, none⟩) (vs.length + 1) gcap) HK2.out hkc hgrow nb1 (by omega : w.heap.size + 1 ≠ vb) HRS2.out)
      clear hka2 hkc hb3 hown1 hgrow hat v2
      go_wp2_with fail
      go_roundw
      case rel => exact ⟨j + 1, _, _, c', by omega, rfl, by first | go_num | simp, by simp [HVL.out], Parts.snoc HPT.out HHL.out HZP.out, by rw [ranksV_snoc, ← HXR.out]; omega, by omega, by rw [← HXR.out]; omega, HST.out, HK3.out, HB4.out, HR4.out⟩
      case measure => simp [intOf]; omega
    · have hjj : j = tl.length := by omega
      subst hjj
      rw [List.take_of_length_le (Nat.le_refl _)] at hrk hc2
      have hP : ∀ a' cap', MadeVal (.mk 2 ta tcap tl) at_ (.mk 2 0 ⟨#[]⟩ a' cap' vs) c := fun a' cap' => madeVal_tuple hvl hpt hrk hc1 hc2
      have b1 : wr.cell? ⟨w.heap.size, 1, none⟩ = some (.slice ta tl.length tcap) := cellOf hbox rfl
      obtain ⟨a', cap', rfl, hvin, hvft⟩ := htp.value
      obtain ⟨d0, d1, d2, d3, f0, f1, f2, f3⟩ := cell4 hres
      obtain ⟨c0, c1, c2, c3, -⟩ := cell4 htp.box
      have hvb := htp.lt
      have HK := Lib.hid hk
      have HRS2 := Lib.hid hres
      have HVI := Lib.hid hvin
      have HVF := Lib.hid hvft
      have HP := Lib.hid hP
      clear htp hk hbox hres hvin hvft hP hvl hpt hrk
      go_wp2_with fail
      obtain ⟨e0, e1, e2, e3, -⟩ := cell4 (put4_block (v0 := .int .i64 2) (v1 := .int .i64 0) (v2 := .string ⟨#[]⟩) (v3 := .slice a' vs.length cap') HRS2.out)
      refine bodyPost_ret (v := .tuple #[.agg #[.int .i64 2, .int .i64 0, .string ⟨#[]⟩, .slice a' vs.length cap'], .int .i64 c]) (by simp [results, Tryz.results84, go_sem, e0, e1, e2, e3]) rfl ?_
      have hS : (put4 wr (w.heap.size + 1) (.int .i64 2) (.int .i64 0) (.string ⟨#[]⟩) (.slice a' vs.length cap')).heap.size = wr.heap.size := by simp [World.setCell]
      refine ⟨.mk 2 0 ⟨#[]⟩ a' cap' vs, c, rfl, ?_, V.foot.mono (fun b hb => by omega) _ HVF.out, HP.out _ _, put4_kp HK.out (by omega)⟩
      rw [hS]
      exact V.In.move (Nat.le_refl _) (fun b _ hb => put4_other (by omega)) _ HVI.out HVF.out

theorem MakesV.mono {w : World} {P Q : V → Int → Prop} (h : ∀ x c, P x c → Q x c) {e : Ending} {w' : World} (hm : MakesV w P e w') : MakesV w Q e w' := by
  obtain ⟨x, c, h1, h2, h3, h4, h5⟩ := hm
  exact ⟨x, c, h1, h2, h3, h _ _ h4, h5⟩

set_option maxHeartbeats 1000000 in
theorem made_any (a : Option Addr) (cap : Nat) (l : List Int) : ∀ (N : Nat) (t : T) (d : Nat) (at_ : Int) (w : World), t.rank ≤ N → t.sh d = true → 0 ≤ at_ → at_ + (t.rank : Int) ≤ 2000000000 → t.In w w.heap.size → Ints w w.heap.size a cap l →
    Calls Tryz.prog 84 #[.agg #[.int .i64 t.k, .slice t.a t.l.length t.cap], .slice a l.length cap, .int .i64 at_] w (MakesV w (MadeVal t at_)) := by
  intro N
  induction N with
  | zero => intro t d at_ w h; have := t.rank_pos; omega
  | succ N ih =>
    intro t d at_ w hN ht h0 h1 hin hI
    cases t with
    | mk k ta tcap tl =>
    cases d with
    | zero => simp [T.sh] at ht
    | succ d =>
    simp [T.sh] at ht
    obtain ⟨hf, hp⟩ := ht
    have hrk : (T.mk k ta tcap tl).rank = 1 + T.rank.ranks tl := by simp [T.rank]
    rw [hrk] at h1 hN
    have hih : ∀ (j : Nat) (x : T), tl[j]? = some x → ∀ (at' : Int) (w1 : World), 0 ≤ at' → at' + (x.rank : Int) ≤ 2000000000 → x.In w1 w1.heap.size → Ints w1 w1.heap.size a cap l → Calls Tryz.prog 84 #[.agg #[.int .i64 x.k, .slice x.a x.l.length x.cap], .slice a l.length cap, .int .i64 at'] w1 (MakesV w1 (MadeVal x at')) := fun j x hx at' w1 e1 e2 e3 e4 =>
      ih x d at' w1 (by have := T.ranks_mem hx; omega) (shLT_at hp hx) e1 e2 e3 e4
    show Calls Tryz.prog 84 #[.agg #[.int .i64 k, .slice ta tl.length tcap], _, _] w _
    by_cases k0 : k = 0
    · subst k0
      have : tl = [] := by simpa [fitsT] using hf
      subst this
      refine (made_int ta 0 tcap a cap l at_ w hI h0 (by omega)).mono fun e w' hm => hm.mono ?_
      rintro x c ⟨⟨n, rfl, hn1, hn2⟩, rfl⟩
      exact madeVal_int ta tcap at_ n ⟨hn1, hn2⟩
    by_cases k1 : k = 1
    · subst k1
      have : tl = [] := by simpa [fitsT] using hf
      subst this
      refine (made_text ta 0 tcap a cap l at_ w hI h0 (by omega)).mono fun e w' hm => hm.mono ?_
      rintro x c ⟨⟨s, rfl, hs1, hs2⟩, rfl⟩
      exact madeVal_text ta tcap at_ s ⟨hs1, hs2⟩
    by_cases k2 : k = 2
    · subst k2
      exact made_tuple ta tcap tl a cap l at_ w hin (by simpa [fitsT] using hf) hI h0 (by omega) hih
    by_cases k3 : k = 3
    · subst k3
      have hl : 0 < tl.length ∧ tl.length ≤ 8 := by simpa [fitsT] using hf
      refine (made_sum ta tcap tl a cap l at_ w hin hl hI h0 (by omega) (fun j x hx w1 e1 e2 => hih j x hx (at_ + 1) w1 (by omega) (by have := T.ranks_mem hx; omega) e1 e2)).mono fun e w' hm => hm.mono ?_
      rintro x c ⟨j, u, qa, z, hu, rfl, hm⟩
      exact madeVal_sum hu hl.2 hm
    · simp [fitsT, k0, k1, k2, k3] at hf

end Go.Proofs.YtkfmgafgokpjhaaGreatDoor

/-
  ARGUMENTS OF THE TYPES api.Type, []int, []byte, string AND bool, FROM THEIR READING.
-/
namespace Go.Proofs.YtkfmgafgokpjhaaGreatDoor
open Go.ChangeShapes Go.WideShapes Go.ChangeAt Go.RowKit

theorem spot_none {w : World} {a : Addr} {v : Value} (h : w.cell? a = some v) : a.spot = none := by
  unfold World.cell? at h
  split at h
  · split at h
    · cases h
    · rename_i hs; simpa using hs
  · cases h

theorem cells27v : Tryz.prog.cellsOf 27 = 2 := by kernel_rfl
theorem cells25v : Tryz.prog.cellsOf 25 = 1 := by kernel_rfl
theorem cellsByte : Tryz.prog.cellsOf 5 = 1 := by kernel_rfl

set_option maxRecDepth 100000 in
set_option maxHeartbeats 2000000 in
theorem open_type {H : Type} {enc : TypeId × Value → H} {w : World} {base : Nat} {spare : Nat → Bool} {held : Bool} : ∀ (fuel : Nat) (cs : List Value) (x : DataW H × List MemPlace),
    DataW.trod enc Tryz.prog w base spare held fuel 27 cs = some x → ∃ v : T, cs = [.int .i64 v.k, .slice v.a v.l.length v.cap] ∧ v.In w w.heap.size := by
  intro fuel
  induction fuel using Nat.strongRecOn with
  | ind fuel ih =>
    intro cs x h
    obtain ⟨xs, n, rfl, -, hl, hlen, hf⟩ := DataW.trod_struct Tryz.underlying27 h
    rw [cells27v] at hl
    match cs, hl, xs, hlen with
    | [c0, c1], _, [x0, x1], _ =>
      have g0 := hf 0 _ rfl
      have g1 := hf 1 _ rfl
      simp [cells3v, cells25v] at g0 g1
      obtain ⟨k, e0, -, w0⟩ := DataW.trod_int Tryz.underlying3 g0
      simp at e0
      subst e0
      rcases DataW.trod_slice Tryz.underlying25 g1 with ⟨e3, -⟩ | ⟨a, len, cap, elems, rest, n', rfl, e3, -, hb, hlc, hcm, hel, hread, -, -⟩
      · simp at e3
        subst e3
        exact ⟨.mk k none 0 [], rfl, inTLeaf0 k (i64_of_wf w0)⟩
      · simp at e3
        subst e3
        obtain ⟨l, hll, hp⟩ := list_of (p := fun i (v : T) => w.cell? ⟨a.block, a.off + i * 2, none⟩ = some (.int .i64 v.k) ∧ w.cell? ⟨a.block, a.off + i * 2 + 1, none⟩ = some (.slice v.a v.l.length v.cap) ∧ (i = 0 → a.spot = none) ∧ a.block < w.heap.size ∧ v.In w w.heap.size) len (fun i hi => by
          have hr := hread i hi
          rw [cells27v] at hr
          have he : ∃ y, elems[i]? = some y := ⟨elems[i], by simp [hel, hi]⟩
          obtain ⟨y, hy⟩ := he
          rw [hy] at hr
          cases hc : w.cells? base (a.add (i * 2)) 2 with
          | none => rw [hc] at hr; cases hr
          | some cs' =>
            rw [hc] at hr
            obtain ⟨v, rfl, hv⟩ := ih n' (by omega) cs' y hr
            obtain ⟨_, _, hcell⟩ := World.cells?_some hc
            have k0 := hcell 0 (by omega)
            have k1 := hcell 1 (by omega)
            simp only [addr_add] at k0 k1
            have hspot : i = 0 → a.spot = none := fun hi0 => by
              subst hi0
              exact spot_none (v := .int .i64 v.k) (by simpa [Addr.add] using k0)
            have hblk : a.block < w.heap.size := by
              have := World.block_lt_of_cell? w _ (k1.trans (by rfl : _ = some (Value.slice v.a v.l.length v.cap)))
              simpa [Addr.add] using this
            refine ⟨v, ?_, ?_, hspot, hblk, hv⟩
            · by_cases hi0 : i = 0
              · subst hi0
                have hs := hspot rfl
                have : w.cell? a = some (.int .i64 v.k) := by simpa [Addr.add] using k0
                obtain ⟨ab, ao, asp⟩ := a
                simp at hs
                subst hs
                simpa using this
              · have h4 : ¬ i * 2 = 0 := by omega
                simpa [Addr.add, h4] using k0
            · simpa [Addr.add, Nat.add_assoc] using k1)
        obtain ⟨ab, ao, asp⟩ := a
        by_cases h0 : l = []
        · subst h0
          simp at hll
          subst hll
          refine ⟨.mk k (some ⟨ab, ao, asp⟩) cap [], rfl, ?_⟩
          simp [T.In, T.InL, i64_of_wf w0, hcm]
        · have hpos : 0 < l.length := by cases l with
            | nil => exact absurd rfl h0
            | cons _ _ => simp
          have hsp : asp = none := (hp 0 l[0] (by simp)).2.2.1 rfl
          have hbl := (hp 0 l[0] (by simp)).2.2.2.1
          subst hsp
          refine ⟨.mk k (some ⟨ab, ao, none⟩) cap l, by subst hll; rfl, ?_⟩
          simp only [T.In]
          refine ⟨i64_of_wf w0, by omega, hcm, .inr ⟨ab, ao, rfl, hbl, fun j x hx => ?_⟩, T.InL_iff.2 fun j x hx => (hp j x hx).2.2.2.2⟩
          obtain ⟨r0, r1, -⟩ := hp j x hx
          exact ⟨r0, r1⟩

set_option maxRecDepth 100000 in
theorem open_argT {H : Type} {enc : TypeId × Value → H} {W : World} {base : Nat} {spare : Nat → Bool} {held : Bool} {b0 : Nat} {v : Value} {d : DataW H} {ps : List MemPlace}
    (hval : Value.okWide Tryz.prog W .any b0 27 v) (h : DataW.Trod enc Tryz.prog W base spare held 27 v d ps) : ∃ x : T, v = x.val ∧ x.In W W.heap.size := by
  obtain ⟨cs, rfl, -⟩ := okWide_struct Tryz.underlying27 hval
  obtain ⟨fuel, hf⟩ := h
  obtain ⟨x, hx, hin⟩ := open_type fuel _ _ hf
  refine ⟨x, ?_, hin⟩
  have : cs = #[.int .i64 x.k, .slice x.a x.l.length x.cap] := by
    apply Array.ext'
    simpa [Value.cells] using hx
  rw [this]; rfl

set_option maxRecDepth 100000 in
theorem open_argI {H : Type} {enc : TypeId × Value → H} {W : World} {base : Nat} {spare : Nat → Bool} {held : Bool} {b0 : Nat} {v : Value} {d : DataW H} {ps : List MemPlace}
    (hval : Value.okWide Tryz.prog W .any b0 48 v) (h : DataW.Trod enc Tryz.prog W base spare held 48 v d ps) : ∃ a cap, ∃ l : List Int, v = .slice a l.length cap ∧ Ints W W.heap.size a cap l := by
  obtain ⟨a0, len0, cap0, rfl⟩ := okWide_slice Tryz.underlying48 hval
  obtain ⟨fuel, hf⟩ := h
  rcases open_ints Tryz.underlying48 Tryz.underlying3 cells3v hf with ⟨hc, -⟩ | ⟨a, len, cap, zs, hc, hb, hlc, hcm, hzl, -, hcell, hwf⟩
  · simp [Value.cells] at hc
    obtain ⟨rfl, rfl, rfl⟩ := hc
    exact ⟨none, 0, [], rfl, by simp [Ints]⟩
  · simp [Value.cells] at hc
    obtain ⟨rfl, rfl, rfl⟩ := hc
    have hle : len0 ≤ zs.length := by rw [hzl]; split <;> omega
    refine ⟨some a, cap0, zs.take len0, by simp [Nat.min_eq_left hle], by simp [Nat.min_eq_left hle]; omega, hcm, fun n hn => i64_of_wf (hwf n (List.mem_of_mem_take hn)), ?_⟩
    by_cases h0 : len0 = 0
    · left; simp [h0]
    · right
      have k0 := hcell 0 (by omega)
      have hs := spot_none (a := a) (by simpa [Addr.add] using k0)
      obtain ⟨ab, ao, asp⟩ := a
      simp at hs
      subst hs
      refine ⟨ab, ao, rfl, ?_, fun j n hj => ?_⟩
      · have := World.block_lt_of_cell? W _ k0
        simpa [Addr.add] using this
      · have hjl : j < len0 := by
          have := (List.getElem?_eq_some_iff.1 hj).1
          simp at this; omega
        rw [List.getElem?_take_of_lt hjl] at hj
        have := hcell j (by omega)
        rw [List.getD_eq_getElem?_getD, hj] at this
        by_cases hj0 : j = 0
        · subst hj0; simpa [Addr.add] using this
        · simpa [Addr.add, hj0] using this

set_option maxRecDepth 100000 in
theorem open_argS {H : Type} {enc : TypeId × Value → H} {W : World} {base : Nat} {spare : Nat → Bool} {held : Bool} {b0 : Nat} {v : Value} {d : DataW H} {ps : List MemPlace}
    (hval : Value.okWide Tryz.prog W .any b0 9 v) (h : DataW.Trod enc Tryz.prog W base spare held 9 v d ps) : ∃ s : ByteArray, v = .string s ∧ s.size ≤ maxLen := by
  obtain ⟨s0, rfl⟩ := okWide_string Tryz.underlying9 hval
  obtain ⟨fuel, hf⟩ := h
  obtain ⟨s, e2, -, hs⟩ := DataW.trod_string Tryz.underlying9 hf
  simp [Value.cells] at e2
  subst e2
  exact ⟨_, rfl, hs⟩

set_option maxRecDepth 100000 in
theorem open_argB {W : World} {b0 : Nat} {v : Value} (hval : Value.okWide Tryz.prog W .any b0 4 v) : ∃ b : Bool, v = .bool b := okWide_bool Tryz.underlying4 hval

end Go.Proofs.YtkfmgafgokpjhaaGreatDoor

/-
  THE WALKS OF THE KEYS OF WORDS AND OF TAGGED VALUES; OF ANY VALUE.
-/
namespace Go.Proofs.YtkfmgafgokpjhaaGreatDoor
open Go.RowKit

theorem mWordKey (p : Value) (w : World) : (method 307 147 (.agg #[p]) "deltaworks/value.key").run Tryz.prog w = .ok (185, .agg #[p]) w := by kernel_rfl

/-- The j-th byte of a number of 32 bits, the greatest first. -/
def byteAt (m : Int) (j : Nat) : UInt8 := UInt8.ofNat ((m / 2 ^ (24 - 8 * j)) % 256).toNat
/-- The key of a word. -/
def wordBytes (n : Int) : List UInt8 := [byteAt (n + 2147483648) 0, byteAt (n + 2147483648) 1, byteAt (n + 2147483648) 2, byteAt (n + 2147483648) 3]

theorem byteAt_val (m : Int) (j : Nat) : (m / 2 ^ (24 - 8 * j)) % 256 = ((byteAt m j).toNat : Int) := by
  have h1 := Int.emod_nonneg (m / 2 ^ (24 - 8 * j)) (show (256 : Int) ≠ 0 by decide)
  have h2 := Int.emod_lt_of_pos (m / 2 ^ (24 - 8 * j)) (show (0 : Int) < 256 by decide)
  unfold byteAt
  generalize (m / 2 ^ (24 - 8 * j)) % 256 = v at *
  obtain ⟨u, rfl⟩ := Int.eq_ofNat_of_zero_le h1
  have h3 : u < 256 := by omega
  simp
  omega
theorem wordBytes_take (n : Int) (j : Nat) (h : j < 4) : (wordBytes n).take (j + 1) = (wordBytes n).take j ++ [byteAt (n + 2147483648) j] := by
  have : j = 0 ∨ j = 1 ∨ j = 2 ∨ j = 3 := by omega
  rcases this with rfl | rfl | rfl | rfl <;> rfl

set_option maxHeartbeats 2000000 in
theorem wordKey_any (w : World) (S b off : Nat) (xs : List UInt8) (k n : Int) (s : ByteArray) (sl : Value) (hs : Sink w S xs) (hp : PtrAt w b off k n s sl) (hb : b < S) (hn : -2147483648 ≤ n ∧ n ≤ 2147483647) (hx : xs.length + 5 ≤ 1000000000000) :
    Calls Tryz.prog 185 #[.agg #[.pointer (some ⟨b, off, none⟩)], takeF S] w fun e w' => e = .returned (.tuple #[]) ∧ Sink w' S (xs ++ (1 :: wordBytes n)) ∧ Sk S w w' := by
  have hlt := hs.lt
  have KB : ∀ wr, Sk S (w.alloc (.cells #[.pointer (some ⟨b, off, none⟩)] 147)) wr → wr.cell? ⟨w.heap.size, 0, none⟩ = some (.pointer (some ⟨b, off, none⟩)) ∧ wr.cell? ⟨b, off + 1, none⟩ = some (.int .i64 n) ∧ Sk S w wr := fun wr h =>
    have h' := (Sk.kp (ka w _) hlt).trans h
    ⟨boxIn hs h rfl, (hp.sk hb hs h').c1, h'⟩
  have HKB := Lib.hid KB
  have HS := Lib.hid hs
  clear KB hs hp
  go_enter Tryz.func185, Tryz.ntmps185
  go_wp2_with fail
  refine (take_any _ S xs 1 1 rfl (HS.out.kp (ka _ _)) (by omega)).mono ?_
  rintro e w1 ⟨rfl, hs1, hk1⟩
  obtain ⟨hc0, hc2, _⟩ := HKB.out w1 hk1
  have HS1 := Lib.hid hs1
  have HK1 := Lib.hid hk1
  clear hs1 hk1
  go_wp2_with fail
  have hnr : -2147483648 ≤ n := hn.1
  go_loopw [5] (fun i wr => ∃ j : Nat, j ≤ 4 ∧ i = .int .i64 (24 - 8 * (j : Int)) ∧ Sink wr S (xs ++ [1] ++ (wordBytes n).take j) ∧ Sk S (w.alloc (.cells #[.pointer (some ⟨b, off, none⟩)] 147)) wr) (fun i _ => (intOf i + 8).toNat)
  case atStart => exact ⟨0, by omega, rfl, by simpa using HS1.out, HK1.out⟩
  case round =>
    obtain ⟨j, hj, rfl, hsk, hk⟩ := hrel
    have HSK := Lib.hid hsk
    have HK := Lib.hid hk
    clear hsk hk
    by_cases hlt : j < 4
    · have q : decide ((0 : Int) ≤ 24 - 8 * (j : Int)) = true := by simp; omega
      go_wp2_with fail
      refine (take_any _ S _ _ (byteAt (n + 2147483648) j) (byteAt_val _ _) HSK.out (by simp [wordBytes]; omega)).mono ?_
      rintro e w2 ⟨rfl, hs2, hk2⟩
      have HS2 := Lib.hid hs2
      have HK2 := Lib.hid (HK.out.trans hk2)
      clear hs2 hk2
      obtain ⟨hc0, hc2, _⟩ := HKB.out w2 HK2.out
      go_wp2_with fail
      go_roundw
      case rel => exact ⟨j + 1, by omega, by congr 1; omega, by rw [wordBytes_take n j hlt, ← List.append_assoc]; exact HS2.out, HK2.out⟩
      case measure => simp [intOf]; omega
    · have hj4 : j = 4 := by omega
      have q : decide (8 * (j : Int) ≤ 24) = false := by simp; omega
      have HSE := Lib.hid (show Sink wr S (xs ++ (1 :: wordBytes n)) by have := HSK.out; rw [hj4] at this; simpa [wordBytes] using this)
      clear hj4 hlt
      go_wp2_with fail
      go_end0
      exact ⟨rfl, HSE.out, (HKB.out wr HK.out).2.2⟩

end Go.Proofs.YtkfmgafgokpjhaaGreatDoor
