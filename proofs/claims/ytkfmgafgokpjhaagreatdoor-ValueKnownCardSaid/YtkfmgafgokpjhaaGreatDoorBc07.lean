/-
  Contracts of the functions of package value, of its specification and of what the statements of layer 1 share (values and types made of numbers, the chapter's examples), each for every argument: used by the proofs of layer 1's statements.
  Part 7 of 12.
-/
import Derived.Test.YtkfmgafgokpjhaaGreatDoorBc06
import Derived.Deep.Slices
import Derived.Test.YtkfmgafgokpjhaaGreatDoorCards
import Derived.Test.YtkfmgafgokpjhaaGreatDoorTie
import Derived.ProofKit
import Derived.OpenShut
import Derived.ReadAgain
import Derived.Deep.Onto
import Derived.Deep.DeepHandedRow
import Derived.Lib.LaidTab
import Derived.Test.YtkfmgafgokpjhaaGreatDoorBc01
import Derived.Laws.AppendOwn
/-
  valued: the chapter's examples (written by wip/gen_valued.py).
-/
namespace Go.Proofs.YtkfmgafgokpjhaaGreatDoor
open Go.RowKit

theorem keepB {w w' : World} {b : Nat} {o : Obj} (k : Kp w w') (h : w.heap[b]? = some o) : w'.heap[b]? = some o := (k.block _ (lt_of_block' h)).trans h
theorem ex_same (w : World) (q r : Nat) (b : Option Addr) (q' r' : Nat) (b' : Option Addr) (hq : w.heap[q]? = some (.cells (leastCells r b) 24 (0, 0))) (hr : w.heap[r]? = some (.cells #[.int .i64 1, .int .i64 0, .string ⟨#[]⟩, .slice none 0 0] 24 (0, 0)))
    (hq' : w.heap[q']? = some (.cells (leastCells r' b') 24 (0, 0))) (hr' : w.heap[r']? = some (.cells #[.int .i64 1, .int .i64 0, .string ⟨#[]⟩, .slice none 0 0] 24 (0, 0))) :
    Calls Tryz.prog 23 #[.agg #[.int .i64 2, .int .i64 0, .string ⟨#[]⟩, .slice (some ⟨q, 0, none⟩) 4 4], .agg #[.int .i64 2, .int .i64 0, .string ⟨#[]⟩, .slice (some ⟨q', 0, none⟩) 4 4]] w fun e w' => e = .returned (.bool true) ∧ Kp w w' := by
  have := sameV _ (leastV q r b) (leastV q' r' b') w (Nat.le_refl _) (leastV_in hq hr (lt_of_block hq) (lt_of_block hr)) (leastV_in hq' hr' (lt_of_block hq') (lt_of_block hr'))
  rw [leastV_same] at this
  exact this
theorem ex_sameOne (w : World) (q q' : Nat) (hq : w.heap[q]? = some (.cells one4 24 (0, 0))) (hq' : w.heap[q']? = some (.cells one4 24 (0, 0))) :
    Calls Tryz.prog 23 #[.agg #[.int .i64 2, .int .i64 0, .string ⟨#[]⟩, .slice (some ⟨q, 0, none⟩) 1 1], .agg #[.int .i64 2, .int .i64 0, .string ⟨#[]⟩, .slice (some ⟨q', 0, none⟩) 1 1]] w fun e w' => e = .returned (.bool true) ∧ Kp w w' := by
  have := sameV _ (oneV q) (oneV q') w (Nat.le_refl _) (oneV_in hq (lt_of_block hq)) (oneV_in hq' (lt_of_block hq'))
  rw [oneV_same] at this
  exact this

set_option maxRecDepth 100000 in
set_option maxHeartbeats 8000000 in
theorem valued_any (w : World) (ht : Tb w w.heap.size) : Calls Tryz.prog 24 #[] w fun e w' => e = .returned (.bool true) ∧ Kp w w' := by
  have HT := Lib.hid ht
  clear ht
  go_enter Tryz.func24, Tryz.ntmps24
  go_wp2_with fail
  refine (ex_sample _).mono ?_
  rintro e w1 ⟨q1, r1, rfl, hs, hk⟩
  have HK1 := Lib.hid (kk (Below.refl _ w) hk)
  have S1 := Lib.hid hs
  clear hs
  clear hk
  go_wp2_with fail
  refine (ex_text _ _ _ S1.out (HT.out.keep (HK1.out) (HK1.out).size)).mono ?_
  rintro e w2 ⟨rfl, hk⟩
  have HK2 := Lib.hid (kk (HK1.out) hk)
  clear hk
  go_wp2_with fail
  refine (ex_kind _).mono ?_
  rintro e w3 ⟨g3, h3, rfl, hs, hk⟩
  have HK3 := Lib.hid (kk (HK2.out) hk)
  have D3 := Lib.hid hs
  clear hs
  clear hk
  go_wp2_with fail
  refine (ex_typeText _ _ _ D3.out).mono ?_
  rintro e w4 ⟨rfl, hk⟩
  have HK4 := Lib.hid (kk (HK3.out) hk)
  clear hk
  go_wp2_with fail
  refine (ex_sample _).mono ?_
  rintro e w5 ⟨q5, r5, rfl, hs, hk⟩
  have HK5 := Lib.hid (kk (HK4.out) hk)
  have S5 := Lib.hid hs
  clear hs
  clear hk
  go_wp2_with fail
  refine (ex_size _ _ _ S5.out).mono ?_
  rintro e w6 ⟨rfl, hk⟩
  have HK6 := Lib.hid (kk (HK5.out) hk)
  clear hk
  go_wp2_with fail
  refine (int_any _ _).mono ?_
  rintro e w7 ⟨rfl, hk⟩
  have HK7 := Lib.hid (kk (HK6.out) hk)
  clear hk
  go_wp2_with fail
  refine (int_any _ _).mono ?_
  rintro e w8 ⟨rfl, hk⟩
  have HK8 := Lib.hid (kk (HK7.out) hk)
  clear hk
  go_wp2_with fail
  refine (ex_ints _).mono ?_
  rintro e w9 ⟨rfl, hk⟩
  have HK9 := Lib.hid (kk (HK8.out) hk)
  clear hk
  go_wp2_with fail
  refine (text_any _ _).mono ?_
  rintro e w10 ⟨rfl, hk⟩
  have HK10 := Lib.hid (kk (HK9.out) hk)
  clear hk
  go_wp2_with fail
  refine (text_any _ _).mono ?_
  rintro e w11 ⟨rfl, hk⟩
  have HK11 := Lib.hid (kk (HK10.out) hk)
  clear hk
  go_wp2_with fail
  refine (ex_texts _).mono ?_
  rintro e w12 ⟨rfl, hk⟩
  have HK12 := Lib.hid (kk (HK11.out) hk)
  clear hk
  go_wp2_with fail
  refine (ex_kind _).mono ?_
  rintro e w13 ⟨g13, h13, rfl, hs, hk⟩
  have HK13 := Lib.hid (kk (HK12.out) hk)
  have D13 := Lib.hid hs
  clear hs
  clear hk
  go_wp2_with fail
  refine (least_top _ g13 h13 _ _ D13.out.1 D13.out.2).mono ?_
  rintro e w14 ⟨ql, rl, bl, rfl, hq, hr, hqz, hrz, hk⟩
  have HK14 := Lib.hid (kk (HK13.out) hk)
  have QL := Lib.hid hq
  have RL := Lib.hid hr
  clear hq hr hqz hrz
  clear hk
  go_wp2_with fail
  have lb : (w14.alloc (.cells #[.int .i64 2, .int .i64 0, .string ⟨#[]⟩, .slice (some ⟨ql, 0, none⟩) 4 4] 24)).heap[w14.heap.size]? = some (.cells #[.int .i64 2, .int .i64 0, .string ⟨#[]⟩, .slice (some ⟨ql, 0, none⟩) 4 4] 24 (0, 0)) := blockHere rfl
  have LB14 := Lib.hid lb
  clear lb
  refine (text_any _ _).mono ?_
  rintro e w15 ⟨rfl, hk⟩
  have HK15 := Lib.hid (kk (kk (HK14.out) (ka _ (.cells #[.int .i64 2, .int .i64 0, .string ⟨#[]⟩, .slice (some ⟨ql, 0, none⟩) 4 4] 24))) hk)
  have LB := Lib.hid ((hk.block _ (lt_of_block LB14.out)).trans LB14.out)
  have HJ15 := Lib.hid hk
  clear hk
  go_wp2_with fail
  have kb : (w15.alloc (.cells #[.int .i64 1, .int .i64 0, .string ⟨#[97]⟩, .slice none 0 0] 24)).heap[w15.heap.size]? = some (.cells #[.int .i64 1, .int .i64 0, .string ⟨#[97]⟩, .slice none 0 0] 24 (0, 0)) := blockHere rfl
  have KB15 := Lib.hid kb
  clear kb
  refine (tuple_any _ _ _ _).mono ?_
  rintro e w16 ⟨rfl, hk⟩
  have HK16 := Lib.hid (kk (kk (HK15.out) (ka _ (.cells #[.int .i64 1, .int .i64 0, .string ⟨#[97]⟩, .slice none 0 0] 24))) hk)
  have KB := Lib.hid ((hk.block _ (lt_of_block KB15.out)).trans KB15.out)
  have HJ16 := Lib.hid hk
  clear hk
  go_wp2_with fail
  refine (ex_key _ _ KB.out (HT.out.keep (HK16.out) (HK16.out).size)).mono ?_
  rintro e w17 ⟨rfl, hk⟩
  have HK17 := Lib.hid (kk (HK16.out) hk)
  have HJ17 := Lib.hid hk
  clear hk
  go_wp2_with fail
  refine (ofKey_three _).mono ?_
  rintro e w18 ⟨rfl, hk⟩
  have HK18 := Lib.hid (kk (HK17.out) hk)
  have HJ18 := Lib.hid hk
  clear hk
  go_wp2_with fail
  refine (parse_one _ (HT.out.keep (kk (HK18.out) (ka _ (.cells zero4 24))) (kk (HK18.out) (ka _ (.cells zero4 24))).size)).mono ?_
  rintro e w19 ⟨qp, rfl, hq, hqz, hk⟩
  have HK19 := Lib.hid (kk (kk (HK18.out) (ka _ (.cells zero4 24))) hk)
  have QP := Lib.hid hq
  clear hq hqz
  have HJ19 := Lib.hid hk
  clear hk
  go_wp2_with fail
  have pb : (w19.alloc (.cells #[.int .i64 2, .int .i64 0, .string ⟨#[]⟩, .slice (some ⟨qp, 0, none⟩) 1 1] 24)).heap[w19.heap.size]? = some (.cells #[.int .i64 2, .int .i64 0, .string ⟨#[]⟩, .slice (some ⟨qp, 0, none⟩) 1 1] 24 (0, 0)) := blockHere rfl
  have PB19 := Lib.hid pb
  clear pb
  refine (parse_bad _ (HT.out.keep (kk (HK19.out) (ka _ (.cells #[.int .i64 2, .int .i64 0, .string ⟨#[]⟩, .slice (some ⟨qp, 0, none⟩) 1 1] 24))) (kk (HK19.out) (ka _ (.cells #[.int .i64 2, .int .i64 0, .string ⟨#[]⟩, .slice (some ⟨qp, 0, none⟩) 1 1] 24))).size)).mono ?_
  rintro e w20 ⟨rfl, hk⟩
  have HK20 := Lib.hid (kk (kk (HK19.out) (ka _ (.cells #[.int .i64 2, .int .i64 0, .string ⟨#[]⟩, .slice (some ⟨qp, 0, none⟩) 1 1] 24))) hk)
  have PB := Lib.hid ((hk.block _ (lt_of_block PB19.out)).trans PB19.out)
  have HJ20 := Lib.hid hk
  clear hk
  go_wp2_with fail
  have hkr : Kp w20 (w20.alloc (.cells zero4 24)) := ka _ _
  have k15 := kk (kk (ka w14 (.cells #[.int .i64 2, .int .i64 0, .string ⟨#[]⟩, .slice (some ⟨ql, 0, none⟩) 4 4] 24)) HJ15.out) (kk (kk (ka w15 (.cells #[.int .i64 1, .int .i64 0, .string ⟨#[97]⟩, .slice none 0 0] 24)) HJ16.out) (kk HJ17.out (kk HJ18.out (kk (kk (ka w18 (.cells zero4 24)) HJ19.out) (kk (kk (ka w19 (.cells #[.int .i64 2, .int .i64 0, .string ⟨#[]⟩, .slice (some ⟨qp, 0, none⟩) 1 1] 24)) HJ20.out) hkr)))))
  have k19 := kk (kk (ka w19 (.cells #[.int .i64 2, .int .i64 0, .string ⟨#[]⟩, .slice (some ⟨qp, 0, none⟩) 1 1] 24)) HJ20.out) hkr
  have hQ := keepB k15 QL.out
  have hR := keepB k15 RL.out
  have hqp := keepB k19 QP.out
  have hL := keepB (kk (kk (kk (ka w15 (.cells #[.int .i64 1, .int .i64 0, .string ⟨#[97]⟩, .slice none 0 0] 24)) HJ16.out) (kk HJ17.out (kk HJ18.out (kk (kk (ka w18 (.cells zero4 24)) HJ19.out) (kk (ka w19 (.cells #[.int .i64 2, .int .i64 0, .string ⟨#[]⟩, .slice (some ⟨qp, 0, none⟩) 1 1] 24)) HJ20.out))))) hkr) LB.out
  have hPb := keepB hkr PB.out
  have hkW := kk HK20.out hkr
  have HKW := Lib.hid hkW
  clear hkW
  generalize hW : w20.alloc (.cells zero4 24) = W at hkr hQ hR hqp hL hPb HKW ⊢
  have hl0 : W.cell? ⟨w14.heap.size, 0, none⟩ = some (.int .i64 2) := cellOf hL rfl
  have hl1 : W.cell? ⟨w14.heap.size, 1, none⟩ = some (.int .i64 0) := cellOf hL rfl
  have hl2 : W.cell? ⟨w14.heap.size, 2, none⟩ = some (.string ⟨#[]⟩) := cellOf hL rfl
  have hl3 : W.cell? ⟨w14.heap.size, 3, none⟩ = some (.slice (some ⟨ql, 0, none⟩) 4 4) := cellOf hL rfl
  have hp0 : W.cell? ⟨w19.heap.size, 0, none⟩ = some (.int .i64 2) := cellOf hPb rfl
  have hp1 : W.cell? ⟨w19.heap.size, 1, none⟩ = some (.int .i64 0) := cellOf hPb rfl
  have hp2 : W.cell? ⟨w19.heap.size, 2, none⟩ = some (.string ⟨#[]⟩) := cellOf hPb rfl
  have hp3 : W.cell? ⟨w19.heap.size, 3, none⟩ = some (.slice (some ⟨qp, 0, none⟩) 1 1) := cellOf hPb rfl
  clear hkr hW k15 k19 hL hPb HJ15 HJ16 HJ17 HJ18 HJ19 HJ20 QL RL QP HT HK1 HK2 HK3 HK4 HK5 HK6 HK7 HK8 HK9 HK10 HK11 HK12 HK13 HK14 HK15 HK16 HK17 HK18 HK19 HK20 S1 D3 S5 D13 LB14 LB KB15 KB PB19 PB
  go_region_held3 (fun w' => w'.cell? ⟨w14.heap.size, 0, none⟩ = some (.int .i64 2) ∧ w'.cell? ⟨w14.heap.size, 1, none⟩ = some (.int .i64 0) ∧ w'.cell? ⟨w14.heap.size, 2, none⟩ = some (.string ⟨#[]⟩) ∧ w'.cell? ⟨w14.heap.size, 3, none⟩ = some (.slice (some ⟨ql, 0, none⟩) 4 4) ∧ w'.cell? ⟨w19.heap.size, 0, none⟩ = some (.int .i64 2) ∧ w'.cell? ⟨w19.heap.size, 1, none⟩ = some (.int .i64 0) ∧ w'.cell? ⟨w19.heap.size, 2, none⟩ = some (.string ⟨#[]⟩) ∧ w'.cell? ⟨w19.heap.size, 3, none⟩ = some (.slice (some ⟨qp, 0, none⟩) 1 1) ∧ Kp W w')
    (first
      | exact ⟨hl0, hl1, hl2, hl3, hp0, hp1, hp2, hp3, kpD⟩
      | (go_split_ands; exact ⟨kc hk ‹_›, kc hk ‹_›, kc hk ‹_›, kc hk ‹_›, kc hk ‹_›, kc hk ‹_›, kc hk ‹_›, kc hk ‹_›, kk ‹_› hk⟩)
      | (go_split_ands; exact ⟨kc (ka _ _) ‹_›, kc (ka _ _) ‹_›, kc (ka _ _) ‹_›, kc (ka _ _) ‹_›, kc (ka _ _) ‹_›, kc (ka _ _) ‹_›, kc (ka _ _) ‹_›, kc (ka _ _) ‹_›, kk ‹_› (ka _ _)⟩))
    (first
    | (go_at_call 64; refine (ex_sample _).mono ?_; rintro e wa ⟨qa, ra, rfl, hs, hk⟩)
    | (go_at_call 65; refine (ex_kind _).mono ?_; rintro e wb ⟨ga, ha, rfl, hd, hk⟩; replace hs := hs.kp hk)
    | (go_at_call 21; refine (ex_is _ _ _ _ _ hs hd).mono ?_; rintro e wc ⟨rfl, hk⟩; clear hs hd)
    | (go_at_call 21; refine (ex_isnt _ _ _ hs).mono ?_; rintro e wd ⟨rfl, hk⟩; clear hs)
    | (go_at_call 46; refine (int_any _ _).mono ?_; rintro e wf ⟨rfl, hk⟩)
    | (go_at_call 47; refine (text_any _ _).mono ?_; rintro e wg ⟨rfl, hk⟩)
    | (go_at_call 44; refine (tag_any _ _ _ _ _ _ _ _).mono ?_; rintro e wh ⟨rt, rfl, hrt, _, hk⟩)
    | (go_at_call 41; refine (tuple_any _ _ _ _).mono ?_; rintro e wi ⟨rfl, hk⟩; first | (have hqt := keepB hk (blockHere (o := .cells (leastCells rt none) 24 (0, 0)) rfl); replace hrt := keepB (kk (ka _ _) hk) hrt) | (have hqo := keepB hk (blockHere (o := .cells one4 24 (0, 0)) rfl)) | skip)
    | (go_at_call 23; refine (ex_same _ ql rl bl _ rt none (keepB (by assumption) hQ) (keepB (by assumption) hR) hqt hrt).mono ?_; rintro e wj ⟨rfl, hk⟩; clear hqt hrt)
    | (go_at_call 23; go_split_ands; refine (ex_same _ ql rl bl _ rt none (keepB (by assumption) hQ) (keepB (by assumption) hR) hqt hrt).mono ?_; rintro e wj ⟨rfl, hk⟩; clear hqt hrt)
    | (go_at_call 23; refine (ex_sameOne _ qp _ (keepB (by assumption) hqp) hqo).mono ?_; rintro e wj ⟨rfl, hk⟩; clear hqo)
    | (go_at_call 23; go_split_ands; refine (ex_sameOne _ qp _ (keepB (by assumption) hqp) hqo).mono ?_; rintro e wj ⟨rfl, hk⟩; clear hqo)
    | (go_at_call 17; refine (ex_type _).mono ?_; rintro e wk ⟨rfl, hk⟩))
  go_split_ands
  go_wp2_with fail
  go_ret
  exact ⟨rfl, kk HKW.out (by assumption)⟩

end Go.Proofs.YtkfmgafgokpjhaaGreatDoor

/-
  ValueOrders: the statement's function, at any two values that lie in memory.
-/
namespace Go.Proofs.YtkfmgafgokpjhaaGreatDoor
open Go.RowKit

theorem cmpV_two (x y : V) : ∃ a b : Int, cmpV x y = .tuple #[.int .i64 a, .int .i64 b] := by
  unfold cmpV; split <;> exact ⟨_, _, rfl⟩

set_option maxRecDepth 100000 in
set_option maxHeartbeats 4000000 in
theorem orders_any (x y : V) (w : World) (hx : x.In w w.heap.size) (hy : y.In w w.heap.size) (ht : Tb w w.heap.size) :
    Calls Tryz.prog 4 #[x.val, y.val] w fun e w' => e = .returned (.bool true) ∧ Kp w w' := by
  have C := fun w1 (h : Kp w w1) => compare_prog x y w1 (hx.keep h.size h) (hy.keep h.size h)
  have D := fun w1 (h : Kp w w1) => compare_spec x y w1 (hx.keep h.size h) (hy.keep h.size h)
  have E := fun w1 (h : Kp w w1) => valued_any w1 (ht.keep h h.size)
  obtain ⟨ca, cb, hc⟩ := cmpV_two x y
  rw [hc] at C D
  cases x with
  | mk k n s a cap l =>
  cases y with
  | mk k' n' s' a' cap' l' =>
  rw [V.val_mk, V.val_mk] at *
  have HC := Lib.hid C
  have HD := Lib.hid D
  have HE := Lib.hid E
  clear C D E hc hx hy ht
  go_enter Tryz.func4, Tryz.ntmps4
  go_wp2_with fail
  refine (HC.out _ (kk (ka _ _) (ka _ _))).mono ?_
  rintro e w1 ⟨rfl, hk⟩
  obtain ⟨b0, b1, b2, b3, d0, d1, d2, d3, hz⟩ := box44 hk
  have HK := Lib.hid (kk (kk (ka _ _) (ka _ _)) hk)
  clear hk
  go_wp2_with fail
  refine (HD.out _ HK.out).mono ?_
  rintro e w2 ⟨rfl, hk⟩
  have HK2 := Lib.hid (kk HK.out hk)
  clear hk b0 b1 b2 b3 d0 d1 d2 d3
  go_wp2_with fail
  refine (HE.out _ HK2.out).mono ?_
  rintro e w3 ⟨rfl, hk⟩
  have HK3 := Lib.hid (kk HK2.out hk)
  clear hk
  go_wp2_with fail
  go_ret
  exact ⟨rfl, HK3.out⟩

end Go.Proofs.YtkfmgafgokpjhaaGreatDoor

/-
  AN ARGUMENT OF THE TYPE api.Value, FROM ITS READING.
-/
namespace Go.Proofs.YtkfmgafgokpjhaaGreatDoor
open Go.RowKit

theorem list_of {α : Type} {p : Nat → α → Prop} : ∀ (n : Nat), (∀ i, i < n → ∃ v, p i v) → ∃ l : List α, l.length = n ∧ ∀ j x, l[j]? = some x → p j x
  | 0, _ => ⟨[], rfl, fun j x h => by simp at h⟩
  | n + 1, h => by
    obtain ⟨l, hl, hp⟩ := list_of n (fun i hi => h i (by omega))
    obtain ⟨v, hv⟩ := h n (by omega)
    refine ⟨l ++ [v], by simp [hl], fun j x hx => ?_⟩
    by_cases hj : j < l.length
    · rw [List.getElem?_append_left hj] at hx; exact hp j x hx
    · rw [List.getElem?_append_right (by omega)] at hx
      have : j = l.length := by
        have := (List.getElem?_eq_some_iff.1 hx).1
        simp at this; omega
      subst this
      simp at hx; subst hx; rw [hl]; exact hv

theorem i64_of_wf {n : Int} (h : (Lit.int .i64 n).wf = true) : I64 n := by
  simp [Lit.wf] at h
  have hm : IntKind.i64.min = -9223372036854775808 := by decide
  unfold I64
  omega

theorem addr_add (a : Addr) (i j : Nat) : (a.add i).add j = a.add (i + j) := by
  unfold Addr.add
  by_cases hi : i = 0 <;> by_cases hj : j = 0 <;> simp [hi, hj, Nat.add_assoc]

theorem cells24v : Tryz.prog.cellsOf 24 = 4 := by kernel_rfl
theorem cells3v : Tryz.prog.cellsOf 3 = 1 := by kernel_rfl
theorem cells9v : Tryz.prog.cellsOf 9 = 1 := by kernel_rfl
theorem cells22v : Tryz.prog.cellsOf 22 = 1 := by kernel_rfl

set_option maxRecDepth 100000 in
set_option maxHeartbeats 2000000 in
theorem open_value {H : Type} {enc : TypeId × Value → H} {w : World} {base : Nat} {spare : Nat → Bool} {held : Bool} : ∀ (fuel : Nat) (cs : List Value) (x : DataW H × List MemPlace),
    DataW.trod enc Tryz.prog w base spare held fuel 24 cs = some x → ∃ v : V, cs = [.int .i64 v.k, .int .i64 v.n, .string v.s, .slice v.a v.l.length v.cap] ∧ v.In w w.heap.size := by
  intro fuel
  induction fuel using Nat.strongRecOn with
  | ind fuel ih =>
    intro cs x h
    obtain ⟨xs, n, rfl, -, hl, hlen, hf⟩ := DataW.trod_struct Tryz.underlying24 h
    rw [cells24v] at hl
    match cs, hl, xs, hlen with
    | [c0, c1, c2, c3], _, [x0, x1, x2, x3], _ =>
      have g0 := hf 0 _ rfl
      have g1 := hf 1 _ rfl
      have g2 := hf 2 _ rfl
      have g3 := hf 3 _ rfl
      simp [cells3v, cells9v, cells22v] at g0 g1 g2 g3
      obtain ⟨k, e0, -, w0⟩ := DataW.trod_int Tryz.underlying3 g0
      obtain ⟨m, e1, -, w1⟩ := DataW.trod_int Tryz.underlying3 g1
      obtain ⟨s, e2, -, hs⟩ := DataW.trod_string Tryz.underlying9 g2
      simp at e0 e1 e2
      subst e0 e1 e2
      rcases DataW.trod_slice Tryz.underlying22 g3 with ⟨e3, -⟩ | ⟨a, len, cap, elems, rest, n', rfl, e3, -, hb, hlc, hcm, hel, hread, -, -⟩
      · simp at e3
        subst e3
        exact ⟨.mk k m s none 0 [], rfl, in_leaf k m s (i64_of_wf w0) (i64_of_wf w1) hs⟩
      · simp at e3
        subst e3
        obtain ⟨l, hll, hp⟩ := list_of (p := fun i (v : V) => w.cell? ⟨a.block, a.off + i * 4, none⟩ = some (.int .i64 v.k) ∧ w.cell? ⟨a.block, a.off + i * 4 + 1, none⟩ = some (.int .i64 v.n) ∧ w.cell? ⟨a.block, a.off + i * 4 + 2, none⟩ = some (.string v.s) ∧ w.cell? ⟨a.block, a.off + i * 4 + 3, none⟩ = some (.slice v.a v.l.length v.cap) ∧ (i = 0 → a.spot = none) ∧ a.block < w.heap.size ∧ v.In w w.heap.size) len (fun i hi => by
          have hr := hread i hi
          rw [cells24v] at hr
          have he : ∃ y, elems[i]? = some y := ⟨elems[i], by simp [hel, hi]⟩
          obtain ⟨y, hy⟩ := he
          rw [hy] at hr
          cases hc : w.cells? base (a.add (i * 4)) 4 with
          | none => rw [hc] at hr; cases hr
          | some cs' =>
            rw [hc] at hr
            obtain ⟨v, rfl, hv⟩ := ih n' (by omega) cs' y hr
            obtain ⟨_, _, hcell⟩ := World.cells?_some hc
            have k0 := hcell 0 (by omega)
            have k1 := hcell 1 (by omega)
            have k2 := hcell 2 (by omega)
            have k3 := hcell 3 (by omega)
            simp only [addr_add] at k0 k1 k2 k3
            have hspot : i = 0 → a.spot = none := fun hi0 => by
              subst hi0
              have : w.cell? a = some (.int .i64 v.k) := by simpa [Addr.add] using k0
              unfold World.cell? at this
              split at this
              · split at this
                · cases this
                · rename_i hs; simpa using hs
              · cases this
            have hblk : a.block < w.heap.size := by
              have := World.block_lt_of_cell? w _ (k1.trans (by rfl : _ = some (Value.int .i64 v.n)))
              simpa [Addr.add] using this
            refine ⟨v, ?_, ?_, ?_, ?_, hspot, hblk, hv⟩
            · by_cases hi0 : i = 0
              · subst hi0
                have hs := hspot rfl
                have : w.cell? a = some (.int .i64 v.k) := by simpa [Addr.add] using k0
                obtain ⟨ab, ao, asp⟩ := a
                simp at hs
                subst hs
                simpa using this
              · have h4 : ¬ i * 4 = 0 := by omega
                simpa [Addr.add, h4] using k0
            · simpa [Addr.add, Nat.add_assoc] using k1
            · simpa [Addr.add, Nat.add_assoc] using k2
            · simpa [Addr.add, Nat.add_assoc] using k3)
        obtain ⟨ab, ao, asp⟩ := a
        by_cases h0 : l = []
        · subst h0
          simp at hll
          subst hll
          refine ⟨.mk k m s (some ⟨ab, ao, asp⟩) cap [], rfl, ?_⟩
          simp [V.In, V.InL, i64_of_wf w0, i64_of_wf w1, hs, hcm]
        · have hpos : 0 < l.length := by cases l with
            | nil => exact absurd rfl h0
            | cons _ _ => simp
          have hsp : asp = none := (hp 0 l[0] (by simp)).2.2.2.2.1 rfl
          have hbl := (hp 0 l[0] (by simp)).2.2.2.2.2.1
          subst hsp
          refine ⟨.mk k m s (some ⟨ab, ao, none⟩) cap l, by subst hll; rfl, ?_⟩
          simp only [V.In]
          refine ⟨i64_of_wf w0, i64_of_wf w1, hs, by omega, hcm, .inr ⟨ab, ao, rfl, hbl, fun j x hx => ?_⟩, V.InL_iff.2 fun j x hx => (hp j x hx).2.2.2.2.2.2⟩
          obtain ⟨r0, r1, r2, r3, -⟩ := hp j x hx
          exact ⟨r0, r1, r2, r3⟩

end Go.Proofs.YtkfmgafgokpjhaaGreatDoor

/-
  ValueOrders: WHAT THE WALKS GIVE, for every two arguments that read.
-/
namespace Go.Proofs.YtkfmgafgokpjhaaGreatDoor
open Go.ChangeShapes Go.WideShapes Go.ChangeAt Go.RowKit

theorem kidsP : Kids Tryz.prog (· < Tryz.prog.types.size) := kids_rows (by kernel_rfl) (by kernel_rfl)
theorem fullP : ∀ t e, t < Tryz.prog.types.size → Tryz.prog.underlying t = some (.slice e) → 0 < Tryz.prog.cellsOf e := slices_full_of Tryz.prog (by kernel_rfl)

theorem kp_kept {W W' : World} (h : Kp W W') (may : MemPlace → Prop) : W.keptBut W' may := (World.keptBut_refl W may).congr h.os h.output h.block

/-- A place that lay in W lies the same in W'. -/
theorem kp_same {W W' : World} (h : Kp W W') {p : MemPlace} (hp : p.block < W.heap.size) : W.sameAt W' p := by
  cases p with
  | cell b o =>
    show W'.cell? ⟨b, o, none⟩ = W.cell? ⟨b, o, none⟩
    unfold World.cell?
    rw [show W'.heap[b]? = W.heap[b]? from h.block b hp]
  | map b => exact h.block b hp

theorem trod_kp {H : Type} {enc : TypeId × Value → H} {W W' : World} {base : Nat} {spare : Nat → Bool} {held : Bool} {t : TypeId} {v : Value} {d : DataW H} {ps : List MemPlace} (h : DataW.Trod enc Tryz.prog W base spare held t v d ps) (hk : Kp W W') (hlt : ∀ p ∈ ps, p.block < W.heap.size) :
    DataW.Trod enc Tryz.prog W' base spare held t v d ps := by
  obtain ⟨n, hn⟩ := h
  exact ⟨n, DataW.trod_carry n _ _ _ hn (fun p hp => kp_same hk (hlt p hp))⟩

set_option maxRecDepth 100000 in
/-- A law that answers true and leaves all that was there as it was. -/
theorem post_of_kp {H : Type} {enc : TypeId × Value → H} {f : Func} {s : ChangeSpec} {apart fresh handsOn again : Bool} {W W' : World} {args : Array Value} {v : Value} {ds gs : List (DataW H)} {before pa pv : List MemPlace}
    (hW : DataW.Whole enc Tryz.prog f.params.toList s.vars apart W args.toList ds gs before) (hk : Kp W W')
    (hres : ∀ (b : Nat) (sp : Nat → Bool) (hd : Bool), DataW.TrodAll enc Tryz.prog W' b sp hd f.resultTypes.toList (v.resultList f.resultTypes.size) (s.fn H (ds ++ gs)).results [])
    (hargs : ∀ sp : Nat → Bool, (∀ p ∈ before, sp p.block = true) → DataW.TrodAll enc Tryz.prog W' 0 sp true f.params.toList args.toList (s.fn H (ds ++ gs)).args pa)
    (hvars : ∀ sp : Nat → Bool, (∀ p ∈ before, sp p.block = true) → DataW.TrodVars enc Tryz.prog W' sp s.vars (s.fn H (ds ++ gs)).vars pv)
    (hps : before = pa ++ pv)
    (hok : ∀ (j : Nat) (t : TypeId) (r : Value), f.resultTypes[j]? = some t → (v.resultList f.resultTypes.size)[j]? = some r → Value.okWide Tryz.prog W' .any 0 t r) :
    s.post enc Tryz.prog f apart fresh handsOn again W args v W' := by
  have hold : ∀ p ∈ before, p.block < W.heap.size := fun p hp => hW.lt p hp
  have hsp : ∀ p ∈ before, (fun b => decide (b < W.heap.size)) p.block = true := fun p hp => by simpa using hold p hp
  refine ⟨ds, gs, before, [], pa, pv, hW, hres _ _ _, hargs _ hsp, hvars _ hsp, kp_kept hk _, fun _ => ?_⟩
  obtain ⟨_, _, _, _, _, hz, hn⟩ := hW
  refine ⟨hok, _, _, ([] ++ pa) ++ pv, ⟨[] ++ pa, pv, trodAll_append (hargs _ (fun _ _ => rfl)) (hres _ _ _), hvars _ (fun _ _ => rfl), rfl, fun b off hp => ?_, fun ha => ?_⟩, fun p hp _ => by rw [hps]; simpa using hp⟩
  · have hb : MemPlace.cell b off ∈ before := by rw [hps]; simpa using hp
    have hfr : W'.frozen? ⟨b, off, none⟩ = W.frozen? ⟨b, off, none⟩ := by
      unfold World.frozen?
      rw [show W'.heap[b]? = W.heap[b]? from hk.block b (hold _ hb)]
    rw [hfr]
    exact hz b off hb
  · have := hn ha
    rw [hps] at this
    simpa using this

set_option maxRecDepth 100000 in
/-- What reads as a value is one. -/
theorem open_arg {H : Type} {enc : TypeId × Value → H} {W : World} {base : Nat} {spare : Nat → Bool} {held : Bool} {b0 : Nat} {v : Value} {d : DataW H} {ps : List MemPlace}
    (hval : Value.okWide Tryz.prog W .any b0 24 v) (h : DataW.Trod enc Tryz.prog W base spare held 24 v d ps) : ∃ x : V, v = x.val ∧ x.In W W.heap.size := by
  obtain ⟨cs, rfl, -⟩ := okWide_struct Tryz.underlying24 hval
  obtain ⟨fuel, hf⟩ := h
  obtain ⟨x, hx, hin⟩ := open_value fuel _ _ hf
  refine ⟨x, ?_, hin⟩
  have : cs = #[.int .i64 x.k, .int .i64 x.n, .string x.s, .slice x.a x.l.length x.cap] := by
    apply Array.ext'
    simpa [Value.cells] using hx
  rw [this]; rfl

set_option maxRecDepth 100000 in
theorem orders_contract (H : Type) (enc : TypeId × Value → H) (W : World) (base : Nat) (args : Array Value) (ds gs : List (DataW H)) (before : List MemPlace)
    (hval : ∀ (j : Nat) t v, Tryz.f4.params[j]? = some t → args[j]? = some v → Value.okWide Tryz.prog W .any base t v)
    (hW : DataW.Whole enc Tryz.prog Tryz.f4.params.toList Rows.valueOrdersSpec.vars false W args.toList ds gs before) (ht : Tb W W.heap.size) :
    Calls Tryz.prog 4 args W fun e W' => ∃ v, e = .returned v ∧ Rows.valueOrdersSpec.post enc Tryz.prog Tryz.f4 false true false false W args v W' := by
  have hW' := hW
  obtain ⟨p, q, hA0, hV, rfl, hfz, hnd⟩ := hW
  have hA : DataW.TrodAll enc Tryz.prog W 0 (fun _ => true) true Tryz.f4.params.toList args.toList ds p := hA0
  rw [Tryz.params4] at hA hval
  obtain ⟨v0, vs0, d0, ds0, p0, q0, hargs, rfl, rfl, h0, r0⟩ := trodAll_cons hA
  obtain ⟨v1, vs1, d1, ds1, p1, q1, rfl, rfl, rfl, h1, r1⟩ := trodAll_cons r0
  obtain ⟨rfl, rfl, rfl⟩ := trodAll_nil r1
  obtain rfl : args = #[v0, v1] := by cases args; simp_all
  obtain ⟨rfl, rfl⟩ := trodVars_none hV
  obtain ⟨x, rfl, hx⟩ := open_arg (hval 0 24 v0 rfl rfl) h0
  obtain ⟨y, rfl, hy⟩ := open_arg (hval 1 24 v1 rfl rfl) h1
  refine (orders_any x y W hx hy ht).mono fun e W' ⟨he, hk⟩ => ?_
  subst he
  refine ⟨_, rfl, ?_⟩
  have hlt : ∀ p ∈ p0 ++ (p1 ++ []) ++ [], p.block < W.heap.size := fun p hp => hW'.lt p hp
  have hT : 24 < Tryz.prog.types.size := of_decide_eq_true (by kernel_rfl)
  refine post_of_kp (pa := p0 ++ (p1 ++ [])) (pv := []) hW' hk (fun _ _ _ => trodAll_cons_mk (shut_bool Tryz.underlying4 _) trodAll_mk0) (fun sp hsp => ?_) (fun _ _ => rfl) rfl (ok_one (by kernel_rfl) rfl (okWide_bool_mk Tryz.underlying4 _))
  rw [Tryz.params4]
  exact trodAll_cons_mk (trod_kp (DataW.Trod.respare kidsP fullP hT h0 (fun p hp => hsp p (by simp [hp]))) hk (fun p hp => hlt p (by simp [hp])))
    (trodAll_cons_mk (trod_kp (DataW.Trod.respare kidsP fullP hT h1 (fun p hp => hsp p (by simp [hp]))) hk (fun p hp => hlt p (by simp [hp]))) trodAll_mk0)

end Go.Proofs.YtkfmgafgokpjhaaGreatDoor

/-
  ValueOrders: THE TABLE OF TENS, FROM THE ROW's LIST.
-/
namespace Go.Proofs.YtkfmgafgokpjhaaGreatDoor
open Go.ChangeShapes Go.WideShapes Go.ChangeAt Go.RowKit

theorem laid_tail {P : Program} {x : String × DataW Unit} {xs : List (String × DataW Unit)} {W : World} (h : laidMet P (x :: xs) W) : laidMet P xs W := by
  obtain ⟨ps, hl, hn, hc⟩ := h
  obtain ⟨g, t, cs, fuel, p, q, hg, ht, hv, hd, hr, rfl⟩ := hl
  exact ⟨q, hr, (List.nodup_append.1 hn).2.1, fun b off hp => hc b off (List.mem_append_right _ hp)⟩

theorem gTab : Tryz.prog.globalNamed "internal/strconv.uint64pow10" = some 3 := by kernel_rfl

theorem tens {W : World} (h : laidMetH Tryz.prog Rows.valueOrdersRow.laid W) : Tb W W.heap.size := by
  have h1 : laidMet Tryz.prog Rows.valueOrdersRow.laid W := h
  have h2 := laid_tail (laid_tail h1)
  refine Lib.tabBelow_of_tabIs ?_
  exact Lib.tabIs_of_head gTab (t := 179) (n := 20) (e := 167) (by kernel_rfl) (by kernel_rfl) (by kernel_rfl) (by kernel_rfl) (by kernel_rfl) h2

end Go.Proofs.YtkfmgafgokpjhaaGreatDoor

/-
  PLAIN MATHEMATICS, no Go: in which blocks a value lies; a value that a call has made.
-/
namespace Go.Proofs.YtkfmgafgokpjhaaGreatDoor
open Go.RowKit

mutual
/-- Each list of a value lies in a block of which P holds. -/
def V.foot (P : Nat → Prop) : V → Prop
  | .mk _ _ _ a _ l => (l = [] ∨ ∃ b off, a = some ⟨b, off, none⟩ ∧ P b) ∧ V.footL P l
def V.footL (P : Nat → Prop) : List V → Prop
  | [] => True
  | x :: xs => x.foot P ∧ V.footL P xs
end

theorem V.footL_iff {P : Nat → Prop} {l : List V} : V.footL P l ↔ ∀ (j : Nat) (x : V), l[j]? = some x → x.foot P := by
  induction l with
  | nil => simp [V.footL]
  | cons y ys ih =>
    simp only [V.footL, ih]
    constructor
    · rintro ⟨h1, h2⟩ j x hj
      cases j with
      | zero => simp at hj; exact hj ▸ h1
      | succ j => exact h2 j x (by simpa using hj)
    · intro h
      exact ⟨h 0 y (by simp), fun j x hj => h (j + 1) x (by simpa using hj)⟩

mutual
theorem V.foot.mono {P Q : Nat → Prop} (h : ∀ b, P b → Q b) : ∀ (v : V), v.foot P → v.foot Q
  | .mk k n s a cap l, hv => by
    simp only [V.foot] at hv ⊢
    refine ⟨?_, V.footL.mono h l hv.2⟩
    rcases hv.1 with h1 | ⟨b, off, ha, hb⟩
    · exact .inl h1
    · exact .inr ⟨b, off, ha, h b hb⟩
theorem V.footL.mono {P Q : Nat → Prop} (h : ∀ b, P b → Q b) : ∀ (l : List V), V.footL P l → V.footL Q l
  | [], _ => trivial
  | x :: xs, hv => ⟨V.foot.mono h x hv.1, V.footL.mono h xs hv.2⟩
end

theorem At.move {w w' : World} {b off : Nat} {l : List V} (h : At w b off l) (k : w'.heap[b]? = w.heap[b]?) : At w' b off l := fun j x hj => by
  obtain ⟨h0, h1, h2, h3⟩ := h j x hj
  exact ⟨(World.cell?_of_block k).trans h0, (World.cell?_of_block k).trans h1, (World.cell?_of_block k).trans h2, (World.cell?_of_block k).trans h3⟩

mutual
/-- What memory holds is still held where the blocks in which it lies are as they were. -/
theorem V.In.move {w w' : World} {B C : Nat} {P : Nat → Prop} (hC : B ≤ C) (k : ∀ b, b < B → P b → w'.heap[b]? = w.heap[b]?) : ∀ (v : V), v.In w B → v.foot P → v.In w' C
  | .mk c n s a cap l, hv, hf => by
    simp only [V.In, V.foot] at hv hf ⊢
    obtain ⟨h1, h2, h3, h4, h5, h6, h7⟩ := hv
    refine ⟨h1, h2, h3, h4, h5, ?_, V.InL.move hC k l h7 hf.2⟩
    rcases hf.1 with h8 | ⟨b', off', ha', hp⟩
    · exact .inl h8
    · rcases h6 with h6 | ⟨b, off, ha, hb, hat⟩
      · exact .inl h6
      · refine .inr ⟨b, off, ha, by omega, hat.move (k b hb ?_)⟩
        rw [ha] at ha'
        cases ha'
        exact hp
theorem V.InL.move {w w' : World} {B C : Nat} {P : Nat → Prop} (hC : B ≤ C) (k : ∀ b, b < B → P b → w'.heap[b]? = w.heap[b]?) : ∀ (l : List V), V.InL w B l → V.footL P l → V.InL w' C l
  | [], _, _ => trivial
  | x :: xs, hv, hf => ⟨V.In.move hC k x hv.1 hf.1, V.InL.move hC k xs hv.2 hf.2⟩
end

/-- A call has made a value that is the same as y: it lies in new memory. -/
def Makes (w : World) (y : V) (e : Ending) (w' : World) : Prop :=
  ∃ x : V, e = .returned x.val ∧ x.In w' w'.heap.size ∧ x.foot (fun b => w.heap.size ≤ b) ∧ x.same y = true ∧ Kp w w'

/-- A call has made a value that is the same as y, and another number. -/
def Makes2 (w : World) (y : V) (c : Int) (e : Ending) (w' : World) : Prop :=
  ∃ x : V, e = .returned (.tuple #[x.val, .int .i64 c]) ∧ x.In w' w'.heap.size ∧ x.foot (fun b => w.heap.size ≤ b) ∧ x.same y = true ∧ Kp w w'

/-- A value without parts. -/
theorem V.foot_leaf {P : Nat → Prop} (k n : Int) (s : ByteArray) (a : Option Addr) (cap : Nat) : (V.mk k n s a cap []).foot P := by simp [V.foot, V.footL]

mutual
theorem V.same_refl : ∀ (v : V), v.same v = true
  | .mk k n s a cap l => by simp [V.same, V.sameL_refl l]
theorem V.sameL_refl : ∀ (l : List V), V.sameL l l = true
  | [] => by simp [V.sameL]
  | x :: xs => by simp [V.sameL, V.same_refl x, V.sameL_refl xs]
end
mutual
theorem V.same_symm : ∀ (v w : V), v.same w = true → w.same v = true
  | .mk k n s a cap l, .mk k' n' s' a' cap' l', h => by
    simp [V.same] at h ⊢
    exact ⟨h.1.symm, h.2.1.symm, h.2.2.1.symm, V.sameL_symm l l' h.2.2.2⟩
theorem V.sameL_symm : ∀ (l m : List V), V.sameL l m = true → V.sameL m l = true
  | [], [], _ => by simp [V.sameL]
  | [], _ :: _, h => by simp [V.sameL] at h
  | _ :: _, [], h => by simp [V.sameL] at h
  | x :: xs, y :: ys, h => by
    simp [V.sameL] at h ⊢
    exact ⟨V.same_symm x y h.1, V.sameL_symm xs ys h.2⟩
end
mutual
theorem V.same_trans : ∀ (u v w : V), u.same v = true → v.same w = true → u.same w = true
  | .mk k n s a cap l, .mk k' n' s' a' cap' l', .mk k2 n2 s2 a2 cap2 l2, h, h' => by
    simp [V.same] at h h' ⊢
    exact ⟨h.1.trans h'.1, h.2.1.trans h'.2.1, h.2.2.1.trans h'.2.2.1, V.sameL_trans l l' l2 h.2.2.2 h'.2.2.2⟩
theorem V.sameL_trans : ∀ (k l m : List V), V.sameL k l = true → V.sameL l m = true → V.sameL k m = true
  | [], [], [], _, _ => by simp [V.sameL]
  | [], [], _ :: _, _, h => by simp [V.sameL] at h
  | [], _ :: _, _, h, _ => by simp [V.sameL] at h
  | _ :: _, [], _, h, _ => by simp [V.sameL] at h
  | _ :: _, _ :: _, [], _, h => by simp [V.sameL] at h
  | x :: xs, y :: ys, z :: zs, h, h' => by
    simp [V.sameL] at h h' ⊢
    exact ⟨V.same_trans x y z h.1 h'.1, V.sameL_trans xs ys zs h.2 h'.2⟩
end

theorem V.sameL_snoc {l m : List V} {x y : V} (h : V.sameL l m = true) (hx : x.same y = true) : V.sameL (l ++ [x]) (m ++ [y]) = true := by
  induction l generalizing m with
  | nil => cases m with
    | nil => simp [V.sameL, hx]
    | cons _ _ => simp [V.sameL] at h
  | cons z zs ih => cases m with
    | nil => simp [V.sameL] at h
    | cons b bs =>
      simp [V.sameL] at h ⊢
      exact ⟨h.1, ih h.2⟩

theorem V.same_node {k n : Int} {s : ByteArray} {a a' : Option Addr} {cap cap' : Nat} {l m : List V} (h : V.sameL l m = true) : (V.mk k n s a cap l).same (.mk k n s a' cap' m) = true := by
  simp only [V.same, h]; simp
theorem V.sameL_one {x y : V} (h : x.same y = true) : V.sameL [x] [y] = true := by
  show (x.same y && V.sameL [] []) = true
  rw [h]; simp [V.sameL]

theorem V.InL_snoc {w : World} {B : Nat} {l : List V} {x : V} (h : V.InL w B l) (hx : x.In w B) : V.InL w B (l ++ [x]) := by
  induction l with
  | nil => exact ⟨hx, trivial⟩
  | cons z zs ih => exact ⟨h.1, ih h.2⟩
theorem V.footL_snoc {P : Nat → Prop} {l : List V} {x : V} (h : V.footL P l) (hx : x.foot P) : V.footL P (l ++ [x]) := by
  induction l with
  | nil => exact ⟨hx, trivial⟩
  | cons z zs ih => exact ⟨h.1, ih h.2⟩
theorem V.InL.keep {w w' : World} {B C : Nat} {l : List V} (h : V.InL w B l) (hC : B ≤ C) (k : Below B w w') : V.InL w' C l := by
  rw [V.InL_iff] at h ⊢
  exact fun j x hx => (h j x hx).keep hC k

/-- The four cells of a value, and those of a list. -/
def V.cells4 (x : V) : List Value := [.int .i64 x.k, .int .i64 x.n, .string x.s, .slice x.a x.l.length x.cap]
def cellsL (l : List V) : List Value := l.flatMap V.cells4

theorem cellsL_length (l : List V) : (cellsL l).length = l.length * 4 := by
  induction l with
  | nil => rfl
  | cons x xs ih => simp [cellsL, V.cells4] at ih ⊢; omega
theorem cellsL_snoc (l : List V) (x : V) : cellsL (l ++ [x]) = cellsL l ++ x.cells4 := by simp [cellsL]
theorem cellsL_at : ∀ (l : List V) (j : Nat) (x : V), l[j]? = some x → (cellsL l)[j * 4]? = some (.int .i64 x.k) ∧ (cellsL l)[j * 4 + 1]? = some (.int .i64 x.n) ∧ (cellsL l)[j * 4 + 2]? = some (.string x.s) ∧ (cellsL l)[j * 4 + 3]? = some (.slice x.a x.l.length x.cap)
  | [], j, x, h => by simp at h
  | y :: ys, 0, x, h => by simp at h; subst h; simp [cellsL, V.cells4]
  | y :: ys, j + 1, x, h => by
    have ih := cellsL_at ys j x (by simpa using h)
    have hc : cellsL (y :: ys) = .int .i64 y.k :: .int .i64 y.n :: .string y.s :: .slice y.a y.l.length y.cap :: cellsL ys := by simp [cellsL, V.cells4]
    rw [hc, show (j + 1) * 4 = j * 4 + 1 + 1 + 1 + 1 from by omega]
    simpa using ih

/-- A list of values that a row of the call's own holds. -/
theorem At.of_row {w : World} {base g n cap : Nat} {t : TypeId} {l : List V} (h : w.ownsRow base t 4 (.slice (some ⟨g, 0, none⟩) n cap) n (cellsL l)) : At w g 0 l := fun j x hj => by
  have hc := h.cells (g := g) rfl
  obtain ⟨h0, h1, h2, h3⟩ := cellsL_at l j x hj
  have ad : ∀ i, (⟨g, 0, none⟩ : Addr).add i = ⟨g, i, none⟩ := fun i => by unfold Addr.add; split <;> simp_all
  have c0 := hc _ _ h0
  have c1 := hc _ _ h1
  have c2 := hc _ _ h2
  have c3 := hc _ _ h3
  rw [ad] at c0 c1 c2 c3
  simpa using ⟨c0, c1, c2, c3⟩

/-- A row whose block is known whole. -/
theorem At.of_block {w : World} {g t : Nat} {fr : Nat × Nat} {cs : Array Value} {l : List V} (h : w.heap[g]? = some (.cells cs t fr)) (hc : cs.toList = cellsL l) : At w g 0 l := fun j x hj => by
  obtain ⟨h0, h1, h2, h3⟩ := cellsL_at l j x hj
  rw [← hc] at h0 h1 h2 h3
  simp only [Array.getElem?_toList] at h0 h1 h2 h3
  simp only [Nat.zero_add, World.cell?, h, h0, h1, h2, h3]
  simp

mutual
theorem V.In.foot_lt {w : World} {B : Nat} {P : Nat → Prop} : ∀ (v : V), v.In w B → v.foot P → v.foot (fun b => P b ∧ b < B)
  | .mk c n s a cap l, hv, hf => by
    simp only [V.In, V.foot] at hv hf ⊢
    obtain ⟨h1, h2, h3, h4, h5, h6, h7⟩ := hv
    refine ⟨?_, V.InL.foot_lt l h7 hf.2⟩
    rcases hf.1 with h8 | ⟨b', off', ha', hp⟩
    · exact .inl h8
    · rcases h6 with h6 | ⟨b, off, ha, hb, hat⟩
      · exact .inl h6
      · rw [ha] at ha'
        cases ha'
        exact .inr ⟨_, _, ha, hp, hb⟩
theorem V.InL.foot_lt {w : World} {B : Nat} {P : Nat → Prop} : ∀ (l : List V), V.InL w B l → V.footL P l → V.footL (fun b => P b ∧ b < B) l
  | [], _, _ => trivial
  | x :: xs, hv, hf => ⟨V.In.foot_lt x hv.1 hf.1, V.InL.foot_lt xs hv.2 hf.2⟩
end

theorem ownsRow_kp {w w' : World} {base size n : Nat} {e : TypeId} {v : Value} {xs : List Value} (h : w.ownsRow base e size v n xs) (k : Kp w w') : w'.ownsRow base e size v n xs := by
  refine ⟨h.1, ?_⟩
  rcases h.2 with hn | ⟨g, cap, cur, rfl, hb, hg, rest⟩
  · exact .inl hn
  · exact .inr ⟨g, cap, cur, rfl, hb, (k.block g (Array.getElem?_eq_some_iff.1 hg).1).trans hg, rest⟩
theorem ownsRow_set {w : World} {base size n b i : Nat} {e : TypeId} {v u : Value} {xs : List Value} (h : w.ownsRow base e size v n xs) (hb : b < base) : (w.setCell ⟨b, i, none⟩ u).ownsRow base e size v n xs := by
  refine ⟨h.1, ?_⟩
  rcases h.2 with hn | ⟨g, cap, cur, rfl, hbg, hg, rest⟩
  · exact .inl hn
  · exact .inr ⟨g, cap, cur, rfl, hbg, (Below.heap_setCell _ _ _ _ (by show g ≠ b; omega)).trans hg, rest⟩

/-- A tuple in the making in block vb: its parts vs (the same as ys) lie in a row of the call's own. -/
structure TupAt (w : World) (vb : Nat) (ys : List V) (sl : Value) (vs : List V) : Prop where
  box : w.heap[vb]? = some (.cells #[.int .i64 2, .int .i64 0, .string ⟨#[]⟩, sl] 24 (0, 0))
  own : w.ownsRow (vb + 1) 24 4 sl vs.length (cellsL vs)
  same : V.sameL vs ys = true
  hin : V.InL w w.heap.size vs
  foot : V.footL (fun b => vb < b ∧ sl.ownBlock ≠ some b) vs

theorem V.sameL_length : ∀ (l m : List V), V.sameL l m = true → l.length = m.length
  | [], [], _ => rfl
  | [], _ :: _, h => by simp [V.sameL] at h
  | _ :: _, [], h => by simp [V.sameL] at h
  | x :: xs, y :: ys, h => by simp [V.sameL] at h; simp [V.sameL_length xs ys h.2]

theorem TupAt.lt {w : World} {vb : Nat} {ys : List V} {sl : Value} {vs : List V} (h : TupAt w vb ys sl vs) : vb < w.heap.size := (Array.getElem?_eq_some_iff.1 h.box).1

theorem TupAt.kp {w w' : World} {vb : Nat} {ys : List V} {sl : Value} {vs : List V} (h : TupAt w vb ys sl vs) (k : Kp w w') : TupAt w' vb ys sl vs :=
  ⟨(k.block _ h.lt).trans h.box, ownsRow_kp h.own k, h.same, h.hin.keep k.size k, h.foot⟩

theorem TupAt.step {wr wz wc w2 : World} {vb g cap : Nat} {ys : List V} {sl : Value} {vs : List V} {z y : V} (h : TupAt wr vb ys sl vs) (hkz : Kp wr wz) (hz : z.In wz wz.heap.size) (hf : z.foot (fun b => wr.heap.size ≤ b)) (hs : z.same y = true)
    (hkc : Kp wz wc) (hown : w2.ownsRow (vb + 1) 24 4 (.slice (some ⟨g, 0, none⟩) (vs.length + 1) cap) (vs.length + 1) (cellsL vs ++ z.cells4)) (hg : wc.grownBy w2 sl.ownBlock) (hat : sl.ownBlock = some g ∨ g = wc.heap.size) :
    TupAt (w2.setCell ⟨vb, 3, none⟩ (.slice (some ⟨g, 0, none⟩) (vs.length + 1) cap)) vb (ys ++ [y]) (.slice (some ⟨g, 0, none⟩) (vs.length + 1) cap) (vs ++ [z]) := by
  have hvb := h.lt
  have hrow := h.own.lt
  have hkk := kk hkz hkc
  have hz1 := hkk.size
  have hz2 := hkc.size
  have hz3 : wc.heap.size ≤ w2.heap.size := by obtain ⟨_, _, _, h4, _⟩ := hg; exact h4
  have hz4 : w2.heap.size = (w2.setCell ⟨vb, 3, none⟩ (.slice (some ⟨g, 0, none⟩) (vs.length + 1) cap)).heap.size := by simp [World.setCell]
  have hvr : some vb ≠ sl.ownBlock := fun e => by have := (hrow vb e.symm).1; omega
  have hbox : w2.heap[vb]? = some (.cells #[.int .i64 2, .int .i64 0, .string ⟨#[]⟩, sl] 24 (0, 0)) := (hg.block vb (by omega) hvr).trans ((hkk.block _ hvb).trans h.box)
  have mv : ∀ b, b < wc.heap.size → (vb < b ∧ sl.ownBlock ≠ some b) → (w2.setCell ⟨vb, 3, none⟩ (.slice (some ⟨g, 0, none⟩) (vs.length + 1) cap)).heap[b]? = wc.heap[b]? := fun b hb hp =>
    (Below.heap_setCell _ _ _ _ (by show b ≠ vb; omega)).trans (hg.block b hb (Ne.symm hp.2))
  have hfz : z.foot (fun b => (wr.heap.size ≤ b) ∧ b < wz.heap.size) := V.In.foot_lt z hz hf
  have hfv : V.footL (fun b => (vb < b ∧ sl.ownBlock ≠ some b) ∧ b < wr.heap.size) vs := V.InL.foot_lt vs h.hin h.foot
  have hzp : z.foot (fun b => vb < b ∧ sl.ownBlock ≠ some b) := V.foot.mono (fun b hb => ⟨by omega, fun e => by have := (hrow b e).2; omega⟩) z hfz
  refine ⟨?_, ?_, V.sameL_snoc h.same hs, ?_, ?_⟩
  · have := heap_setCell_same w2 vb 3 _ _ (.slice (some ⟨g, 0, none⟩) (vs.length + 1) cap) hbox
    simpa using this
  · rw [cellsL_snoc, List.length_append]
    exact ownsRow_set hown (by omega)
  · rw [← hz4]
    refine V.InL_snoc (V.InL.move hz3 mv vs (h.hin.keep hz1 hkk) h.foot) (V.In.move hz3 mv z (hz.keep hz2 hkc) hzp)
  · refine V.footL_snoc (V.footL.mono (fun b hb => ⟨hb.1.1, ?_⟩) vs hfv) (V.foot.mono (fun b hb => ⟨by omega, ?_⟩) z hfz)
    · intro e
      have e' : g = b := by simpa [Value.ownBlock] using e
      subst e'
      rcases hat with h1 | h1
      · exact hb.1.2 h1
      · omega
    · intro e
      have e' : g = b := by simpa [Value.ownBlock] using e
      subst e'
      rcases hat with h1 | h1
      · have := (hrow g h1).2; omega
      · omega

/-- What has been made is a value. -/
theorem TupAt.value {w : World} {vb : Nat} {ys : List V} {sl : Value} {vs : List V} (h : TupAt w vb ys sl vs) : ∃ a cap, sl = .slice a vs.length cap ∧ (V.mk 2 0 ⟨#[]⟩ a cap vs).In w w.heap.size ∧ (V.mk 2 0 ⟨#[]⟩ a cap vs).foot (fun b => vb < b) := by
  have hft : V.footL (fun b => vb < b) vs := V.footL.mono (fun b hb => hb.1) vs h.foot
  rcases h.own.2 with ⟨hs, hn⟩ | ⟨g, cap, cur, hs, hb, hg, hnc, hcm, -, -⟩
  · have : vs = [] := List.length_eq_zero_iff.1 hn
    subst this
    refine ⟨none, 0, hs, ?_, V.foot_leaf _ _ _ _ _⟩
    simp [V.In, V.InL, I64]
    decide
  · refine ⟨some ⟨g, 0, none⟩, cap, hs, ?_, ?_⟩
    · simp only [V.In]
      have hrow := h.own
      rw [hs] at hrow
      exact ⟨by unfold I64; omega, by unfold I64; omega, by decide, hnc, hcm, .inr ⟨g, 0, rfl, (Array.getElem?_eq_some_iff.1 hg).1, At.of_row hrow⟩, h.hin⟩
    · simp only [V.foot]
      exact ⟨.inr ⟨g, 0, rfl, by omega⟩, hft⟩

theorem kp_grown {w wc w2 : World} {row : Option Nat} (h : Kp w wc) (hg : wc.grownBy w2 row) (hr : ∀ k, row = some k → w.heap.size ≤ k) : Kp w w2 := by
  have hsz := h.size
  obtain ⟨h1, h2, h3, h4, h5⟩ := hg
  obtain ⟨k1, k2, k3, k4, k5⟩ := h
  exact ⟨h1.trans k1, h2.trans k2, h3.trans k3, Nat.le_trans k4 h4, fun k hk => (h5 k (by omega) (fun e => by have := hr k e.symm; omega)).trans (k5 k hk)⟩

theorem step_block {wr wz wc w2 : World} {vb k i : Nat} {row : Option Nat} {o : Obj} {u : Value} (hk : Kp wr wz) (hc : Kp wz wc) (hg : wc.grownBy w2 row) (hrow : some k ≠ row) (hkv : k ≠ vb) (h : wr.heap[k]? = some o) : (w2.setCell ⟨vb, i, none⟩ u).heap[k]? = some o := by
  have hlt := (Array.getElem?_eq_some_iff.1 h).1
  have := (hk.trans (hc.mono hk.size)).size
  exact (Below.heap_setCell _ _ _ _ (by show k ≠ vb; exact hkv)).trans ((hg.block k (by omega) hrow).trans (((hk.trans (hc.mono hk.size)).block k hlt).trans h))

theorem I64.ofSmall {n : Int} (h : -2147483648 ≤ n) (h' : n ≤ 2147483648) : I64 n := by unfold I64; omega

mutual
/-- The least value of a type. -/
def T.lst : T → V
  | .mk k _ _ l => if k = 1 then .mk 1 0 ⟨#[]⟩ none 0 [] else if k = 2 then .mk 2 0 ⟨#[]⟩ none 0 (T.lstL l) else if k = 3 then .mk 3 0 ⟨#[]⟩ none 0 (T.lstH l) else .mk 0 (-2147483648) ⟨#[]⟩ none 0 []
def T.lstL : List T → List V
  | [] => []
  | x :: xs => x.lst :: T.lstL xs
def T.lstH : List T → List V
  | [] => []
  | x :: _ => [x.lst]
end

theorem lstL_length (l : List T) : (T.lstL l).length = l.length := by
  induction l with
  | nil => rfl
  | cons x xs ih => simp [T.lstL, ih]
theorem lstL_take (l : List T) (j : Nat) (x : T) (h : l[j]? = some x) : T.lstL (l.take (j + 1)) = T.lstL (l.take j) ++ [x.lst] := by
  induction l generalizing j with
  | nil => simp at h
  | cons y ys ih =>
    cases j with
    | zero => simp at h; subst h; simp [T.lstL]
    | succ j => have := ih j (by simpa using h); simp [T.lstL, this]

end Go.Proofs.YtkfmgafgokpjhaaGreatDoor

/-
  PLAIN MATHEMATICS: WHERE A TYPE's PARTS LIE; A TYPE IN THE MAKING.
-/
namespace Go.Proofs.YtkfmgafgokpjhaaGreatDoor
open Go.RowKit

mutual
/-- Each list of a type lies in a block of which P holds. -/
def T.foot (P : Nat → Prop) : T → Prop
  | .mk _ a _ l => (l = [] ∨ ∃ b off, a = some ⟨b, off, none⟩ ∧ P b) ∧ T.footL P l
def T.footL (P : Nat → Prop) : List T → Prop
  | [] => True
  | x :: xs => x.foot P ∧ T.footL P xs
end

mutual
theorem T.foot.mono {P Q : Nat → Prop} (h : ∀ b, P b → Q b) : ∀ (v : T), v.foot P → v.foot Q
  | .mk k a cap l, hv => by
    simp only [T.foot] at hv ⊢
    refine ⟨?_, T.footL.mono h l hv.2⟩
    rcases hv.1 with h1 | ⟨b, off, ha, hb⟩
    · exact .inl h1
    · exact .inr ⟨b, off, ha, h b hb⟩
theorem T.footL.mono {P Q : Nat → Prop} (h : ∀ b, P b → Q b) : ∀ (l : List T), T.footL P l → T.footL Q l
  | [], _ => trivial
  | x :: xs, hv => ⟨T.foot.mono h x hv.1, T.footL.mono h xs hv.2⟩
end

theorem AtT.move {w w' : World} {b off : Nat} {l : List T} (h : AtT w b off l) (k : w'.heap[b]? = w.heap[b]?) : AtT w' b off l := fun j x hj => by
  obtain ⟨h0, h1⟩ := h j x hj
  exact ⟨(World.cell?_of_block k).trans h0, (World.cell?_of_block k).trans h1⟩

mutual
/-- What memory holds is still held where the blocks in which it lies are as they were. -/
theorem T.In.move {w w' : World} {B C : Nat} {P : Nat → Prop} (hC : B ≤ C) (k : ∀ b, b < B → P b → w'.heap[b]? = w.heap[b]?) : ∀ (v : T), v.In w B → v.foot P → v.In w' C
  | .mk c a cap l, hv, hf => by
    simp only [T.In, T.foot] at hv hf ⊢
    obtain ⟨h1, h4, h5, h6, h7⟩ := hv
    refine ⟨h1, h4, h5, ?_, T.InL.move hC k l h7 hf.2⟩
    rcases hf.1 with h8 | ⟨b', off', ha', hp⟩
    · exact .inl h8
    · rcases h6 with h6 | ⟨b, off, ha, hb, hat⟩
      · exact .inl h6
      · refine .inr ⟨b, off, ha, by omega, hat.move (k b hb ?_)⟩
        rw [ha] at ha'
        cases ha'
        exact hp
theorem T.InL.move {w w' : World} {B C : Nat} {P : Nat → Prop} (hC : B ≤ C) (k : ∀ b, b < B → P b → w'.heap[b]? = w.heap[b]?) : ∀ (l : List T), T.InL w B l → T.footL P l → T.InL w' C l
  | [], _, _ => trivial
  | x :: xs, hv, hf => ⟨T.In.move hC k x hv.1 hf.1, T.InL.move hC k xs hv.2 hf.2⟩
end

/-- A type without parts. -/
theorem T.foot_leaf {P : Nat → Prop} (k : Int) (a : Option Addr) (cap : Nat) : (T.mk k a cap []).foot P := by simp [T.foot, T.footL]

theorem T.InL_snoc {w : World} {B : Nat} {l : List T} {x : T} (h : T.InL w B l) (hx : x.In w B) : T.InL w B (l ++ [x]) := by
  induction l with
  | nil => exact ⟨hx, trivial⟩
  | cons z zs ih => exact ⟨h.1, ih h.2⟩
theorem T.footL_snoc {P : Nat → Prop} {l : List T} {x : T} (h : T.footL P l) (hx : x.foot P) : T.footL P (l ++ [x]) := by
  induction l with
  | nil => exact ⟨hx, trivial⟩
  | cons z zs ih => exact ⟨h.1, ih h.2⟩
theorem T.InL.keep {w w' : World} {B C : Nat} {l : List T} (h : T.InL w B l) (hC : B ≤ C) (k : Below B w w') : T.InL w' C l := by
  rw [T.InL_iff] at h ⊢
  exact fun j x hx => (h j x hx).keep hC k

/-- The two cells of a type, and those of a list. -/
def T.cells2 (x : T) : List Value := [.int .i64 x.k, .slice x.a x.l.length x.cap]
def cellsTL (l : List T) : List Value := l.flatMap T.cells2

theorem cellsTL_length (l : List T) : (cellsTL l).length = l.length * 2 := by
  induction l with
  | nil => rfl
  | cons x xs ih => simp [cellsTL, T.cells2] at ih ⊢; omega
theorem cellsTL_snoc (l : List T) (x : T) : cellsTL (l ++ [x]) = cellsTL l ++ x.cells2 := by simp [cellsTL]
theorem cellsTL_at : ∀ (l : List T) (j : Nat) (x : T), l[j]? = some x → (cellsTL l)[j * 2]? = some (.int .i64 x.k) ∧ (cellsTL l)[j * 2 + 1]? = some (.slice x.a x.l.length x.cap)
  | [], j, x, h => by simp at h
  | y :: ys, 0, x, h => by simp at h; subst h; simp [cellsTL, T.cells2]
  | y :: ys, j + 1, x, h => by
    have ih := cellsTL_at ys j x (by simpa using h)
    have hc : cellsTL (y :: ys) = .int .i64 y.k :: .slice y.a y.l.length y.cap :: cellsTL ys := by simp [cellsTL, T.cells2]
    rw [hc, show (j + 1) * 2 = j * 2 + 1 + 1 from by omega]
    simpa using ih

/-- A list of types that a row of the call's own holds. -/
theorem AtT.of_row {w : World} {base g n cap : Nat} {t : TypeId} {l : List T} (h : w.ownsRow base t 2 (.slice (some ⟨g, 0, none⟩) n cap) n (cellsTL l)) : AtT w g 0 l := fun j x hj => by
  have hc := h.cells (g := g) rfl
  obtain ⟨h0, h1⟩ := cellsTL_at l j x hj
  have ad : ∀ i, (⟨g, 0, none⟩ : Addr).add i = ⟨g, i, none⟩ := fun i => by unfold Addr.add; split <;> simp_all
  have c0 := hc _ _ h0
  have c1 := hc _ _ h1
  rw [ad] at c0 c1
  simpa using ⟨c0, c1⟩

mutual
theorem T.In.foot_lt {w : World} {B : Nat} {P : Nat → Prop} : ∀ (v : T), v.In w B → v.foot P → v.foot (fun b => P b ∧ b < B)
  | .mk c a cap l, hv, hf => by
    simp only [T.In, T.foot] at hv hf ⊢
    obtain ⟨h1, h4, h5, h6, h7⟩ := hv
    refine ⟨?_, T.InL.foot_lt l h7 hf.2⟩
    rcases hf.1 with h8 | ⟨b', off', ha', hp⟩
    · exact .inl h8
    · rcases h6 with h6 | ⟨b, off, ha, hb, hat⟩
      · exact .inl h6
      · rw [ha] at ha'
        cases ha'
        exact .inr ⟨_, _, ha, hp, hb⟩
theorem T.InL.foot_lt {w : World} {B : Nat} {P : Nat → Prop} : ∀ (l : List T), T.InL w B l → T.footL P l → T.footL (fun b => P b ∧ b < B) l
  | [], _, _ => trivial
  | x :: xs, hv, hf => ⟨T.In.foot_lt x hv.1 hf.1, T.InL.foot_lt xs hv.2 hf.2⟩
end

/-- A type in the making in block vb: its kind k; its parts vs lie in a row of the call's own. -/
structure TupAtT (w : World) (vb : Nat) (k : Int) (sl : Value) (vs : List T) : Prop where
  box : w.heap[vb]? = some (.cells #[.int .i64 k, sl] 27 (0, 0))
  own : w.ownsRow (vb + 1) 27 2 sl vs.length (cellsTL vs)
  hin : T.InL w w.heap.size vs
  foot : T.footL (fun b => vb < b ∧ sl.ownBlock ≠ some b) vs

theorem TupAtT.lt {w : World} {vb : Nat} {k : Int} {sl : Value} {vs : List T} (h : TupAtT w vb k sl vs) : vb < w.heap.size := (Array.getElem?_eq_some_iff.1 h.box).1

theorem TupAtT.kp {w w' : World} {vb : Nat} {k : Int} {sl : Value} {vs : List T} (h : TupAtT w vb k sl vs) (hk : Kp w w') : TupAtT w' vb k sl vs :=
  ⟨(hk.block _ h.lt).trans h.box, ownsRow_kp h.own hk, h.hin.keep hk.size hk, h.foot⟩

theorem TupAtT.step {wr wz wc w2 : World} {vb g cap : Nat} {k : Int} {sl : Value} {vs : List T} {z : T} (h : TupAtT wr vb k sl vs) (hkz : Kp wr wz) (hz : z.In wz wz.heap.size) (hf : z.foot (fun b => wr.heap.size ≤ b))
    (hkc : Kp wz wc) (hown : w2.ownsRow (vb + 1) 27 2 (.slice (some ⟨g, 0, none⟩) (vs.length + 1) cap) (vs.length + 1) (cellsTL vs ++ z.cells2)) (hg : wc.grownBy w2 sl.ownBlock) (hat : sl.ownBlock = some g ∨ g = wc.heap.size) :
    TupAtT (w2.setCell ⟨vb, 1, none⟩ (.slice (some ⟨g, 0, none⟩) (vs.length + 1) cap)) vb k (.slice (some ⟨g, 0, none⟩) (vs.length + 1) cap) (vs ++ [z]) := by
  have hvb := h.lt
  have hrow := h.own.lt
  have hkk := kk hkz hkc
  have hz1 := hkk.size
  have hz2 := hkc.size
  have hz3 : wc.heap.size ≤ w2.heap.size := by obtain ⟨_, _, _, h4, _⟩ := hg; exact h4
  have hz4 : w2.heap.size = (w2.setCell ⟨vb, 1, none⟩ (.slice (some ⟨g, 0, none⟩) (vs.length + 1) cap)).heap.size := by simp [World.setCell]
  have hvr : some vb ≠ sl.ownBlock := fun e => by have := (hrow vb e.symm).1; omega
  have hbox : w2.heap[vb]? = some (.cells #[.int .i64 k, sl] 27 (0, 0)) := (hg.block vb (by omega) hvr).trans ((hkk.block _ hvb).trans h.box)
  have mv : ∀ b, b < wc.heap.size → (vb < b ∧ sl.ownBlock ≠ some b) → (w2.setCell ⟨vb, 1, none⟩ (.slice (some ⟨g, 0, none⟩) (vs.length + 1) cap)).heap[b]? = wc.heap[b]? := fun b hb hp =>
    (Below.heap_setCell _ _ _ _ (by show b ≠ vb; omega)).trans (hg.block b hb (Ne.symm hp.2))
  have hfz : z.foot (fun b => (wr.heap.size ≤ b) ∧ b < wz.heap.size) := T.In.foot_lt z hz hf
  have hfv : T.footL (fun b => (vb < b ∧ sl.ownBlock ≠ some b) ∧ b < wr.heap.size) vs := T.InL.foot_lt vs h.hin h.foot
  have hzp : z.foot (fun b => vb < b ∧ sl.ownBlock ≠ some b) := T.foot.mono (fun b hb => ⟨by omega, fun e => by have := (hrow b e).2; omega⟩) z hfz
  refine ⟨?_, ?_, ?_, ?_⟩
  · have := heap_setCell_same w2 vb 1 _ _ (.slice (some ⟨g, 0, none⟩) (vs.length + 1) cap) hbox
    simpa using this
  · rw [cellsTL_snoc, List.length_append]
    exact ownsRow_set hown (by omega)
  · rw [← hz4]
    refine T.InL_snoc (T.InL.move hz3 mv vs (h.hin.keep hz1 hkk) h.foot) (T.In.move hz3 mv z (hz.keep hz2 hkc) hzp)
  · refine T.footL_snoc (T.footL.mono (fun b hb => ⟨hb.1.1, ?_⟩) vs hfv) (T.foot.mono (fun b hb => ⟨by omega, ?_⟩) z hfz)
    · intro e
      have e' : g = b := by simpa [Value.ownBlock] using e
      subst e'
      rcases hat with h1 | h1
      · exact hb.1.2 h1
      · omega
    · intro e
      have e' : g = b := by simpa [Value.ownBlock] using e
      subst e'
      rcases hat with h1 | h1
      · have := (hrow g h1).2; omega
      · omega

/-- What has been made is a type. -/
theorem TupAtT.value {w : World} {vb : Nat} {k : Int} {sl : Value} {vs : List T} (hk : I64 k) (h : TupAtT w vb k sl vs) : ∃ a cap, sl = .slice a vs.length cap ∧ (T.mk k a cap vs).In w w.heap.size ∧ (T.mk k a cap vs).foot (fun b => vb < b) := by
  have hft : T.footL (fun b => vb < b) vs := T.footL.mono (fun b hb => hb.1) vs h.foot
  rcases h.own.2 with ⟨hs, hn⟩ | ⟨g, cap, cur, hs, hb, hg, hnc, hcm, -, -⟩
  · have : vs = [] := List.length_eq_zero_iff.1 hn
    subst this
    refine ⟨none, 0, hs, ?_, T.foot_leaf _ _ _⟩
    simp [T.In, T.InL, hk]
  · refine ⟨some ⟨g, 0, none⟩, cap, hs, ?_, ?_⟩
    · simp only [T.In]
      have hrow := h.own
      rw [hs] at hrow
      exact ⟨hk, hnc, hcm, .inr ⟨g, 0, rfl, (Array.getElem?_eq_some_iff.1 hg).1, AtT.of_row hrow⟩, h.hin⟩
    · simp only [T.foot]
      exact ⟨.inr ⟨g, 0, rfl, by omega⟩, hft⟩

/-- A call has made a type such as P says, and another number. -/
def MakesT (w : World) (P : T → Int → Prop) (e : Ending) (w' : World) : Prop :=
  ∃ (x : T) (c : Int), e = .returned (.tuple #[x.val, .int .i64 c]) ∧ x.In w' w'.heap.size ∧ x.foot (fun b => w.heap.size ≤ b) ∧ P x c ∧ Kp w w'

/-- A call has made a value such as P says, and another number. -/
def MakesV (w : World) (P : V → Int → Prop) (e : Ending) (w' : World) : Prop :=
  ∃ (x : V) (c : Int), e = .returned (.tuple #[x.val, .int .i64 c]) ∧ x.In w' w'.heap.size ∧ x.foot (fun b => w.heap.size ≤ b) ∧ P x c ∧ Kp w w'

/-- A list of numbers in memory. -/
def Ints (w : World) (B : Nat) (a : Option Addr) (cap : Nat) (l : List Int) : Prop :=
  l.length ≤ cap ∧ cap ≤ maxLen ∧ (∀ n ∈ l, I64 n) ∧ (l = [] ∨ ∃ b off, a = some ⟨b, off, none⟩ ∧ b < B ∧ ∀ (j : Nat) (n : Int), l[j]? = some n → w.cell? ⟨b, off + j, none⟩ = some (.int .i64 n))

theorem Ints.keep {w w' : World} {B C : Nat} {a : Option Addr} {cap : Nat} {l : List Int} (h : Ints w B a cap l) (hC : B ≤ C) (k : Below B w w') : Ints w' C a cap l := by
  obtain ⟨h1, h2, h3, h4⟩ := h
  refine ⟨h1, h2, h3, ?_⟩
  rcases h4 with h4 | ⟨b, off, ha, hb, hc⟩
  · exact .inl h4
  · exact .inr ⟨b, off, ha, by omega, fun j n hj => (k.cell (p := ⟨b, _, none⟩) hb).trans (hc j n hj)⟩


theorem inTLeaf0 {w : World} {B : Nat} (k : Int) (hk : I64 k) : (T.mk k none 0 []).In w B := by
  simp [T.In, T.InL, hk]

end Go.Proofs.YtkfmgafgokpjhaaGreatDoor

/-
  Turn, Nth: A NUMBER BELOW ANOTHER ONE; A NUMBER OF A LIST, ROUND AND ROUND.
-/
namespace Go.Proofs.YtkfmgafgokpjhaaGreatDoor
open Go.RowKit

/-- What Turn answers. -/
def turnI (n m : Int) : Int := if m < 1 then 0 else n % m

theorem turnI_range {n m : Int} (h : 1 ≤ m) : 0 ≤ turnI n m ∧ turnI n m < m := by
  unfold turnI
  rw [if_neg (by omega)]
  exact ⟨Int.emod_nonneg _ (by omega), Int.emod_lt_of_pos _ (by omega)⟩

theorem turn_any (n m : Int) (w : World) (hn : I64 n) (hm : I64 m) :
    Calls Tryz.prog 45 #[.int .i64 n, .int .i64 m] w fun e w' => e = .returned (.int .i64 (turnI n m)) ∧ w = w' := by
  unfold I64 at hn hm
  by_cases h1 : m < 1
  · have hv : turnI n m = 0 := by unfold turnI; rw [if_pos h1]
    rw [hv]
    have g1 : decide (m < 1) = true := by simpa using h1
    go_enter Tryz.func45, Tryz.ntmps45
    go_wp2_with fail
    go_ret
    exact ⟨rfl, rfl⟩
  · have hm0 : m ≠ 0 := by omega
    have hv : turnI n m = n % m := by unfold turnI; rw [if_neg h1]
    have hlo := Int.emod_nonneg n hm0
    have hhi := Int.emod_lt_of_pos n (by omega : 0 < m)
    rw [hv]
    have g1 : decide (m < 1) = false := by simpa using h1
    by_cases h0 : 0 ≤ n
    · have g2 : decide (n % m < 0) = false := by simpa using hlo
      clear hv
      go_enter Tryz.func45, Tryz.ntmps45
      go_wp2_with fail
      go_ret
      exact ⟨rfl, rfl⟩
    · have e := Int.tmod_eq_emod (a := n) (b := m)
      by_cases hd : m ∣ n
      · rw [if_pos (.inr hd)] at e
        have hz : n % m = 0 := Int.emod_eq_zero_of_dvd hd
        rw [hz] at e ⊢
        have e0 : n.tmod m = 0 := by omega
        clear e hv hz hd hlo hhi
        have g2 : decide (n.tmod m < 0) = false := by rw [e0]; rfl
        go_enter Tryz.func45, Tryz.ntmps45
        go_wp2_with fail
        go_ret
        exact ⟨by first | rfl | rw [e0], rfl⟩
      · rw [if_neg (by intro hh; rcases hh with hh | hh; exact h0 hh; exact hd hh)] at e
        have hr : n % m ≠ 0 := fun hz => hd (Int.dvd_of_emod_eq_zero hz)
        generalize n % m = r at *
        have e0 : n.tmod m = r - m := by omega
        have g2 : decide (n.tmod m < 0) = true := by rw [e0]; simp; omega
        have g3 : IntKind.i64.wrap (n.tmod m + m) = r := by rw [e0, show r - m + m = r from by omega]; exact IntWalk.i64_in _ (by omega)
        have H0 := Lib.hid e0
        clear e hv hr hd e0
        go_enter Tryz.func45, Tryz.ntmps45
        go_wp2_with fail
        go_ret
        exact ⟨rfl, rfl⟩

/-- What Nth answers. -/
def nthI (l : List Int) (at_ : Int) : Int := if l = [] then 0 else l.getD (turnI at_ l.length).toNat 0

theorem nth_any (a : Option Addr) (cap : Nat) (l : List Int) (n : Int) (w : World) (h : Ints w w.heap.size a cap l) (hn : I64 n) :
    Calls Tryz.prog 126 #[.slice a l.length cap, .int .i64 n] w fun e w' => e = .returned (.int .i64 (nthI l n)) ∧ w = w' ∧ I64 (nthI l n) := by
  obtain ⟨h1, h2, h3, h4⟩ := h
  unfold maxLen at h2
  by_cases hl : l = []
  · subst hl
    have hv : nthI [] n = 0 := rfl
    rw [hv]
    clear h3 h4 h1
    go_enter Tryz.func126, Tryz.ntmps126
    go_wp2_with fail
    go_ret
    exact ⟨rfl, rfl, by unfold I64; omega⟩
  · have hpos : 0 < l.length := List.length_pos_iff.2 hl
    rcases h4 with h4 | ⟨b, off, rfl, hb, hc⟩
    · exact absurd h4 hl
    have hv : nthI l n = l.getD (turnI n l.length).toNat 0 := by unfold nthI; rw [if_neg hl]
    have ht := turnI_range (n := n) (m := (l.length : Int)) (by omega)
    have T := turn_any n l.length w hn (by unfold I64; omega)
    rw [hv]
    generalize hq : turnI n l.length = q at *
    obtain ⟨j, rfl⟩ := Int.eq_ofNat_of_zero_le ht.1
    have hj : j < l.length := by omega
    simp only [Int.toNat_natCast] at hv ⊢
    obtain ⟨x, hx⟩ : ∃ x, l[j]? = some x := ⟨l[j], by simp [hj]⟩
    have hgd : l.getD j 0 = x := by simp [List.getD, hx]
    have hcell := hc j x hx
    have hI : I64 x := h3 x (List.mem_of_getElem? hx)
    rw [hgd]
    have HT := Lib.hid T
    have hlen : (l.length : Int) ≠ 0 := by omega
    have g1 : ((l.length : Int) == 0) = false := by rw [beq_eq_false_iff_ne]; omega
    have g2 : (j : Int) < l.length := by omega
    clear hq hv hgd hx hc h3 T hl
    go_enter Tryz.func126, Tryz.ntmps126
    go_wp2_with fail
    refine HT.out.mono ?_
    rintro e w' ⟨rfl, rfl⟩
    go_wp2_with fail
    go_ret
    exact ⟨rfl, rfl, hI⟩

end Go.Proofs.YtkfmgafgokpjhaaGreatDoor
