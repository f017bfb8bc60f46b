/-
  Contracts of the functions of package value, of its specification and of what the statements of layer 1 share (values and types made of numbers, the chapter's examples), each for every argument: used by the proofs of layer 1's statements.
  Part 8 of 12.
-/
import Derived.Test.YtkfmgafgokpjhaaGreatDoorBc06
import Derived.Test.YtkfmgafgokpjhaaGreatDoorBc01
import Derived.Test.YtkfmgafgokpjhaaGreatDoorBc05
import Derived.StillTailTactics
import Derived.BigQuiet
import Derived.Deep.QuietTactic
import Derived.Deep.RegionHeld3
import Derived.Test.YtkfmgafgokpjhaaGreatDoorBc07
import Derived.Test.YtkfmgafgokpjhaaGreatDoorBc04
import Derived.OwnWalk
/-
  THE SPECIFICATION's types, typed, ValidType, Type (written by wip/gen_types.py).
-/
namespace Go.Proofs.YtkfmgafgokpjhaaGreatDoor
open Go.RowKit

theorem ranksT_take (l : List T) (j : Nat) (x : T) (h : l[j]? = some x) : T.rank.ranks (l.take (j + 1)) = T.rank.ranks (l.take j) + x.rank := by
  induction l generalizing j with
  | nil => simp at h
  | cons y ys ih =>
    cases j with
    | zero => simp at h; subst h; simp [T.rank.ranks]
    | succ j => have := ih j (by simpa using h); simp [T.rank.ranks, this]; omega

theorem ranksT_le : ∀ (m : List T) (i : Nat), T.rank.ranks (m.take i) ≤ T.rank.ranks m := by
  intro m
  induction m with
  | nil => intro i; simp [T.rank.ranks]
  | cons y ys ih => intro i; cases i with
    | zero => simp [T.rank.ranks]
    | succ i => have := ih i; simp [T.rank.ranks]; omega

set_option maxRecDepth 100000 in
set_option maxHeartbeats 4000000 in
theorem types_ref : ∀ (N : Nat) (k : Int) (a : Option Addr) (cap : Nat) (l : List T) (w : World), (T.mk k a cap l).rank ≤ N → N ≤ 1000000000 → (T.mk k a cap l).In w w.heap.size →
    Calls Tryz.prog 97 #[.agg #[.int .i64 k, .slice a l.length cap]] w fun e w' => e = .returned (.int .i64 (T.mk k a cap l).rank) ∧ Kp w w' := by
  intro N
  induction N with
  | zero => intro k a cap l w h; have := T.rank_pos (.mk k a cap l); omega
  | succ N ih =>
    intro k a cap l w hN hM hin
    have hrk : (T.mk k a cap l).rank = 1 + T.rank.ranks l := rfl
    have hlen := T.lenLe hin
    have IH := Lib.hid ih
    have HIN := Lib.hid hin
    clear ih hin
    go_enter Tryz.func97, Tryz.ntmps97
    go_wp2_with fail
    go_loopw [3, 4] (fun c i wr => ∃ j : Nat, j ≤ l.length ∧ i = .int .i64 j ∧ c = .int .i64 ((1 + T.rank.ranks (l.take j) : Nat) : Int) ∧ Kp (w.alloc (.cells #[.int .i64 k, .slice a l.length cap] 27)) wr) (fun _ i _ => l.length - (intOf i).toNat)
    case atStart => exact ⟨0, Nat.zero_le _, rfl, by simp [T.rank.ranks], Below.refl _ _⟩
    case round =>
      obtain ⟨j, hj, rfl, rfl, hk⟩ := hrel
      obtain ⟨b0, b1, hz⟩ := box2 hk
      by_cases hlt : j < l.length
      · obtain ⟨x, hx⟩ : ∃ x, l[j]? = some x := ⟨l[j], by simp [hlt]⟩
        obtain ⟨p0, off, rfl, hp0, q0, q1, hxin⟩ := T.atPart HIN.out hx
        have hkw := kk (ka _ _) hk
        have r0 := kc hkw q0
        have r1 := kc hkw q1
        have hxr := hxin.keep hkw.size hkw
        have hrx := T.rank_part (v := .mk k (some ⟨p0, off, none⟩) cap l) (j := j) (x := x) hx
        have htk := ranksT_take l j x hx
        have hle := ranksT_le l (j + 1)
        cases x with
        | mk k' a' cap' l' =>
        simp only [T.k, T.a, T.l, T.cap] at r0 r1
        have hih := IH.out k' a' cap' l' wr (by omega) (by omega) hxr
        have HIH := Lib.hid hih
        have HK := Lib.hid hk
        generalize (T.mk k' a' cap' l').rank = rx at *
        clear hih hk hxin hxr hx hkw q0 q1
        go_wp2_with fail
        refine HIH.out.mono ?_
        rintro e w2 ⟨rfl, hk2⟩
        have HK2 := Lib.hid (kk HK.out hk2)
        clear hk2
        go_wp2_with fail
        go_roundw
        case rel => exact ⟨j + 1, by omega, by first | go_num | simp, by rw [htk]; congr 1; omega, HK2.out⟩
        case measure => simp [intOf]; omega
      · have hjj : j = l.length := by omega
        subst hjj
        have HK := Lib.hid (kk (ka _ _) hk)
        clear hk
        go_wp2_with fail
        go_ret
        exact ⟨by simp [hrk], HK.out⟩

mutual
/-- typed: so deep at most. -/
def T.sh : T → Nat → Bool
  | .mk k _ _ l, d => if d = 0 then false else fitsT k l.length && T.shL l (d - 1)
def T.shL : List T → Nat → Bool
  | [], _ => true
  | x :: xs, d => x.sh d && T.shL xs d
end

theorem T.shL_snoc (l : List T) (d j : Nat) (x : T) (h : l[j]? = some x) : T.shL (l.take (j + 1)) d = (T.shL (l.take j) d && x.sh d) := by
  induction l generalizing j with
  | nil => simp at h
  | cons y ys ih =>
    cases j with
    | zero => simp at h; subst h; simp [T.shL]
    | succ j => have := ih j (by simpa using h); simp [T.shL, this, Bool.and_assoc]
theorem T.shL_stop (l : List T) (d j : Nat) (h : T.shL (l.take j) d = false) : T.shL l d = false := by
  induction l generalizing j with
  | nil => simp [T.shL] at h
  | cons y ys ih =>
    cases j with
    | zero => simp [T.shL] at h
    | succ j =>
      simp only [List.take_succ_cons, T.shL, Bool.and_eq_false_iff] at h ⊢
      rcases h with h | h
      · exact .inl h
      · exact .inr (ih j h)

set_option maxRecDepth 100000 in
set_option maxHeartbeats 2000000 in
theorem typed_zero (k : Int) (a : Option Addr) (cap len : Nat) (w : World) :
    Calls Tryz.prog 96 #[.agg #[.int .i64 k, .slice a len cap], .int .i64 0] w fun e w' => e = .returned (.bool false) ∧ Kp w w' := by
  go_enter Tryz.func96, Tryz.ntmps96
  go_wp2_with fail
  go_ret
  exact ⟨rfl, ka _ _⟩

set_option maxRecDepth 100000 in
set_option maxHeartbeats 4000000 in
theorem typed_0 (f : Bool) (d : Nat) (hd : d ≤ 100) (a : Option Addr) (cap : Nat) (l : List T) (w : World) (hin : (T.mk 0 a cap l).In w w.heap.size) (h : decide (l.length = 0) = f)
    (ih : ∀ (j : Nat) (x : T), l[j]? = some x → ∀ w1 : World, x.In w1 w1.heap.size → Calls Tryz.prog 96 #[.agg #[.int .i64 x.k, .slice x.a x.l.length x.cap], .int .i64 (d : Int)] w1 fun e w' => e = .returned (.bool (x.sh d)) ∧ Kp w1 w') :
    Calls Tryz.prog 96 #[.agg #[.int .i64 0, .slice a l.length cap], .int .i64 ((d : Int) + 1)] w fun e w' => e = .returned (.bool (f && T.shL l d)) ∧ Kp w w' := by
  have hlen := T.lenLe hin
  have hd0 : ((d : Int) + 1 == 0) = false := by rw [beq_eq_false_iff_ne]; omega
  have IH := Lib.hid ih
  have HIN := Lib.hid hin
  clear ih hin
  have ht : ((l.length : Int) == 0) = f := by rw [← h, Bool.eq_iff_iff]; simp
  clear h
  go_enter Tryz.func96, Tryz.ntmps96
  go_wp2_with fail
  go_loopw [5, 6] (fun b i wr => ∃ j : Nat, j ≤ l.length ∧ i = .int .i64 j ∧ b = .bool (f && T.shL (l.take j) d) ∧ Kp (w.alloc (.cells #[.int .i64 0, .slice a l.length cap] 27)) wr) (fun _ i _ => l.length - (intOf i).toNat)
  case atStart => exact ⟨0, Nat.zero_le _, rfl, by simp [T.shL, *], Below.refl _ _⟩
  case round =>
    obtain ⟨j, hj, rfl, rfl, hk⟩ := hrel
    obtain ⟨b0, b1, hz⟩ := box2 hk
    cases hp : (f && T.shL (l.take j) d) with
    | true =>
      by_cases hlt : j < l.length
      · obtain ⟨x, hx⟩ : ∃ x, l[j]? = some x := ⟨l[j], by simp [hlt]⟩
        obtain ⟨p0, off, rfl, hp0, q0, q1, hxin⟩ := T.atPart HIN.out hx
        have hkw := kk (ka _ _) hk
        have r0 := kc hkw q0
        have r1 := kc hkw q1
        have hih := IH.out j x hx wr (hxin.keep hkw.size hkw)
        have hsn : (f && T.shL (l.take (j + 1)) d) = x.sh d := by rw [T.shL_snoc l d j x hx, ← Bool.and_assoc, hp, Bool.true_and]
        generalize x.sh d = bx at hih hsn
        generalize x.k = xk at *
        generalize x.a = xa at *
        generalize x.l.length = xl at *
        generalize x.cap = xc at *
        have HSN := Lib.hid hsn
        have HIH := Lib.hid hih
        have HK := Lib.hid hk
        clear hih hk hxin hx hkw q0 q1 hsn hp
        go_wp2_with fail
        refine HIH.out.mono ?_
        rintro e w2 ⟨rfl, hk2⟩
        have HK2 := Lib.hid (kk HK.out hk2)
        clear hk2
        go_wp2_with fail
        go_roundw
        case rel => exact ⟨j + 1, by omega, by first | go_num | simp, by rw [HSN.out], HK2.out⟩
        case measure => simp [intOf]; omega
      · have hjj : j = l.length := by omega
        subst hjj
        have hall : (f && T.shL l d) = true := by rw [List.take_of_length_le (Nat.le_refl _)] at hp; exact hp
        have HR := Lib.hid hall
        have HK := Lib.hid (kk (ka _ _) hk)
        clear hk hp hall
        go_wp2_with fail
        go_ret
        exact ⟨by rw [HR.out] <;> rfl, HK.out⟩
    | false =>
      have hr : (f && T.shL l d) = false := by
        rw [Bool.and_eq_false_iff] at hp ⊢
        rcases hp with h | h
        · exact .inl h
        · exact .inr (T.shL_stop l d j h)
      have HR := Lib.hid hr
      have HK := Lib.hid (kk (ka _ _) hk)
      clear hk hp hr
      go_wp2_with fail
      go_ret
      exact ⟨by rw [HR.out] <;> rfl, HK.out⟩

set_option maxRecDepth 100000 in
set_option maxHeartbeats 4000000 in
theorem typed_1 (f : Bool) (d : Nat) (hd : d ≤ 100) (a : Option Addr) (cap : Nat) (l : List T) (w : World) (hin : (T.mk 1 a cap l).In w w.heap.size) (h : decide (l.length = 0) = f)
    (ih : ∀ (j : Nat) (x : T), l[j]? = some x → ∀ w1 : World, x.In w1 w1.heap.size → Calls Tryz.prog 96 #[.agg #[.int .i64 x.k, .slice x.a x.l.length x.cap], .int .i64 (d : Int)] w1 fun e w' => e = .returned (.bool (x.sh d)) ∧ Kp w1 w') :
    Calls Tryz.prog 96 #[.agg #[.int .i64 1, .slice a l.length cap], .int .i64 ((d : Int) + 1)] w fun e w' => e = .returned (.bool (f && T.shL l d)) ∧ Kp w w' := by
  have hlen := T.lenLe hin
  have hd0 : ((d : Int) + 1 == 0) = false := by rw [beq_eq_false_iff_ne]; omega
  have IH := Lib.hid ih
  have HIN := Lib.hid hin
  clear ih hin
  have ht : ((l.length : Int) == 0) = f := by rw [← h, Bool.eq_iff_iff]; simp
  clear h
  go_enter Tryz.func96, Tryz.ntmps96
  go_wp2_with fail
  go_loopw [5, 6] (fun b i wr => ∃ j : Nat, j ≤ l.length ∧ i = .int .i64 j ∧ b = .bool (f && T.shL (l.take j) d) ∧ Kp (w.alloc (.cells #[.int .i64 1, .slice a l.length cap] 27)) wr) (fun _ i _ => l.length - (intOf i).toNat)
  case atStart => exact ⟨0, Nat.zero_le _, rfl, by simp [T.shL, *], Below.refl _ _⟩
  case round =>
    obtain ⟨j, hj, rfl, rfl, hk⟩ := hrel
    obtain ⟨b0, b1, hz⟩ := box2 hk
    cases hp : (f && T.shL (l.take j) d) with
    | true =>
      by_cases hlt : j < l.length
      · obtain ⟨x, hx⟩ : ∃ x, l[j]? = some x := ⟨l[j], by simp [hlt]⟩
        obtain ⟨p0, off, rfl, hp0, q0, q1, hxin⟩ := T.atPart HIN.out hx
        have hkw := kk (ka _ _) hk
        have r0 := kc hkw q0
        have r1 := kc hkw q1
        have hih := IH.out j x hx wr (hxin.keep hkw.size hkw)
        have hsn : (f && T.shL (l.take (j + 1)) d) = x.sh d := by rw [T.shL_snoc l d j x hx, ← Bool.and_assoc, hp, Bool.true_and]
        generalize x.sh d = bx at hih hsn
        generalize x.k = xk at *
        generalize x.a = xa at *
        generalize x.l.length = xl at *
        generalize x.cap = xc at *
        have HSN := Lib.hid hsn
        have HIH := Lib.hid hih
        have HK := Lib.hid hk
        clear hih hk hxin hx hkw q0 q1 hsn hp
        go_wp2_with fail
        refine HIH.out.mono ?_
        rintro e w2 ⟨rfl, hk2⟩
        have HK2 := Lib.hid (kk HK.out hk2)
        clear hk2
        go_wp2_with fail
        go_roundw
        case rel => exact ⟨j + 1, by omega, by first | go_num | simp, by rw [HSN.out], HK2.out⟩
        case measure => simp [intOf]; omega
      · have hjj : j = l.length := by omega
        subst hjj
        have hall : (f && T.shL l d) = true := by rw [List.take_of_length_le (Nat.le_refl _)] at hp; exact hp
        have HR := Lib.hid hall
        have HK := Lib.hid (kk (ka _ _) hk)
        clear hk hp hall
        go_wp2_with fail
        go_ret
        exact ⟨by rw [HR.out] <;> rfl, HK.out⟩
    | false =>
      have hr : (f && T.shL l d) = false := by
        rw [Bool.and_eq_false_iff] at hp ⊢
        rcases hp with h | h
        · exact .inl h
        · exact .inr (T.shL_stop l d j h)
      have HR := Lib.hid hr
      have HK := Lib.hid (kk (ka _ _) hk)
      clear hk hp hr
      go_wp2_with fail
      go_ret
      exact ⟨by rw [HR.out] <;> rfl, HK.out⟩

set_option maxRecDepth 100000 in
set_option maxHeartbeats 4000000 in
theorem typed_2 (f : Bool) (d : Nat) (hd : d ≤ 100) (a : Option Addr) (cap : Nat) (l : List T) (w : World) (hin : (T.mk 2 a cap l).In w w.heap.size) (h : decide (l.length ≤ 8) = f)
    (ih : ∀ (j : Nat) (x : T), l[j]? = some x → ∀ w1 : World, x.In w1 w1.heap.size → Calls Tryz.prog 96 #[.agg #[.int .i64 x.k, .slice x.a x.l.length x.cap], .int .i64 (d : Int)] w1 fun e w' => e = .returned (.bool (x.sh d)) ∧ Kp w1 w') :
    Calls Tryz.prog 96 #[.agg #[.int .i64 2, .slice a l.length cap], .int .i64 ((d : Int) + 1)] w fun e w' => e = .returned (.bool (f && T.shL l d)) ∧ Kp w w' := by
  have hlen := T.lenLe hin
  have hd0 : ((d : Int) + 1 == 0) = false := by rw [beq_eq_false_iff_ne]; omega
  have IH := Lib.hid ih
  have HIN := Lib.hid hin
  clear ih hin
  have ht : decide ((l.length : Int) ≤ 8) = f := by rw [← h, decide_eq_decide]; omega
  clear h
  go_enter Tryz.func96, Tryz.ntmps96
  go_wp2_with fail
  go_loopw [5, 6] (fun b i wr => ∃ j : Nat, j ≤ l.length ∧ i = .int .i64 j ∧ b = .bool (f && T.shL (l.take j) d) ∧ Kp (w.alloc (.cells #[.int .i64 2, .slice a l.length cap] 27)) wr) (fun _ i _ => l.length - (intOf i).toNat)
  case atStart => exact ⟨0, Nat.zero_le _, rfl, by simp [T.shL, *], Below.refl _ _⟩
  case round =>
    obtain ⟨j, hj, rfl, rfl, hk⟩ := hrel
    obtain ⟨b0, b1, hz⟩ := box2 hk
    cases hp : (f && T.shL (l.take j) d) with
    | true =>
      by_cases hlt : j < l.length
      · obtain ⟨x, hx⟩ : ∃ x, l[j]? = some x := ⟨l[j], by simp [hlt]⟩
        obtain ⟨p0, off, rfl, hp0, q0, q1, hxin⟩ := T.atPart HIN.out hx
        have hkw := kk (ka _ _) hk
        have r0 := kc hkw q0
        have r1 := kc hkw q1
        have hih := IH.out j x hx wr (hxin.keep hkw.size hkw)
        have hsn : (f && T.shL (l.take (j + 1)) d) = x.sh d := by rw [T.shL_snoc l d j x hx, ← Bool.and_assoc, hp, Bool.true_and]
        generalize x.sh d = bx at hih hsn
        generalize x.k = xk at *
        generalize x.a = xa at *
        generalize x.l.length = xl at *
        generalize x.cap = xc at *
        have HSN := Lib.hid hsn
        have HIH := Lib.hid hih
        have HK := Lib.hid hk
        clear hih hk hxin hx hkw q0 q1 hsn hp
        go_wp2_with fail
        refine HIH.out.mono ?_
        rintro e w2 ⟨rfl, hk2⟩
        have HK2 := Lib.hid (kk HK.out hk2)
        clear hk2
        go_wp2_with fail
        go_roundw
        case rel => exact ⟨j + 1, by omega, by first | go_num | simp, by rw [HSN.out], HK2.out⟩
        case measure => simp [intOf]; omega
      · have hjj : j = l.length := by omega
        subst hjj
        have hall : (f && T.shL l d) = true := by rw [List.take_of_length_le (Nat.le_refl _)] at hp; exact hp
        have HR := Lib.hid hall
        have HK := Lib.hid (kk (ka _ _) hk)
        clear hk hp hall
        go_wp2_with fail
        go_ret
        exact ⟨by rw [HR.out] <;> rfl, HK.out⟩
    | false =>
      have hr : (f && T.shL l d) = false := by
        rw [Bool.and_eq_false_iff] at hp ⊢
        rcases hp with h | h
        · exact .inl h
        · exact .inr (T.shL_stop l d j h)
      have HR := Lib.hid hr
      have HK := Lib.hid (kk (ka _ _) hk)
      clear hk hp hr
      go_wp2_with fail
      go_ret
      exact ⟨by rw [HR.out] <;> rfl, HK.out⟩

set_option maxRecDepth 100000 in
set_option maxHeartbeats 4000000 in
theorem typed_3 (f : Bool) (d : Nat) (hd : d ≤ 100) (a : Option Addr) (cap : Nat) (l : List T) (w : World) (hin : (T.mk 3 a cap l).In w w.heap.size) (h : decide (0 < l.length ∧ l.length ≤ 8) = f)
    (ih : ∀ (j : Nat) (x : T), l[j]? = some x → ∀ w1 : World, x.In w1 w1.heap.size → Calls Tryz.prog 96 #[.agg #[.int .i64 x.k, .slice x.a x.l.length x.cap], .int .i64 (d : Int)] w1 fun e w' => e = .returned (.bool (x.sh d)) ∧ Kp w1 w') :
    Calls Tryz.prog 96 #[.agg #[.int .i64 3, .slice a l.length cap], .int .i64 ((d : Int) + 1)] w fun e w' => e = .returned (.bool (f && T.shL l d)) ∧ Kp w w' := by
  have hlen := T.lenLe hin
  have hd0 : ((d : Int) + 1 == 0) = false := by rw [beq_eq_false_iff_ne]; omega
  have IH := Lib.hid ih
  have HIN := Lib.hid hin
  clear ih hin
  have L := fun w => lies_any (l.length : Int) 1 8 w
  rw [show (decide ((1 : Int) ≤ l.length) && decide ((l.length : Int) ≤ 8)) = f from by rw [← h, Bool.eq_iff_iff]; simp; omega] at L
  have HL := Lib.hid L
  clear L
  clear h
  go_enter Tryz.func96, Tryz.ntmps96
  go_wp2_with (go_at_call 42; refine (HL.out _).mono ?_; rintro e w1 ⟨rfl, rfl⟩)
  go_loopw [5, 6] (fun b i wr => ∃ j : Nat, j ≤ l.length ∧ i = .int .i64 j ∧ b = .bool (f && T.shL (l.take j) d) ∧ Kp (w.alloc (.cells #[.int .i64 3, .slice a l.length cap] 27)) wr) (fun _ i _ => l.length - (intOf i).toNat)
  case atStart => exact ⟨0, Nat.zero_le _, rfl, by simp [T.shL, *], Below.refl _ _⟩
  case round =>
    obtain ⟨j, hj, rfl, rfl, hk⟩ := hrel
    obtain ⟨b0, b1, hz⟩ := box2 hk
    cases hp : (f && T.shL (l.take j) d) with
    | true =>
      by_cases hlt : j < l.length
      · obtain ⟨x, hx⟩ : ∃ x, l[j]? = some x := ⟨l[j], by simp [hlt]⟩
        obtain ⟨p0, off, rfl, hp0, q0, q1, hxin⟩ := T.atPart HIN.out hx
        have hkw := kk (ka _ _) hk
        have r0 := kc hkw q0
        have r1 := kc hkw q1
        have hih := IH.out j x hx wr (hxin.keep hkw.size hkw)
        have hsn : (f && T.shL (l.take (j + 1)) d) = x.sh d := by rw [T.shL_snoc l d j x hx, ← Bool.and_assoc, hp, Bool.true_and]
        generalize x.sh d = bx at hih hsn
        generalize x.k = xk at *
        generalize x.a = xa at *
        generalize x.l.length = xl at *
        generalize x.cap = xc at *
        have HSN := Lib.hid hsn
        have HIH := Lib.hid hih
        have HK := Lib.hid hk
        clear hih hk hxin hx hkw q0 q1 hsn hp
        go_wp2_with fail
        refine HIH.out.mono ?_
        rintro e w2 ⟨rfl, hk2⟩
        have HK2 := Lib.hid (kk HK.out hk2)
        clear hk2
        go_wp2_with fail
        go_roundw
        case rel => exact ⟨j + 1, by omega, by first | go_num | simp, by rw [HSN.out], HK2.out⟩
        case measure => simp [intOf]; omega
      · have hjj : j = l.length := by omega
        subst hjj
        have hall : (f && T.shL l d) = true := by rw [List.take_of_length_le (Nat.le_refl _)] at hp; exact hp
        have HR := Lib.hid hall
        have HK := Lib.hid (kk (ka _ _) hk)
        clear hk hp hall
        go_wp2_with fail
        go_ret
        exact ⟨by rw [HR.out] <;> rfl, HK.out⟩
    | false =>
      have hr : (f && T.shL l d) = false := by
        rw [Bool.and_eq_false_iff] at hp ⊢
        rcases hp with h | h
        · exact .inl h
        · exact .inr (T.shL_stop l d j h)
      have HR := Lib.hid hr
      have HK := Lib.hid (kk (ka _ _) hk)
      clear hk hp hr
      go_wp2_with fail
      go_ret
      exact ⟨by rw [HR.out] <;> rfl, HK.out⟩

set_option maxRecDepth 100000 in
set_option maxHeartbeats 4000000 in
theorem typed_k (k : Int) (f : Bool) (d : Nat) (hd : d ≤ 100) (a : Option Addr) (cap : Nat) (l : List T) (w : World) (hin : (T.mk k a cap l).In w w.heap.size) (h0 : k ≠ 0) (h1 : k ≠ 1) (h2 : k ≠ 2) (h3 : k ≠ 3) (hf : f = false)
    (ih : ∀ (j : Nat) (x : T), l[j]? = some x → ∀ w1 : World, x.In w1 w1.heap.size → Calls Tryz.prog 96 #[.agg #[.int .i64 x.k, .slice x.a x.l.length x.cap], .int .i64 (d : Int)] w1 fun e w' => e = .returned (.bool (x.sh d)) ∧ Kp w1 w') :
    Calls Tryz.prog 96 #[.agg #[.int .i64 k, .slice a l.length cap], .int .i64 ((d : Int) + 1)] w fun e w' => e = .returned (.bool (f && T.shL l d)) ∧ Kp w w' := by
  have hlen := T.lenLe hin
  have hd0 : ((d : Int) + 1 == 0) = false := by rw [beq_eq_false_iff_ne]; omega
  have IH := Lib.hid ih
  have HIN := Lib.hid hin
  clear ih hin
  have g0 : (k == 0) = false := by rw [beq_eq_false_iff_ne]; exact h0
  have g1 : (k == 1) = false := by rw [beq_eq_false_iff_ne]; exact h1
  have g2 : (k == 2) = false := by rw [beq_eq_false_iff_ne]; exact h2
  have g3 : (k == 3) = false := by rw [beq_eq_false_iff_ne]; exact h3
  subst hf
  clear h0 h1 h2 h3
  go_enter Tryz.func96, Tryz.ntmps96
  go_wp2_with fail
  go_loopw [5, 6] (fun b i wr => ∃ j : Nat, j ≤ l.length ∧ i = .int .i64 j ∧ b = .bool (false && T.shL (l.take j) d) ∧ Kp (w.alloc (.cells #[.int .i64 k, .slice a l.length cap] 27)) wr) (fun _ i _ => l.length - (intOf i).toNat)
  case atStart => exact ⟨0, Nat.zero_le _, rfl, by simp [T.shL, *], Below.refl _ _⟩
  case round =>
    obtain ⟨j, hj, rfl, rfl, hk⟩ := hrel
    obtain ⟨b0, b1, hz⟩ := box2 hk
    cases hp : (false && T.shL (l.take j) d) with
    | true =>
      by_cases hlt : j < l.length
      · obtain ⟨x, hx⟩ : ∃ x, l[j]? = some x := ⟨l[j], by simp [hlt]⟩
        obtain ⟨p0, off, rfl, hp0, q0, q1, hxin⟩ := T.atPart HIN.out hx
        have hkw := kk (ka _ _) hk
        have r0 := kc hkw q0
        have r1 := kc hkw q1
        have hih := IH.out j x hx wr (hxin.keep hkw.size hkw)
        have hsn : (false && T.shL (l.take (j + 1)) d) = x.sh d := by rw [T.shL_snoc l d j x hx, ← Bool.and_assoc, hp, Bool.true_and]
        generalize x.sh d = bx at hih hsn
        generalize x.k = xk at *
        generalize x.a = xa at *
        generalize x.l.length = xl at *
        generalize x.cap = xc at *
        have HSN := Lib.hid hsn
        have HIH := Lib.hid hih
        have HK := Lib.hid hk
        clear hih hk hxin hx hkw q0 q1 hsn hp
        go_wp2_with fail
        refine HIH.out.mono ?_
        rintro e w2 ⟨rfl, hk2⟩
        have HK2 := Lib.hid (kk HK.out hk2)
        clear hk2
        go_wp2_with fail
        go_roundw
        case rel => exact ⟨j + 1, by omega, by first | go_num | simp, by rw [HSN.out], HK2.out⟩
        case measure => simp [intOf]; omega
      · have hjj : j = l.length := by omega
        subst hjj
        have hall : (false && T.shL l d) = true := by rw [List.take_of_length_le (Nat.le_refl _)] at hp; exact hp
        have HR := Lib.hid hall
        have HK := Lib.hid (kk (ka _ _) hk)
        clear hk hp hall
        go_wp2_with fail
        go_ret
        exact ⟨by rw [HR.out] <;> rfl, HK.out⟩
    | false =>
      have hr : (false && T.shL l d) = false := by
        rw [Bool.and_eq_false_iff] at hp ⊢
        rcases hp with h | h
        · exact .inl h
        · exact .inr (T.shL_stop l d j h)
      have HR := Lib.hid hr
      have HK := Lib.hid (kk (ka _ _) hk)
      clear hk hp hr
      go_wp2_with fail
      go_ret
      exact ⟨by rw [HR.out] <;> rfl, HK.out⟩

theorem typed_ref : ∀ (N : Nat) (k : Int) (a : Option Addr) (cap : Nat) (l : List T) (d : Nat) (w : World), (T.mk k a cap l).rank ≤ N → d ≤ 100 → (T.mk k a cap l).In w w.heap.size →
    Calls Tryz.prog 96 #[.agg #[.int .i64 k, .slice a l.length cap], .int .i64 (d : Int)] w fun e w' => e = .returned (.bool ((T.mk k a cap l).sh d)) ∧ Kp w w' := by
  intro N
  induction N with
  | zero => intro k a cap l d w h; have := T.rank_pos (.mk k a cap l); omega
  | succ N ih =>
    intro k a cap l d w hN hd hin
    cases d with
    | zero => exact typed_zero k a cap l.length w
    | succ d =>
      have hih : ∀ (j : Nat) (x : T), l[j]? = some x → ∀ w1 : World, x.In w1 w1.heap.size → Calls Tryz.prog 96 #[.agg #[.int .i64 x.k, .slice x.a x.l.length x.cap], .int .i64 (d : Int)] w1 fun e w' => e = .returned (.bool (x.sh d)) ∧ Kp w1 w' := fun j x hx w1 hw => by
        have hr := T.rank_part (v := .mk k a cap l) (j := j) (x := x) hx
        cases x with
        | mk k' a' cap' l' => exact ih k' a' cap' l' d w1 (by omega) (by omega) hw
      have hsh : (T.mk k a cap l).sh (d + 1) = (fitsT k l.length && T.shL l d) := by simp [T.sh]
      rw [hsh]
      rw [show ((d + 1 : Nat) : Int) = (d : Int) + 1 from by omega]
      by_cases h0 : k = 0
      · subst h0; exact typed_0 _ d (by omega) a cap l w hin (by simp [fitsT]) hih
      by_cases h1 : k = 1
      · subst h1; exact typed_1 _ d (by omega) a cap l w hin (by simp [fitsT]) hih
      by_cases h2 : k = 2
      · subst h2; exact typed_2 _ d (by omega) a cap l w hin (by simp [fitsT]) hih
      by_cases h3 : k = 3
      · subst h3; exact typed_3 _ d (by omega) a cap l w hin (by simp [fitsT]) hih
      · have hf : fitsT k l.length = false := by simp [fitsT, h0, h1, h2, h3]
        have := typed_k k false d (by omega) a cap l w hin h0 h1 h2 h3 rfl hih
        rwa [hf]

theorem fitsT_len {k : Int} {m : Nat} (h : fitsT k m = true) : m ≤ 8 := by
  unfold fitsT at h
  repeat' split at h
  all_goals simp at h
  all_goals omega

mutual
theorem T.sh_rank : ∀ (v : T) (d : Nat), v.sh d = true → v.rank ≤ 9 ^ d
  | .mk k a cap l, d, h => by
    cases d with
    | zero => simp [T.sh] at h
    | succ d =>
      simp [T.sh] at h
      have h1 := fitsT_len h.1
      have h2 := T.shL_rank l d h.2
      have h3 : l.length * 9 ^ d ≤ 8 * 9 ^ d := Nat.mul_le_mul_right _ h1
      have h4 : 1 ≤ 9 ^ d := Nat.one_le_pow _ _ (by decide)
      have h5 : 9 ^ (d + 1) = 9 * 9 ^ d := by rw [Nat.pow_succ, Nat.mul_comm]
      simp [T.rank]
      omega
theorem T.shL_rank : ∀ (l : List T) (d : Nat), T.shL l d = true → T.rank.ranks l ≤ l.length * 9 ^ d
  | [], d, _ => by simp [T.rank.ranks]
  | x :: xs, d, h => by
    simp [T.shL] at h
    have h1 := T.sh_rank x d h.1
    have h2 := T.shL_rank xs d h.2
    simp [T.rank.ranks, Nat.add_mul]
    omega
end

mutual
theorem T.wk_sh : ∀ (v : T) (deep c : Nat), 1 ≤ deep → c ≤ 40 → ((v.wk deep c).1 = true ↔ v.sh (7 - deep) = true ∧ c + v.rank ≤ 40) ∧ ((v.wk deep c).1 = true → (v.wk deep c).2 = c + v.rank)
  | .mk k a cap l, deep, c, hd, hc => by
    have hrk : (T.mk k a cap l).rank = 1 + T.rank.ranks l := rfl
    by_cases h : 40 < c + 1 ∨ 6 < deep ∨ fitsT k l.length = false
    · simp only [T.wk, if_pos h]
      refine ⟨⟨(fun h => by cases h), ?_⟩, (fun h => by cases h)⟩
      rintro ⟨h1, h2⟩
      simp only [T.sh] at h1
      split at h1
      · cases h1
      · rcases h with h | h | h
        · omega
        · omega
        · rw [h] at h1; cases h1
    · have ih := T.wkL_sh l (deep + 1) (c + 1) (by omega) (by omega)
      have hf : fitsT k l.length = true := by
        cases hf : fitsT k l.length with
        | true => rfl
        | false => exact absurd (.inr (.inr hf)) h
      have hsh : (T.mk k a cap l).sh (7 - deep) = T.shL l (7 - (deep + 1)) := by
        simp only [T.sh, hf, Bool.true_and]
        rw [if_neg (by omega), show 7 - deep - 1 = 7 - (deep + 1) from by omega]
      simp only [T.wk, if_neg h, hsh, hrk]
      refine ⟨ih.1.trans ⟨fun h => ⟨h.1, by omega⟩, fun h => ⟨h.1, by omega⟩⟩, fun h => by rw [ih.2 h]; omega⟩
theorem T.wkL_sh : ∀ (l : List T) (deep c : Nat), 1 ≤ deep → c ≤ 40 → ((T.wkL l deep c).1 = true ↔ T.shL l (7 - deep) = true ∧ c + T.rank.ranks l ≤ 40) ∧ ((T.wkL l deep c).1 = true → (T.wkL l deep c).2 = c + T.rank.ranks l)
  | [], deep, c, hd, hc => by simp [T.wkL, T.shL, T.rank.ranks]; omega
  | x :: xs, deep, c, hd, hc => by
    have h1 := T.wk_sh x deep c hd hc
    simp only [T.wkL, T.shL, T.rank.ranks, Bool.and_eq_true]
    cases hx : x.wk deep c with
    | mk b c' =>
      rw [hx] at h1
      cases b with
      | true =>
        have hc' : c' = c + x.rank := h1.2 rfl
        have h3 := h1.1.1 rfl
        subst hc'
        have h2 := T.wkL_sh xs deep (c + x.rank) hd h3.2
        refine ⟨h2.1.trans ⟨fun h => ⟨⟨h3.1, h.1⟩, by omega⟩, fun h => ⟨h.1.2, by omega⟩⟩, fun h => by rw [h2.2 h]; omega⟩
      | false =>
        refine ⟨⟨(fun h => by cases h), (fun h => ?_)⟩, (fun h => by cases h)⟩
        exact absurd (h1.1.2 ⟨h.1.1, by omega⟩) (by simp)
end

/-- ValidType: what the specification says of a type. -/
def T.valid (v : T) : Bool := v.sh 6 && decide (v.rank ≤ 40)

theorem badT_valid (v : T) : bad v.cnt = if v.valid then 0 else 1 := by
  have h := T.wk_sh v 1 0 (by omega) (by omega)
  have hp := T.rank_pos v
  unfold T.valid T.cnt bad
  cases hw : (v.wk 1 0).1 with
  | true =>
    have h1 := h.1.1 hw
    have h2 := h.2 hw
    have h3 : v.rank ≤ 40 := by omega
    simp [h2, h1.1, h3]
    omega
  | false =>
    have h1 : ¬ (v.sh 6 = true ∧ v.rank ≤ 40) := fun hh => by
      have := h.1.2 ⟨hh.1, by omega⟩
      rw [hw] at this; cases this
    have h2 : (v.sh 6 && decide (v.rank ≤ 40)) = false := by
      cases hv : (v.sh 6 && decide (v.rank ≤ 40)) with
      | false => rfl
      | true => exact absurd (by simpa using hv) h1
    simp [h2]

set_option maxRecDepth 100000 in
set_option maxHeartbeats 4000000 in
theorem validT_ref (k : Int) (a : Option Addr) (cap : Nat) (l : List T) (w : World) (hin : (T.mk k a cap l).In w w.heap.size) :
    Calls Tryz.prog 55 #[.agg #[.int .i64 k, .slice a l.length cap]] w fun e w' => e = .returned (.bool (T.mk k a cap l).valid) ∧ Kp w w' := by
  have C := fun (w1 : World) (h : (T.mk k a cap l).In w1 w1.heap.size) => typed_ref _ k a cap l 6 w1 (Nat.le_refl _) (by omega) h
  have HIN := Lib.hid hin
  cases hs : (T.mk k a cap l).sh 6 with
  | false =>
    have hv : (T.mk k a cap l).valid = false := by simp [T.valid, hs]
    rw [hv]
    rw [hs] at C
    have HC := Lib.hid C
    clear C hin hs hv
    go_enter Tryz.func55, Tryz.ntmps55
    go_wp2_with fail
    refine (HC.out _ (HIN.out.keep (by simp) (ka _ _))).mono ?_
    rintro e w1 ⟨rfl, hk⟩
    have HK := Lib.hid (kk (ka _ _) hk)
    clear hk
    go_wp2_with fail
    go_ret
    exact ⟨rfl, HK.out⟩
  | true =>
    have hr := T.sh_rank _ _ hs
    have hv : (T.mk k a cap l).valid = decide ((T.mk k a cap l).rank ≤ 40) := by simp [T.valid, hs]
    rw [hv]
    rw [hs] at C
    have D := fun (w1 : World) (h : (T.mk k a cap l).In w1 w1.heap.size) => types_ref _ k a cap l w1 (Nat.le_refl _) (Nat.le_trans hr (by decide)) h
    have HC := Lib.hid C
    have HD := Lib.hid D
    clear C D hin hs hv hr
    generalize (T.mk k a cap l).rank = rk at *
    go_enter Tryz.func55, Tryz.ntmps55
    go_wp2_with fail
    refine (HC.out _ (HIN.out.keep (by simp) (ka _ _))).mono ?_
    rintro e w1 ⟨rfl, hk⟩
    obtain ⟨b0, b1, hz⟩ := box2 hk
    have HK := Lib.hid (kk (ka _ _) hk)
    clear hk
    go_wp2_with fail
    refine (HD.out _ (HIN.out.keep HK.out.size HK.out)).mono ?_
    rintro e w2 ⟨rfl, hk2⟩
    have HK2 := Lib.hid (kk HK.out hk2)
    clear hk2
    go_wp2_with fail
    go_ret
    have hdd : decide ((rk : Int) ≤ 40) = decide (rk ≤ 40) := by rw [decide_eq_decide]; omega
    exact ⟨by show Ending.returned (.bool (decide ((rk : Int) ≤ 40))) = _; rw [hdd], HK2.out⟩

/-- ErrArg, or OK. -/
def argI (b : Bool) : Int := if b then 0 else 1

set_option maxHeartbeats 1000000 in
theorem typeR (k : Int) (a : Option Addr) (cap : Nat) (l : List T) (w : World) (hin : (T.mk k a cap l).In w w.heap.size) :
    Calls Tryz.prog 18 #[.agg #[.int .i64 k, .slice a l.length cap]] w fun e w' => e = .returned (.int .i64 (argI (T.mk k a cap l).valid)) ∧ Kp w w' := by
  have C := fun (w1 : World) (h : Kp w w1) => validT_ref k a cap l w1 (hin.keep h.size h)
  generalize (T.mk k a cap l).valid = v at C ⊢
  have HC := Lib.hid C
  clear C hin
  cases v
  all_goals
    go_enter Tryz.func18, Tryz.ntmps18
    go_wp2_with fail
    refine (HC.out _ (ka _ _)).mono ?_
    rintro e w1 ⟨rfl, hk⟩
    have HK := Lib.hid (kk (ka _ _) hk)
    clear hk
    go_wp2_with fail
    go_ret
    exact ⟨rfl, HK.out⟩

set_option maxHeartbeats 1000000 in
theorem checkR (k n : Int) (s : ByteArray) (a : Option Addr) (cap : Nat) (l : List V) (w : World) (hin : (V.mk k n s a cap l).In w w.heap.size) :
    Calls Tryz.prog 20 #[.agg #[.int .i64 k, .int .i64 n, .string s, .slice a l.length cap]] w fun e w' => e = .returned (.int .i64 (argI (V.mk k n s a cap l).valid)) ∧ Kp w w' := by
  have C := fun (w1 : World) (h : Kp w w1) => valid_ref k n s a cap l w1 (hin.keep h.size h)
  generalize (V.mk k n s a cap l).valid = v at C ⊢
  have HC := Lib.hid C
  clear C hin
  cases v
  all_goals
    go_enter Tryz.func20, Tryz.ntmps20
    go_wp2_with fail
    refine (HC.out _ (ka _ _)).mono ?_
    rintro e w1 ⟨rfl, hk⟩
    have HK := Lib.hid (kk (ka _ _) hk)
    clear hk
    go_wp2_with fail
    go_ret
    exact ⟨rfl, HK.out⟩

/-- What Size answers: how many values, and the error. -/
def sizeI (v : V) : Int := if v.valid then v.rank else 0

set_option maxHeartbeats 2000000 in
theorem sizeR (k n : Int) (s : ByteArray) (a : Option Addr) (cap : Nat) (l : List V) (w : World) (hin : (V.mk k n s a cap l).In w w.heap.size) :
    Calls Tryz.prog 14 #[.agg #[.int .i64 k, .int .i64 n, .string s, .slice a l.length cap]] w fun e w' => e = .returned (.tuple #[.int .i64 (sizeI (V.mk k n s a cap l)), .int .i64 (argI (V.mk k n s a cap l).valid)]) ∧ Kp w w' := by
  have C := fun (w1 : World) (h : Kp w w1) => valid_ref k n s a cap l w1 (hin.keep h.size h)
  have D := fun (w1 : World) (h : Kp w w1) => fun hv : (V.mk k n s a cap l).valid = true => count_ref _ k n s a cap l w1 (Nat.le_refl _) (by simp [V.valid] at hv; omega) (hin.keep h.size h)
  unfold sizeI
  generalize (V.mk k n s a cap l).valid = v at C D ⊢
  cases v with
  | false =>
    have HC := Lib.hid C
    clear C D hin
    go_enter Tryz.func14, Tryz.ntmps14
    go_wp2_with fail
    refine (HC.out _ (ka _ _)).mono ?_
    rintro e w1 ⟨rfl, hk⟩
    have HK := Lib.hid (kk (ka _ _) hk)
    clear hk
    go_wp2_with fail
    go_ret2
    exact ⟨rfl, HK.out⟩
  | true =>
    have D2 := fun (w1 : World) (h : Kp w w1) => D w1 h rfl
    generalize (V.mk k n s a cap l).rank = rk at D2 ⊢
    have HC := Lib.hid C
    have HD := Lib.hid D2
    clear C D D2 hin
    go_enter Tryz.func14, Tryz.ntmps14
    go_wp2_with fail
    refine (HC.out _ (ka _ _)).mono ?_
    rintro e w1 ⟨rfl, hk⟩
    obtain ⟨b0, b1, b2, b3, hz⟩ := box4 hk
    have HK := Lib.hid (kk (ka _ _) hk)
    clear hk
    go_wp2_with fail
    refine (HD.out _ HK.out).mono ?_
    rintro e w2 ⟨rfl, hk2⟩
    have HK2 := Lib.hid (kk HK.out hk2)
    clear hk2
    go_wp2_with fail
    go_ret2
    exact ⟨rfl, HK2.out⟩

theorem cnt_size (v : V) : (v.cnt : Int) = sizeI v := by
  have h := V.wk_sh v 1 0 (by omega) (by omega)
  unfold sizeI V.valid V.cnt
  cases hw : (v.wk 1 0).1 with
  | true =>
    have h1 := h.1.1 hw
    have h2 := h.2 hw
    have h3 : v.rank ≤ 60 := by omega
    simp [h2, h1.1, h3]
  | false =>
    have h1 : ¬ (v.sh 6 = true ∧ v.rank ≤ 60) := fun hh => by
      have := h.1.2 ⟨hh.1, by omega⟩
      rw [hw] at this; cases this
    have h2 : (v.sh 6 && decide (v.rank ≤ 60)) = false := by
      cases hv : (v.sh 6 && decide (v.rank ≤ 60)) with
      | false => rfl
      | true => exact absurd (by simpa using hv) h1
    simp [h2]
theorem bad_arg (v : V) : bad v.cnt = argI v.valid := by rw [bad_valid]; rfl
theorem badT_arg (v : T) : bad v.cnt = argI v.valid := by rw [badT_valid]; rfl

end Go.Proofs.YtkfmgafgokpjhaaGreatDoor

/-
  THE SPECIFICATION's fits, Is.
-/
namespace Go.Proofs.YtkfmgafgokpjhaaGreatDoor
open Go.RowKit

theorem kpDN {w : World} {n : Nat} : Kp w (w.drewN n) := ⟨rfl, rfl, rfl, Nat.le_refl _, fun _ _ => rfl⟩

/-- A value and a type in their boxes, behind a draw. -/
theorem boxesVT (w : World) (c0 c1 c2 c3 d0 d1 : Value) (t u : Nat) :
    (World.drew ((w.alloc (.cells #[c0, c1, c2, c3] t)).alloc (.cells #[d0, d1] u))).cell? ⟨w.heap.size, 0, none⟩ = some c0 ∧
    (World.drew ((w.alloc (.cells #[c0, c1, c2, c3] t)).alloc (.cells #[d0, d1] u))).cell? ⟨w.heap.size, 1, none⟩ = some c1 ∧
    (World.drew ((w.alloc (.cells #[c0, c1, c2, c3] t)).alloc (.cells #[d0, d1] u))).cell? ⟨w.heap.size, 2, none⟩ = some c2 ∧
    (World.drew ((w.alloc (.cells #[c0, c1, c2, c3] t)).alloc (.cells #[d0, d1] u))).cell? ⟨w.heap.size, 3, none⟩ = some c3 ∧
    (World.drew ((w.alloc (.cells #[c0, c1, c2, c3] t)).alloc (.cells #[d0, d1] u))).cell? ⟨w.heap.size + 1, 0, none⟩ = some d0 ∧
    (World.drew ((w.alloc (.cells #[c0, c1, c2, c3] t)).alloc (.cells #[d0, d1] u))).cell? ⟨w.heap.size + 1, 1, none⟩ = some d1 ∧
    Kp w (World.drew ((w.alloc (.cells #[c0, c1, c2, c3] t)).alloc (.cells #[d0, d1] u))) := by
  have hk : Kp ((w.alloc (.cells #[c0, c1, c2, c3] t)).alloc (.cells #[d0, d1] u)) (World.drew ((w.alloc (.cells #[c0, c1, c2, c3] t)).alloc (.cells #[d0, d1] u))) := kpD
  obtain ⟨h0, h1⟩ := twoBox hk
  exact ⟨cellOf h0 rfl, cellOf h0 rfl, cellOf h0 rfl, cellOf h0 rfl, cellOf h1 rfl, cellOf h1 rfl, kk (kk (ka _ _) (ka _ _)) hk⟩

theorem twoBoxVT {w w1 : World} {c0 c1 c2 c3 d0 d1 : Value} {t u : Nat} (hk : Kp ((w.alloc (.cells #[c0, c1, c2, c3] t)).alloc (.cells #[d0, d1] u)) w1) :
    w1.cell? ⟨w.heap.size, 0, none⟩ = some c0 ∧ w1.cell? ⟨w.heap.size, 1, none⟩ = some c1 ∧ w1.cell? ⟨w.heap.size, 2, none⟩ = some c2 ∧ w1.cell? ⟨w.heap.size, 3, none⟩ = some c3 ∧ w1.cell? ⟨w.heap.size + 1, 0, none⟩ = some d0 ∧ w1.cell? ⟨w.heap.size + 1, 1, none⟩ = some d1 := by
  obtain ⟨h0, h1⟩ := twoBox hk
  exact ⟨cellOf h0 rfl, cellOf h0 rfl, cellOf h0 rfl, cellOf h0 rfl, cellOf h1 rfl, cellOf h1 rfl⟩

set_option maxRecDepth 100000 in
set_option maxHeartbeats 8000000 in
theorem fits_sum_k (k n : Int) (s : ByteArray) (a : Option Addr) (len cap : Nat) (ta : Option Addr) (tlen tcap : Nat) (w : World) (h : k ≠ 3) :
    Calls Tryz.prog 62 #[.agg #[.int .i64 k, .int .i64 n, .string s, .slice a len cap], .agg #[.int .i64 3, .slice ta tlen tcap]] w fun e w' => e = .returned (.bool false) ∧ Kp w w' := by
  have g : (k == 3) = false := by rw [beq_eq_false_iff_ne]; exact h
  clear h
  go_enter Tryz.func62, Tryz.ntmps62
  go_wp2_with fail
  go_quiet (fail)
  go_wp2_with fail
  go_ret
  exact ⟨rfl, kk (kk (ka _ _) (ka _ _)) kpDN⟩

set_option maxRecDepth 100000 in
set_option maxHeartbeats 8000000 in
theorem fits_sum_n (n : Int) (s : ByteArray) (a : Option Addr) (len cap : Nat) (ta : Option Addr) (tlen tcap : Nat) (w : World) (h : (tlen : Int) ≤ n) :
    Calls Tryz.prog 62 #[.agg #[.int .i64 3, .int .i64 n, .string s, .slice a len cap], .agg #[.int .i64 3, .slice ta tlen tcap]] w fun e w' => e = .returned (.bool false) ∧ Kp w w' := by
  have g : decide (n < (tlen : Int)) = false := by simp; omega
  clear h
  go_enter Tryz.func62, Tryz.ntmps62
  go_wp2_with fail
  go_quiet (fail)
  go_wp2_with fail
  go_ret
  exact ⟨rfl, kk (kk (ka _ _) (ka _ _)) kpDN⟩

set_option maxRecDepth 100000 in
set_option maxHeartbeats 8000000 in
theorem fits_sum_y (n : Nat) (s : ByteArray) (a : Option Addr) (cap : Nat) (x : V) (ta : Option Addr) (tcap : Nat) (tl : List T) (u : T) (w : World) (hn : n < tl.length) (hu : tl[n]? = some u)
    (hin : (V.mk 3 n s a cap [x]).In w w.heap.size) (hin' : (T.mk 3 ta tcap tl).In w w.heap.size)
    (ih : ∀ w1 : World, x.In w1 w1.heap.size → u.In w1 w1.heap.size → Calls Tryz.prog 62 #[.agg #[.int .i64 x.k, .int .i64 x.n, .string x.s, .slice x.a x.l.length x.cap], .agg #[.int .i64 u.k, .slice u.a u.l.length u.cap]] w1 fun e w' => e = .returned (.bool (x.is u)) ∧ Kp w1 w') :
    Calls Tryz.prog 62 #[.agg #[.int .i64 3, .int .i64 (n : Int), .string s, .slice a 1 cap], .agg #[.int .i64 3, .slice ta tl.length tcap]] w fun e w' => e = .returned (.bool (x.is u)) ∧ Kp w w' := by
  have hlen := T.lenLe hin'
  have g : decide ((n : Int) < (tl.length : Int)) = true := by simp; omega
  have g0 : (0 : Int) ≤ (n : Int) := by omega
  have g1 : (n : Int) < (tl.length : Int) := by omega
  obtain ⟨p0, off, rfl, hp0, q0, q1, q2, q3, hxin⟩ := V.atPart hin (j := 0) (x := x) rfl
  obtain ⟨p1, off1, rfl, hp1, s0, s1, huin⟩ := T.atPart hin' hu
  simp only [Nat.zero_mul, Nat.add_zero] at q0 q1 q2 q3
  generalize x.is u = bx at ih ⊢
  have IH := Lib.hid ih
  clear ih
  go_enter Tryz.func62, Tryz.ntmps62
  go_wp2_with fail
  obtain ⟨c0, c1, c2, c3, d0, d1⟩ := twoBoxVT (w := w) (w1 := (w.alloc (.cells #[.int .i64 3, .int .i64 (n : Int), .string s, .slice (some ⟨p0, off, none⟩) 1 cap] 24)).alloc (.cells #[.int .i64 3, .slice (some ⟨p1, off1, none⟩) tl.length tcap] 27)) (Below.refl _ _)
  have hk : Kp w ((w.alloc (.cells #[.int .i64 3, .int .i64 (n : Int), .string s, .slice (some ⟨p0, off, none⟩) 1 cap] 24)).alloc (.cells #[.int .i64 3, .slice (some ⟨p1, off1, none⟩) tl.length tcap] 27)) := kk (ka _ _) (ka _ _)
  generalize (w.alloc (.cells #[.int .i64 3, .int .i64 (n : Int), .string s, .slice (some ⟨p0, off, none⟩) 1 cap] 24)).alloc (.cells #[.int .i64 3, .slice (some ⟨p1, off1, none⟩) tl.length tcap] 27) = W at *
  have r0 := kc hk q0
  have r1 := kc hk q1
  have r2 := kc hk q2
  have r3 := kc hk q3
  have t0 := kc hk s0
  have t1 := kc hk s1
  have hih := fun (w1 : World) (h : Kp W w1) => IH.out w1 (hxin.keep (kk hk h).size (kk hk h)) (huin.keep (kk hk h).size (kk hk h))
  have HK := Lib.hid hk
  generalize x.k = xk at *
  generalize x.n = xn at *
  generalize x.s = xs at *
  generalize x.a = xa at *
  generalize x.l.length = xl at *
  generalize x.cap = xc at *
  generalize u.k = yk at *
  generalize u.a = ya at *
  generalize u.l.length = yl at *
  generalize u.cap = yc at *
  have HIH := Lib.hid hih
  clear hk hih hin hin' hxin huin hu q0 q1 q2 q3 s0 s1 hp0 hp1 IH c2 d0
  go_region_held3 (fun w' => w'.cell? ⟨w.heap.size, 0, none⟩ = some (.int .i64 3) ∧ w'.cell? ⟨w.heap.size, 1, none⟩ = some (.int .i64 (n : Int)) ∧ w'.cell? ⟨w.heap.size, 3, none⟩ = some (.slice (some ⟨p0, off, none⟩) 1 cap) ∧ w'.cell? ⟨w.heap.size + 1, 1, none⟩ = some (.slice (some ⟨p1, off1, none⟩) tl.length tcap) ∧
      w'.cell? ⟨p0, off, none⟩ = some (.int .i64 xk) ∧ w'.cell? ⟨p0, off + 1, none⟩ = some (.int .i64 xn) ∧ w'.cell? ⟨p0, off + 2, none⟩ = some (.string xs) ∧ w'.cell? ⟨p0, off + 3, none⟩ = some (.slice xa xl xc) ∧ w'.cell? ⟨p1, off1 + n * 2, none⟩ = some (.int .i64 yk) ∧ w'.cell? ⟨p1, off1 + n * 2 + 1, none⟩ = some (.slice ya yl yc))
    (first | go_keep | (go_split_ands; refine ⟨?_, ?_, ?_, ?_, ?_, ?_, ?_, ?_, ?_, ?_⟩ <;> exact kc hk3 (by assumption)))
    (first | (go_at_call 62; refine (HIH.out _ kpD).mono ?_; rintro e w3 ⟨rfl, hk3⟩))
  go_wp2_with fail
  go_ret
  exact ⟨by simp, kk HK.out (kk kpD (by assumption))⟩

set_option maxRecDepth 100000 in
set_option maxHeartbeats 4000000 in
theorem fits_leaf (k n : Int) (s : ByteArray) (a : Option Addr) (len cap : Nat) (tk : Int) (ta : Option Addr) (tlen tcap : Nat) (w : World) (h : tk = 0 ∨ tk = 1) :
    Calls Tryz.prog 62 #[.agg #[.int .i64 k, .int .i64 n, .string s, .slice a len cap], .agg #[.int .i64 tk, .slice ta tlen tcap]] w fun e w' => e = .returned (.bool (decide (k = tk))) ∧ Kp w w' := by
  by_cases hk : k = tk
  · subst hk
    rcases h with rfl | rfl
    all_goals
      go_enter Tryz.func62, Tryz.ntmps62
      go_wp2_with fail
      go_ret
      exact ⟨rfl, kk (ka _ _) (ka _ _)⟩
  · have hd : decide (k = tk) = false := by simpa using hk
    rw [hd]
    rcases h with rfl | rfl
    · have g : (k == 0) = false := by rw [beq_eq_false_iff_ne]; exact hk
      clear hk hd
      go_enter Tryz.func62, Tryz.ntmps62
      go_wp2_with fail
      go_ret
      exact ⟨rfl, kk (ka _ _) (ka _ _)⟩
    · have g : (k == 1) = false := by rw [beq_eq_false_iff_ne]; exact hk
      clear hk hd
      go_enter Tryz.func62, Tryz.ntmps62
      go_wp2_with fail
      go_ret
      exact ⟨rfl, kk (ka _ _) (ka _ _)⟩

/-- What is known of a tuple of which j parts have been looked at. -/
def IsUpto (n : Int) (t : T) (l : List V) (j : Nat) (c : Bool) : Prop := if c then V.isL 2 n t (l.drop j) j = V.isL 2 n t l 0 else V.isL 2 n t l 0 = false

theorem IsUpto.step {n : Int} {t : T} {l : List V} {j : Nat} {x : V} {u : T} (h : IsUpto n t l j true) (hx : l[j]? = some x) (hu : t.l[j]? = some u) : IsUpto n t l (j + 1) (x.is u) := by
  have hlt := (List.getElem?_eq_some_iff.1 hx).1
  have hd : l.drop j = x :: l.drop (j + 1) := by
    rw [List.drop_eq_getElem_cons hlt]
    congr 1
    exact (List.getElem?_eq_some_iff.1 hx).2
  have h1 : V.isL 2 n t (l.drop j) j = V.isL 2 n t l 0 := by simpa [IsUpto] using h
  rw [hd] at h1
  simp [V.isL, hu] at h1
  unfold IsUpto
  cases hb : x.is u with
  | true => rw [hb] at h1; simpa using h1
  | false => rw [hb] at h1; simpa using h1.symm
theorem IsUpto.done {n : Int} {t : T} {l : List V} {j : Nat} (h : IsUpto n t l j true) (hj : j = l.length) : V.isL 2 n t l 0 = true := by
  have h1 : V.isL 2 n t (l.drop j) j = V.isL 2 n t l 0 := by simpa [IsUpto] using h
  rw [← h1, hj, List.drop_of_length_le (Nat.le_refl _)]; simp [V.isL]
theorem IsUpto.no {n : Int} {t : T} {l : List V} {j : Nat} (h : IsUpto n t l j false) : V.isL 2 n t l 0 = false := by simpa [IsUpto] using h

set_option maxRecDepth 100000 in
set_option maxHeartbeats 4000000 in
theorem fits_tuple_no (k n : Int) (s : ByteArray) (a : Option Addr) (len cap : Nat) (ta : Option Addr) (tlen tcap : Nat) (w : World) (h : k ≠ 2 ∨ (k = 2 ∧ len ≠ tlen)) :
    Calls Tryz.prog 62 #[.agg #[.int .i64 k, .int .i64 n, .string s, .slice a len cap], .agg #[.int .i64 2, .slice ta tlen tcap]] w fun e w' => e = .returned (.bool false) ∧ Kp w w' := by
  rcases h with h | ⟨rfl, h⟩
  · have g : (k == 2) = false := by rw [beq_eq_false_iff_ne]; exact h
    clear h
    go_enter Tryz.func62, Tryz.ntmps62
    go_wp2_with fail
    refine wp_loop_rounds (0 + 1) ?_
    rw [rounds_succ]
    go_wp2_with fail
    go_ret
    exact ⟨rfl, kk (ka _ _) (ka _ _)⟩
  · have g : ((len : Int) == (tlen : Int)) = false := by rw [beq_eq_false_iff_ne]; omega
    clear h
    go_enter Tryz.func62, Tryz.ntmps62
    go_wp2_with fail
    refine wp_loop_rounds (0 + 1) ?_
    rw [rounds_succ]
    go_wp2_with fail
    go_ret
    exact ⟨rfl, kk (ka _ _) (ka _ _)⟩

set_option maxRecDepth 100000 in
set_option maxHeartbeats 8000000 in
theorem fits_tuple (n : Int) (s : ByteArray) (a : Option Addr) (cap : Nat) (l : List V) (ta : Option Addr) (tcap : Nat) (tl : List T) (w : World) (he : l.length = tl.length)
    (hin : (V.mk 2 n s a cap l).In w w.heap.size) (hin' : (T.mk 2 ta tcap tl).In w w.heap.size)
    (ih : ∀ (j : Nat) (x : V) (u : T), l[j]? = some x → tl[j]? = some u → ∀ w1 : World, x.In w1 w1.heap.size → u.In w1 w1.heap.size → Calls Tryz.prog 62 #[.agg #[.int .i64 x.k, .int .i64 x.n, .string x.s, .slice x.a x.l.length x.cap], .agg #[.int .i64 u.k, .slice u.a u.l.length u.cap]] w1 fun e w' => e = .returned (.bool (x.is u)) ∧ Kp w1 w') :
    Calls Tryz.prog 62 #[.agg #[.int .i64 2, .int .i64 n, .string s, .slice a l.length cap], .agg #[.int .i64 2, .slice ta tl.length tcap]] w fun e w' => e = .returned (.bool (V.isL 2 n (.mk 2 ta tcap tl) l 0)) ∧ Kp w w' := by
  have hlen := V.lenLe hin
  have hlen' := T.lenLe hin'
  have g : ((l.length : Int) == (tl.length : Int)) = true := by rw [beq_iff_eq]; omega
  have IH := Lib.hid ih
  have HIN := Lib.hid hin
  have HIN' := Lib.hid hin'
  have HE := Lib.hid he
  clear ih hin hin' he
  go_enter Tryz.func62, Tryz.ntmps62
  go_wp2_with fail
  clear g
  go_loopw [5, 6] (fun b i wr => ∃ (j : Nat) (c : Bool), j ≤ l.length ∧ i = .int .i64 j ∧ b = .bool c ∧ IsUpto n (.mk 2 ta tcap tl) l j c ∧ Kp ((w.alloc (.cells #[.int .i64 2, .int .i64 n, .string s, .slice a l.length cap] 24)).alloc (.cells #[.int .i64 2, .slice ta tl.length tcap] 27)) wr) (fun _ i _ => l.length - (intOf i).toNat)
  case atStart => exact ⟨0, true, Nat.zero_le _, rfl, rfl, by simp [IsUpto], Below.refl _ _⟩
  case round =>
    obtain ⟨j, c, hj, rfl, rfl, hu, hk⟩ := hrel
    obtain ⟨bx, by_⟩ := twoBox hk
    have c3 : wr.cell? ⟨w.heap.size, 3, none⟩ = some (.slice a l.length cap) := cellOf bx rfl
    have d1 : wr.cell? ⟨w.heap.size + 1, 1, none⟩ = some (.slice ta tl.length tcap) := cellOf by_ rfl
    have hkw := kk (kk (ka _ _) (ka _ _)) hk
    clear bx by_
    cases c with
    | true =>
      by_cases h1 : j < l.length
      · have h2 : j < tl.length := by have := HE.out; omega
        obtain ⟨x, hx⟩ : ∃ x, l[j]? = some x := ⟨l[j], by simp [h1]⟩
        obtain ⟨y, hy⟩ : ∃ y, tl[j]? = some y := ⟨tl[j], by simp [h2]⟩
        obtain ⟨p0, off, rfl, hp0, q0, q1, q2, q3, hxin⟩ := V.atPart HIN.out hx
        obtain ⟨p1, off1, rfl, hp1, s0, s1, hyin⟩ := T.atPart HIN'.out hy
        have kd := kk hkw (kpD (w := wr))
        have r0 := kc kd q0
        have r1 := kc kd q1
        have r2 := kc kd q2
        have r3 := kc kd q3
        have t0 := kc kd s0
        have t1 := kc kd s1
        have e3 := kc kpD c3
        have f1 := kc kpD d1
        have g0 : (0 : Int) ≤ (j : Int) := by omega
        have g1 : (j : Int) < (l.length : Int) := by omega
        have g2 : (j : Int) < (tl.length : Int) := by omega
        have hih := IH.out j x y hx hy wr.drew (hxin.keep kd.size kd) (hyin.keep kd.size kd)
        have HST := Lib.hid (hu.step hx hy)
        have HK := Lib.hid hk
        generalize x.is y = q at hih HST
        generalize x.k = xk at *
        generalize x.n = xn at *
        generalize x.s = xs at *
        generalize x.a = xa at *
        generalize x.l.length = xl at *
        generalize x.cap = xc at *
        generalize y.k = yk at *
        generalize y.a = ya at *
        generalize y.l.length = yl at *
        generalize y.cap = yc at *
        have HIH := Lib.hid hih
        clear hih hk hkw hu hx hy hxin hyin q0 q1 q2 q3 s0 s1
        go_wp2_with fail
        refine wp_region_still_tail 10 (by kernel_rfl) (by kernel_rfl) ?_
        change wpStill _ _ (World.drew wr) (fun a' => wpList _ _ _ _ a' (World.drew wr)) _ _
        have HD := Lib.hid (kpD (w := wr))
        generalize World.drew wr = w2 at *
        simp only [List.take_succ_cons, List.take_zero, List.drop_succ_cons, List.drop_zero]
        repeat still_step
        refine wpStill_nil ?_
        clear r0 r1 r2 r3 t0 t1 e3 f1 kd
        go_wp2_with fail
        refine HIH.out.mono ?_
        rintro e w3 ⟨rfl, hk3⟩
        have HK3 := Lib.hid (HK.out.trans ((kk HD.out hk3).mono HK.out.size))
        clear hk3
        go_wp2_with fail
        go_roundw
        case rel => exact ⟨j + 1, q, by omega, by first | go_num | simp, rfl, HST.out, HK3.out⟩
        case measure => simp [intOf]; omega
      · have hjj : j = l.length := by omega
        have HR := Lib.hid (hu.done hjj)
        subst hjj
        have HK := Lib.hid hkw
        clear hk hkw hu
        go_wp2_with fail
        go_ret
        exact ⟨by rw [HR.out] <;> rfl, HK.out⟩
    | false =>
      have HR := Lib.hid hu.no
      have HK := Lib.hid hkw
      clear hk hkw hu
      go_wp2_with fail
      go_ret
      exact ⟨by rw [HR.out] <;> rfl, HK.out⟩

theorem shLT_at {l : List T} {d j : Nat} {x : T} (h : T.shL l d = true) (hx : l[j]? = some x) : x.sh d = true := by
  induction l generalizing j with
  | nil => simp at hx
  | cons y ys ih =>
    simp only [T.shL, Bool.and_eq_true] at h
    cases j with
    | zero => simp at hx; exact hx ▸ h.1
    | succ j => exact ih h.2 (by simpa using hx)

theorem isL_nil (k n : Int) (t : T) (i : Nat) : V.isL k n t [] i = true := by simp [V.isL]

set_option maxHeartbeats 2000000 in
theorem fits_ref : ∀ (N : Nat) (x : V) (t : T) (d d' : Nat) (w : World), x.rank ≤ N → x.sh d = true → t.sh d' = true → x.In w w.heap.size → t.In w w.heap.size →
    Calls Tryz.prog 62 #[.agg #[.int .i64 x.k, .int .i64 x.n, .string x.s, .slice x.a x.l.length x.cap], .agg #[.int .i64 t.k, .slice t.a t.l.length t.cap]] w fun e w' => e = .returned (.bool (x.is t)) ∧ Kp w w' := by
  intro N
  induction N with
  | zero => intro x t d d' w h; have := x.rank_pos; omega
  | succ N ih =>
    intro x t d d' w hN hx ht hin hin'
    cases x with
    | mk k n s a cap l =>
    cases t with
    | mk tk ta tcap tl =>
    cases d with
    | zero => simp [V.sh] at hx
    | succ d =>
    cases d' with
    | zero => simp [T.sh] at ht
    | succ d' =>
    simp [V.sh] at hx
    simp [T.sh] at ht
    obtain ⟨hf, hp⟩ := hx
    obtain ⟨hf', hp'⟩ := ht
    have hlen := V.lenLe hin
    have hlen' := T.lenLe hin'
    have hgood := fits_good hf
    show Calls Tryz.prog 62 #[.agg #[.int .i64 k, .int .i64 n, .string s, .slice a l.length cap], .agg #[.int .i64 tk, .slice ta tl.length tcap]] w _
    have his : (V.mk k n s a cap l).is (.mk tk ta tcap tl) = (okB k n l.length tk tl.length && V.isL k n (.mk tk ta tcap tl) l 0) := by simp [V.is, T.k, T.l]
    rw [his]
    by_cases h3 : tk = 3
    · subst h3
      by_cases hk : k = 3
      · subst hk
        have hn0 := hgood.1 rfl
        obtain ⟨m, rfl⟩ := Int.eq_ofNat_of_zero_le hn0
        by_cases hm : m < tl.length
        · have hl1 : l.length = 1 := by simp [fitsB, taggedB] at hf; omega
          obtain ⟨x, rfl⟩ : ∃ x, l = [x] := by
            match l, hl1 with
            | [x], _ => exact ⟨x, rfl⟩
          obtain ⟨u, hu⟩ : ∃ u, tl[m]? = some u := ⟨tl[m], by simp [hm]⟩
          have hval : (okB 3 (m : Int) 1 3 tl.length && V.isL 3 (m : Int) (.mk 3 ta tcap tl) [x] 0) = x.is u := by
            simp [okB, kindI, V.isL, T.l, hu]
            omega
          rw [show ([x] : List V).length = 1 from rfl, hval]
          exact fits_sum_y m s a cap x ta tcap tl u w hm hu hin hin' (fun w1 h1 h2 => ih x u d d' w1 (by have := V.rank_part (v := .mk 3 m s a cap [x]) (j := 0) (x := x) rfl; omega) (shL_at hp (j := 0) rfl) (shLT_at hp' hu) h1 h2)
        · have hval : okB 3 (m : Int) l.length 3 tl.length = false := by simp [okB]; omega
          rw [hval, Bool.false_and]
          exact fits_sum_n m s a l.length cap ta tl.length tcap w (by omega)
      · have hval : okB k n l.length 3 tl.length = false := by simp [okB, kindI, hk]
        rw [hval, Bool.false_and]
        exact fits_sum_k k n s a l.length cap ta tl.length tcap w hk
    by_cases h2 : tk = 2
    · subst h2
      by_cases hk : k = 2
      · subst hk
        by_cases he : l.length = tl.length
        · have hval : okB 2 n l.length 2 tl.length = true := by simp [okB, kindI, he]
          rw [hval, Bool.true_and]
          exact fits_tuple n s a cap l ta tcap tl w he hin hin' (fun j x u hx hu w1 h1 h2 => ih x u d d' w1 (by have := V.rank_part (v := .mk 2 n s a cap l) (j := j) (x := x) hx; omega) (shL_at hp hx) (shLT_at hp' hu) h1 h2)
        · have hval : okB 2 n l.length 2 tl.length = false := by simp [okB, kindI, he]
          rw [hval, Bool.false_and]
          exact fits_tuple_no 2 n s a l.length cap ta tl.length tcap w (.inr ⟨rfl, he⟩)
      · have hval : okB k n l.length 2 tl.length = false := by simp [okB, kindI, hk]
        rw [hval, Bool.false_and]
        exact fits_tuple_no k n s a l.length cap ta tl.length tcap w (.inl hk)
    have h01 : tk = 0 ∨ tk = 1 := by
      simp [fitsT, h2, h3] at hf'
      exact hf'.1
    have hkk : kindI tk = tk := by rcases h01 with rfl | rfl <;> rfl
    have hval : (okB k n l.length tk tl.length && V.isL k n (.mk tk ta tcap tl) l 0) = decide (k = tk) := by
      by_cases hk : k = tk
      · have hl : l = [] := hgood.2 (by omega) (by omega)
        subst hl
        simp [okB, hkk, hk, isL_nil]
        omega
      · simp [okB, hkk, hk]
    rw [hval]
    exact fits_leaf k n s a l.length cap tk ta tl.length tcap w h01

set_option maxRecDepth 100000 in
set_option maxHeartbeats 4000000 in
theorem isR_no (k n : Int) (s : ByteArray) (a : Option Addr) (cap : Nat) (l : List V) (tk : Int) (ta : Option Addr) (tcap : Nat) (tl : List T) (w : World) (hin : (V.mk k n s a cap l).In w w.heap.size) (h : (V.mk k n s a cap l).valid = false) :
    Calls Tryz.prog 22 #[.agg #[.int .i64 k, .int .i64 n, .string s, .slice a l.length cap], .agg #[.int .i64 tk, .slice ta tl.length tcap]] w fun e w' => e = .returned (.bool false) ∧ Kp w w' := by
  have C := fun (w1 : World) (h : Kp w w1) => valid_ref k n s a cap l w1 (hin.keep h.size h)
  rw [h] at C
  have HC := Lib.hid C
  clear C hin h
  go_enter Tryz.func22, Tryz.ntmps22
  go_wp2_with fail
  refine (HC.out _ (kk (ka _ _) (ka _ _))).mono ?_
  rintro e w1 ⟨rfl, hk⟩
  have HK := Lib.hid (kk (kk (ka _ _) (ka _ _)) hk)
  clear hk
  go_wp2_with fail
  go_ret
  exact ⟨rfl, HK.out⟩

set_option maxRecDepth 100000 in
set_option maxHeartbeats 4000000 in
theorem isR_type (k n : Int) (s : ByteArray) (a : Option Addr) (cap : Nat) (l : List V) (tk : Int) (ta : Option Addr) (tcap : Nat) (tl : List T) (w : World) (hin : (V.mk k n s a cap l).In w w.heap.size) (hin' : (T.mk tk ta tcap tl).In w w.heap.size)
    (h : (V.mk k n s a cap l).valid = true) (h' : (T.mk tk ta tcap tl).valid = false) :
    Calls Tryz.prog 22 #[.agg #[.int .i64 k, .int .i64 n, .string s, .slice a l.length cap], .agg #[.int .i64 tk, .slice ta tl.length tcap]] w fun e w' => e = .returned (.bool false) ∧ Kp w w' := by
  have C := fun (w1 : World) (h : Kp w w1) => valid_ref k n s a cap l w1 (hin.keep h.size h)
  rw [h] at C
  have HC := Lib.hid C
  have C' := fun (w1 : World) (h : Kp w w1) => validT_ref tk ta tcap tl w1 (hin'.keep h.size h)
  rw [h'] at C'
  have HC' := Lib.hid C'
  clear C C' hin hin' h h'
  go_enter Tryz.func22, Tryz.ntmps22
  go_wp2_with fail
  refine (HC.out _ (kk (ka _ _) (ka _ _))).mono ?_
  rintro e w1 ⟨rfl, hk⟩
  obtain ⟨c0, c1, c2, c3, d0, d1⟩ := twoBoxVT hk
  have HK := Lib.hid (kk (kk (ka _ _) (ka _ _)) hk)
  clear hk
  go_wp2_with fail
  refine (HC'.out _ HK.out).mono ?_
  rintro e w2 ⟨rfl, hk⟩
  have HK2 := Lib.hid (kk HK.out hk)
  clear hk
  go_wp2_with fail
  go_ret
  exact ⟨rfl, HK2.out⟩

set_option maxRecDepth 100000 in
set_option maxHeartbeats 4000000 in
theorem isR_yes (k n : Int) (s : ByteArray) (a : Option Addr) (cap : Nat) (l : List V) (tk : Int) (ta : Option Addr) (tcap : Nat) (tl : List T) (w : World) (hin : (V.mk k n s a cap l).In w w.heap.size) (hin' : (T.mk tk ta tcap tl).In w w.heap.size)
    (h : (V.mk k n s a cap l).valid = true) (h' : (T.mk tk ta tcap tl).valid = true) :
    Calls Tryz.prog 22 #[.agg #[.int .i64 k, .int .i64 n, .string s, .slice a l.length cap], .agg #[.int .i64 tk, .slice ta tl.length tcap]] w fun e w' => e = .returned (.bool ((V.mk k n s a cap l).is (.mk tk ta tcap tl))) ∧ Kp w w' := by
  have hsx : (V.mk k n s a cap l).sh 6 = true := by simp [V.valid] at h; exact h.1
  have hst : (T.mk tk ta tcap tl).sh 6 = true := by simp [T.valid] at h'; exact h'.1
  have O := fun (w1 : World) (h : Kp w w1) => fits_ref _ (V.mk k n s a cap l) (T.mk tk ta tcap tl) 6 6 w1 (Nat.le_refl _) hsx hst (hin.keep h.size h) (hin'.keep h.size h)
  dsimp only [V.k, V.n, V.s, V.a, V.l, V.cap, T.k, T.a, T.l, T.cap] at O
  have C := fun (w1 : World) (h : Kp w w1) => valid_ref k n s a cap l w1 (hin.keep h.size h)
  rw [h] at C
  have HC := Lib.hid C
  have C' := fun (w1 : World) (h : Kp w w1) => validT_ref tk ta tcap tl w1 (hin'.keep h.size h)
  rw [h'] at C'
  have HC' := Lib.hid C'
  generalize (V.mk k n s a cap l).is (T.mk tk ta tcap tl) = o at O ⊢
  have HO := Lib.hid O
  clear C C' O hin hin' h h' hsx hst
  go_enter Tryz.func22, Tryz.ntmps22
  go_wp2_with fail
  refine (HC.out _ (kk (ka _ _) (ka _ _))).mono ?_
  rintro e w1 ⟨rfl, hk⟩
  obtain ⟨c0, c1, c2, c3, d0, d1⟩ := twoBoxVT hk
  have HK := Lib.hid (kk (kk (ka _ _) (ka _ _)) hk)
  clear hk
  go_wp2_with fail
  refine (HC'.out _ HK.out).mono ?_
  rintro e w2 ⟨rfl, hk⟩
  have HK2 := Lib.hid (kk HK.out hk)
  have e0 := kc hk c0
  have e1 := kc hk c1
  have e2 := kc hk c2
  have e3 := kc hk c3
  have f0 := kc hk d0
  have f1 := kc hk d1
  clear hk c0 c1 c2 c3 d0 d1
  go_wp2_with fail
  refine (HO.out _ HK2.out).mono ?_
  rintro e w3 ⟨rfl, hk⟩
  have HK3 := Lib.hid (kk HK2.out hk)
  clear hk
  go_wp2_with fail
  go_ret
  exact ⟨rfl, HK3.out⟩

/-- What Is answers. -/
def isV (x : V) (t : T) : Bool := x.valid && (t.valid && x.is t)

theorem isR (k n : Int) (s : ByteArray) (a : Option Addr) (cap : Nat) (l : List V) (tk : Int) (ta : Option Addr) (tcap : Nat) (tl : List T) (w : World) (hin : (V.mk k n s a cap l).In w w.heap.size) (hin' : (T.mk tk ta tcap tl).In w w.heap.size) :
    Calls Tryz.prog 22 #[.agg #[.int .i64 k, .int .i64 n, .string s, .slice a l.length cap], .agg #[.int .i64 tk, .slice ta tl.length tcap]] w fun e w' => e = .returned (.bool (isV (V.mk k n s a cap l) (.mk tk ta tcap tl))) ∧ Kp w w' := by
  cases hv : (V.mk k n s a cap l).valid with
  | false => simpa [isV, hv] using isR_no k n s a cap l tk ta tcap tl w hin hv
  | true =>
    cases ht : (T.mk tk ta tcap tl).valid with
    | false => simpa [isV, hv, ht] using isR_type k n s a cap l tk ta tcap tl w hin hin' hv ht
    | true => simpa [isV, hv, ht] using isR_yes k n s a cap l tk ta tcap tl w hin hin' hv ht

theorem isVal_isV (x : V) (t : T) : isVal x t = isV x t := by
  unfold isVal isV
  rw [bad_valid, badT_valid]
  cases x.valid <;> cases t.valid <;> simp

end Go.Proofs.YtkfmgafgokpjhaaGreatDoor

/-
  THE PROGRAM's least, AT ANY VALID TYPE.
-/
namespace Go.Proofs.YtkfmgafgokpjhaaGreatDoor
open Go.RowKit

theorem infoV : (Tryz.prog.info? 24).map (fun i => (i.zero, i.size, i.bytes)) = some (some (.agg #[.int .i64 0, .int .i64 0, .string ⟨#[]⟩, .slice none 0 0]), 4, 56) := by kernel_rfl

theorem grown_kp {w w' : World} (h : w.grownBy w' none) : Kp w w' := by
  obtain ⟨h1, h2, h3, h4, h5⟩ := h
  exact ⟨h1, h2, h3, h4, fun k hk => h5 k hk (by simp)⟩

theorem inLeaf {w : World} {B : Nat} (k n : Int) (s : ByteArray) (hk : I64 k) (hn : I64 n) (hs : s.size ≤ maxLen) : (V.mk k n s none 0 []).In w B := by
  simp [V.In, V.InL, hk, hn, hs]

theorem leastP_int (w : World) (a : Option Addr) (l c : Nat) :
    Calls Tryz.prog 54 #[.agg #[.int .i64 0, .slice a l c]] w (Makes w (.mk 0 (-2147483648) ⟨#[]⟩ none 0 [])) :=
  (least_int w a l c).mono fun _ _ ⟨he, hk⟩ => ⟨.mk 0 (-2147483648) ⟨#[]⟩ none 0 [], he, inLeaf _ _ _ (by unfold I64; omega) (by unfold I64; omega) (by decide), V.foot_leaf _ _ _ _ _, V.same_refl _, hk⟩

theorem leastP_text (w : World) (a : Option Addr) (l c : Nat) :
    Calls Tryz.prog 54 #[.agg #[.int .i64 1, .slice a l c]] w (Makes w (.mk 1 0 ⟨#[]⟩ none 0 [])) :=
  (least_text w a l c).mono fun _ _ ⟨he, hk⟩ => ⟨.mk 1 0 ⟨#[]⟩ none 0 [], he, inLeaf _ _ _ (by unfold I64; omega) (by unfold I64; omega) (by decide), V.foot_leaf _ _ _ _ _, V.same_refl _, hk⟩

set_option maxRecDepth 100000 in
set_option maxHeartbeats 4000000 in
theorem leastP_sum (g off l c : Nat) (x : T) (w : World) (x1 : w.cell? ⟨g, off, none⟩ = some (.int .i64 x.k)) (x2 : w.cell? ⟨g, off + 1, none⟩ = some (.slice x.a x.l.length x.cap)) (hx : x.In w w.heap.size)
    (ih : ∀ w1 : World, x.In w1 w1.heap.size → Calls Tryz.prog 54 #[.agg #[.int .i64 x.k, .slice x.a x.l.length x.cap]] w1 (Makes w1 x.lst)) :
    Calls Tryz.prog 54 #[.agg #[.int .i64 3, .slice (some ⟨g, off, none⟩) (l + 1) c]] w (Makes w (.mk 3 0 ⟨#[]⟩ none 0 [x.lst])) := by
  have hg := World.block_lt_of_cell? w _ x1
  have C := fun w1 (h : Kp w w1) => ih w1 (hx.keep h.size h)
  generalize x.lst = y at C ⊢
  generalize x.k = xk at *
  generalize x.a = xa at *
  generalize x.l.length = xl at *
  generalize x.cap = xc at *
  have HC := Lib.hid C
  clear C ih hx
  go_enter Tryz.func54, Tryz.ntmps54
  go_wp2_with fail
  refine (HC.out _ (kk (ka _ _) (ka _ _))).mono ?_
  rintro e w1 ⟨z, rfl, hzi, hzf, hzs, hk1⟩
  have hz1 := hk1.size
  simp at hz1
  have hblk : w1.heap[w.heap.size + 1]? = some (.cells zero4 24 (0, 0)) := (hk1.block _ (by simp)).trans (blockHere (by simp))
  obtain ⟨c0, c1, c2, c3, f0, f1, f2, f3⟩ := cell4 hblk
  have HB := Lib.hid hblk
  have HK1 := Lib.hid (kk (kk (ka _ _) (ka _ _)) hk1)
  have hzf2 : z.foot (fun b => w.heap.size + 2 ≤ b) := V.foot.mono (fun b hb => by simp at hb; omega) z hzf
  have HZI := Lib.hid hzi
  have HZF := Lib.hid hzf2
  have HZS := Lib.hid hzs
  clear hk1 hblk hzi hzf hzf2 hzs
  cases z with
  | mk k n s a cap zl =>
  simp only [V.val_mk]
  go_wp2_with fail
  refine (together_one _ w1.heap.size 0 1 (.int .i64 k) (.int .i64 n) (.string s) (.slice a zl.length cap) (here rfl rfl) (here rfl rfl) (here rfl rfl) (here rfl rfl) (by simp [Value.oneCell'])).mono ?_
  rintro e w2 ⟨q, rfl, hq, hqb, hk2⟩
  simp at hq
  have hblk := ((kk (ka _ _) hk2).block _ (lt_of_block HB.out)).trans HB.out
  obtain ⟨d0, d1, d2, d3, g0, g1, g2, g3⟩ := cell4 hblk
  have HB2 := Lib.hid hblk
  have hk12 := kk (ka _ _) hk2
  have HK2 := Lib.hid (kk HK1.out hk12)
  have HQ := Lib.hid hqb
  have HZ2 := Lib.hid (HZI.out.keep hk12.size hk12)
  clear hk2 hk12 hblk hqb c0 c1 c2 c3 f0 f1 f2 f3
  go_wp2_with fail
  obtain ⟨e0, e1, e2, e3, -⟩ := cell4 (put4_block (v0 := .int .i64 3) (v1 := .int .i64 0) (v2 := .string ⟨#[]⟩) (v3 := .slice (some ⟨q, 0, none⟩) 1 1) HB2.out)
  refine bodyPost_ret (v := .agg #[.int .i64 3, .int .i64 0, .string ⟨#[]⟩, .slice (some ⟨q, 0, none⟩) 1 1]) (by simp [results, Tryz.results54, go_sem, e0, e1, e2, e3]) rfl ?_
  have hqs := lt_of_block HQ.out
  have hmv : ∀ b, b < w2.heap.size → w.heap.size + 2 ≤ b → (put4 w2 (w.heap.size + 1) (.int .i64 3) (.int .i64 0) (.string ⟨#[]⟩) (.slice (some ⟨q, 0, none⟩) 1 1)).heap[b]? = w2.heap[b]? := fun b _ hb => put4_other (by omega)
  have hS : (put4 w2 (w.heap.size + 1) (.int .i64 3) (.int .i64 0) (.string ⟨#[]⟩) (.slice (some ⟨q, 0, none⟩) 1 1)).heap.size = w2.heap.size := by simp [World.setCell]
  refine ⟨.mk 3 0 ⟨#[]⟩ (some ⟨q, 0, none⟩) 1 [.mk k n s a cap zl], rfl, ?_, ?_, ?_, put4_kp HK2.out (by omega)⟩
  · rw [hS]
    simp only [V.In, V.InL]
    refine ⟨by unfold I64; omega, by unfold I64; omega, by decide, Nat.le_refl _, by decide, .inr ⟨q, 0, rfl, hqs, ?_⟩, ?_, trivial⟩
    · exact At.of_block ((hmv q hqs (by omega)).trans HQ.out) rfl
    · exact V.In.move (Nat.le_refl _) hmv _ HZ2.out HZF.out
  · simp only [V.foot, V.footL]
    exact ⟨.inr ⟨q, 0, rfl, by omega⟩, V.foot.mono (fun b hb => by omega) _ HZF.out, trivial⟩
  · exact V.same_node (V.sameL_one HZS.out)

/-- A row of l.length values in block g, of which the first j have been stored: vs, the least values of l's first j types. -/
structure RowAt (w : World) (g : Nat) (l : List T) (j : Nat) (cs : Array Value) (vs : List V) : Prop where
  blk : w.heap[g]? = some (.cells cs 24 (0, 0))
  size : cs.size = l.length * 4
  take : cs.toList.take (j * 4) = cellsL vs
  same : V.sameL vs (T.lstL (l.take j)) = true
  hin : V.InL w w.heap.size vs
  foot : V.footL (fun b => g < b) vs

/-- Four cells of a row turned. -/
theorem take_put4 {cs : Array Value} {j n : Nat} {v0 v1 v2 v3 : Value} (hs : cs.size = n * 4) (hj : j < n) :
    ((((cs.setIfInBounds (j * 4) v0).setIfInBounds (j * 4 + 1) v1).setIfInBounds (j * 4 + 2) v2).setIfInBounds (j * 4 + 3) v3).toList.take ((j + 1) * 4) = cs.toList.take (j * 4) ++ [v0, v1, v2, v3] := by
  apply List.ext_getElem?
  intro i
  simp only [Array.toList_setIfInBounds, List.getElem?_take, List.getElem?_set, List.getElem?_append, List.length_take, Array.length_toList, List.length_set]
  have hmin : min (j * 4) cs.size = j * 4 := by omega
  rw [hmin]
  by_cases h0 : i < j * 4
  · have h1 : i < (j + 1) * 4 := by omega
    simp [h0, h1, show ¬ j * 4 + 3 = i from by omega, show ¬ j * 4 + 2 = i from by omega, show ¬ j * 4 + 1 = i from by omega, show ¬ j * 4 = i from by omega]
  · by_cases h1 : i < (j + 1) * 4
    · obtain ⟨r, hr, hr4⟩ : ∃ r, i = j * 4 + r ∧ r < 4 := ⟨i - j * 4, by omega, by omega⟩
      subst hr
      have : r = 0 ∨ r = 1 ∨ r = 2 ∨ r = 3 := by omega
      rcases this with rfl | rfl | rfl | rfl
      · simp [show (0 : Nat) < 4 from by omega, show j * 4 < (j + 1) * 4 from by omega, show j * 4 < cs.size from by omega]
      · simp [h1, show j * 4 + 1 < cs.size from by omega]
        intro h; omega
      · simp [h1, show j * 4 + 2 < cs.size from by omega]
        intro h; omega
      · simp [h1, show j * 4 + 3 < cs.size from by omega]
        intro h; omega
    · simp [h0, h1]
      omega

theorem RowAt.step {w w2 : World} {g j : Nat} {l : List T} {cs : Array Value} {vs : List V} {z y : V} (h : RowAt w g l j cs vs) (hj : j < l.length) (hg : g < w.heap.size) (hk : Kp w w2) (hz : z.In w2 w2.heap.size)
    (hf : z.foot (fun b => w.heap.size ≤ b)) (hs : z.same y = true) (htk : T.lstL (l.take (j + 1)) = T.lstL (l.take j) ++ [y]) :
    RowAt (putAt w2 g (j * 4) (.int .i64 z.k) (.int .i64 z.n) (.string z.s) (.slice z.a z.l.length z.cap)) g l (j + 1)
      ((((cs.setIfInBounds (j * 4) (.int .i64 z.k)).setIfInBounds (j * 4 + 1) (.int .i64 z.n)).setIfInBounds (j * 4 + 2) (.string z.s)).setIfInBounds (j * 4 + 3) (.slice z.a z.l.length z.cap)) (vs ++ [z]) := by
  have hS : (putAt w2 g (j * 4) (.int .i64 z.k) (.int .i64 z.n) (.string z.s) (.slice z.a z.l.length z.cap)).heap.size = w2.heap.size := by simp [World.setCell]
  have hmv : ∀ b, b < w2.heap.size → g < b → (putAt w2 g (j * 4) (.int .i64 z.k) (.int .i64 z.n) (.string z.s) (.slice z.a z.l.length z.cap)).heap[b]? = w2.heap[b]? := fun b _ hb => putAt_other (by omega)
  refine ⟨putAt_block ((hk.block _ hg).trans h.blk), by simp [h.size], ?_, ?_, ?_, ?_⟩
  · rw [take_put4 h.size hj, h.take, cellsL_snoc]; rfl
  · rw [htk]; exact V.sameL_snoc h.same hs
  · rw [hS]
    exact V.InL_snoc (V.InL.move (Nat.le_refl _) hmv _ (h.hin.keep hk.size hk) h.foot) (V.In.move (Nat.le_refl _) hmv _ hz (V.foot.mono (fun b hb => by omega) _ hf))
  · exact V.footL_snoc h.foot (V.foot.mono (fun b hb => by omega) _ hf)

set_option maxRecDepth 100000 in
set_option maxHeartbeats 8000000 in
theorem leastP_tuple (a : Option Addr) (cap : Nat) (l : List T) (w : World) (hin : (T.mk 2 a cap l).In w w.heap.size) (hl8 : l.length ≤ 8)
    (ih : ∀ (j : Nat) (x : T), l[j]? = some x → ∀ w1 : World, x.In w1 w1.heap.size → Calls Tryz.prog 54 #[.agg #[.int .i64 x.k, .slice x.a x.l.length x.cap]] w1 (Makes w1 x.lst)) :
    Calls Tryz.prog 54 #[.agg #[.int .i64 2, .slice a l.length cap]] w (Makes w (.mk 2 0 ⟨#[]⟩ none 0 (T.lstL l))) := by
  obtain ⟨i0, hi, hz0, hz1, hz2⟩ := info_parts infoV
  have HIN := Lib.hid hin
  have IH := Lib.hid ih
  clear hin ih
  go_enter Tryz.func54, Tryz.ntmps54
  go_wp2_with (refine wpList_make_full _ rfl _ _ 22 rfl 0 24 i0 _ 4 Tryz.underlying22 hi hz0 hz1 .i64 .i64 _ _ l.length rfl rfl rfl rfl ?c1 ?c2 ?c3 ?_)
  case c1 => rw [hz2]; omega
  case c2 => unfold maxLen; omega
  case c3 => omega
  intro w1 hown hgrow
  obtain ⟨cs, hblk, hcs⟩ : ∃ cs : Array Value, w1.heap[w.heap.size + 1 + 1]? = some (.cells cs 24 (0, 0)) ∧ cs.size = l.length * 4 := by
    rcases hown.2 with ⟨h, -⟩ | ⟨g, cap', cur, hv, -, hg, -, -, hsz, -⟩
    · cases h
    · cases hv; exact ⟨cur, hg, hsz⟩
  have hk1 : Kp w w1 := kk (kk (ka _ _) (ka _ _)) (grown_kp hgrow)
  have hbox : w1.heap[w.heap.size]? = some (.cells #[.int .i64 2, .slice a l.length cap] 27 (0, 0)) := ((grown_kp hgrow).block _ (by simp; omega)).trans (blockPast (blockHere rfl))
  have hres : w1.heap[w.heap.size + 1]? = some (.cells zero4 24 (0, 0)) := ((grown_kp hgrow).block _ (by simp)).trans (blockHere (by simp))
  have hzw := lt_of_block hblk
  have b0 := cellOf (i := 0) hbox rfl
  have b1 := cellOf (i := 1) hbox rfl
  have HB := Lib.hid hblk
  have HBX := Lib.hid hbox
  have HRS := Lib.hid hres
  have HK1 := Lib.hid hk1
  have HCS := Lib.hid hcs
  clear hblk hbox hres hk1 hcs hown hgrow hz0 hz1 hz2 hi
  generalize hg : w.heap.size + 1 + 1 = g at *
  go_wp2_with fail
  go_loopw [20] (fun i wr => ∃ (j : Nat) (cs : Array Value) (vs : List V), j ≤ l.length ∧ i = .int .i64 j ∧ RowAt wr g l j cs vs ∧ Kp w wr ∧ wr.heap[w.heap.size]? = some (.cells #[.int .i64 2, .slice a l.length cap] 27 (0, 0)) ∧ wr.heap[w.heap.size + 1]? = some (.cells zero4 24 (0, 0))) (fun i _ => l.length - (intOf i).toNat)
  case atStart => exact ⟨0, cs, [], Nat.zero_le _, rfl, ⟨HB.out, HCS.out, by simp [cellsL], by simp [T.lstL, V.sameL], trivial, trivial⟩, HK1.out, HBX.out, HRS.out⟩
  case round =>
    obtain ⟨j, cs, vs, hj, rfl, hrow, hk, hbox, hres⟩ := hrel
    by_cases hlt : j < l.length
    · obtain ⟨x, hx⟩ : ∃ x, l[j]? = some x := ⟨l[j], by simp [hlt]⟩
      obtain ⟨p0, off, rfl, hp0, q0, q1, hxin⟩ := T.atPart HIN.out hx
      have r0 := kc hk q0
      have r1 := kc hk q1
      have g0 : (0 : Int) ≤ (j : Int) := by omega
      have g1 : (j : Int) < (l.length : Int) := by omega
      have hih := fun (w1 : World) (h : Kp wr w1) => IH.out j x hx w1 (hxin.keep (kk hk h).size (kk hk h))
      have htk := lstL_take l j x hx
      generalize x.lst = y at *
      generalize x.k = xk at *
      generalize x.a = xa at *
      generalize x.l.length = xl at *
      generalize x.cap = xc at *
      have HIH := Lib.hid hih
      have HTK := Lib.hid htk
      have HROW := Lib.hid hrow
      have HK := Lib.hid hk
      have HBX2 := Lib.hid hbox
      have HRS2 := Lib.hid hres
      clear hih htk hrow hk hbox hres hx hxin q0 q1
      go_wp2_with fail
      have hgl := lt_of_block HROW.out.blk
      have hsz := HROW.out.size
      refine (HIH.out _ (ka _ _)).mono ?_
      rintro e w2 ⟨z, rfl, hzi, hzf, hzs, hk2⟩
      have hk2' := kk (ka _ _) hk2
      have hst := HROW.out.step hlt hgl hk2' hzi (V.foot.mono (fun b hb => by simp at hb; omega) z hzf) hzs HTK.out
      have hb2 := (hk2'.block _ hgl).trans HROW.out.blk
      obtain ⟨u0, hu0⟩ : ∃ u, cs[j * 4]? = some u := ⟨cs[j * 4]'(by omega), by simp⟩
      obtain ⟨u1, hu1⟩ : ∃ u, cs[j * 4 + 1]? = some u := ⟨cs[j * 4 + 1]'(by omega), by simp⟩
      obtain ⟨u2, hu2⟩ : ∃ u, cs[j * 4 + 2]? = some u := ⟨cs[j * 4 + 2]'(by omega), by simp⟩
      obtain ⟨u3, hu3⟩ : ∃ u, cs[j * 4 + 3]? = some u := ⟨cs[j * 4 + 3]'(by omega), by simp⟩
      have m0 := cellOf hb2 hu0
      have m1 := cellOf hb2 hu1
      have m2 := cellOf hb2 hu2
      have m3 := cellOf hb2 hu3
      have n0 := freeOf (i := j * 4) hb2
      have n1 := freeOf (i := j * 4 + 1) hb2
      have n2 := freeOf (i := j * 4 + 2) hb2
      have n3 := freeOf (i := j * 4 + 3) hb2
      have HST := Lib.hid hst
      have HK2 := Lib.hid (kk HK.out hk2')
      have HBX3 := Lib.hid ((hk2'.block _ (lt_of_block HBX2.out)).trans HBX2.out)
      have HRS3 := Lib.hid ((hk2'.block _ (lt_of_block HRS2.out)).trans HRS2.out)
      clear hst hk2 hk2' hzi hzf hzs hb2 hu0 hu1 hu2 hu3 r0 r1
      cases z with
      | mk k n s za zc zl =>
      simp only [V.val_mk]
      go_wp2_with fail
      go_roundw
      case rel => exact ⟨j + 1, _, _, by omega, by first | go_num | simp, HST.out, putAt_kp HK2.out (by omega), (putAt_other (by omega)).trans HBX3.out, (putAt_other (by omega)).trans HRS3.out⟩
      case measure => simp [intOf]; omega
    · have hjj : j = l.length := by omega
      subst hjj
      obtain ⟨d0, d1, d2, d3, f0, f1, f2, f3⟩ := cell4 hres
      have HROW := Lib.hid hrow
      have HK := Lib.hid hk
      have HRS2 := Lib.hid hres
      clear hrow hk hbox hres
      go_wp2_with fail
      obtain ⟨e0, e1, e2, e3, -⟩ := cell4 (put4_block (v0 := .int .i64 2) (v1 := .int .i64 0) (v2 := .string ⟨#[]⟩) (v3 := .slice (some ⟨g, 0, none⟩) l.length l.length) HRS2.out)
      refine bodyPost_ret (v := .agg #[.int .i64 2, .int .i64 0, .string ⟨#[]⟩, .slice (some ⟨g, 0, none⟩) l.length l.length]) (by simp [results, Tryz.results54, go_sem, e0, e1, e2, e3]) rfl ?_
      obtain ⟨hb, hsz, htk, hsm, hvi, hvf⟩ := HROW.out
      rw [List.take_of_length_le (Nat.le_refl _)] at hsm
      have hcl : cs.toList.length = l.length * 4 := (Array.length_toList (xs := cs)).trans hsz
      have hlen : vs.length = l.length := by
        have := congrArg List.length htk
        rw [cellsL_length, List.length_take, hcl, Nat.min_self] at this
        omega
      rw [← hlen]
      have hmv : ∀ b, b < wr.heap.size → g ≤ b → (put4 wr (w.heap.size + 1) (.int .i64 2) (.int .i64 0) (.string ⟨#[]⟩) (.slice (some ⟨g, 0, none⟩) vs.length vs.length)).heap[b]? = wr.heap[b]? := fun b _ hb => put4_other (by omega)
      have hS : (put4 wr (w.heap.size + 1) (.int .i64 2) (.int .i64 0) (.string ⟨#[]⟩) (.slice (some ⟨g, 0, none⟩) vs.length vs.length)).heap.size = wr.heap.size := by simp [World.setCell]
      refine ⟨.mk 2 0 ⟨#[]⟩ (some ⟨g, 0, none⟩) vs.length vs, rfl, ?_, ?_, V.same_node hsm, put4_kp HK.out (by omega)⟩
      · rw [hS]
        simp only [V.In]
        refine ⟨by unfold I64; omega, by unfold I64; omega, by decide, Nat.le_refl _, by unfold maxLen; omega, .inr ⟨g, 0, rfl, lt_of_block hb, ?_⟩, V.InL.move (Nat.le_refl _) (fun b h1 h2 => hmv b h1 (Nat.le_of_lt h2)) _ hvi hvf⟩
        refine At.of_block ((hmv g (lt_of_block hb) (Nat.le_refl _)).trans hb) ?_
        rw [← htk]
        exact (List.take_of_length_le (l := cs.toList) (i := l.length * 4) (Nat.le_of_eq hcl)).symm
      · simp only [V.foot]
        exact ⟨.inr ⟨g, 0, rfl, by omega⟩, V.footL.mono (fun b hb => by omega) _ hvf⟩

set_option maxHeartbeats 1000000 in
theorem leastP : ∀ (N : Nat) (t : T) (d : Nat) (w : World), t.rank ≤ N → t.sh d = true → t.In w w.heap.size →
    Calls Tryz.prog 54 #[.agg #[.int .i64 t.k, .slice t.a t.l.length t.cap]] w (Makes w t.lst) := by
  intro N
  induction N with
  | zero => intro t d w h; have := t.rank_pos; omega
  | succ N ih =>
    intro t d w hN ht hin
    cases t with
    | mk k a cap l =>
    cases d with
    | zero => simp [T.sh] at ht
    | succ d =>
    simp [T.sh] at ht
    obtain ⟨hf, hp⟩ := ht
    have hih : ∀ (j : Nat) (x : T), l[j]? = some x → ∀ w1 : World, x.In w1 w1.heap.size → Calls Tryz.prog 54 #[.agg #[.int .i64 x.k, .slice x.a x.l.length x.cap]] w1 (Makes w1 x.lst) := fun j x hx w1 h1 =>
      ih x d w1 (by have := T.rank_part (v := .mk k a cap l) (j := j) (x := x) hx; omega) (shLT_at hp hx) h1
    show Calls Tryz.prog 54 #[.agg #[.int .i64 k, .slice a l.length cap]] w _
    by_cases h0 : k = 0
    · subst h0; simp [T.lst]; exact leastP_int w a l.length cap
    by_cases h1 : k = 1
    · subst h1; simp [T.lst]; exact leastP_text w a l.length cap
    by_cases h2 : k = 2
    · subst h2; simp [T.lst]
      exact leastP_tuple a cap l w hin (by simp [fitsT] at hf; exact hf) hih
    by_cases h3 : k = 3
    · subst h3
      have hl : 0 < l.length := by simp [fitsT] at hf; exact hf.1
      cases l with
      | nil => simp at hl
      | cons x xs =>
        simp [T.lst, T.lstH]
        obtain ⟨p0, off, rfl, hp0, q0, q1, hxin⟩ := T.atPart hin (j := 0) (x := x) rfl
        exact leastP_sum p0 off xs.length cap x w (by simpa using q0) (by simpa using q1) hxin (fun w1 h1 => hih 0 x rfl w1 h1)
    · simp [fitsT, h0, h1, h2, h3] at hf

end Go.Proofs.YtkfmgafgokpjhaaGreatDoor
