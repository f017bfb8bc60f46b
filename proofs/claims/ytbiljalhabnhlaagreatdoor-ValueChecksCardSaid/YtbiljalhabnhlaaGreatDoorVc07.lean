/-
  Proved: the statement ValueChecks (value.Type, Check, Is, Size and Least answer as the specification's do, and the chapter's examples hold, for every value and type), as its tied card says it, with no condition beyond the card's own.
  Part 7 of 9.
-/
import Derived.Test.YtbiljalhabnhlaaGreatDoorVc06
import Derived.Test.YtbiljalhabnhlaaGreatDoorVc01
import Derived.Test.YtbiljalhabnhlaaGreatDoorVc05
import Derived.StillTailTactics
import Derived.BigQuiet
import Derived.Deep.QuietTactic
import Derived.Deep.RegionHeld3
import Derived.Test.YtbiljalhabnhlaaGreatDoorVc03
/-
  THE SPECIFICATION's types, typed, ValidType, Type (written by wip/gen_types.py).
-/
namespace Go.Proofs.YtbiljalhabnhlaaGreatDoor
open Go.RowKit

theorem ranksT_take (l : List T) (j : Nat) (x : T) (h : l[j]? = some x) : T.rank.ranks (l.take (j + 1)) = T.rank.ranks (l.take j) + x.rank := by
  induction l generalizing j with
  | nil => simp at h
  | cons y ys ih =>
    cases j with
    | zero => simp at h; subst h; simp [T.rank.ranks]
    | succ j => have := ih j (by simpa using h); simp [T.rank.ranks, this]; omega

theorem ranksT_le : ∀ (m : List T) (i : Nat), T.rank.ranks (m.take i) ≤ T.rank.ranks m := by
  intro m
  induction m with
  | nil => intro i; simp [T.rank.ranks]
  | cons y ys ih => intro i; cases i with
    | zero => simp [T.rank.ranks]
    | succ i => have := ih i; simp [T.rank.ranks]; omega

set_option maxRecDepth 100000 in
set_option maxHeartbeats 4000000 in
theorem types_ref : ∀ (N : Nat) (k : Int) (a : Option Addr) (cap : Nat) (l : List T) (w : World), (T.mk k a cap l).rank ≤ N → N ≤ 1000000000 → (T.mk k a cap l).In w w.heap.size →
    Calls Tryz.prog 97 #[.agg #[.int .i64 k, .slice a l.length cap]] w fun e w' => e = .returned (.int .i64 (T.mk k a cap l).rank) ∧ Kp w w' := by
  intro N
  induction N with
  | zero => intro k a cap l w h; have := T.rank_pos (.mk k a cap l); omega
  | succ N ih =>
    intro k a cap l w hN hM hin
    have hrk : (T.mk k a cap l).rank = 1 + T.rank.ranks l := rfl
    have hlen := T.lenLe hin
    have IH := Lib.hid ih
    have HIN := Lib.hid hin
    clear ih hin
    go_enter Tryz.func97, Tryz.ntmps97
    go_wp2_with fail
    go_loopw [3, 4] (fun c i wr => ∃ j : Nat, j ≤ l.length ∧ i = .int .i64 j ∧ c = .int .i64 ((1 + T.rank.ranks (l.take j) : Nat) : Int) ∧ Kp (w.alloc (.cells #[.int .i64 k, .slice a l.length cap] 27)) wr) (fun _ i _ => l.length - (intOf i).toNat)
    case atStart => exact ⟨0, Nat.zero_le _, rfl, by simp [T.rank.ranks], Below.refl _ _⟩
    case round =>
      obtain ⟨j, hj, rfl, rfl, hk⟩ := hrel
      obtain ⟨b0, b1, hz⟩ := box2 hk
      by_cases hlt : j < l.length
      · obtain ⟨x, hx⟩ : ∃ x, l[j]? = some x := ⟨l[j], by simp [hlt]⟩
        obtain ⟨p0, off, rfl, hp0, q0, q1, hxin⟩ := T.atPart HIN.out hx
        have hkw := kk (ka _ _) hk
        have r0 := kc hkw q0
        have r1 := kc hkw q1
        have hxr := hxin.keep hkw.size hkw
        have hrx := T.rank_part (v := .mk k (some ⟨p0, off, none⟩) cap l) (j := j) (x := x) hx
        have htk := ranksT_take l j x hx
        have hle := ranksT_le l (j + 1)
        cases x with
        | mk k' a' cap' l' =>
        simp only [T.k, T.a, T.l, T.cap] at r0 r1
        have hih := IH.out k' a' cap' l' wr (by omega) (by omega) hxr
        have HIH := Lib.hid hih
        have HK := Lib.hid hk
        generalize (T.mk k' a' cap' l').rank = rx at *
        clear hih hk hxin hxr hx hkw q0 q1
        go_wp2_with fail
        refine HIH.out.mono ?_
        rintro e w2 ⟨rfl, hk2⟩
        have HK2 := Lib.hid (kk HK.out hk2)
        clear hk2
        go_wp2_with fail
        go_roundw
        case rel => exact ⟨j + 1, by omega, by first | go_num | simp, by rw [htk]; congr 1; omega, HK2.out⟩
        case measure => simp [intOf]; omega
      · have hjj : j = l.length := by omega
        subst hjj
        have HK := Lib.hid (kk (ka _ _) hk)
        clear hk
        go_wp2_with fail
        go_ret
        exact ⟨by simp [hrk], HK.out⟩

mutual
/-- typed: so deep at most. -/
def T.sh : T → Nat → Bool
  | .mk k _ _ l, d => if d = 0 then false else fitsT k l.length && T.shL l (d - 1)
def T.shL : List T → Nat → Bool
  | [], _ => true
  | x :: xs, d => x.sh d && T.shL xs d
end

theorem T.shL_snoc (l : List T) (d j : Nat) (x : T) (h : l[j]? = some x) : T.shL (l.take (j + 1)) d = (T.shL (l.take j) d && x.sh d) := by
  induction l generalizing j with
  | nil => simp at h
  | cons y ys ih =>
    cases j with
    | zero => simp at h; subst h; simp [T.shL]
    | succ j => have := ih j (by simpa using h); simp [T.shL, this, Bool.and_assoc]
theorem T.shL_stop (l : List T) (d j : Nat) (h : T.shL (l.take j) d = false) : T.shL l d = false := by
  induction l generalizing j with
  | nil => simp [T.shL] at h
  | cons y ys ih =>
    cases j with
    | zero => simp [T.shL] at h
    | succ j =>
      simp only [List.take_succ_cons, T.shL, Bool.and_eq_false_iff] at h ⊢
      rcases h with h | h
      · exact .inl h
      · exact .inr (ih j h)

set_option maxRecDepth 100000 in
set_option maxHeartbeats 2000000 in
theorem typed_zero (k : Int) (a : Option Addr) (cap len : Nat) (w : World) :
    Calls Tryz.prog 96 #[.agg #[.int .i64 k, .slice a len cap], .int .i64 0] w fun e w' => e = .returned (.bool false) ∧ Kp w w' := by
  go_enter Tryz.func96, Tryz.ntmps96
  go_wp2_with fail
  go_ret
  exact ⟨rfl, ka _ _⟩

set_option maxRecDepth 100000 in
set_option maxHeartbeats 4000000 in
theorem typed_0 (f : Bool) (d : Nat) (hd : d ≤ 100) (a : Option Addr) (cap : Nat) (l : List T) (w : World) (hin : (T.mk 0 a cap l).In w w.heap.size) (h : decide (l.length = 0) = f)
    (ih : ∀ (j : Nat) (x : T), l[j]? = some x → ∀ w1 : World, x.In w1 w1.heap.size → Calls Tryz.prog 96 #[.agg #[.int .i64 x.k, .slice x.a x.l.length x.cap], .int .i64 (d : Int)] w1 fun e w' => e = .returned (.bool (x.sh d)) ∧ Kp w1 w') :
    Calls Tryz.prog 96 #[.agg #[.int .i64 0, .slice a l.length cap], .int .i64 ((d : Int) + 1)] w fun e w' => e = .returned (.bool (f && T.shL l d)) ∧ Kp w w' := by
  have hlen := T.lenLe hin
  have hd0 : ((d : Int) + 1 == 0) = false := by rw [beq_eq_false_iff_ne]; omega
  have IH := Lib.hid ih
  have HIN := Lib.hid hin
  clear ih hin
  have ht : ((l.length : Int) == 0) = f := by rw [← h, Bool.eq_iff_iff]; simp
  clear h
  go_enter Tryz.func96, Tryz.ntmps96
  go_wp2_with fail
  go_loopw [5, 6] (fun b i wr => ∃ j : Nat, j ≤ l.length ∧ i = .int .i64 j ∧ b = .bool (f && T.shL (l.take j) d) ∧ Kp (w.alloc (.cells #[.int .i64 0, .slice a l.length cap] 27)) wr) (fun _ i _ => l.length - (intOf i).toNat)
  case atStart => exact ⟨0, Nat.zero_le _, rfl, by simp [T.shL, *], Below.refl _ _⟩
  case round =>
    obtain ⟨j, hj, rfl, rfl, hk⟩ := hrel
    obtain ⟨b0, b1, hz⟩ := box2 hk
    cases hp : (f && T.shL (l.take j) d) with
    | true =>
      by_cases hlt : j < l.length
      · obtain ⟨x, hx⟩ : ∃ x, l[j]? = some x := ⟨l[j], by simp [hlt]⟩
        obtain ⟨p0, off, rfl, hp0, q0, q1, hxin⟩ := T.atPart HIN.out hx
        have hkw := kk (ka _ _) hk
        have r0 := kc hkw q0
        have r1 := kc hkw q1
        have hih := IH.out j x hx wr (hxin.keep hkw.size hkw)
        have hsn : (f && T.shL (l.take (j + 1)) d) = x.sh d := by rw [T.shL_snoc l d j x hx, ← Bool.and_assoc, hp, Bool.true_and]
        generalize x.sh d = bx at hih hsn
        generalize x.k = xk at *
        generalize x.a = xa at *
        generalize x.l.length = xl at *
        generalize x.cap = xc at *
        have HSN := Lib.hid hsn
        have HIH := Lib.hid hih
        have HK := Lib.hid hk
        clear hih hk hxin hx hkw q0 q1 hsn hp
        go_wp2_with fail
        refine HIH.out.mono ?_
        rintro e w2 ⟨rfl, hk2⟩
        have HK2 := Lib.hid (kk HK.out hk2)
        clear hk2
        go_wp2_with fail
        go_roundw
        case rel => exact ⟨j + 1, by omega, by first | go_num | simp, by rw [HSN.out], HK2.out⟩
        case measure => simp [intOf]; omega
      · have hjj : j = l.length := by omega
        subst hjj
        have hall : (f && T.shL l d) = true := by rw [List.take_of_length_le (Nat.le_refl _)] at hp; exact hp
        have HR := Lib.hid hall
        have HK := Lib.hid (kk (ka _ _) hk)
        clear hk hp hall
        go_wp2_with fail
        go_ret
        exact ⟨by rw [HR.out] <;> rfl, HK.out⟩
    | false =>
      have hr : (f && T.shL l d) = false := by
        rw [Bool.and_eq_false_iff] at hp ⊢
        rcases hp with h | h
        · exact .inl h
        · exact .inr (T.shL_stop l d j h)
      have HR := Lib.hid hr
      have HK := Lib.hid (kk (ka _ _) hk)
      clear hk hp hr
      go_wp2_with fail
      go_ret
      exact ⟨by rw [HR.out] <;> rfl, HK.out⟩

set_option maxRecDepth 100000 in
set_option maxHeartbeats 4000000 in
theorem typed_1 (f : Bool) (d : Nat) (hd : d ≤ 100) (a : Option Addr) (cap : Nat) (l : List T) (w : World) (hin : (T.mk 1 a cap l).In w w.heap.size) (h : decide (l.length = 0) = f)
    (ih : ∀ (j : Nat) (x : T), l[j]? = some x → ∀ w1 : World, x.In w1 w1.heap.size → Calls Tryz.prog 96 #[.agg #[.int .i64 x.k, .slice x.a x.l.length x.cap], .int .i64 (d : Int)] w1 fun e w' => e = .returned (.bool (x.sh d)) ∧ Kp w1 w') :
    Calls Tryz.prog 96 #[.agg #[.int .i64 1, .slice a l.length cap], .int .i64 ((d : Int) + 1)] w fun e w' => e = .returned (.bool (f && T.shL l d)) ∧ Kp w w' := by
  have hlen := T.lenLe hin
  have hd0 : ((d : Int) + 1 == 0) = false := by rw [beq_eq_false_iff_ne]; omega
  have IH := Lib.hid ih
  have HIN := Lib.hid hin
  clear ih hin
  have ht : ((l.length : Int) == 0) = f := by rw [← h, Bool.eq_iff_iff]; simp
  clear h
  go_enter Tryz.func96, Tryz.ntmps96
  go_wp2_with fail
  go_loopw [5, 6] (fun b i wr => ∃ j : Nat, j ≤ l.length ∧ i = .int .i64 j ∧ b = .bool (f && T.shL (l.take j) d) ∧ Kp (w.alloc (.cells #[.int .i64 1, .slice a l.length cap] 27)) wr) (fun _ i _ => l.length - (intOf i).toNat)
  case atStart => exact ⟨0, Nat.zero_le _, rfl, by simp [T.shL, *], Below.refl _ _⟩
  case round =>
    obtain ⟨j, hj, rfl, rfl, hk⟩ := hrel
    obtain ⟨b0, b1, hz⟩ := box2 hk
    cases hp : (f && T.shL (l.take j) d) with
    | true =>
      by_cases hlt : j < l.length
      · obtain ⟨x, hx⟩ : ∃ x, l[j]? = some x := ⟨l[j], by simp [hlt]⟩
        obtain ⟨p0, off, rfl, hp0, q0, q1, hxin⟩ := T.atPart HIN.out hx
        have hkw := kk (ka _ _) hk
        have r0 := kc hkw q0
        have r1 := kc hkw q1
        have hih := IH.out j x hx wr (hxin.keep hkw.size hkw)
        have hsn : (f && T.shL (l.take (j + 1)) d) = x.sh d := by rw [T.shL_snoc l d j x hx, ← Bool.and_assoc, hp, Bool.true_and]
        generalize x.sh d = bx at hih hsn
        generalize x.k = xk at *
        generalize x.a = xa at *
        generalize x.l.length = xl at *
        generalize x.cap = xc at *
        have HSN := Lib.hid hsn
        have HIH := Lib.hid hih
        have HK := Lib.hid hk
        clear hih hk hxin hx hkw q0 q1 hsn hp
        go_wp2_with fail
        refine HIH.out.mono ?_
        rintro e w2 ⟨rfl, hk2⟩
        have HK2 := Lib.hid (kk HK.out hk2)
        clear hk2
        go_wp2_with fail
        go_roundw
        case rel => exact ⟨j + 1, by omega, by first | go_num | simp, by rw [HSN.out], HK2.out⟩
        case measure => simp [intOf]; omega
      · have hjj : j = l.length := by omega
        subst hjj
        have hall : (f && T.shL l d) = true := by rw [List.take_of_length_le (Nat.le_refl _)] at hp; exact hp
        have HR := Lib.hid hall
        have HK := Lib.hid (kk (ka _ _) hk)
        clear hk hp hall
        go_wp2_with fail
        go_ret
        exact ⟨by rw [HR.out] <;> rfl, HK.out⟩
    | false =>
      have hr : (f && T.shL l d) = false := by
        rw [Bool.and_eq_false_iff] at hp ⊢
        rcases hp with h | h
        · exact .inl h
        · exact .inr (T.shL_stop l d j h)
      have HR := Lib.hid hr
      have HK := Lib.hid (kk (ka _ _) hk)
      clear hk hp hr
      go_wp2_with fail
      go_ret
      exact ⟨by rw [HR.out] <;> rfl, HK.out⟩

set_option maxRecDepth 100000 in
set_option maxHeartbeats 4000000 in
theorem typed_2 (f : Bool) (d : Nat) (hd : d ≤ 100) (a : Option Addr) (cap : Nat) (l : List T) (w : World) (hin : (T.mk 2 a cap l).In w w.heap.size) (h : decide (l.length ≤ 8) = f)
    (ih : ∀ (j : Nat) (x : T), l[j]? = some x → ∀ w1 : World, x.In w1 w1.heap.size → Calls Tryz.prog 96 #[.agg #[.int .i64 x.k, .slice x.a x.l.length x.cap], .int .i64 (d : Int)] w1 fun e w' => e = .returned (.bool (x.sh d)) ∧ Kp w1 w') :
    Calls Tryz.prog 96 #[.agg #[.int .i64 2, .slice a l.length cap], .int .i64 ((d : Int) + 1)] w fun e w' => e = .returned (.bool (f && T.shL l d)) ∧ Kp w w' := by
  have hlen := T.lenLe hin
  have hd0 : ((d : Int) + 1 == 0) = false := by rw [beq_eq_false_iff_ne]; omega
  have IH := Lib.hid ih
  have HIN := Lib.hid hin
  clear ih hin
  have ht : decide ((l.length : Int) ≤ 8) = f := by rw [← h, decide_eq_decide]; omega
  clear h
  go_enter Tryz.func96, Tryz.ntmps96
  go_wp2_with fail
  go_loopw [5, 6] (fun b i wr => ∃ j : Nat, j ≤ l.length ∧ i = .int .i64 j ∧ b = .bool (f && T.shL (l.take j) d) ∧ Kp (w.alloc (.cells #[.int .i64 2, .slice a l.length cap] 27)) wr) (fun _ i _ => l.length - (intOf i).toNat)
  case atStart => exact ⟨0, Nat.zero_le _, rfl, by simp [T.shL, *], Below.refl _ _⟩
  case round =>
    obtain ⟨j, hj, rfl, rfl, hk⟩ := hrel
    obtain ⟨b0, b1, hz⟩ := box2 hk
    cases hp : (f && T.shL (l.take j) d) with
    | true =>
      by_cases hlt : j < l.length
      · obtain ⟨x, hx⟩ : ∃ x, l[j]? = some x := ⟨l[j], by simp [hlt]⟩
        obtain ⟨p0, off, rfl, hp0, q0, q1, hxin⟩ := T.atPart HIN.out hx
        have hkw := kk (ka _ _) hk
        have r0 := kc hkw q0
        have r1 := kc hkw q1
        have hih := IH.out j x hx wr (hxin.keep hkw.size hkw)
        have hsn : (f && T.shL (l.take (j + 1)) d) = x.sh d := by rw [T.shL_snoc l d j x hx, ← Bool.and_assoc, hp, Bool.true_and]
        generalize x.sh d = bx at hih hsn
        generalize x.k = xk at *
        generalize x.a = xa at *
        generalize x.l.length = xl at *
        generalize x.cap = xc at *
        have HSN := Lib.hid hsn
        have HIH := Lib.hid hih
        have HK := Lib.hid hk
        clear hih hk hxin hx hkw q0 q1 hsn hp
        go_wp2_with fail
        refine HIH.out.mono ?_
        rintro e w2 ⟨rfl, hk2⟩
        have HK2 := Lib.hid (kk HK.out hk2)
        clear hk2
        go_wp2_with fail
        go_roundw
        case rel => exact ⟨j + 1, by omega, by first | go_num | simp, by rw [HSN.out], HK2.out⟩
        case measure => simp [intOf]; omega
      · have hjj : j = l.length := by omega
        subst hjj
        have hall : (f && T.shL l d) = true := by rw [List.take_of_length_le (Nat.le_refl _)] at hp; exact hp
        have HR := Lib.hid hall
        have HK := Lib.hid (kk (ka _ _) hk)
        clear hk hp hall
        go_wp2_with fail
        go_ret
        exact ⟨by rw [HR.out] <;> rfl, HK.out⟩
    | false =>
      have hr : (f && T.shL l d) = false := by
        rw [Bool.and_eq_false_iff] at hp ⊢
        rcases hp with h | h
        · exact .inl h
        · exact .inr (T.shL_stop l d j h)
      have HR := Lib.hid hr
      have HK := Lib.hid (kk (ka _ _) hk)
      clear hk hp hr
      go_wp2_with fail
      go_ret
      exact ⟨by rw [HR.out] <;> rfl, HK.out⟩

set_option maxRecDepth 100000 in
set_option maxHeartbeats 4000000 in
theorem typed_3 (f : Bool) (d : Nat) (hd : d ≤ 100) (a : Option Addr) (cap : Nat) (l : List T) (w : World) (hin : (T.mk 3 a cap l).In w w.heap.size) (h : decide (0 < l.length ∧ l.length ≤ 8) = f)
    (ih : ∀ (j : Nat) (x : T), l[j]? = some x → ∀ w1 : World, x.In w1 w1.heap.size → Calls Tryz.prog 96 #[.agg #[.int .i64 x.k, .slice x.a x.l.length x.cap], .int .i64 (d : Int)] w1 fun e w' => e = .returned (.bool (x.sh d)) ∧ Kp w1 w') :
    Calls Tryz.prog 96 #[.agg #[.int .i64 3, .slice a l.length cap], .int .i64 ((d : Int) + 1)] w fun e w' => e = .returned (.bool (f && T.shL l d)) ∧ Kp w w' := by
  have hlen := T.lenLe hin
  have hd0 : ((d : Int) + 1 == 0) = false := by rw [beq_eq_false_iff_ne]; omega
  have IH := Lib.hid ih
  have HIN := Lib.hid hin
  clear ih hin
  have L := fun w => lies_any (l.length : Int) 1 8 w
  rw [show (decide ((1 : Int) ≤ l.length) && decide ((l.length : Int) ≤ 8)) = f from by rw [← h, Bool.eq_iff_iff]; simp; omega] at L
  have HL := Lib.hid L
  clear L
  clear h
  go_enter Tryz.func96, Tryz.ntmps96
  go_wp2_with (go_at_call 42; refine (HL.out _).mono ?_; rintro e w1 ⟨rfl, rfl⟩)
  go_loopw [5, 6] (fun b i wr => ∃ j : Nat, j ≤ l.length ∧ i = .int .i64 j ∧ b = .bool (f && T.shL (l.take j) d) ∧ Kp (w.alloc (.cells #[.int .i64 3, .slice a l.length cap] 27)) wr) (fun _ i _ => l.length - (intOf i).toNat)
  case atStart => exact ⟨0, Nat.zero_le _, rfl, by simp [T.shL, *], Below.refl _ _⟩
  case round =>
    obtain ⟨j, hj, rfl, rfl, hk⟩ := hrel
    obtain ⟨b0, b1, hz⟩ := box2 hk
    cases hp : (f && T.shL (l.take j) d) with
    | true =>
      by_cases hlt : j < l.length
      · obtain ⟨x, hx⟩ : ∃ x, l[j]? = some x := ⟨l[j], by simp [hlt]⟩
        obtain ⟨p0, off, rfl, hp0, q0, q1, hxin⟩ := T.atPart HIN.out hx
        have hkw := kk (ka _ _) hk
        have r0 := kc hkw q0
        have r1 := kc hkw q1
        have hih := IH.out j x hx wr (hxin.keep hkw.size hkw)
        have hsn : (f && T.shL (l.take (j + 1)) d) = x.sh d := by rw [T.shL_snoc l d j x hx, ← Bool.and_assoc, hp, Bool.true_and]
        generalize x.sh d = bx at hih hsn
        generalize x.k = xk at *
        generalize x.a = xa at *
        generalize x.l.length = xl at *
        generalize x.cap = xc at *
        have HSN := Lib.hid hsn
        have HIH := Lib.hid hih
        have HK := Lib.hid hk
        clear hih hk hxin hx hkw q0 q1 hsn hp
        go_wp2_with fail
        refine HIH.out.mono ?_
        rintro e w2 ⟨rfl, hk2⟩
        have HK2 := Lib.hid (kk HK.out hk2)
        clear hk2
        go_wp2_with fail
        go_roundw
        case rel => exact ⟨j + 1, by omega, by first | go_num | simp, by rw [HSN.out], HK2.out⟩
        case measure => simp [intOf]; omega
      · have hjj : j = l.length := by omega
        subst hjj
        have hall : (f && T.shL l d) = true := by rw [List.take_of_length_le (Nat.le_refl _)] at hp; exact hp
        have HR := Lib.hid hall
        have HK := Lib.hid (kk (ka _ _) hk)
        clear hk hp hall
        go_wp2_with fail
        go_ret
        exact ⟨by rw [HR.out] <;> rfl, HK.out⟩
    | false =>
      have hr : (f && T.shL l d) = false := by
        rw [Bool.and_eq_false_iff] at hp ⊢
        rcases hp with h | h
        · exact .inl h
        · exact .inr (T.shL_stop l d j h)
      have HR := Lib.hid hr
      have HK := Lib.hid (kk (ka _ _) hk)
      clear hk hp hr
      go_wp2_with fail
      go_ret
      exact ⟨by rw [HR.out] <;> rfl, HK.out⟩

set_option maxRecDepth 100000 in
set_option maxHeartbeats 4000000 in
theorem typed_k (k : Int) (f : Bool) (d : Nat) (hd : d ≤ 100) (a : Option Addr) (cap : Nat) (l : List T) (w : World) (hin : (T.mk k a cap l).In w w.heap.size) (h0 : k ≠ 0) (h1 : k ≠ 1) (h2 : k ≠ 2) (h3 : k ≠ 3) (hf : f = false)
    (ih : ∀ (j : Nat) (x : T), l[j]? = some x → ∀ w1 : World, x.In w1 w1.heap.size → Calls Tryz.prog 96 #[.agg #[.int .i64 x.k, .slice x.a x.l.length x.cap], .int .i64 (d : Int)] w1 fun e w' => e = .returned (.bool (x.sh d)) ∧ Kp w1 w') :
    Calls Tryz.prog 96 #[.agg #[.int .i64 k, .slice a l.length cap], .int .i64 ((d : Int) + 1)] w fun e w' => e = .returned (.bool (f && T.shL l d)) ∧ Kp w w' := by
  have hlen := T.lenLe hin
  have hd0 : ((d : Int) + 1 == 0) = false := by rw [beq_eq_false_iff_ne]; omega
  have IH := Lib.hid ih
  have HIN := Lib.hid hin
  clear ih hin
  have g0 : (k == 0) = false := by rw [beq_eq_false_iff_ne]; exact h0
  have g1 : (k == 1) = false := by rw [beq_eq_false_iff_ne]; exact h1
  have g2 : (k == 2) = false := by rw [beq_eq_false_iff_ne]; exact h2
  have g3 : (k == 3) = false := by rw [beq_eq_false_iff_ne]; exact h3
  subst hf
  clear h0 h1 h2 h3
  go_enter Tryz.func96, Tryz.ntmps96
  go_wp2_with fail
  go_loopw [5, 6] (fun b i wr => ∃ j : Nat, j ≤ l.length ∧ i = .int .i64 j ∧ b = .bool (false && T.shL (l.take j) d) ∧ Kp (w.alloc (.cells #[.int .i64 k, .slice a l.length cap] 27)) wr) (fun _ i _ => l.length - (intOf i).toNat)
  case atStart => exact ⟨0, Nat.zero_le _, rfl, by simp [T.shL, *], Below.refl _ _⟩
  case round =>
    obtain ⟨j, hj, rfl, rfl, hk⟩ := hrel
    obtain ⟨b0, b1, hz⟩ := box2 hk
    cases hp : (false && T.shL (l.take j) d) with
    | true =>
      by_cases hlt : j < l.length
      · obtain ⟨x, hx⟩ : ∃ x, l[j]? = some x := ⟨l[j], by simp [hlt]⟩
        obtain ⟨p0, off, rfl, hp0, q0, q1, hxin⟩ := T.atPart HIN.out hx
        have hkw := kk (ka _ _) hk
        have r0 := kc hkw q0
        have r1 := kc hkw q1
        have hih := IH.out j x hx wr (hxin.keep hkw.size hkw)
        have hsn : (false && T.shL (l.take (j + 1)) d) = x.sh d := by rw [T.shL_snoc l d j x hx, ← Bool.and_assoc, hp, Bool.true_and]
        generalize x.sh d = bx at hih hsn
        generalize x.k = xk at *
        generalize x.a = xa at *
        generalize x.l.length = xl at *
        generalize x.cap = xc at *
        have HSN := Lib.hid hsn
        have HIH := Lib.hid hih
        have HK := Lib.hid hk
        clear hih hk hxin hx hkw q0 q1 hsn hp
        go_wp2_with fail
        refine HIH.out.mono ?_
        rintro e w2 ⟨rfl, hk2⟩
        have HK2 := Lib.hid (kk HK.out hk2)
        clear hk2
        go_wp2_with fail
        go_roundw
        case rel => exact ⟨j + 1, by omega, by first | go_num | simp, by rw [HSN.out], HK2.out⟩
        case measure => simp [intOf]; omega
      · have hjj : j = l.length := by omega
        subst hjj
        have hall : (false && T.shL l d) = true := by rw [List.take_of_length_le (Nat.le_refl _)] at hp; exact hp
        have HR := Lib.hid hall
        have HK := Lib.hid (kk (ka _ _) hk)
        clear hk hp hall
        go_wp2_with fail
        go_ret
        exact ⟨by rw [HR.out] <;> rfl, HK.out⟩
    | false =>
      have hr : (false && T.shL l d) = false := by
        rw [Bool.and_eq_false_iff] at hp ⊢
        rcases hp with h | h
        · exact .inl h
        · exact .inr (T.shL_stop l d j h)
      have HR := Lib.hid hr
      have HK := Lib.hid (kk (ka _ _) hk)
      clear hk hp hr
      go_wp2_with fail
      go_ret
      exact ⟨by rw [HR.out] <;> rfl, HK.out⟩

theorem typed_ref : ∀ (N : Nat) (k : Int) (a : Option Addr) (cap : Nat) (l : List T) (d : Nat) (w : World), (T.mk k a cap l).rank ≤ N → d ≤ 100 → (T.mk k a cap l).In w w.heap.size →
    Calls Tryz.prog 96 #[.agg #[.int .i64 k, .slice a l.length cap], .int .i64 (d : Int)] w fun e w' => e = .returned (.bool ((T.mk k a cap l).sh d)) ∧ Kp w w' := by
  intro N
  induction N with
  | zero => intro k a cap l d w h; have := T.rank_pos (.mk k a cap l); omega
  | succ N ih =>
    intro k a cap l d w hN hd hin
    cases d with
    | zero => exact typed_zero k a cap l.length w
    | succ d =>
      have hih : ∀ (j : Nat) (x : T), l[j]? = some x → ∀ w1 : World, x.In w1 w1.heap.size → Calls Tryz.prog 96 #[.agg #[.int .i64 x.k, .slice x.a x.l.length x.cap], .int .i64 (d : Int)] w1 fun e w' => e = .returned (.bool (x.sh d)) ∧ Kp w1 w' := fun j x hx w1 hw => by
        have hr := T.rank_part (v := .mk k a cap l) (j := j) (x := x) hx
        cases x with
        | mk k' a' cap' l' => exact ih k' a' cap' l' d w1 (by omega) (by omega) hw
      have hsh : (T.mk k a cap l).sh (d + 1) = (fitsT k l.length && T.shL l d) := by simp [T.sh]
      rw [hsh]
      rw [show ((d + 1 : Nat) : Int) = (d : Int) + 1 from by omega]
      by_cases h0 : k = 0
      · subst h0; exact typed_0 _ d (by omega) a cap l w hin (by simp [fitsT]) hih
      by_cases h1 : k = 1
      · subst h1; exact typed_1 _ d (by omega) a cap l w hin (by simp [fitsT]) hih
      by_cases h2 : k = 2
      · subst h2; exact typed_2 _ d (by omega) a cap l w hin (by simp [fitsT]) hih
      by_cases h3 : k = 3
      · subst h3; exact typed_3 _ d (by omega) a cap l w hin (by simp [fitsT]) hih
      · have hf : fitsT k l.length = false := by simp [fitsT, h0, h1, h2, h3]
        have := typed_k k false d (by omega) a cap l w hin h0 h1 h2 h3 rfl hih
        rwa [hf]

theorem fitsT_len {k : Int} {m : Nat} (h : fitsT k m = true) : m ≤ 8 := by
  unfold fitsT at h
  repeat' split at h
  all_goals simp at h
  all_goals omega

mutual
theorem T.sh_rank : ∀ (v : T) (d : Nat), v.sh d = true → v.rank ≤ 9 ^ d
  | .mk k a cap l, d, h => by
    cases d with
    | zero => simp [T.sh] at h
    | succ d =>
      simp [T.sh] at h
      have h1 := fitsT_len h.1
      have h2 := T.shL_rank l d h.2
      have h3 : l.length * 9 ^ d ≤ 8 * 9 ^ d := Nat.mul_le_mul_right _ h1
      have h4 : 1 ≤ 9 ^ d := Nat.one_le_pow _ _ (by decide)
      have h5 : 9 ^ (d + 1) = 9 * 9 ^ d := by rw [Nat.pow_succ, Nat.mul_comm]
      simp [T.rank]
      omega
theorem T.shL_rank : ∀ (l : List T) (d : Nat), T.shL l d = true → T.rank.ranks l ≤ l.length * 9 ^ d
  | [], d, _ => by simp [T.rank.ranks]
  | x :: xs, d, h => by
    simp [T.shL] at h
    have h1 := T.sh_rank x d h.1
    have h2 := T.shL_rank xs d h.2
    simp [T.rank.ranks, Nat.add_mul]
    omega
end

mutual
theorem T.wk_sh : ∀ (v : T) (deep c : Nat), 1 ≤ deep → c ≤ 40 → ((v.wk deep c).1 = true ↔ v.sh (7 - deep) = true ∧ c + v.rank ≤ 40) ∧ ((v.wk deep c).1 = true → (v.wk deep c).2 = c + v.rank)
  | .mk k a cap l, deep, c, hd, hc => by
    have hrk : (T.mk k a cap l).rank = 1 + T.rank.ranks l := rfl
    by_cases h : 40 < c + 1 ∨ 6 < deep ∨ fitsT k l.length = false
    · simp only [T.wk, if_pos h]
      refine ⟨⟨(fun h => by cases h), ?_⟩, (fun h => by cases h)⟩
      rintro ⟨h1, h2⟩
      simp only [T.sh] at h1
      split at h1
      · cases h1
      · rcases h with h | h | h
        · omega
        · omega
        · rw [h] at h1; cases h1
    · have ih := T.wkL_sh l (deep + 1) (c + 1) (by omega) (by omega)
      have hf : fitsT k l.length = true := by
        cases hf : fitsT k l.length with
        | true => rfl
        | false => exact absurd (.inr (.inr hf)) h
      have hsh : (T.mk k a cap l).sh (7 - deep) = T.shL l (7 - (deep + 1)) := by
        simp only [T.sh, hf, Bool.true_and]
        rw [if_neg (by omega), show 7 - deep - 1 = 7 - (deep + 1) from by omega]
      simp only [T.wk, if_neg h, hsh, hrk]
      refine ⟨ih.1.trans ⟨fun h => ⟨h.1, by omega⟩, fun h => ⟨h.1, by omega⟩⟩, fun h => by rw [ih.2 h]; omega⟩
theorem T.wkL_sh : ∀ (l : List T) (deep c : Nat), 1 ≤ deep → c ≤ 40 → ((T.wkL l deep c).1 = true ↔ T.shL l (7 - deep) = true ∧ c + T.rank.ranks l ≤ 40) ∧ ((T.wkL l deep c).1 = true → (T.wkL l deep c).2 = c + T.rank.ranks l)
  | [], deep, c, hd, hc => by simp [T.wkL, T.shL, T.rank.ranks]; omega
  | x :: xs, deep, c, hd, hc => by
    have h1 := T.wk_sh x deep c hd hc
    simp only [T.wkL, T.shL, T.rank.ranks, Bool.and_eq_true]
    cases hx : x.wk deep c with
    | mk b c' =>
      rw [hx] at h1
      cases b with
      | true =>
        have hc' : c' = c + x.rank := h1.2 rfl
        have h3 := h1.1.1 rfl
        subst hc'
        have h2 := T.wkL_sh xs deep (c + x.rank) hd h3.2
        refine ⟨h2.1.trans ⟨fun h => ⟨⟨h3.1, h.1⟩, by omega⟩, fun h => ⟨h.1.2, by omega⟩⟩, fun h => by rw [h2.2 h]; omega⟩
      | false =>
        refine ⟨⟨(fun h => by cases h), (fun h => ?_)⟩, (fun h => by cases h)⟩
        exact absurd (h1.1.2 ⟨h.1.1, by omega⟩) (by simp)
end

/-- ValidType: what the specification says of a type. -/
def T.valid (v : T) : Bool := v.sh 6 && decide (v.rank ≤ 40)

theorem badT_valid (v : T) : bad v.cnt = if v.valid then 0 else 1 := by
  have h := T.wk_sh v 1 0 (by omega) (by omega)
  have hp := T.rank_pos v
  unfold T.valid T.cnt bad
  cases hw : (v.wk 1 0).1 with
  | true =>
    have h1 := h.1.1 hw
    have h2 := h.2 hw
    have h3 : v.rank ≤ 40 := by omega
    simp [h2, h1.1, h3]
    omega
  | false =>
    have h1 : ¬ (v.sh 6 = true ∧ v.rank ≤ 40) := fun hh => by
      have := h.1.2 ⟨hh.1, by omega⟩
      rw [hw] at this; cases this
    have h2 : (v.sh 6 && decide (v.rank ≤ 40)) = false := by
      cases hv : (v.sh 6 && decide (v.rank ≤ 40)) with
      | false => rfl
      | true => exact absurd (by simpa using hv) h1
    simp [h2]

set_option maxRecDepth 100000 in
set_option maxHeartbeats 4000000 in
theorem validT_ref (k : Int) (a : Option Addr) (cap : Nat) (l : List T) (w : World) (hin : (T.mk k a cap l).In w w.heap.size) :
    Calls Tryz.prog 55 #[.agg #[.int .i64 k, .slice a l.length cap]] w fun e w' => e = .returned (.bool (T.mk k a cap l).valid) ∧ Kp w w' := by
  have C := fun (w1 : World) (h : (T.mk k a cap l).In w1 w1.heap.size) => typed_ref _ k a cap l 6 w1 (Nat.le_refl _) (by omega) h
  have HIN := Lib.hid hin
  cases hs : (T.mk k a cap l).sh 6 with
  | false =>
    have hv : (T.mk k a cap l).valid = false := by simp [T.valid, hs]
    rw [hv]
    rw [hs] at C
    have HC := Lib.hid C
    clear C hin hs hv
    go_enter Tryz.func55, Tryz.ntmps55
    go_wp2_with fail
    refine (HC.out _ (HIN.out.keep (by simp) (ka _ _))).mono ?_
    rintro e w1 ⟨rfl, hk⟩
    have HK := Lib.hid (kk (ka _ _) hk)
    clear hk
    go_wp2_with fail
    go_ret
    exact ⟨rfl, HK.out⟩
  | true =>
    have hr := T.sh_rank _ _ hs
    have hv : (T.mk k a cap l).valid = decide ((T.mk k a cap l).rank ≤ 40) := by simp [T.valid, hs]
    rw [hv]
    rw [hs] at C
    have D := fun (w1 : World) (h : (T.mk k a cap l).In w1 w1.heap.size) => types_ref _ k a cap l w1 (Nat.le_refl _) (Nat.le_trans hr (by decide)) h
    have HC := Lib.hid C
    have HD := Lib.hid D
    clear C D hin hs hv hr
    generalize (T.mk k a cap l).rank = rk at *
    go_enter Tryz.func55, Tryz.ntmps55
    go_wp2_with fail
    refine (HC.out _ (HIN.out.keep (by simp) (ka _ _))).mono ?_
    rintro e w1 ⟨rfl, hk⟩
    obtain ⟨b0, b1, hz⟩ := box2 hk
    have HK := Lib.hid (kk (ka _ _) hk)
    clear hk
    go_wp2_with fail
    refine (HD.out _ (HIN.out.keep HK.out.size HK.out)).mono ?_
    rintro e w2 ⟨rfl, hk2⟩
    have HK2 := Lib.hid (kk HK.out hk2)
    clear hk2
    go_wp2_with fail
    go_ret
    have hdd : decide ((rk : Int) ≤ 40) = decide (rk ≤ 40) := by rw [decide_eq_decide]; omega
    exact ⟨by show Ending.returned (.bool (decide ((rk : Int) ≤ 40))) = _; rw [hdd], HK2.out⟩

/-- ErrArg, or OK. -/
def argI (b : Bool) : Int := if b then 0 else 1

set_option maxHeartbeats 1000000 in
theorem typeR (k : Int) (a : Option Addr) (cap : Nat) (l : List T) (w : World) (hin : (T.mk k a cap l).In w w.heap.size) :
    Calls Tryz.prog 18 #[.agg #[.int .i64 k, .slice a l.length cap]] w fun e w' => e = .returned (.int .i64 (argI (T.mk k a cap l).valid)) ∧ Kp w w' := by
  have C := fun (w1 : World) (h : Kp w w1) => validT_ref k a cap l w1 (hin.keep h.size h)
  generalize (T.mk k a cap l).valid = v at C ⊢
  have HC := Lib.hid C
  clear C hin
  cases v
  all_goals
    go_enter Tryz.func18, Tryz.ntmps18
    go_wp2_with fail
    refine (HC.out _ (ka _ _)).mono ?_
    rintro e w1 ⟨rfl, hk⟩
    have HK := Lib.hid (kk (ka _ _) hk)
    clear hk
    go_wp2_with fail
    go_ret
    exact ⟨rfl, HK.out⟩

set_option maxHeartbeats 1000000 in
theorem checkR (k n : Int) (s : ByteArray) (a : Option Addr) (cap : Nat) (l : List V) (w : World) (hin : (V.mk k n s a cap l).In w w.heap.size) :
    Calls Tryz.prog 20 #[.agg #[.int .i64 k, .int .i64 n, .string s, .slice a l.length cap]] w fun e w' => e = .returned (.int .i64 (argI (V.mk k n s a cap l).valid)) ∧ Kp w w' := by
  have C := fun (w1 : World) (h : Kp w w1) => valid_ref k n s a cap l w1 (hin.keep h.size h)
  generalize (V.mk k n s a cap l).valid = v at C ⊢
  have HC := Lib.hid C
  clear C hin
  cases v
  all_goals
    go_enter Tryz.func20, Tryz.ntmps20
    go_wp2_with fail
    refine (HC.out _ (ka _ _)).mono ?_
    rintro e w1 ⟨rfl, hk⟩
    have HK := Lib.hid (kk (ka _ _) hk)
    clear hk
    go_wp2_with fail
    go_ret
    exact ⟨rfl, HK.out⟩

/-- What Size answers: how many values, and the error. -/
def sizeI (v : V) : Int := if v.valid then v.rank else 0

set_option maxHeartbeats 2000000 in
theorem sizeR (k n : Int) (s : ByteArray) (a : Option Addr) (cap : Nat) (l : List V) (w : World) (hin : (V.mk k n s a cap l).In w w.heap.size) :
    Calls Tryz.prog 14 #[.agg #[.int .i64 k, .int .i64 n, .string s, .slice a l.length cap]] w fun e w' => e = .returned (.tuple #[.int .i64 (sizeI (V.mk k n s a cap l)), .int .i64 (argI (V.mk k n s a cap l).valid)]) ∧ Kp w w' := by
  have C := fun (w1 : World) (h : Kp w w1) => valid_ref k n s a cap l w1 (hin.keep h.size h)
  have D := fun (w1 : World) (h : Kp w w1) => fun hv : (V.mk k n s a cap l).valid = true => count_ref _ k n s a cap l w1 (Nat.le_refl _) (by simp [V.valid] at hv; omega) (hin.keep h.size h)
  unfold sizeI
  generalize (V.mk k n s a cap l).valid = v at C D ⊢
  cases v with
  | false =>
    have HC := Lib.hid C
    clear C D hin
    go_enter Tryz.func14, Tryz.ntmps14
    go_wp2_with fail
    refine (HC.out _ (ka _ _)).mono ?_
    rintro e w1 ⟨rfl, hk⟩
    have HK := Lib.hid (kk (ka _ _) hk)
    clear hk
    go_wp2_with fail
    go_ret2
    exact ⟨rfl, HK.out⟩
  | true =>
    have D2 := fun (w1 : World) (h : Kp w w1) => D w1 h rfl
    generalize (V.mk k n s a cap l).rank = rk at D2 ⊢
    have HC := Lib.hid C
    have HD := Lib.hid D2
    clear C D D2 hin
    go_enter Tryz.func14, Tryz.ntmps14
    go_wp2_with fail
    refine (HC.out _ (ka _ _)).mono ?_
    rintro e w1 ⟨rfl, hk⟩
    obtain ⟨b0, b1, b2, b3, hz⟩ := box4 hk
    have HK := Lib.hid (kk (ka _ _) hk)
    clear hk
    go_wp2_with fail
    refine (HD.out _ HK.out).mono ?_
    rintro e w2 ⟨rfl, hk2⟩
    have HK2 := Lib.hid (kk HK.out hk2)
    clear hk2
    go_wp2_with fail
    go_ret2
    exact ⟨rfl, HK2.out⟩

theorem cnt_size (v : V) : (v.cnt : Int) = sizeI v := by
  have h := V.wk_sh v 1 0 (by omega) (by omega)
  unfold sizeI V.valid V.cnt
  cases hw : (v.wk 1 0).1 with
  | true =>
    have h1 := h.1.1 hw
    have h2 := h.2 hw
    have h3 : v.rank ≤ 60 := by omega
    simp [h2, h1.1, h3]
  | false =>
    have h1 : ¬ (v.sh 6 = true ∧ v.rank ≤ 60) := fun hh => by
      have := h.1.2 ⟨hh.1, by omega⟩
      rw [hw] at this; cases this
    have h2 : (v.sh 6 && decide (v.rank ≤ 60)) = false := by
      cases hv : (v.sh 6 && decide (v.rank ≤ 60)) with
      | false => rfl
      | true => exact absurd (by simpa using hv) h1
    simp [h2]
theorem bad_arg (v : V) : bad v.cnt = argI v.valid := by rw [bad_valid]; rfl
theorem badT_arg (v : T) : bad v.cnt = argI v.valid := by rw [badT_valid]; rfl

end Go.Proofs.YtbiljalhabnhlaaGreatDoor

/-
  THE SPECIFICATION's fits, Is.
-/
namespace Go.Proofs.YtbiljalhabnhlaaGreatDoor
open Go.RowKit

theorem kpDN {w : World} {n : Nat} : Kp w (w.drewN n) := ⟨rfl, rfl, rfl, Nat.le_refl _, fun _ _ => rfl⟩

/-- A value and a type in their boxes, behind a draw. -/
theorem boxesVT (w : World) (c0 c1 c2 c3 d0 d1 : Value) (t u : Nat) :
    (World.drew ((w.alloc (.cells #[c0, c1, c2, c3] t)).alloc (.cells #[d0, d1] u))).cell? ⟨w.heap.size, 0, none⟩ = some c0 ∧
    (World.drew ((w.alloc (.cells #[c0, c1, c2, c3] t)).alloc (.cells #[d0, d1] u))).cell? ⟨w.heap.size, 1, none⟩ = some c1 ∧
    (World.drew ((w.alloc (.cells #[c0, c1, c2, c3] t)).alloc (.cells #[d0, d1] u))).cell? ⟨w.heap.size, 2, none⟩ = some c2 ∧
    (World.drew ((w.alloc (.cells #[c0, c1, c2, c3] t)).alloc (.cells #[d0, d1] u))).cell? ⟨w.heap.size, 3, none⟩ = some c3 ∧
    (World.drew ((w.alloc (.cells #[c0, c1, c2, c3] t)).alloc (.cells #[d0, d1] u))).cell? ⟨w.heap.size + 1, 0, none⟩ = some d0 ∧
    (World.drew ((w.alloc (.cells #[c0, c1, c2, c3] t)).alloc (.cells #[d0, d1] u))).cell? ⟨w.heap.size + 1, 1, none⟩ = some d1 ∧
    Kp w (World.drew ((w.alloc (.cells #[c0, c1, c2, c3] t)).alloc (.cells #[d0, d1] u))) := by
  have hk : Kp ((w.alloc (.cells #[c0, c1, c2, c3] t)).alloc (.cells #[d0, d1] u)) (World.drew ((w.alloc (.cells #[c0, c1, c2, c3] t)).alloc (.cells #[d0, d1] u))) := kpD
  obtain ⟨h0, h1⟩ := twoBox hk
  exact ⟨cellOf h0 rfl, cellOf h0 rfl, cellOf h0 rfl, cellOf h0 rfl, cellOf h1 rfl, cellOf h1 rfl, kk (kk (ka _ _) (ka _ _)) hk⟩

theorem twoBoxVT {w w1 : World} {c0 c1 c2 c3 d0 d1 : Value} {t u : Nat} (hk : Kp ((w.alloc (.cells #[c0, c1, c2, c3] t)).alloc (.cells #[d0, d1] u)) w1) :
    w1.cell? ⟨w.heap.size, 0, none⟩ = some c0 ∧ w1.cell? ⟨w.heap.size, 1, none⟩ = some c1 ∧ w1.cell? ⟨w.heap.size, 2, none⟩ = some c2 ∧ w1.cell? ⟨w.heap.size, 3, none⟩ = some c3 ∧ w1.cell? ⟨w.heap.size + 1, 0, none⟩ = some d0 ∧ w1.cell? ⟨w.heap.size + 1, 1, none⟩ = some d1 := by
  obtain ⟨h0, h1⟩ := twoBox hk
  exact ⟨cellOf h0 rfl, cellOf h0 rfl, cellOf h0 rfl, cellOf h0 rfl, cellOf h1 rfl, cellOf h1 rfl⟩

set_option maxRecDepth 100000 in
set_option maxHeartbeats 8000000 in
theorem fits_sum_k (k n : Int) (s : ByteArray) (a : Option Addr) (len cap : Nat) (ta : Option Addr) (tlen tcap : Nat) (w : World) (h : k ≠ 3) :
    Calls Tryz.prog 62 #[.agg #[.int .i64 k, .int .i64 n, .string s, .slice a len cap], .agg #[.int .i64 3, .slice ta tlen tcap]] w fun e w' => e = .returned (.bool false) ∧ Kp w w' := by
  have g : (k == 3) = false := by rw [beq_eq_false_iff_ne]; exact h
  clear h
  go_enter Tryz.func62, Tryz.ntmps62
  go_wp2_with fail
  go_quiet (fail)
  go_wp2_with fail
  go_ret
  exact ⟨rfl, kk (kk (ka _ _) (ka _ _)) kpDN⟩

set_option maxRecDepth 100000 in
set_option maxHeartbeats 8000000 in
theorem fits_sum_n (n : Int) (s : ByteArray) (a : Option Addr) (len cap : Nat) (ta : Option Addr) (tlen tcap : Nat) (w : World) (h : (tlen : Int) ≤ n) :
    Calls Tryz.prog 62 #[.agg #[.int .i64 3, .int .i64 n, .string s, .slice a len cap], .agg #[.int .i64 3, .slice ta tlen tcap]] w fun e w' => e = .returned (.bool false) ∧ Kp w w' := by
  have g : decide (n < (tlen : Int)) = false := by simp; omega
  clear h
  go_enter Tryz.func62, Tryz.ntmps62
  go_wp2_with fail
  go_quiet (fail)
  go_wp2_with fail
  go_ret
  exact ⟨rfl, kk (kk (ka _ _) (ka _ _)) kpDN⟩

set_option maxRecDepth 100000 in
set_option maxHeartbeats 8000000 in
theorem fits_sum_y (n : Nat) (s : ByteArray) (a : Option Addr) (cap : Nat) (x : V) (ta : Option Addr) (tcap : Nat) (tl : List T) (u : T) (w : World) (hn : n < tl.length) (hu : tl[n]? = some u)
    (hin : (V.mk 3 n s a cap [x]).In w w.heap.size) (hin' : (T.mk 3 ta tcap tl).In w w.heap.size)
    (ih : ∀ w1 : World, x.In w1 w1.heap.size → u.In w1 w1.heap.size → Calls Tryz.prog 62 #[.agg #[.int .i64 x.k, .int .i64 x.n, .string x.s, .slice x.a x.l.length x.cap], .agg #[.int .i64 u.k, .slice u.a u.l.length u.cap]] w1 fun e w' => e = .returned (.bool (x.is u)) ∧ Kp w1 w') :
    Calls Tryz.prog 62 #[.agg #[.int .i64 3, .int .i64 (n : Int), .string s, .slice a 1 cap], .agg #[.int .i64 3, .slice ta tl.length tcap]] w fun e w' => e = .returned (.bool (x.is u)) ∧ Kp w w' := by
  have hlen := T.lenLe hin'
  have g : decide ((n : Int) < (tl.length : Int)) = true := by simp; omega
  have g0 : (0 : Int) ≤ (n : Int) := by omega
  have g1 : (n : Int) < (tl.length : Int) := by omega
  obtain ⟨p0, off, rfl, hp0, q0, q1, q2, q3, hxin⟩ := V.atPart hin (j := 0) (x := x) rfl
  obtain ⟨p1, off1, rfl, hp1, s0, s1, huin⟩ := T.atPart hin' hu
  simp only [Nat.zero_mul, Nat.add_zero] at q0 q1 q2 q3
  generalize x.is u = bx at ih ⊢
  have IH := Lib.hid ih
  clear ih
  go_enter Tryz.func62, Tryz.ntmps62
  go_wp2_with fail
  obtain ⟨c0, c1, c2, c3, d0, d1⟩ := twoBoxVT (w := w) (w1 := (w.alloc (.cells #[.int .i64 3, .int .i64 (n : Int), .string s, .slice (some ⟨p0, off, none⟩) 1 cap] 24)).alloc (.cells #[.int .i64 3, .slice (some ⟨p1, off1, none⟩) tl.length tcap] 27)) (Below.refl _ _)
  have hk : Kp w ((w.alloc (.cells #[.int .i64 3, .int .i64 (n : Int), .string s, .slice (some ⟨p0, off, none⟩) 1 cap] 24)).alloc (.cells #[.int .i64 3, .slice (some ⟨p1, off1, none⟩) tl.length tcap] 27)) := kk (ka _ _) (ka _ _)
  generalize (w.alloc (.cells #[.int .i64 3, .int .i64 (n : Int), .string s, .slice (some ⟨p0, off, none⟩) 1 cap] 24)).alloc (.cells #[.int .i64 3, .slice (some ⟨p1, off1, none⟩) tl.length tcap] 27) = W at *
  have r0 := kc hk q0
  have r1 := kc hk q1
  have r2 := kc hk q2
  have r3 := kc hk q3
  have t0 := kc hk s0
  have t1 := kc hk s1
  have hih := fun (w1 : World) (h : Kp W w1) => IH.out w1 (hxin.keep (kk hk h).size (kk hk h)) (huin.keep (kk hk h).size (kk hk h))
  have HK := Lib.hid hk
  generalize x.k = xk at *
  generalize x.n = xn at *
  generalize x.s = xs at *
  generalize x.a = xa at *
  generalize x.l.length = xl at *
  generalize x.cap = xc at *
  generalize u.k = yk at *
  generalize u.a = ya at *
  generalize u.l.length = yl at *
  generalize u.cap = yc at *
  have HIH := Lib.hid hih
  clear hk hih hin hin' hxin huin hu q0 q1 q2 q3 s0 s1 hp0 hp1 IH c2 d0
  go_region_held3 (fun w' => w'.cell? ⟨w.heap.size, 0, none⟩ = some (.int .i64 3) ∧ w'.cell? ⟨w.heap.size, 1, none⟩ = some (.int .i64 (n : Int)) ∧ w'.cell? ⟨w.heap.size, 3, none⟩ = some (.slice (some ⟨p0, off, none⟩) 1 cap) ∧ w'.cell? ⟨w.heap.size + 1, 1, none⟩ = some (.slice (some ⟨p1, off1, none⟩) tl.length tcap) ∧
      w'.cell? ⟨p0, off, none⟩ = some (.int .i64 xk) ∧ w'.cell? ⟨p0, off + 1, none⟩ = some (.int .i64 xn) ∧ w'.cell? ⟨p0, off + 2, none⟩ = some (.string xs) ∧ w'.cell? ⟨p0, off + 3, none⟩ = some (.slice xa xl xc) ∧ w'.cell? ⟨p1, off1 + n * 2, none⟩ = some (.int .i64 yk) ∧ w'.cell? ⟨p1, off1 + n * 2 + 1, none⟩ = some (.slice ya yl yc))
    (first | go_keep | (go_split_ands; refine ⟨?_, ?_, ?_, ?_, ?_, ?_, ?_, ?_, ?_, ?_⟩ <;> exact kc hk3 (by assumption)))
    (first | (go_at_call 62; refine (HIH.out _ kpD).mono ?_; rintro e w3 ⟨rfl, hk3⟩))
  go_wp2_with fail
  go_ret
  exact ⟨by simp, kk HK.out (kk kpD (by assumption))⟩

set_option maxRecDepth 100000 in
set_option maxHeartbeats 4000000 in
theorem fits_leaf (k n : Int) (s : ByteArray) (a : Option Addr) (len cap : Nat) (tk : Int) (ta : Option Addr) (tlen tcap : Nat) (w : World) (h : tk = 0 ∨ tk = 1) :
    Calls Tryz.prog 62 #[.agg #[.int .i64 k, .int .i64 n, .string s, .slice a len cap], .agg #[.int .i64 tk, .slice ta tlen tcap]] w fun e w' => e = .returned (.bool (decide (k = tk))) ∧ Kp w w' := by
  by_cases hk : k = tk
  · subst hk
    rcases h with rfl | rfl
    all_goals
      go_enter Tryz.func62, Tryz.ntmps62
      go_wp2_with fail
      go_ret
      exact ⟨rfl, kk (ka _ _) (ka _ _)⟩
  · have hd : decide (k = tk) = false := by simpa using hk
    rw [hd]
    rcases h with rfl | rfl
    · have g : (k == 0) = false := by rw [beq_eq_false_iff_ne]; exact hk
      clear hk hd
      go_enter Tryz.func62, Tryz.ntmps62
      go_wp2_with fail
      go_ret
      exact ⟨rfl, kk (ka _ _) (ka _ _)⟩
    · have g : (k == 1) = false := by rw [beq_eq_false_iff_ne]; exact hk
      clear hk hd
      go_enter Tryz.func62, Tryz.ntmps62
      go_wp2_with fail
      go_ret
      exact ⟨rfl, kk (ka _ _) (ka _ _)⟩

/-- What is known of a tuple of which j parts have been looked at. -/
def IsUpto (n : Int) (t : T) (l : List V) (j : Nat) (c : Bool) : Prop := if c then V.isL 2 n t (l.drop j) j = V.isL 2 n t l 0 else V.isL 2 n t l 0 = false

theorem IsUpto.step {n : Int} {t : T} {l : List V} {j : Nat} {x : V} {u : T} (h : IsUpto n t l j true) (hx : l[j]? = some x) (hu : t.l[j]? = some u) : IsUpto n t l (j + 1) (x.is u) := by
  have hlt := (List.getElem?_eq_some_iff.1 hx).1
  have hd : l.drop j = x :: l.drop (j + 1) := by
    rw [List.drop_eq_getElem_cons hlt]
    congr 1
    exact (List.getElem?_eq_some_iff.1 hx).2
  have h1 : V.isL 2 n t (l.drop j) j = V.isL 2 n t l 0 := by simpa [IsUpto] using h
  rw [hd] at h1
  simp [V.isL, hu] at h1
  unfold IsUpto
  cases hb : x.is u with
  | true => rw [hb] at h1; simpa using h1
  | false => rw [hb] at h1; simpa using h1.symm
theorem IsUpto.done {n : Int} {t : T} {l : List V} {j : Nat} (h : IsUpto n t l j true) (hj : j = l.length) : V.isL 2 n t l 0 = true := by
  have h1 : V.isL 2 n t (l.drop j) j = V.isL 2 n t l 0 := by simpa [IsUpto] using h
  rw [← h1, hj, List.drop_of_length_le (Nat.le_refl _)]; simp [V.isL]
theorem IsUpto.no {n : Int} {t : T} {l : List V} {j : Nat} (h : IsUpto n t l j false) : V.isL 2 n t l 0 = false := by simpa [IsUpto] using h

set_option maxRecDepth 100000 in
set_option maxHeartbeats 4000000 in
theorem fits_tuple_no (k n : Int) (s : ByteArray) (a : Option Addr) (len cap : Nat) (ta : Option Addr) (tlen tcap : Nat) (w : World) (h : k ≠ 2 ∨ (k = 2 ∧ len ≠ tlen)) :
    Calls Tryz.prog 62 #[.agg #[.int .i64 k, .int .i64 n, .string s, .slice a len cap], .agg #[.int .i64 2, .slice ta tlen tcap]] w fun e w' => e = .returned (.bool false) ∧ Kp w w' := by
  rcases h with h | ⟨rfl, h⟩
  · have g : (k == 2) = false := by rw [beq_eq_false_iff_ne]; exact h
    clear h
    go_enter Tryz.func62, Tryz.ntmps62
    go_wp2_with fail
    refine wp_loop_rounds (0 + 1) ?_
    rw [rounds_succ]
    go_wp2_with fail
    go_ret
    exact ⟨rfl, kk (ka _ _) (ka _ _)⟩
  · have g : ((len : Int) == (tlen : Int)) = false := by rw [beq_eq_false_iff_ne]; omega
    clear h
    go_enter Tryz.func62, Tryz.ntmps62
    go_wp2_with fail
    refine wp_loop_rounds (0 + 1) ?_
    rw [rounds_succ]
    go_wp2_with fail
    go_ret
    exact ⟨rfl, kk (ka _ _) (ka _ _)⟩

set_option maxRecDepth 100000 in
set_option maxHeartbeats 8000000 in
theorem fits_tuple (n : Int) (s : ByteArray) (a : Option Addr) (cap : Nat) (l : List V) (ta : Option Addr) (tcap : Nat) (tl : List T) (w : World) (he : l.length = tl.length)
    (hin : (V.mk 2 n s a cap l).In w w.heap.size) (hin' : (T.mk 2 ta tcap tl).In w w.heap.size)
    (ih : ∀ (j : Nat) (x : V) (u : T), l[j]? = some x → tl[j]? = some u → ∀ w1 : World, x.In w1 w1.heap.size → u.In w1 w1.heap.size → Calls Tryz.prog 62 #[.agg #[.int .i64 x.k, .int .i64 x.n, .string x.s, .slice x.a x.l.length x.cap], .agg #[.int .i64 u.k, .slice u.a u.l.length u.cap]] w1 fun e w' => e = .returned (.bool (x.is u)) ∧ Kp w1 w') :
    Calls Tryz.prog 62 #[.agg #[.int .i64 2, .int .i64 n, .string s, .slice a l.length cap], .agg #[.int .i64 2, .slice ta tl.length tcap]] w fun e w' => e = .returned (.bool (V.isL 2 n (.mk 2 ta tcap tl) l 0)) ∧ Kp w w' := by
  have hlen := V.lenLe hin
  have hlen' := T.lenLe hin'
  have g : ((l.length : Int) == (tl.length : Int)) = true := by rw [beq_iff_eq]; omega
  have IH := Lib.hid ih
  have HIN := Lib.hid hin
  have HIN' := Lib.hid hin'
  have HE := Lib.hid he
  clear ih hin hin' he
  go_enter Tryz.func62, Tryz.ntmps62
  go_wp2_with fail
  clear g
  go_loopw [5, 6] (fun b i wr => ∃ (j : Nat) (c : Bool), j ≤ l.length ∧ i = .int .i64 j ∧ b = .bool c ∧ IsUpto n (.mk 2 ta tcap tl) l j c ∧ Kp ((w.alloc (.cells #[.int .i64 2, .int .i64 n, .string s, .slice a l.length cap] 24)).alloc (.cells #[.int .i64 2, .slice ta tl.length tcap] 27)) wr) (fun _ i _ => l.length - (intOf i).toNat)
  case atStart => exact ⟨0, true, Nat.zero_le _, rfl, rfl, by simp [IsUpto], Below.refl _ _⟩
  case round =>
    obtain ⟨j, c, hj, rfl, rfl, hu, hk⟩ := hrel
    obtain ⟨bx, by_⟩ := twoBox hk
    have c3 : wr.cell? ⟨w.heap.size, 3, none⟩ = some (.slice a l.length cap) := cellOf bx rfl
    have d1 : wr.cell? ⟨w.heap.size + 1, 1, none⟩ = some (.slice ta tl.length tcap) := cellOf by_ rfl
    have hkw := kk (kk (ka _ _) (ka _ _)) hk
    clear bx by_
    cases c with
    | true =>
      by_cases h1 : j < l.length
      · have h2 : j < tl.length := by have := HE.out; omega
        obtain ⟨x, hx⟩ : ∃ x, l[j]? = some x := ⟨l[j], by simp [h1]⟩
        obtain ⟨y, hy⟩ : ∃ y, tl[j]? = some y := ⟨tl[j], by simp [h2]⟩
        obtain ⟨p0, off, rfl, hp0, q0, q1, q2, q3, hxin⟩ := V.atPart HIN.out hx
        obtain ⟨p1, off1, rfl, hp1, s0, s1, hyin⟩ := T.atPart HIN'.out hy
        have kd := kk hkw (kpD (w := wr))
        have r0 := kc kd q0
        have r1 := kc kd q1
        have r2 := kc kd q2
        have r3 := kc kd q3
        have t0 := kc kd s0
        have t1 := kc kd s1
        have e3 := kc kpD c3
        have f1 := kc kpD d1
        have g0 : (0 : Int) ≤ (j : Int) := by omega
        have g1 : (j : Int) < (l.length : Int) := by omega
        have g2 : (j : Int) < (tl.length : Int) := by omega
        have hih := IH.out j x y hx hy wr.drew (hxin.keep kd.size kd) (hyin.keep kd.size kd)
        have HST := Lib.hid (hu.step hx hy)
        have HK := Lib.hid hk
        generalize x.is y = q at hih HST
        generalize x.k = xk at *
        generalize x.n = xn at *
        generalize x.s = xs at *
        generalize x.a = xa at *
        generalize x.l.length = xl at *
        generalize x.cap = xc at *
        generalize y.k = yk at *
        generalize y.a = ya at *
        generalize y.l.length = yl at *
        generalize y.cap = yc at *
        have HIH := Lib.hid hih
        clear hih hk hkw hu hx hy hxin hyin q0 q1 q2 q3 s0 s1
        go_wp2_with fail
        refine wp_region_still_tail 10 (by kernel_rfl) (by kernel_rfl) ?_
        change wpStill _ _ (World.drew wr) (fun a' => wpList _ _ _ _ a' (World.drew wr)) _ _
        have HD := Lib.hid (kpD (w := wr))
        generalize World.drew wr = w2 at *
        simp only [List.take_succ_cons, List.take_zero, List.drop_succ_cons, List.drop_zero]
        repeat still_step
        refine wpStill_nil ?_
        clear r0 r1 r2 r3 t0 t1 e3 f1 kd
        go_wp2_with fail
        refine HIH.out.mono ?_
        rintro e w3 ⟨rfl, hk3⟩
        have HK3 := Lib.hid (HK.out.trans ((kk HD.out hk3).mono HK.out.size))
        clear hk3
        go_wp2_with fail
        go_roundw
        case rel => exact ⟨j + 1, q, by omega, by first | go_num | simp, rfl, HST.out, HK3.out⟩
        case measure => simp [intOf]; omega
      · have hjj : j = l.length := by omega
        have HR := Lib.hid (hu.done hjj)
        subst hjj
        have HK := Lib.hid hkw
        clear hk hkw hu
        go_wp2_with fail
        go_ret
        exact ⟨by rw [HR.out] <;> rfl, HK.out⟩
    | false =>
      have HR := Lib.hid hu.no
      have HK := Lib.hid hkw
      clear hk hkw hu
      go_wp2_with fail
      go_ret
      exact ⟨by rw [HR.out] <;> rfl, HK.out⟩

theorem shLT_at {l : List T} {d j : Nat} {x : T} (h : T.shL l d = true) (hx : l[j]? = some x) : x.sh d = true := by
  induction l generalizing j with
  | nil => simp at hx
  | cons y ys ih =>
    simp only [T.shL, Bool.and_eq_true] at h
    cases j with
    | zero => simp at hx; exact hx ▸ h.1
    | succ j => exact ih h.2 (by simpa using hx)

theorem isL_nil (k n : Int) (t : T) (i : Nat) : V.isL k n t [] i = true := by simp [V.isL]

set_option maxHeartbeats 2000000 in
theorem fits_ref : ∀ (N : Nat) (x : V) (t : T) (d d' : Nat) (w : World), x.rank ≤ N → x.sh d = true → t.sh d' = true → x.In w w.heap.size → t.In w w.heap.size →
    Calls Tryz.prog 62 #[.agg #[.int .i64 x.k, .int .i64 x.n, .string x.s, .slice x.a x.l.length x.cap], .agg #[.int .i64 t.k, .slice t.a t.l.length t.cap]] w fun e w' => e = .returned (.bool (x.is t)) ∧ Kp w w' := by
  intro N
  induction N with
  | zero => intro x t d d' w h; have := x.rank_pos; omega
  | succ N ih =>
    intro x t d d' w hN hx ht hin hin'
    cases x with
    | mk k n s a cap l =>
    cases t with
    | mk tk ta tcap tl =>
    cases d with
    | zero => simp [V.sh] at hx
    | succ d =>
    cases d' with
    | zero => simp [T.sh] at ht
    | succ d' =>
    simp [V.sh] at hx
    simp [T.sh] at ht
    obtain ⟨hf, hp⟩ := hx
    obtain ⟨hf', hp'⟩ := ht
    have hlen := V.lenLe hin
    have hlen' := T.lenLe hin'
    have hgood := fits_good hf
    show Calls Tryz.prog 62 #[.agg #[.int .i64 k, .int .i64 n, .string s, .slice a l.length cap], .agg #[.int .i64 tk, .slice ta tl.length tcap]] w _
    have his : (V.mk k n s a cap l).is (.mk tk ta tcap tl) = (okB k n l.length tk tl.length && V.isL k n (.mk tk ta tcap tl) l 0) := by simp [V.is, T.k, T.l]
    rw [his]
    by_cases h3 : tk = 3
    · subst h3
      by_cases hk : k = 3
      · subst hk
        have hn0 := hgood.1 rfl
        obtain ⟨m, rfl⟩ := Int.eq_ofNat_of_zero_le hn0
        by_cases hm : m < tl.length
        · have hl1 : l.length = 1 := by simp [fitsB, taggedB] at hf; omega
          obtain ⟨x, rfl⟩ : ∃ x, l = [x] := by
            match l, hl1 with
            | [x], _ => exact ⟨x, rfl⟩
          obtain ⟨u, hu⟩ : ∃ u, tl[m]? = some u := ⟨tl[m], by simp [hm]⟩
          have hval : (okB 3 (m : Int) 1 3 tl.length && V.isL 3 (m : Int) (.mk 3 ta tcap tl) [x] 0) = x.is u := by
            simp [okB, kindI, V.isL, T.l, hu]
            omega
          rw [show ([x] : List V).length = 1 from rfl, hval]
          exact fits_sum_y m s a cap x ta tcap tl u w hm hu hin hin' (fun w1 h1 h2 => ih x u d d' w1 (by have := V.rank_part (v := .mk 3 m s a cap [x]) (j := 0) (x := x) rfl; omega) (shL_at hp (j := 0) rfl) (shLT_at hp' hu) h1 h2)
        · have hval : okB 3 (m : Int) l.length 3 tl.length = false := by simp [okB]; omega
          rw [hval, Bool.false_and]
          exact fits_sum_n m s a l.length cap ta tl.length tcap w (by omega)
      · have hval : okB k n l.length 3 tl.length = false := by simp [okB, kindI, hk]
        rw [hval, Bool.false_and]
        exact fits_sum_k k n s a l.length cap ta tl.length tcap w hk
    by_cases h2 : tk = 2
    · subst h2
      by_cases hk : k = 2
      · subst hk
        by_cases he : l.length = tl.length
        · have hval : okB 2 n l.length 2 tl.length = true := by simp [okB, kindI, he]
          rw [hval, Bool.true_and]
          exact fits_tuple n s a cap l ta tcap tl w he hin hin' (fun j x u hx hu w1 h1 h2 => ih x u d d' w1 (by have := V.rank_part (v := .mk 2 n s a cap l) (j := j) (x := x) hx; omega) (shL_at hp hx) (shLT_at hp' hu) h1 h2)
        · have hval : okB 2 n l.length 2 tl.length = false := by simp [okB, kindI, he]
          rw [hval, Bool.false_and]
          exact fits_tuple_no 2 n s a l.length cap ta tl.length tcap w (.inr ⟨rfl, he⟩)
      · have hval : okB k n l.length 2 tl.length = false := by simp [okB, kindI, hk]
        rw [hval, Bool.false_and]
        exact fits_tuple_no k n s a l.length cap ta tl.length tcap w (.inl hk)
    have h01 : tk = 0 ∨ tk = 1 := by
      simp [fitsT, h2, h3] at hf'
      exact hf'.1
    have hkk : kindI tk = tk := by rcases h01 with rfl | rfl <;> rfl
    have hval : (okB k n l.length tk tl.length && V.isL k n (.mk tk ta tcap tl) l 0) = decide (k = tk) := by
      by_cases hk : k = tk
      · have hl : l = [] := hgood.2 (by omega) (by omega)
        subst hl
        simp [okB, hkk, hk, isL_nil]
        omega
      · simp [okB, hkk, hk]
    rw [hval]
    exact fits_leaf k n s a l.length cap tk ta tl.length tcap w h01

set_option maxRecDepth 100000 in
set_option maxHeartbeats 4000000 in
theorem isR_no (k n : Int) (s : ByteArray) (a : Option Addr) (cap : Nat) (l : List V) (tk : Int) (ta : Option Addr) (tcap : Nat) (tl : List T) (w : World) (hin : (V.mk k n s a cap l).In w w.heap.size) (h : (V.mk k n s a cap l).valid = false) :
    Calls Tryz.prog 22 #[.agg #[.int .i64 k, .int .i64 n, .string s, .slice a l.length cap], .agg #[.int .i64 tk, .slice ta tl.length tcap]] w fun e w' => e = .returned (.bool false) ∧ Kp w w' := by
  have C := fun (w1 : World) (h : Kp w w1) => valid_ref k n s a cap l w1 (hin.keep h.size h)
  rw [h] at C
  have HC := Lib.hid C
  clear C hin h
  go_enter Tryz.func22, Tryz.ntmps22
  go_wp2_with fail
  refine (HC.out _ (kk (ka _ _) (ka _ _))).mono ?_
  rintro e w1 ⟨rfl, hk⟩
  have HK := Lib.hid (kk (kk (ka _ _) (ka _ _)) hk)
  clear hk
  go_wp2_with fail
  go_ret
  exact ⟨rfl, HK.out⟩

set_option maxRecDepth 100000 in
set_option maxHeartbeats 4000000 in
theorem isR_type (k n : Int) (s : ByteArray) (a : Option Addr) (cap : Nat) (l : List V) (tk : Int) (ta : Option Addr) (tcap : Nat) (tl : List T) (w : World) (hin : (V.mk k n s a cap l).In w w.heap.size) (hin' : (T.mk tk ta tcap tl).In w w.heap.size)
    (h : (V.mk k n s a cap l).valid = true) (h' : (T.mk tk ta tcap tl).valid = false) :
    Calls Tryz.prog 22 #[.agg #[.int .i64 k, .int .i64 n, .string s, .slice a l.length cap], .agg #[.int .i64 tk, .slice ta tl.length tcap]] w fun e w' => e = .returned (.bool false) ∧ Kp w w' := by
  have C := fun (w1 : World) (h : Kp w w1) => valid_ref k n s a cap l w1 (hin.keep h.size h)
  rw [h] at C
  have HC := Lib.hid C
  have C' := fun (w1 : World) (h : Kp w w1) => validT_ref tk ta tcap tl w1 (hin'.keep h.size h)
  rw [h'] at C'
  have HC' := Lib.hid C'
  clear C C' hin hin' h h'
  go_enter Tryz.func22, Tryz.ntmps22
  go_wp2_with fail
  refine (HC.out _ (kk (ka _ _) (ka _ _))).mono ?_
  rintro e w1 ⟨rfl, hk⟩
  obtain ⟨c0, c1, c2, c3, d0, d1⟩ := twoBoxVT hk
  have HK := Lib.hid (kk (kk (ka _ _) (ka _ _)) hk)
  clear hk
  go_wp2_with fail
  refine (HC'.out _ HK.out).mono ?_
  rintro e w2 ⟨rfl, hk⟩
  have HK2 := Lib.hid (kk HK.out hk)
  clear hk
  go_wp2_with fail
  go_ret
  exact ⟨rfl, HK2.out⟩

set_option maxRecDepth 100000 in
set_option maxHeartbeats 4000000 in
theorem isR_yes (k n : Int) (s : ByteArray) (a : Option Addr) (cap : Nat) (l : List V) (tk : Int) (ta : Option Addr) (tcap : Nat) (tl : List T) (w : World) (hin : (V.mk k n s a cap l).In w w.heap.size) (hin' : (T.mk tk ta tcap tl).In w w.heap.size)
    (h : (V.mk k n s a cap l).valid = true) (h' : (T.mk tk ta tcap tl).valid = true) :
    Calls Tryz.prog 22 #[.agg #[.int .i64 k, .int .i64 n, .string s, .slice a l.length cap], .agg #[.int .i64 tk, .slice ta tl.length tcap]] w fun e w' => e = .returned (.bool ((V.mk k n s a cap l).is (.mk tk ta tcap tl))) ∧ Kp w w' := by
  have hsx : (V.mk k n s a cap l).sh 6 = true := by simp [V.valid] at h; exact h.1
  have hst : (T.mk tk ta tcap tl).sh 6 = true := by simp [T.valid] at h'; exact h'.1
  have O := fun (w1 : World) (h : Kp w w1) => fits_ref _ (V.mk k n s a cap l) (T.mk tk ta tcap tl) 6 6 w1 (Nat.le_refl _) hsx hst (hin.keep h.size h) (hin'.keep h.size h)
  dsimp only [V.k, V.n, V.s, V.a, V.l, V.cap, T.k, T.a, T.l, T.cap] at O
  have C := fun (w1 : World) (h : Kp w w1) => valid_ref k n s a cap l w1 (hin.keep h.size h)
  rw [h] at C
  have HC := Lib.hid C
  have C' := fun (w1 : World) (h : Kp w w1) => validT_ref tk ta tcap tl w1 (hin'.keep h.size h)
  rw [h'] at C'
  have HC' := Lib.hid C'
  generalize (V.mk k n s a cap l).is (T.mk tk ta tcap tl) = o at O ⊢
  have HO := Lib.hid O
  clear C C' O hin hin' h h' hsx hst
  go_enter Tryz.func22, Tryz.ntmps22
  go_wp2_with fail
  refine (HC.out _ (kk (ka _ _) (ka _ _))).mono ?_
  rintro e w1 ⟨rfl, hk⟩
  obtain ⟨c0, c1, c2, c3, d0, d1⟩ := twoBoxVT hk
  have HK := Lib.hid (kk (kk (ka _ _) (ka _ _)) hk)
  clear hk
  go_wp2_with fail
  refine (HC'.out _ HK.out).mono ?_
  rintro e w2 ⟨rfl, hk⟩
  have HK2 := Lib.hid (kk HK.out hk)
  have e0 := kc hk c0
  have e1 := kc hk c1
  have e2 := kc hk c2
  have e3 := kc hk c3
  have f0 := kc hk d0
  have f1 := kc hk d1
  clear hk c0 c1 c2 c3 d0 d1
  go_wp2_with fail
  refine (HO.out _ HK2.out).mono ?_
  rintro e w3 ⟨rfl, hk⟩
  have HK3 := Lib.hid (kk HK2.out hk)
  clear hk
  go_wp2_with fail
  go_ret
  exact ⟨rfl, HK3.out⟩

/-- What Is answers. -/
def isV (x : V) (t : T) : Bool := x.valid && (t.valid && x.is t)

theorem isR (k n : Int) (s : ByteArray) (a : Option Addr) (cap : Nat) (l : List V) (tk : Int) (ta : Option Addr) (tcap : Nat) (tl : List T) (w : World) (hin : (V.mk k n s a cap l).In w w.heap.size) (hin' : (T.mk tk ta tcap tl).In w w.heap.size) :
    Calls Tryz.prog 22 #[.agg #[.int .i64 k, .int .i64 n, .string s, .slice a l.length cap], .agg #[.int .i64 tk, .slice ta tl.length tcap]] w fun e w' => e = .returned (.bool (isV (V.mk k n s a cap l) (.mk tk ta tcap tl))) ∧ Kp w w' := by
  cases hv : (V.mk k n s a cap l).valid with
  | false => simpa [isV, hv] using isR_no k n s a cap l tk ta tcap tl w hin hv
  | true =>
    cases ht : (T.mk tk ta tcap tl).valid with
    | false => simpa [isV, hv, ht] using isR_type k n s a cap l tk ta tcap tl w hin hin' hv ht
    | true => simpa [isV, hv, ht] using isR_yes k n s a cap l tk ta tcap tl w hin hin' hv ht

theorem isVal_isV (x : V) (t : T) : isVal x t = isV x t := by
  unfold isVal isV
  rw [bad_valid, badT_valid]
  cases x.valid <;> cases t.valid <;> simp

end Go.Proofs.YtbiljalhabnhlaaGreatDoor

/-
  Is, THE PROGRAM's, AT ANY VALUE AND TYPE.
-/
namespace Go.Proofs.YtbiljalhabnhlaaGreatDoor
open Go.RowKit

set_option maxRecDepth 100000 in
set_option maxHeartbeats 4000000 in
theorem isP_no (k n : Int) (s : ByteArray) (a : Option Addr) (cap : Nat) (ls : List V) (tk : Int) (ta : Option Addr) (tcap : Nat) (tl : List T) (w : World)
    (hv : (V.mk k n s a cap ls).In w w.heap.size) (h : (V.mk k n s a cap ls).valid = false) :
    Calls Tryz.prog 21 #[.agg #[.int .i64 k, .int .i64 n, .string s, .slice a ls.length cap], .agg #[.int .i64 tk, .slice ta tl.length tcap]] w fun e w' =>
      e = .returned (.bool false) ∧ Kp w w' := by
  have C := fun (w1 : World) (h : Kp w w1) => checkV k n s a cap ls w1 (hv.keep h.size h)
  rw [bad_arg, h] at C
  have HC := Lib.hid C
  clear C hv h
  refine (callsIn_wide (n := 0)).1 ?_
  refine callsIn_of_wp_marks Tryz.func21 rfl trivial ?_ rfl
  simp only [Tryz.ntmps21, List.size_toArray, List.length_cons, List.length_nil, Nat.reduceAdd, Nat.reduceSub, Array.replicate_succ, Array.replicate_zero, List.push_toArray, List.append_toArray, List.nil_append, List.cons_append]
  refine wpIn_wide.2 ?_
  go_wp2_with fail
  go_step3
  go_wp2_with fail
  refine (HC.out _ (kk (ka _ _) (ka _ _))).mono ?_
  rintro e w1 ⟨rfl, hk1⟩
  have HK1 := Lib.hid (kk (kk (ka _ _) (ka _ _)) hk1)
  clear hk1
  go_wp2_with fail
  rw [Exit.noGoto_ret]
  exact ⟨_, results_tmp rfl _ _ _, rfl, HK1.out⟩

set_option maxRecDepth 100000 in
set_option maxHeartbeats 4000000 in
theorem isP_type (k n : Int) (s : ByteArray) (a : Option Addr) (cap : Nat) (ls : List V) (tk : Int) (ta : Option Addr) (tcap : Nat) (tl : List T) (w : World)
    (hv : (V.mk k n s a cap ls).In w w.heap.size) (ht : (T.mk tk ta tcap tl).In w w.heap.size) (h : (V.mk k n s a cap ls).valid = true) (h' : (T.mk tk ta tcap tl).valid = false) :
    Calls Tryz.prog 21 #[.agg #[.int .i64 k, .int .i64 n, .string s, .slice a ls.length cap], .agg #[.int .i64 tk, .slice ta tl.length tcap]] w fun e w' =>
      e = .returned (.bool false) ∧ Kp w w' := by
  have C := fun (w1 : World) (h : Kp w w1) => checkV k n s a cap ls w1 (hv.keep h.size h)
  have D := fun (w1 : World) (h : Kp w w1) => typeV tk ta tcap tl w1 (ht.keep h.size h)
  rw [bad_arg, h] at C
  rw [badT_arg, h'] at D
  have HC := Lib.hid C
  have HD := Lib.hid D
  clear C D hv ht h h'
  refine (callsIn_wide (n := 0)).1 ?_
  refine callsIn_of_wp_marks Tryz.func21 rfl trivial ?_ rfl
  simp only [Tryz.ntmps21, List.size_toArray, List.length_cons, List.length_nil, Nat.reduceAdd, Nat.reduceSub, Array.replicate_succ, Array.replicate_zero, List.push_toArray, List.append_toArray, List.nil_append, List.cons_append]
  refine wpIn_wide.2 ?_
  go_wp2_with fail
  go_step3
  go_wp2_with fail
  refine (HC.out _ (kk (ka _ _) (ka _ _))).mono ?_
  rintro e w1 ⟨rfl, hk1⟩
  obtain ⟨b0, b1, b2, b3, d0, d1⟩ := twoBoxVT hk1
  have HK1 := Lib.hid (kk (kk (ka _ _) (ka _ _)) hk1)
  clear hk1
  go_wp2_with fail
  refine (HD.out _ HK1.out).mono ?_
  rintro e w2 ⟨rfl, hk2⟩
  have HK2 := Lib.hid (kk HK1.out hk2)
  clear hk2
  go_wp2_with fail
  rw [Exit.noGoto_ret]
  exact ⟨_, results_tmp rfl _ _ _, rfl, HK2.out⟩

theorem isP (k n : Int) (s : ByteArray) (a : Option Addr) (cap : Nat) (l : List V) (tk : Int) (ta : Option Addr) (tcap : Nat) (tl : List T) (w : World) (hin : (V.mk k n s a cap l).In w w.heap.size) (hin' : (T.mk tk ta tcap tl).In w w.heap.size) :
    Calls Tryz.prog 21 #[.agg #[.int .i64 k, .int .i64 n, .string s, .slice a l.length cap], .agg #[.int .i64 tk, .slice ta tl.length tcap]] w fun e w' => e = .returned (.bool (isV (V.mk k n s a cap l) (.mk tk ta tcap tl))) ∧ Kp w w' := by
  cases hv : (V.mk k n s a cap l).valid with
  | false => simpa [isV, hv] using isP_no k n s a cap l tk ta tcap tl w hin hv
  | true =>
    cases ht : (T.mk tk ta tcap tl).valid with
    | false => simpa [isV, hv, ht] using isP_type k n s a cap l tk ta tcap tl w hin hin' hv ht
    | true => simpa [isV, hv, ht] using is_valid k n s a cap l tk ta tcap tl w hin hin' (by rw [bad_valid, hv]; rfl) (by rw [badT_valid, ht]; rfl)

end Go.Proofs.YtbiljalhabnhlaaGreatDoor

/-
  THE WALKS OF SameValue AND SameValues, by recursion.
-/
namespace Go.Proofs.YtbiljalhabnhlaaGreatDoor
open Go.RowKit

mutual
/-- Are two values the same? -/
def V.same : V → V → Bool
  | .mk k n s _ _ l, .mk k' n' s' _ _ l' => decide (k = k') && (decide (n = n') && (decide (s.toList = s'.toList) && V.sameL l l'))
def V.sameL : List V → List V → Bool
  | [], [] => true
  | x :: xs, y :: ys => x.same y && V.sameL xs ys
  | _, _ => false
end

theorem V.sameL_len : ∀ {l m : List V}, V.sameL l m = true → l.length = m.length
  | [], [], _ => rfl
  | x :: xs, y :: ys, h => by simp [V.sameL] at h; simp [V.sameL_len h.2]
  | [], _ :: _, h => by simp [V.sameL] at h
  | _ :: _, [], h => by simp [V.sameL] at h

/-- Two lists are the same up to a place. -/
def SameUpto (l m : List V) (j : Nat) : Prop := ∀ i x y, i < j → l[i]? = some x → m[i]? = some y → x.same y = true
theorem SameUpto.succ {l m : List V} {j : Nat} {x y : V} (h : SameUpto l m j) (hx : l[j]? = some x) (hy : m[j]? = some y) (h0 : x.same y = true) : SameUpto l m (j + 1) := by
  intro i a b hi ha hb
  rcases Nat.lt_succ_iff_lt_or_eq.1 hi with h1 | rfl
  · exact h i a b h1 ha hb
  · rw [hx] at ha; rw [hy] at hb; cases ha; cases hb; exact h0
theorem SameUpto.all : ∀ {l m : List V}, l.length = m.length → SameUpto l m l.length → V.sameL l m = true
  | [], [], _, _ => rfl
  | x :: xs, y :: ys, hl, h => by
    simp only [V.sameL, h 0 x y (by simp) (by simp) (by simp), Bool.true_and]
    exact SameUpto.all (by simpa using hl) fun i a b hi ha hb => h (i + 1) a b (by simpa using hi) (by simpa using ha) (by simpa using hb)
  | [], _ :: _, hl, _ => by simp at hl
  | _ :: _, [], hl, _ => by simp at hl
theorem V.sameL_not : ∀ {l m : List V} {j : Nat} {x y : V}, l[j]? = some x → m[j]? = some y → x.same y = false → V.sameL l m = false
  | [], _, _, _, _, h, _, _ => by simp at h
  | _, [], _, _, _, _, h, _ => by simp at h
  | x :: xs, y :: ys, 0, a, b, h, h', h0 => by simp at h h'; subst h; subst h'; simp [V.sameL, h0]
  | x :: xs, y :: ys, j + 1, a, b, h, h', h0 => by
    simp only [V.sameL]
    rw [V.sameL_not (l := xs) (m := ys) (j := j) (by simpa using h) (by simpa using h') h0]; simp

set_option maxRecDepth 100000 in
set_option maxHeartbeats 4000000 in
theorem samesV (N : Nat) (ih : ∀ (x y : V) (w : World), x.rank ≤ N → x.In w w.heap.size → y.In w w.heap.size → Calls Tryz.prog 23 #[x.val, y.val] w fun e w' => e = .returned (.bool (x.same y)) ∧ Kp w w')
    (k n : Int) (s : ByteArray) (a : Option Addr) (cap : Nat) (l : List V) (k' n' : Int) (s' : ByteArray) (a' : Option Addr) (cap' : Nat) (m : List V) (w : World) (hr : (V.mk k n s a cap l).rank ≤ N + 1)
    (hin : (V.mk k n s a cap l).In w w.heap.size) (hin' : (V.mk k' n' s' a' cap' m).In w w.heap.size) :
    Calls Tryz.prog 63 #[.slice a l.length cap, .slice a' m.length cap'] w fun e w' => e = .returned (.bool (V.sameL l m)) ∧ Kp w w' := by
  have hl := V.lenLe hin
  have hm := V.lenLe hin'
  have IH := Lib.hid ih
  have HIN := Lib.hid hin
  have HIN' := Lib.hid hin'
  have HR := Lib.hid hr
  clear ih hin hin' hr
  by_cases hlen : l.length = m.length
  · have g1 : (((l.length : Nat) : Int) != ((m.length : Nat) : Int)) = false := by simp [hlen]
    have HLEN := Lib.hid hlen
    clear hlen
    go_enter Tryz.func63, Tryz.ntmps63
    go_wp2_with fail
    go_loopw [5] (fun i wr => ∃ j : Nat, j ≤ l.length ∧ i = .int .i64 j ∧ SameUpto l m j ∧ Kp w wr) (fun i _ => l.length - (intOf i).toNat)
    case atStart => exact ⟨0, Nat.zero_le _, rfl, fun i _ _ h => absurd h (by omega), Below.refl _ _⟩
    case round =>
      obtain ⟨j, hj, rfl, heq, hk⟩ := hrel
      by_cases hlt : j < l.length
      · obtain ⟨x, hx⟩ : ∃ x, l[j]? = some x := ⟨l[j], by simp [hlt]⟩
        have hlt' : j < m.length := by rw [← HLEN.out]; exact hlt
        obtain ⟨y, hy⟩ : ∃ y, m[j]? = some y := ⟨m[j], by simp [hlt']⟩
        obtain ⟨b0, off, rfl, hb0, q0, q1, q2, q3, hxin⟩ := V.atPart HIN.out hx
        have r0 := kc hk q0
        have r1 := kc hk q1
        have r2 := kc hk q2
        have r3 := kc hk q3
        have HX := Lib.hid hx
        have HXI := Lib.hid hxin
        clear q0 q1 q2 q3 hx hxin
        obtain ⟨b1, off', rfl, hb1, q0, q1, q2, q3, hyin⟩ := V.atPart HIN'.out hy
        have t0 := kc hk q0
        have t1 := kc hk q1
        have t2 := kc hk q2
        have t3 := kc hk q3
        have HY := Lib.hid hy
        have HYI := Lib.hid hyin
        have HK := Lib.hid hk
        have hz := hk.size
        have C := fun w1 (h : Kp w w1) => IH.out x y w1 (by have := V.rank_part (v := .mk k n s (some ⟨b0, off, none⟩) cap l) HX.out; have := HR.out; omega) (HXI.out.keep h.size h) (HYI.out.keep h.size h)
        generalize hc : x.same y = c at C
        have CC := Lib.hid C
        have HC := Lib.hid hc
        clear q0 q1 q2 q3 hy hyin hk C hc
        have gi0 : (0 : Int) ≤ (j : Int) := by omega
        have gi1 : (j : Int) < (l.length : Int) := by omega
        have gi2 : (j : Int) < (m.length : Int) := by omega
        go_wp2_with fail
        go_region_held3 (fun w' => w'.cell? ⟨b0, off + j * 4, none⟩ = some (.int .i64 x.k) ∧ w'.cell? ⟨b0, off + j * 4 + 1, none⟩ = some (.int .i64 x.n) ∧ w'.cell? ⟨b0, off + j * 4 + 2, none⟩ = some (.string x.s) ∧ w'.cell? ⟨b0, off + j * 4 + 3, none⟩ = some (.slice x.a x.l.length x.cap) ∧
          w'.cell? ⟨b1, off' + j * 4, none⟩ = some (.int .i64 y.k) ∧ w'.cell? ⟨b1, off' + j * 4 + 1, none⟩ = some (.int .i64 y.n) ∧ w'.cell? ⟨b1, off' + j * 4 + 2, none⟩ = some (.string y.s) ∧ w'.cell? ⟨b1, off' + j * 4 + 3, none⟩ = some (.slice y.a y.l.length y.cap) ∧ Kp wr w')
          (first
            | (refine ⟨?_, ?_, ?_, ?_, ?_, ?_, ?_, ?_, ?_⟩ <;> first | exact (Below.refl _ _).drew | (go_keep; done))
            | (go_split_ands; exact ⟨‹_›, ‹_›, ‹_›, ‹_›, ‹_›, ‹_›, ‹_›, ‹_›, ‹_›⟩)
            | (go_split_ands; exact ⟨kc hk1 ‹_›, kc hk1 ‹_›, kc hk1 ‹_›, kc hk1 ‹_›, kc hk1 ‹_›, kc hk1 ‹_›, kc hk1 ‹_›, kc hk1 ‹_›, kk ‹_› hk1⟩))
          (first
            | (go_split_ands; go_at_call 23; refine (CC.out _ (kk HK.out ‹_›)).mono ?_; rintro e w1 ⟨rfl, hk1⟩))
        go_split_ands
        have HK1 := Lib.hid (kk HK.out ‹Kp wr _›)
        cases c
        · have hr : V.sameL l m = false := V.sameL_not HX.out HY.out HC.out
          have HRR := Lib.hid hr
          clear hr
          go_wp2_with fail
          go_ret
          exact ⟨by rw [HRR.out] <;> rfl, HK1.out⟩
        · go_wp2_with fail
          go_roundw
          case rel => exact ⟨j + 1, by omega, by go_num, heq.succ HX.out HY.out HC.out, HK1.out⟩
          case measure => simp [intOf]; omega
      · have hjl : j = l.length := by omega
        subst hjl
        have hr : V.sameL l m = true := SameUpto.all HLEN.out heq
        have HRR := Lib.hid hr
        have HK := Lib.hid hk
        clear hr hk
        go_wp2_with fail
        go_ret
        exact ⟨by rw [HRR.out] <;> rfl, HK.out⟩
  · have hr : V.sameL l m = false := by
      cases h : V.sameL l m with
      | false => rfl
      | true => exact absurd (V.sameL_len h) hlen
    have HRR := Lib.hid hr
    have g1 : (((l.length : Nat) : Int) != ((m.length : Nat) : Int)) = true := by simp; omega
    clear hr hlen
    go_enter Tryz.func63, Tryz.ntmps63
    go_wp2_with fail
    go_ret
    exact ⟨by rw [HRR.out] <;> rfl, Below.refl _ _⟩

set_option maxHeartbeats 2000000 in
theorem sameV : ∀ (N : Nat) (x y : V) (w : World), x.rank ≤ N → x.In w w.heap.size → y.In w w.heap.size →
    Calls Tryz.prog 23 #[x.val, y.val] w fun e w' => e = .returned (.bool (x.same y)) ∧ Kp w w' := by
  intro N
  induction N with
  | zero => intro x y w h; have := x.rank_pos; omega
  | succ N ih =>
    intro x y w hN hx hy
    cases x with
    | mk k n s a cap l =>
    cases y with
    | mk k' n' s' a' cap' l' =>
    rw [V.val_mk, V.val_mk]
    have C := fun w1 (h : Kp w w1) => samesV N ih k n s a cap l k' n' s' a' cap' l' w1 hN (hx.keep h.size h) (hy.keep h.size h)
    have hr : (V.mk k n s a cap l).same (V.mk k' n' s' a' cap' l') = (decide (k = k') && (decide (n = n') && (decide (s.toList = s'.toList) && V.sameL l l'))) := by simp only [V.same]
    rw [hr]
    generalize V.sameL l l' = q at C ⊢
    have CC := Lib.hid C
    clear C ih hx hy hN hr
    by_cases h1 : k = k'
    · by_cases h2 : n = n'
      · by_cases h3 : s.toList = s'.toList
        · have hr : (decide (k = k') && (decide (n = n') && (decide (s.toList = s'.toList) && q))) = q := by simp [h1, h2, h3]
          rw [hr]
          subst h1; subst h2
          have g3 : (s.toList == s'.toList) = true := by simpa using h3
          clear hr h3
          go_enter Tryz.func23, Tryz.ntmps23
          go_wp2_with fail
          refine (CC.out _ (kk (ka _ _) (ka _ _))).mono ?_
          rintro e w1 ⟨rfl, hk⟩
          have HK := Lib.hid (kk (kk (ka _ _) (ka _ _)) hk)
          clear hk
          go_wp2_with fail
          go_ret
          exact ⟨rfl, HK.out⟩
        · have hr : (decide (k = k') && (decide (n = n') && (decide (s.toList = s'.toList) && q))) = false := by simp [h3]
          rw [hr]
          subst h1; subst h2
          have g3 : (s.toList == s'.toList) = false := by simpa using h3
          clear hr CC h3
          go_enter Tryz.func23, Tryz.ntmps23
          go_wp2_with fail
          go_ret
          exact ⟨rfl, kk (ka _ _) (ka _ _)⟩
      · have hr : (decide (k = k') && (decide (n = n') && (decide (s.toList = s'.toList) && q))) = false := by simp [h2]
        rw [hr]
        subst h1
        have g2 : (n == n') = false := by simpa using h2
        clear hr CC h2
        go_enter Tryz.func23, Tryz.ntmps23
        go_wp2_with fail
        go_ret
        exact ⟨rfl, kk (ka _ _) (ka _ _)⟩
    · have hr : (decide (k = k') && (decide (n = n') && (decide (s.toList = s'.toList) && q))) = false := by simp [h1]
      rw [hr]
      have g1 : (k == k') = false := by simpa using h1
      clear hr CC h1
      go_enter Tryz.func23, Tryz.ntmps23
      go_wp2_with fail
      go_ret
      exact ⟨rfl, kk (ka _ _) (ka _ _)⟩

end Go.Proofs.YtbiljalhabnhlaaGreatDoor
