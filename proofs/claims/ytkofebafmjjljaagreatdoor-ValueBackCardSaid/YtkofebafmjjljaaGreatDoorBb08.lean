/-
  Contracts of the functions of package value, of its specification and of what the statements of layer 1 share (values and types made of numbers, the chapter's examples), each for every argument: used by the proofs of layer 1's statements.
  Part 8 of 14.
-/
import Derived.Test.YtkofebafmjjljaaGreatDoorBb06
import Derived.Test.YtkofebafmjjljaaGreatDoorBb01
import Derived.Test.YtkofebafmjjljaaGreatDoorBb07
import Derived.Test.YtkofebafmjjljaaGreatDoorBb03
/-
  THE SPECIFICATION's types, typed, ValidType, Type (written by wip/gen_types.py).
-/
namespace Go.Proofs.YtkofebafmjjljaaGreatDoor
open Go.RowKit

theorem ranksT_take (l : List T) (j : Nat) (x : T) (h : l[j]? = some x) : T.rank.ranks (l.take (j + 1)) = T.rank.ranks (l.take j) + x.rank := by
  induction l generalizing j with
  | nil => simp at h
  | cons y ys ih =>
    cases j with
    | zero => simp at h; subst h; simp [T.rank.ranks]
    | succ j => have := ih j (by simpa using h); simp [T.rank.ranks, this]; omega

theorem ranksT_le : ∀ (m : List T) (i : Nat), T.rank.ranks (m.take i) ≤ T.rank.ranks m := by
  intro m
  induction m with
  | nil => intro i; simp [T.rank.ranks]
  | cons y ys ih => intro i; cases i with
    | zero => simp [T.rank.ranks]
    | succ i => have := ih i; simp [T.rank.ranks]; omega

set_option maxRecDepth 100000 in
set_option maxHeartbeats 4000000 in
theorem types_ref : ∀ (N : Nat) (k : Int) (a : Option Addr) (cap : Nat) (l : List T) (w : World), (T.mk k a cap l).rank ≤ N → N ≤ 1000000000 → (T.mk k a cap l).In w w.heap.size →
    Calls Tryz.prog 97 #[.agg #[.int .i64 k, .slice a l.length cap]] w fun e w' => e = .returned (.int .i64 (T.mk k a cap l).rank) ∧ Kp w w' := by
  intro N
  induction N with
  | zero => intro k a cap l w h; have := T.rank_pos (.mk k a cap l); omega
  | succ N ih =>
    intro k a cap l w hN hM hin
    have hrk : (T.mk k a cap l).rank = 1 + T.rank.ranks l := rfl
    have hlen := T.lenLe hin
    have IH := Lib.hid ih
    have HIN := Lib.hid hin
    clear ih hin
    go_enter Tryz.func97, Tryz.ntmps97
    go_wp2_with fail
    go_loopw [3, 4] (fun c i wr => ∃ j : Nat, j ≤ l.length ∧ i = .int .i64 j ∧ c = .int .i64 ((1 + T.rank.ranks (l.take j) : Nat) : Int) ∧ Kp (w.alloc (.cells #[.int .i64 k, .slice a l.length cap] 27)) wr) (fun _ i _ => l.length - (intOf i).toNat)
    case atStart => exact ⟨0, Nat.zero_le _, rfl, by simp [T.rank.ranks], Below.refl _ _⟩
    case round =>
      obtain ⟨j, hj, rfl, rfl, hk⟩ := hrel
      obtain ⟨b0, b1, hz⟩ := box2 hk
      by_cases hlt : j < l.length
      · obtain ⟨x, hx⟩ : ∃ x, l[j]? = some x := ⟨l[j], by simp [hlt]⟩
        obtain ⟨p0, off, rfl, hp0, q0, q1, hxin⟩ := T.atPart HIN.out hx
        have hkw := kk (ka _ _) hk
        have r0 := kc hkw q0
        have r1 := kc hkw q1
        have hxr := hxin.keep hkw.size hkw
        have hrx := T.rank_part (v := .mk k (some ⟨p0, off, none⟩) cap l) (j := j) (x := x) hx
        have htk := ranksT_take l j x hx
        have hle := ranksT_le l (j + 1)
        cases x with
        | mk k' a' cap' l' =>
        simp only [T.k, T.a, T.l, T.cap] at r0 r1
        have hih := IH.out k' a' cap' l' wr (by omega) (by omega) hxr
        have HIH := Lib.hid hih
        have HK := Lib.hid hk
        generalize (T.mk k' a' cap' l').rank = rx at *
        clear hih hk hxin hxr hx hkw q0 q1
        go_wp2_with fail
        refine HIH.out.mono ?_
        rintro e w2 ⟨rfl, hk2⟩
        have HK2 := Lib.hid (kk HK.out hk2)
        clear hk2
        go_wp2_with fail
        go_roundw
        case rel => exact ⟨j + 1, by omega, by first | go_num | simp, by rw [htk]; congr 1; omega, HK2.out⟩
        case measure => simp [intOf]; omega
      · have hjj : j = l.length := by omega
        subst hjj
        have HK := Lib.hid (kk (ka _ _) hk)
        clear hk
        go_wp2_with fail
        go_ret
        exact ⟨by simp [hrk], HK.out⟩

mutual
/-- typed: so deep at most. -/
def T.sh : T → Nat → Bool
  | .mk k _ _ l, d => if d = 0 then false else fitsT k l.length && T.shL l (d - 1)
def T.shL : List T → Nat → Bool
  | [], _ => true
  | x :: xs, d => x.sh d && T.shL xs d
end

theorem T.shL_snoc (l : List T) (d j : Nat) (x : T) (h : l[j]? = some x) : T.shL (l.take (j + 1)) d = (T.shL (l.take j) d && x.sh d) := by
  induction l generalizing j with
  | nil => simp at h
  | cons y ys ih =>
    cases j with
    | zero => simp at h; subst h; simp [T.shL]
    | succ j => have := ih j (by simpa using h); simp [T.shL, this, Bool.and_assoc]
theorem T.shL_stop (l : List T) (d j : Nat) (h : T.shL (l.take j) d = false) : T.shL l d = false := by
  induction l generalizing j with
  | nil => simp [T.shL] at h
  | cons y ys ih =>
    cases j with
    | zero => simp [T.shL] at h
    | succ j =>
      simp only [List.take_succ_cons, T.shL, Bool.and_eq_false_iff] at h ⊢
      rcases h with h | h
      · exact .inl h
      · exact .inr (ih j h)

set_option maxRecDepth 100000 in
set_option maxHeartbeats 2000000 in
theorem typed_zero (k : Int) (a : Option Addr) (cap len : Nat) (w : World) :
    Calls Tryz.prog 96 #[.agg #[.int .i64 k, .slice a len cap], .int .i64 0] w fun e w' => e = .returned (.bool false) ∧ Kp w w' := by
  go_enter Tryz.func96, Tryz.ntmps96
  go_wp2_with fail
  go_ret
  exact ⟨rfl, ka _ _⟩

set_option maxRecDepth 100000 in
set_option maxHeartbeats 4000000 in
theorem typed_0 (f : Bool) (d : Nat) (hd : d ≤ 100) (a : Option Addr) (cap : Nat) (l : List T) (w : World) (hin : (T.mk 0 a cap l).In w w.heap.size) (h : decide (l.length = 0) = f)
    (ih : ∀ (j : Nat) (x : T), l[j]? = some x → ∀ w1 : World, x.In w1 w1.heap.size → Calls Tryz.prog 96 #[.agg #[.int .i64 x.k, .slice x.a x.l.length x.cap], .int .i64 (d : Int)] w1 fun e w' => e = .returned (.bool (x.sh d)) ∧ Kp w1 w') :
    Calls Tryz.prog 96 #[.agg #[.int .i64 0, .slice a l.length cap], .int .i64 ((d : Int) + 1)] w fun e w' => e = .returned (.bool (f && T.shL l d)) ∧ Kp w w' := by
  have hlen := T.lenLe hin
  have hd0 : ((d : Int) + 1 == 0) = false := by rw [beq_eq_false_iff_ne]; omega
  have IH := Lib.hid ih
  have HIN := Lib.hid hin
  clear ih hin
  have ht : ((l.length : Int) == 0) = f := by rw [← h, Bool.eq_iff_iff]; simp
  clear h
  go_enter Tryz.func96, Tryz.ntmps96
  go_wp2_with fail
  go_loopw [5, 6] (fun b i wr => ∃ j : Nat, j ≤ l.length ∧ i = .int .i64 j ∧ b = .bool (f && T.shL (l.take j) d) ∧ Kp (w.alloc (.cells #[.int .i64 0, .slice a l.length cap] 27)) wr) (fun _ i _ => l.length - (intOf i).toNat)
  case atStart => exact ⟨0, Nat.zero_le _, rfl, by simp [T.shL, *], Below.refl _ _⟩
  case round =>
    obtain ⟨j, hj, rfl, rfl, hk⟩ := hrel
    obtain ⟨b0, b1, hz⟩ := box2 hk
    cases hp : (f && T.shL (l.take j) d) with
    | true =>
      by_cases hlt : j < l.length
      · obtain ⟨x, hx⟩ : ∃ x, l[j]? = some x := ⟨l[j], by simp [hlt]⟩
        obtain ⟨p0, off, rfl, hp0, q0, q1, hxin⟩ := T.atPart HIN.out hx
        have hkw := kk (ka _ _) hk
        have r0 := kc hkw q0
        have r1 := kc hkw q1
        have hih := IH.out j x hx wr (hxin.keep hkw.size hkw)
        have hsn : (f && T.shL (l.take (j + 1)) d) = x.sh d := by rw [T.shL_snoc l d j x hx, ← Bool.and_assoc, hp, Bool.true_and]
        generalize x.sh d = bx at hih hsn
        generalize x.k = xk at *
        generalize x.a = xa at *
        generalize x.l.length = xl at *
        generalize x.cap = xc at *
        have HSN := Lib.hid hsn
        have HIH := Lib.hid hih
        have HK := Lib.hid hk
        clear hih hk hxin hx hkw q0 q1 hsn hp
        go_wp2_with fail
        refine HIH.out.mono ?_
        rintro e w2 ⟨rfl, hk2⟩
        have HK2 := Lib.hid (kk HK.out hk2)
        clear hk2
        go_wp2_with fail
        go_roundw
        case rel => exact ⟨j + 1, by omega, by first | go_num | simp, by rw [HSN.out], HK2.out⟩
        case measure => simp [intOf]; omega
      · have hjj : j = l.length := by omega
        subst hjj
        have hall : (f && T.shL l d) = true := by rw [List.take_of_length_le (Nat.le_refl _)] at hp; exact hp
        have HR := Lib.hid hall
        have HK := Lib.hid (kk (ka _ _) hk)
        clear hk hp hall
        go_wp2_with fail
        go_ret
        exact ⟨by rw [HR.out] <;> rfl, HK.out⟩
    | false =>
      have hr : (f && T.shL l d) = false := by
        rw [Bool.and_eq_false_iff] at hp ⊢
        rcases hp with h | h
        · exact .inl h
        · exact .inr (T.shL_stop l d j h)
      have HR := Lib.hid hr
      have HK := Lib.hid (kk (ka _ _) hk)
      clear hk hp hr
      go_wp2_with fail
      go_ret
      exact ⟨by rw [HR.out] <;> rfl, HK.out⟩

set_option maxRecDepth 100000 in
set_option maxHeartbeats 4000000 in
theorem typed_1 (f : Bool) (d : Nat) (hd : d ≤ 100) (a : Option Addr) (cap : Nat) (l : List T) (w : World) (hin : (T.mk 1 a cap l).In w w.heap.size) (h : decide (l.length = 0) = f)
    (ih : ∀ (j : Nat) (x : T), l[j]? = some x → ∀ w1 : World, x.In w1 w1.heap.size → Calls Tryz.prog 96 #[.agg #[.int .i64 x.k, .slice x.a x.l.length x.cap], .int .i64 (d : Int)] w1 fun e w' => e = .returned (.bool (x.sh d)) ∧ Kp w1 w') :
    Calls Tryz.prog 96 #[.agg #[.int .i64 1, .slice a l.length cap], .int .i64 ((d : Int) + 1)] w fun e w' => e = .returned (.bool (f && T.shL l d)) ∧ Kp w w' := by
  have hlen := T.lenLe hin
  have hd0 : ((d : Int) + 1 == 0) = false := by rw [beq_eq_false_iff_ne]; omega
  have IH := Lib.hid ih
  have HIN := Lib.hid hin
  clear ih hin
  have ht : ((l.length : Int) == 0) = f := by rw [← h, Bool.eq_iff_iff]; simp
  clear h
  go_enter Tryz.func96, Tryz.ntmps96
  go_wp2_with fail
  go_loopw [5, 6] (fun b i wr => ∃ j : Nat, j ≤ l.length ∧ i = .int .i64 j ∧ b = .bool (f && T.shL (l.take j) d) ∧ Kp (w.alloc (.cells #[.int .i64 1, .slice a l.length cap] 27)) wr) (fun _ i _ => l.length - (intOf i).toNat)
  case atStart => exact ⟨0, Nat.zero_le _, rfl, by simp [T.shL, *], Below.refl _ _⟩
  case round =>
    obtain ⟨j, hj, rfl, rfl, hk⟩ := hrel
    obtain ⟨b0, b1, hz⟩ := box2 hk
    cases hp : (f && T.shL (l.take j) d) with
    | true =>
      by_cases hlt : j < l.length
      · obtain ⟨x, hx⟩ : ∃ x, l[j]? = some x := ⟨l[j], by simp [hlt]⟩
        obtain ⟨p0, off, rfl, hp0, q0, q1, hxin⟩ := T.atPart HIN.out hx
        have hkw := kk (ka _ _) hk
        have r0 := kc hkw q0
        have r1 := kc hkw q1
        have hih := IH.out j x hx wr (hxin.keep hkw.size hkw)
        have hsn : (f && T.shL (l.take (j + 1)) d) = x.sh d := by rw [T.shL_snoc l d j x hx, ← Bool.and_assoc, hp, Bool.true_and]
        generalize x.sh d = bx at hih hsn
        generalize x.k = xk at *
        generalize x.a = xa at *
        generalize x.l.length = xl at *
        generalize x.cap = xc at *
        have HSN := Lib.hid hsn
        have HIH := Lib.hid hih
        have HK := Lib.hid hk
        clear hih hk hxin hx hkw q0 q1 hsn hp
        go_wp2_with fail
        refine HIH.out.mono ?_
        rintro e w2 ⟨rfl, hk2⟩
        have HK2 := Lib.hid (kk HK.out hk2)
        clear hk2
        go_wp2_with fail
        go_roundw
        case rel => exact ⟨j + 1, by omega, by first | go_num | simp, by rw [HSN.out], HK2.out⟩
        case measure => simp [intOf]; omega
      · have hjj : j = l.length := by omega
        subst hjj
        have hall : (f && T.shL l d) = true := by rw [List.take_of_length_le (Nat.le_refl _)] at hp; exact hp
        have HR := Lib.hid hall
        have HK := Lib.hid (kk (ka _ _) hk)
        clear hk hp hall
        go_wp2_with fail
        go_ret
        exact ⟨by rw [HR.out] <;> rfl, HK.out⟩
    | false =>
      have hr : (f && T.shL l d) = false := by
        rw [Bool.and_eq_false_iff] at hp ⊢
        rcases hp with h | h
        · exact .inl h
        · exact .inr (T.shL_stop l d j h)
      have HR := Lib.hid hr
      have HK := Lib.hid (kk (ka _ _) hk)
      clear hk hp hr
      go_wp2_with fail
      go_ret
      exact ⟨by rw [HR.out] <;> rfl, HK.out⟩

set_option maxRecDepth 100000 in
set_option maxHeartbeats 4000000 in
theorem typed_2 (f : Bool) (d : Nat) (hd : d ≤ 100) (a : Option Addr) (cap : Nat) (l : List T) (w : World) (hin : (T.mk 2 a cap l).In w w.heap.size) (h : decide (l.length ≤ 8) = f)
    (ih : ∀ (j : Nat) (x : T), l[j]? = some x → ∀ w1 : World, x.In w1 w1.heap.size → Calls Tryz.prog 96 #[.agg #[.int .i64 x.k, .slice x.a x.l.length x.cap], .int .i64 (d : Int)] w1 fun e w' => e = .returned (.bool (x.sh d)) ∧ Kp w1 w') :
    Calls Tryz.prog 96 #[.agg #[.int .i64 2, .slice a l.length cap], .int .i64 ((d : Int) + 1)] w fun e w' => e = .returned (.bool (f && T.shL l d)) ∧ Kp w w' := by
  have hlen := T.lenLe hin
  have hd0 : ((d : Int) + 1 == 0) = false := by rw [beq_eq_false_iff_ne]; omega
  have IH := Lib.hid ih
  have HIN := Lib.hid hin
  clear ih hin
  have ht : decide ((l.length : Int) ≤ 8) = f := by rw [← h, decide_eq_decide]; omega
  clear h
  go_enter Tryz.func96, Tryz.ntmps96
  go_wp2_with fail
  go_loopw [5, 6] (fun b i wr => ∃ j : Nat, j ≤ l.length ∧ i = .int .i64 j ∧ b = .bool (f && T.shL (l.take j) d) ∧ Kp (w.alloc (.cells #[.int .i64 2, .slice a l.length cap] 27)) wr) (fun _ i _ => l.length - (intOf i).toNat)
  case atStart => exact ⟨0, Nat.zero_le _, rfl, by simp [T.shL, *], Below.refl _ _⟩
  case round =>
    obtain ⟨j, hj, rfl, rfl, hk⟩ := hrel
    obtain ⟨b0, b1, hz⟩ := box2 hk
    cases hp : (f && T.shL (l.take j) d) with
    | true =>
      by_cases hlt : j < l.length
      · obtain ⟨x, hx⟩ : ∃ x, l[j]? = some x := ⟨l[j], by simp [hlt]⟩
        obtain ⟨p0, off, rfl, hp0, q0, q1, hxin⟩ := T.atPart HIN.out hx
        have hkw := kk (ka _ _) hk
        have r0 := kc hkw q0
        have r1 := kc hkw q1
        have hih := IH.out j x hx wr (hxin.keep hkw.size hkw)
        have hsn : (f && T.shL (l.take (j + 1)) d) = x.sh d := by rw [T.shL_snoc l d j x hx, ← Bool.and_assoc, hp, Bool.true_and]
        generalize x.sh d = bx at hih hsn
        generalize x.k = xk at *
        generalize x.a = xa at *
        generalize x.l.length = xl at *
        generalize x.cap = xc at *
        have HSN := Lib.hid hsn
        have HIH := Lib.hid hih
        have HK := Lib.hid hk
        clear hih hk hxin hx hkw q0 q1 hsn hp
        go_wp2_with fail
        refine HIH.out.mono ?_
        rintro e w2 ⟨rfl, hk2⟩
        have HK2 := Lib.hid (kk HK.out hk2)
        clear hk2
        go_wp2_with fail
        go_roundw
        case rel => exact ⟨j + 1, by omega, by first | go_num | simp, by rw [HSN.out], HK2.out⟩
        case measure => simp [intOf]; omega
      · have hjj : j = l.length := by omega
        subst hjj
        have hall : (f && T.shL l d) = true := by rw [List.take_of_length_le (Nat.le_refl _)] at hp; exact hp
        have HR := Lib.hid hall
        have HK := Lib.hid (kk (ka _ _) hk)
        clear hk hp hall
        go_wp2_with fail
        go_ret
        exact ⟨by rw [HR.out] <;> rfl, HK.out⟩
    | false =>
      have hr : (f && T.shL l d) = false := by
        rw [Bool.and_eq_false_iff] at hp ⊢
        rcases hp with h | h
        · exact .inl h
        · exact .inr (T.shL_stop l d j h)
      have HR := Lib.hid hr
      have HK := Lib.hid (kk (ka _ _) hk)
      clear hk hp hr
      go_wp2_with fail
      go_ret
      exact ⟨by rw [HR.out] <;> rfl, HK.out⟩

set_option maxRecDepth 100000 in
set_option maxHeartbeats 4000000 in
theorem typed_3 (f : Bool) (d : Nat) (hd : d ≤ 100) (a : Option Addr) (cap : Nat) (l : List T) (w : World) (hin : (T.mk 3 a cap l).In w w.heap.size) (h : decide (0 < l.length ∧ l.length ≤ 8) = f)
    (ih : ∀ (j : Nat) (x : T), l[j]? = some x → ∀ w1 : World, x.In w1 w1.heap.size → Calls Tryz.prog 96 #[.agg #[.int .i64 x.k, .slice x.a x.l.length x.cap], .int .i64 (d : Int)] w1 fun e w' => e = .returned (.bool (x.sh d)) ∧ Kp w1 w') :
    Calls Tryz.prog 96 #[.agg #[.int .i64 3, .slice a l.length cap], .int .i64 ((d : Int) + 1)] w fun e w' => e = .returned (.bool (f && T.shL l d)) ∧ Kp w w' := by
  have hlen := T.lenLe hin
  have hd0 : ((d : Int) + 1 == 0) = false := by rw [beq_eq_false_iff_ne]; omega
  have IH := Lib.hid ih
  have HIN := Lib.hid hin
  clear ih hin
  have L := fun w => lies_any (l.length : Int) 1 8 w
  rw [show (decide ((1 : Int) ≤ l.length) && decide ((l.length : Int) ≤ 8)) = f from by rw [← h, Bool.eq_iff_iff]; simp; omega] at L
  have HL := Lib.hid L
  clear L
  clear h
  go_enter Tryz.func96, Tryz.ntmps96
  go_wp2_with (go_at_call 42; refine (HL.out _).mono ?_; rintro e w1 ⟨rfl, rfl⟩)
  go_loopw [5, 6] (fun b i wr => ∃ j : Nat, j ≤ l.length ∧ i = .int .i64 j ∧ b = .bool (f && T.shL (l.take j) d) ∧ Kp (w.alloc (.cells #[.int .i64 3, .slice a l.length cap] 27)) wr) (fun _ i _ => l.length - (intOf i).toNat)
  case atStart => exact ⟨0, Nat.zero_le _, rfl, by simp [T.shL, *], Below.refl _ _⟩
  case round =>
    obtain ⟨j, hj, rfl, rfl, hk⟩ := hrel
    obtain ⟨b0, b1, hz⟩ := box2 hk
    cases hp : (f && T.shL (l.take j) d) with
    | true =>
      by_cases hlt : j < l.length
      · obtain ⟨x, hx⟩ : ∃ x, l[j]? = some x := ⟨l[j], by simp [hlt]⟩
        obtain ⟨p0, off, rfl, hp0, q0, q1, hxin⟩ := T.atPart HIN.out hx
        have hkw := kk (ka _ _) hk
        have r0 := kc hkw q0
        have r1 := kc hkw q1
        have hih := IH.out j x hx wr (hxin.keep hkw.size hkw)
        have hsn : (f && T.shL (l.take (j + 1)) d) = x.sh d := by rw [T.shL_snoc l d j x hx, ← Bool.and_assoc, hp, Bool.true_and]
        generalize x.sh d = bx at hih hsn
        generalize x.k = xk at *
        generalize x.a = xa at *
        generalize x.l.length = xl at *
        generalize x.cap = xc at *
        have HSN := Lib.hid hsn
        have HIH := Lib.hid hih
        have HK := Lib.hid hk
        clear hih hk hxin hx hkw q0 q1 hsn hp
        go_wp2_with fail
        refine HIH.out.mono ?_
        rintro e w2 ⟨rfl, hk2⟩
        have HK2 := Lib.hid (kk HK.out hk2)
        clear hk2
        go_wp2_with fail
        go_roundw
        case rel => exact ⟨j + 1, by omega, by first | go_num | simp, by rw [HSN.out], HK2.out⟩
        case measure => simp [intOf]; omega
      · have hjj : j = l.length := by omega
        subst hjj
        have hall : (f && T.shL l d) = true := by rw [List.take_of_length_le (Nat.le_refl _)] at hp; exact hp
        have HR := Lib.hid hall
        have HK := Lib.hid (kk (ka _ _) hk)
        clear hk hp hall
        go_wp2_with fail
        go_ret
        exact ⟨by rw [HR.out] <;> rfl, HK.out⟩
    | false =>
      have hr : (f && T.shL l d) = false := by
        rw [Bool.and_eq_false_iff] at hp ⊢
        rcases hp with h | h
        · exact .inl h
        · exact .inr (T.shL_stop l d j h)
      have HR := Lib.hid hr
      have HK := Lib.hid (kk (ka _ _) hk)
      clear hk hp hr
      go_wp2_with fail
      go_ret
      exact ⟨by rw [HR.out] <;> rfl, HK.out⟩

set_option maxRecDepth 100000 in
set_option maxHeartbeats 4000000 in
theorem typed_k (k : Int) (f : Bool) (d : Nat) (hd : d ≤ 100) (a : Option Addr) (cap : Nat) (l : List T) (w : World) (hin : (T.mk k a cap l).In w w.heap.size) (h0 : k ≠ 0) (h1 : k ≠ 1) (h2 : k ≠ 2) (h3 : k ≠ 3) (hf : f = false)
    (ih : ∀ (j : Nat) (x : T), l[j]? = some x → ∀ w1 : World, x.In w1 w1.heap.size → Calls Tryz.prog 96 #[.agg #[.int .i64 x.k, .slice x.a x.l.length x.cap], .int .i64 (d : Int)] w1 fun e w' => e = .returned (.bool (x.sh d)) ∧ Kp w1 w') :
    Calls Tryz.prog 96 #[.agg #[.int .i64 k, .slice a l.length cap], .int .i64 ((d : Int) + 1)] w fun e w' => e = .returned (.bool (f && T.shL l d)) ∧ Kp w w' := by
  have hlen := T.lenLe hin
  have hd0 : ((d : Int) + 1 == 0) = false := by rw [beq_eq_false_iff_ne]; omega
  have IH := Lib.hid ih
  have HIN := Lib.hid hin
  clear ih hin
  have g0 : (k == 0) = false := by rw [beq_eq_false_iff_ne]; exact h0
  have g1 : (k == 1) = false := by rw [beq_eq_false_iff_ne]; exact h1
  have g2 : (k == 2) = false := by rw [beq_eq_false_iff_ne]; exact h2
  have g3 : (k == 3) = false := by rw [beq_eq_false_iff_ne]; exact h3
  subst hf
  clear h0 h1 h2 h3
  go_enter Tryz.func96, Tryz.ntmps96
  go_wp2_with fail
  go_loopw [5, 6] (fun b i wr => ∃ j : Nat, j ≤ l.length ∧ i = .int .i64 j ∧ b = .bool (false && T.shL (l.take j) d) ∧ Kp (w.alloc (.cells #[.int .i64 k, .slice a l.length cap] 27)) wr) (fun _ i _ => l.length - (intOf i).toNat)
  case atStart => exact ⟨0, Nat.zero_le _, rfl, by simp [T.shL, *], Below.refl _ _⟩
  case round =>
    obtain ⟨j, hj, rfl, rfl, hk⟩ := hrel
    obtain ⟨b0, b1, hz⟩ := box2 hk
    cases hp : (false && T.shL (l.take j) d) with
    | true =>
      by_cases hlt : j < l.length
      · obtain ⟨x, hx⟩ : ∃ x, l[j]? = some x := ⟨l[j], by simp [hlt]⟩
        obtain ⟨p0, off, rfl, hp0, q0, q1, hxin⟩ := T.atPart HIN.out hx
        have hkw := kk (ka _ _) hk
        have r0 := kc hkw q0
        have r1 := kc hkw q1
        have hih := IH.out j x hx wr (hxin.keep hkw.size hkw)
        have hsn : (false && T.shL (l.take (j + 1)) d) = x.sh d := by rw [T.shL_snoc l d j x hx, ← Bool.and_assoc, hp, Bool.true_and]
        generalize x.sh d = bx at hih hsn
        generalize x.k = xk at *
        generalize x.a = xa at *
        generalize x.l.length = xl at *
        generalize x.cap = xc at *
        have HSN := Lib.hid hsn
        have HIH := Lib.hid hih
        have HK := Lib.hid hk
        clear hih hk hxin hx hkw q0 q1 hsn hp
        go_wp2_with fail
        refine HIH.out.mono ?_
        rintro e w2 ⟨rfl, hk2⟩
        have HK2 := Lib.hid (kk HK.out hk2)
        clear hk2
        go_wp2_with fail
        go_roundw
        case rel => exact ⟨j + 1, by omega, by first | go_num | simp, by rw [HSN.out], HK2.out⟩
        case measure => simp [intOf]; omega
      · have hjj : j = l.length := by omega
        subst hjj
        have hall : (false && T.shL l d) = true := by rw [List.take_of_length_le (Nat.le_refl _)] at hp; exact hp
        have HR := Lib.hid hall
        have HK := Lib.hid (kk (ka _ _) hk)
        clear hk hp hall
        go_wp2_with fail
        go_ret
        exact ⟨by rw [HR.out] <;> rfl, HK.out⟩
    | false =>
      have hr : (false && T.shL l d) = false := by
        rw [Bool.and_eq_false_iff] at hp ⊢
        rcases hp with h | h
        · exact .inl h
        · exact .inr (T.shL_stop l d j h)
      have HR := Lib.hid hr
      have HK := Lib.hid (kk (ka _ _) hk)
      clear hk hp hr
      go_wp2_with fail
      go_ret
      exact ⟨by rw [HR.out] <;> rfl, HK.out⟩

theorem typed_ref : ∀ (N : Nat) (k : Int) (a : Option Addr) (cap : Nat) (l : List T) (d : Nat) (w : World), (T.mk k a cap l).rank ≤ N → d ≤ 100 → (T.mk k a cap l).In w w.heap.size →
    Calls Tryz.prog 96 #[.agg #[.int .i64 k, .slice a l.length cap], .int .i64 (d : Int)] w fun e w' => e = .returned (.bool ((T.mk k a cap l).sh d)) ∧ Kp w w' := by
  intro N
  induction N with
  | zero => intro k a cap l d w h; have := T.rank_pos (.mk k a cap l); omega
  | succ N ih =>
    intro k a cap l d w hN hd hin
    cases d with
    | zero => exact typed_zero k a cap l.length w
    | succ d =>
      have hih : ∀ (j : Nat) (x : T), l[j]? = some x → ∀ w1 : World, x.In w1 w1.heap.size → Calls Tryz.prog 96 #[.agg #[.int .i64 x.k, .slice x.a x.l.length x.cap], .int .i64 (d : Int)] w1 fun e w' => e = .returned (.bool (x.sh d)) ∧ Kp w1 w' := fun j x hx w1 hw => by
        have hr := T.rank_part (v := .mk k a cap l) (j := j) (x := x) hx
        cases x with
        | mk k' a' cap' l' => exact ih k' a' cap' l' d w1 (by omega) (by omega) hw
      have hsh : (T.mk k a cap l).sh (d + 1) = (fitsT k l.length && T.shL l d) := by simp [T.sh]
      rw [hsh]
      rw [show ((d + 1 : Nat) : Int) = (d : Int) + 1 from by omega]
      by_cases h0 : k = 0
      · subst h0; exact typed_0 _ d (by omega) a cap l w hin (by simp [fitsT]) hih
      by_cases h1 : k = 1
      · subst h1; exact typed_1 _ d (by omega) a cap l w hin (by simp [fitsT]) hih
      by_cases h2 : k = 2
      · subst h2; exact typed_2 _ d (by omega) a cap l w hin (by simp [fitsT]) hih
      by_cases h3 : k = 3
      · subst h3; exact typed_3 _ d (by omega) a cap l w hin (by simp [fitsT]) hih
      · have hf : fitsT k l.length = false := by simp [fitsT, h0, h1, h2, h3]
        have := typed_k k false d (by omega) a cap l w hin h0 h1 h2 h3 rfl hih
        rwa [hf]

theorem fitsT_len {k : Int} {m : Nat} (h : fitsT k m = true) : m ≤ 8 := by
  unfold fitsT at h
  repeat' split at h
  all_goals simp at h
  all_goals omega

mutual
theorem T.sh_rank : ∀ (v : T) (d : Nat), v.sh d = true → v.rank ≤ 9 ^ d
  | .mk k a cap l, d, h => by
    cases d with
    | zero => simp [T.sh] at h
    | succ d =>
      simp [T.sh] at h
      have h1 := fitsT_len h.1
      have h2 := T.shL_rank l d h.2
      have h3 : l.length * 9 ^ d ≤ 8 * 9 ^ d := Nat.mul_le_mul_right _ h1
      have h4 : 1 ≤ 9 ^ d := Nat.one_le_pow _ _ (by decide)
      have h5 : 9 ^ (d + 1) = 9 * 9 ^ d := by rw [Nat.pow_succ, Nat.mul_comm]
      simp [T.rank]
      omega
theorem T.shL_rank : ∀ (l : List T) (d : Nat), T.shL l d = true → T.rank.ranks l ≤ l.length * 9 ^ d
  | [], d, _ => by simp [T.rank.ranks]
  | x :: xs, d, h => by
    simp [T.shL] at h
    have h1 := T.sh_rank x d h.1
    have h2 := T.shL_rank xs d h.2
    simp [T.rank.ranks, Nat.add_mul]
    omega
end

mutual
theorem T.wk_sh : ∀ (v : T) (deep c : Nat), 1 ≤ deep → c ≤ 40 → ((v.wk deep c).1 = true ↔ v.sh (7 - deep) = true ∧ c + v.rank ≤ 40) ∧ ((v.wk deep c).1 = true → (v.wk deep c).2 = c + v.rank)
  | .mk k a cap l, deep, c, hd, hc => by
    have hrk : (T.mk k a cap l).rank = 1 + T.rank.ranks l := rfl
    by_cases h : 40 < c + 1 ∨ 6 < deep ∨ fitsT k l.length = false
    · simp only [T.wk, if_pos h]
      refine ⟨⟨(fun h => by cases h), ?_⟩, (fun h => by cases h)⟩
      rintro ⟨h1, h2⟩
      simp only [T.sh] at h1
      split at h1
      · cases h1
      · rcases h with h | h | h
        · omega
        · omega
        · rw [h] at h1; cases h1
    · have ih := T.wkL_sh l (deep + 1) (c + 1) (by omega) (by omega)
      have hf : fitsT k l.length = true := by
        cases hf : fitsT k l.length with
        | true => rfl
        | false => exact absurd (.inr (.inr hf)) h
      have hsh : (T.mk k a cap l).sh (7 - deep) = T.shL l (7 - (deep + 1)) := by
        simp only [T.sh, hf, Bool.true_and]
        rw [if_neg (by omega), show 7 - deep - 1 = 7 - (deep + 1) from by omega]
      simp only [T.wk, if_neg h, hsh, hrk]
      refine ⟨ih.1.trans ⟨fun h => ⟨h.1, by omega⟩, fun h => ⟨h.1, by omega⟩⟩, fun h => by rw [ih.2 h]; omega⟩
theorem T.wkL_sh : ∀ (l : List T) (deep c : Nat), 1 ≤ deep → c ≤ 40 → ((T.wkL l deep c).1 = true ↔ T.shL l (7 - deep) = true ∧ c + T.rank.ranks l ≤ 40) ∧ ((T.wkL l deep c).1 = true → (T.wkL l deep c).2 = c + T.rank.ranks l)
  | [], deep, c, hd, hc => by simp [T.wkL, T.shL, T.rank.ranks]; omega
  | x :: xs, deep, c, hd, hc => by
    have h1 := T.wk_sh x deep c hd hc
    simp only [T.wkL, T.shL, T.rank.ranks, Bool.and_eq_true]
    cases hx : x.wk deep c with
    | mk b c' =>
      rw [hx] at h1
      cases b with
      | true =>
        have hc' : c' = c + x.rank := h1.2 rfl
        have h3 := h1.1.1 rfl
        subst hc'
        have h2 := T.wkL_sh xs deep (c + x.rank) hd h3.2
        refine ⟨h2.1.trans ⟨fun h => ⟨⟨h3.1, h.1⟩, by omega⟩, fun h => ⟨h.1.2, by omega⟩⟩, fun h => by rw [h2.2 h]; omega⟩
      | false =>
        refine ⟨⟨(fun h => by cases h), (fun h => ?_)⟩, (fun h => by cases h)⟩
        exact absurd (h1.1.2 ⟨h.1.1, by omega⟩) (by simp)
end

/-- ValidType: what the specification says of a type. -/
def T.valid (v : T) : Bool := v.sh 6 && decide (v.rank ≤ 40)

theorem badT_valid (v : T) : bad v.cnt = if v.valid then 0 else 1 := by
  have h := T.wk_sh v 1 0 (by omega) (by omega)
  have hp := T.rank_pos v
  unfold T.valid T.cnt bad
  cases hw : (v.wk 1 0).1 with
  | true =>
    have h1 := h.1.1 hw
    have h2 := h.2 hw
    have h3 : v.rank ≤ 40 := by omega
    simp [h2, h1.1, h3]
    omega
  | false =>
    have h1 : ¬ (v.sh 6 = true ∧ v.rank ≤ 40) := fun hh => by
      have := h.1.2 ⟨hh.1, by omega⟩
      rw [hw] at this; cases this
    have h2 : (v.sh 6 && decide (v.rank ≤ 40)) = false := by
      cases hv : (v.sh 6 && decide (v.rank ≤ 40)) with
      | false => rfl
      | true => exact absurd (by simpa using hv) h1
    simp [h2]

set_option maxRecDepth 100000 in
set_option maxHeartbeats 4000000 in
theorem validT_ref (k : Int) (a : Option Addr) (cap : Nat) (l : List T) (w : World) (hin : (T.mk k a cap l).In w w.heap.size) :
    Calls Tryz.prog 55 #[.agg #[.int .i64 k, .slice a l.length cap]] w fun e w' => e = .returned (.bool (T.mk k a cap l).valid) ∧ Kp w w' := by
  have C := fun (w1 : World) (h : (T.mk k a cap l).In w1 w1.heap.size) => typed_ref _ k a cap l 6 w1 (Nat.le_refl _) (by omega) h
  have HIN := Lib.hid hin
  cases hs : (T.mk k a cap l).sh 6 with
  | false =>
    have hv : (T.mk k a cap l).valid = false := by simp [T.valid, hs]
    rw [hv]
    rw [hs] at C
    have HC := Lib.hid C
    clear C hin hs hv
    go_enter Tryz.func55, Tryz.ntmps55
    go_wp2_with fail
    refine (HC.out _ (HIN.out.keep (by simp) (ka _ _))).mono ?_
    rintro e w1 ⟨rfl, hk⟩
    have HK := Lib.hid (kk (ka _ _) hk)
    clear hk
    go_wp2_with fail
    go_ret
    exact ⟨rfl, HK.out⟩
  | true =>
    have hr := T.sh_rank _ _ hs
    have hv : (T.mk k a cap l).valid = decide ((T.mk k a cap l).rank ≤ 40) := by simp [T.valid, hs]
    rw [hv]
    rw [hs] at C
    have D := fun (w1 : World) (h : (T.mk k a cap l).In w1 w1.heap.size) => types_ref _ k a cap l w1 (Nat.le_refl _) (Nat.le_trans hr (by decide)) h
    have HC := Lib.hid C
    have HD := Lib.hid D
    clear C D hin hs hv hr
    generalize (T.mk k a cap l).rank = rk at *
    go_enter Tryz.func55, Tryz.ntmps55
    go_wp2_with fail
    refine (HC.out _ (HIN.out.keep (by simp) (ka _ _))).mono ?_
    rintro e w1 ⟨rfl, hk⟩
    obtain ⟨b0, b1, hz⟩ := box2 hk
    have HK := Lib.hid (kk (ka _ _) hk)
    clear hk
    go_wp2_with fail
    refine (HD.out _ (HIN.out.keep HK.out.size HK.out)).mono ?_
    rintro e w2 ⟨rfl, hk2⟩
    have HK2 := Lib.hid (kk HK.out hk2)
    clear hk2
    go_wp2_with fail
    go_ret
    have hdd : decide ((rk : Int) ≤ 40) = decide (rk ≤ 40) := by rw [decide_eq_decide]; omega
    exact ⟨by show Ending.returned (.bool (decide ((rk : Int) ≤ 40))) = _; rw [hdd], HK2.out⟩

/-- ErrArg, or OK. -/
def argI (b : Bool) : Int := if b then 0 else 1

set_option maxHeartbeats 1000000 in
theorem typeR (k : Int) (a : Option Addr) (cap : Nat) (l : List T) (w : World) (hin : (T.mk k a cap l).In w w.heap.size) :
    Calls Tryz.prog 18 #[.agg #[.int .i64 k, .slice a l.length cap]] w fun e w' => e = .returned (.int .i64 (argI (T.mk k a cap l).valid)) ∧ Kp w w' := by
  have C := fun (w1 : World) (h : Kp w w1) => validT_ref k a cap l w1 (hin.keep h.size h)
  generalize (T.mk k a cap l).valid = v at C ⊢
  have HC := Lib.hid C
  clear C hin
  cases v
  all_goals
    go_enter Tryz.func18, Tryz.ntmps18
    go_wp2_with fail
    refine (HC.out _ (ka _ _)).mono ?_
    rintro e w1 ⟨rfl, hk⟩
    have HK := Lib.hid (kk (ka _ _) hk)
    clear hk
    go_wp2_with fail
    go_ret
    exact ⟨rfl, HK.out⟩

set_option maxHeartbeats 1000000 in
theorem checkR (k n : Int) (s : ByteArray) (a : Option Addr) (cap : Nat) (l : List V) (w : World) (hin : (V.mk k n s a cap l).In w w.heap.size) :
    Calls Tryz.prog 20 #[.agg #[.int .i64 k, .int .i64 n, .string s, .slice a l.length cap]] w fun e w' => e = .returned (.int .i64 (argI (V.mk k n s a cap l).valid)) ∧ Kp w w' := by
  have C := fun (w1 : World) (h : Kp w w1) => valid_ref k n s a cap l w1 (hin.keep h.size h)
  generalize (V.mk k n s a cap l).valid = v at C ⊢
  have HC := Lib.hid C
  clear C hin
  cases v
  all_goals
    go_enter Tryz.func20, Tryz.ntmps20
    go_wp2_with fail
    refine (HC.out _ (ka _ _)).mono ?_
    rintro e w1 ⟨rfl, hk⟩
    have HK := Lib.hid (kk (ka _ _) hk)
    clear hk
    go_wp2_with fail
    go_ret
    exact ⟨rfl, HK.out⟩

/-- What Size answers: how many values, and the error. -/
def sizeI (v : V) : Int := if v.valid then v.rank else 0

set_option maxHeartbeats 2000000 in
theorem sizeR (k n : Int) (s : ByteArray) (a : Option Addr) (cap : Nat) (l : List V) (w : World) (hin : (V.mk k n s a cap l).In w w.heap.size) :
    Calls Tryz.prog 14 #[.agg #[.int .i64 k, .int .i64 n, .string s, .slice a l.length cap]] w fun e w' => e = .returned (.tuple #[.int .i64 (sizeI (V.mk k n s a cap l)), .int .i64 (argI (V.mk k n s a cap l).valid)]) ∧ Kp w w' := by
  have C := fun (w1 : World) (h : Kp w w1) => valid_ref k n s a cap l w1 (hin.keep h.size h)
  have D := fun (w1 : World) (h : Kp w w1) => fun hv : (V.mk k n s a cap l).valid = true => count_ref _ k n s a cap l w1 (Nat.le_refl _) (by simp [V.valid] at hv; omega) (hin.keep h.size h)
  unfold sizeI
  generalize (V.mk k n s a cap l).valid = v at C D ⊢
  cases v with
  | false =>
    have HC := Lib.hid C
    clear C D hin
    go_enter Tryz.func14, Tryz.ntmps14
    go_wp2_with fail
    refine (HC.out _ (ka _ _)).mono ?_
    rintro e w1 ⟨rfl, hk⟩
    have HK := Lib.hid (kk (ka _ _) hk)
    clear hk
    go_wp2_with fail
    go_ret2
    exact ⟨rfl, HK.out⟩
  | true =>
    have D2 := fun (w1 : World) (h : Kp w w1) => D w1 h rfl
    generalize (V.mk k n s a cap l).rank = rk at D2 ⊢
    have HC := Lib.hid C
    have HD := Lib.hid D2
    clear C D D2 hin
    go_enter Tryz.func14, Tryz.ntmps14
    go_wp2_with fail
    refine (HC.out _ (ka _ _)).mono ?_
    rintro e w1 ⟨rfl, hk⟩
    obtain ⟨b0, b1, b2, b3, hz⟩ := box4 hk
    have HK := Lib.hid (kk (ka _ _) hk)
    clear hk
    go_wp2_with fail
    refine (HD.out _ HK.out).mono ?_
    rintro e w2 ⟨rfl, hk2⟩
    have HK2 := Lib.hid (kk HK.out hk2)
    clear hk2
    go_wp2_with fail
    go_ret2
    exact ⟨rfl, HK2.out⟩

theorem cnt_size (v : V) : (v.cnt : Int) = sizeI v := by
  have h := V.wk_sh v 1 0 (by omega) (by omega)
  unfold sizeI V.valid V.cnt
  cases hw : (v.wk 1 0).1 with
  | true =>
    have h1 := h.1.1 hw
    have h2 := h.2 hw
    have h3 : v.rank ≤ 60 := by omega
    simp [h2, h1.1, h3]
  | false =>
    have h1 : ¬ (v.sh 6 = true ∧ v.rank ≤ 60) := fun hh => by
      have := h.1.2 ⟨hh.1, by omega⟩
      rw [hw] at this; cases this
    have h2 : (v.sh 6 && decide (v.rank ≤ 60)) = false := by
      cases hv : (v.sh 6 && decide (v.rank ≤ 60)) with
      | false => rfl
      | true => exact absurd (by simpa using hv) h1
    simp [h2]
theorem bad_arg (v : V) : bad v.cnt = argI v.valid := by rw [bad_valid]; rfl
theorem badT_arg (v : T) : bad v.cnt = argI v.valid := by rw [badT_valid]; rfl

end Go.Proofs.YtkofebafmjjljaaGreatDoor

/-
  Key OF ANY VALUE, THE PROGRAM's.
-/
namespace Go.Proofs.YtkofebafmjjljaaGreatDoor
open Go.RowKit

set_option maxRecDepth 100000 in
set_option maxHeartbeats 2000000 in
theorem writtenKey_word (n : Int) (s : ByteArray) (a : Option Addr) (cap : Nat) (l : List V) (w : World) (E : List UInt8) (hin : (V.mk 0 n s a cap l).In w w.heap.size) (hc : ¬ (V.mk 0 n s a cap l).cnt = 0) (hne : E ≠ [])
    (D : ∀ (w1 : World) (S b : Nat), Kp w w1 → w.heap.size ≤ S → PtrAt w1 b 0 0 n s (.slice a l.length cap) → b < S → Sink w1 S [] →
      Calls Tryz.prog 185 #[.agg #[.pointer (some ⟨b, 0, none⟩)], takeF S] w1 fun e w' => e = .returned (.tuple #[]) ∧ Sink w' S E ∧ Sk S w1 w') :
    Calls Tryz.prog 68 #[.agg #[.int .i64 0, .int .i64 n, .string s, .slice a l.length cap], .func (.methodOf 93 "deltaworks/value.key") #[] #[]] w fun e w' =>
      e = .returned (.tuple #[.string ⟨E.toArray⟩, .int .i64 0]) ∧ Kp w w' := by
  have C := fun w1 (h : Kp w w1) => checkV 0 n s a cap l w1 (hin.keep h.size h)
  rw [bad1 hc] at C
  have CC := Lib.hid C
  have DD := Lib.hid D
  have HNE := Lib.hid hne
  clear C D hin hc hne
  have hm := mWordKey
  go_enter Tryz.func68, Tryz.ntmps68
  go_wp2_with fail
  refine (CC.out _ (ka _ _)).mono ?_
  rintro e w1 ⟨rfl, hk⟩
  obtain ⟨b0, b1, b2, b3, hz⟩ := box4 hk
  have HK := Lib.hid (kk (ka _ _) hk)
  have HP := Lib.hid (⟨b0, b1, b2, b3⟩ : PtrAt w1 w.heap.size 0 0 n s (.slice a l.length cap))
  clear hk b0 b1 b2 b3
  go_wp2_with fail
  refine (shapeOf_any _ w.heap.size 0 0 n s (.slice a l.length cap) (HP.out.keep hz (ka _ _))).mono ?_
  rintro e w2 ⟨rfl, rfl⟩
  rw [show shapeT 0 = 147 from rfl]
  go_wp2_with fail
  refine (DD.out _ w1.heap.size w.heap.size (kk HK.out (ka _ _)) (by omega) (HP.out.keep hz (ka _ _)) hz ⟨.slice none 0 0, blockHere rfl, World.ownsRow_nil _ _ _ _⟩).mono ?_
  rintro e w3 ⟨rfl, hs3, hk3⟩
  obtain ⟨g, cap3, hc3, hcv⟩ := hs3.out HNE.out
  have HK3 := Lib.hid (HK.out.trans ((Below.alloc (Below.refl _ _) (by omega) _).trans ((hk3.below (S := w1.heap.size) (xs := []) ⟨.slice none 0 0, blockHere rfl, World.ownsRow_nil _ _ _ _⟩).mono (by omega))))
  clear hs3 hk3
  go_wp2_with fail
  go_ret2
  exact ⟨rfl, HK3.out⟩

set_option maxRecDepth 100000 in
set_option maxHeartbeats 2000000 in
theorem writtenKey_let (n : Int) (s : ByteArray) (a : Option Addr) (cap : Nat) (l : List V) (w : World) (E : List UInt8) (hin : (V.mk 1 n s a cap l).In w w.heap.size) (hc : ¬ (V.mk 1 n s a cap l).cnt = 0) (hne : E ≠ [])
    (D : ∀ (w1 : World) (S b : Nat), Kp w w1 → w.heap.size ≤ S → PtrAt w1 b 0 1 n s (.slice a l.length cap) → b < S → Sink w1 S [] →
      Calls Tryz.prog 177 #[.agg #[.pointer (some ⟨b, 0, none⟩)], takeF S] w1 fun e w' => e = .returned (.tuple #[]) ∧ Sink w' S E ∧ Sk S w1 w') :
    Calls Tryz.prog 68 #[.agg #[.int .i64 1, .int .i64 n, .string s, .slice a l.length cap], .func (.methodOf 93 "deltaworks/value.key") #[] #[]] w fun e w' =>
      e = .returned (.tuple #[.string ⟨E.toArray⟩, .int .i64 0]) ∧ Kp w w' := by
  have C := fun w1 (h : Kp w w1) => checkV 1 n s a cap l w1 (hin.keep h.size h)
  rw [bad1 hc] at C
  have CC := Lib.hid C
  have DD := Lib.hid D
  have HNE := Lib.hid hne
  clear C D hin hc hne
  have hm := mLettersKey
  go_enter Tryz.func68, Tryz.ntmps68
  go_wp2_with fail
  refine (CC.out _ (ka _ _)).mono ?_
  rintro e w1 ⟨rfl, hk⟩
  obtain ⟨b0, b1, b2, b3, hz⟩ := box4 hk
  have HK := Lib.hid (kk (ka _ _) hk)
  have HP := Lib.hid (⟨b0, b1, b2, b3⟩ : PtrAt w1 w.heap.size 0 1 n s (.slice a l.length cap))
  clear hk b0 b1 b2 b3
  go_wp2_with fail
  refine (shapeOf_any _ w.heap.size 0 1 n s (.slice a l.length cap) (HP.out.keep hz (ka _ _))).mono ?_
  rintro e w2 ⟨rfl, rfl⟩
  rw [show shapeT 1 = 145 from rfl]
  go_wp2_with fail
  refine (DD.out _ w1.heap.size w.heap.size (kk HK.out (ka _ _)) (by omega) (HP.out.keep hz (ka _ _)) hz ⟨.slice none 0 0, blockHere rfl, World.ownsRow_nil _ _ _ _⟩).mono ?_
  rintro e w3 ⟨rfl, hs3, hk3⟩
  obtain ⟨g, cap3, hc3, hcv⟩ := hs3.out HNE.out
  have HK3 := Lib.hid (HK.out.trans ((Below.alloc (Below.refl _ _) (by omega) _).trans ((hk3.below (S := w1.heap.size) (xs := []) ⟨.slice none 0 0, blockHere rfl, World.ownsRow_nil _ _ _ _⟩).mono (by omega))))
  clear hs3 hk3
  go_wp2_with fail
  go_ret2
  exact ⟨rfl, HK3.out⟩

set_option maxRecDepth 100000 in
set_option maxHeartbeats 2000000 in
theorem writtenKey_tup (n : Int) (s : ByteArray) (a : Option Addr) (cap : Nat) (l : List V) (w : World) (E : List UInt8) (hin : (V.mk 2 n s a cap l).In w w.heap.size) (hc : ¬ (V.mk 2 n s a cap l).cnt = 0) (hne : E ≠ [])
    (D : ∀ (w1 : World) (S b : Nat), Kp w w1 → w.heap.size ≤ S → PtrAt w1 b 0 2 n s (.slice a l.length cap) → b < S → Sink w1 S [] →
      Calls Tryz.prog 179 #[.agg #[.pointer (some ⟨b, 0, none⟩)], takeF S] w1 fun e w' => e = .returned (.tuple #[]) ∧ Sink w' S E ∧ Sk S w1 w') :
    Calls Tryz.prog 68 #[.agg #[.int .i64 2, .int .i64 n, .string s, .slice a l.length cap], .func (.methodOf 93 "deltaworks/value.key") #[] #[]] w fun e w' =>
      e = .returned (.tuple #[.string ⟨E.toArray⟩, .int .i64 0]) ∧ Kp w w' := by
  have C := fun w1 (h : Kp w w1) => checkV 2 n s a cap l w1 (hin.keep h.size h)
  rw [bad1 hc] at C
  have CC := Lib.hid C
  have DD := Lib.hid D
  have HNE := Lib.hid hne
  clear C D hin hc hne
  have hm := mTupleKey
  go_enter Tryz.func68, Tryz.ntmps68
  go_wp2_with fail
  refine (CC.out _ (ka _ _)).mono ?_
  rintro e w1 ⟨rfl, hk⟩
  obtain ⟨b0, b1, b2, b3, hz⟩ := box4 hk
  have HK := Lib.hid (kk (ka _ _) hk)
  have HP := Lib.hid (⟨b0, b1, b2, b3⟩ : PtrAt w1 w.heap.size 0 2 n s (.slice a l.length cap))
  clear hk b0 b1 b2 b3
  go_wp2_with fail
  refine (shapeOf_any _ w.heap.size 0 2 n s (.slice a l.length cap) (HP.out.keep hz (ka _ _))).mono ?_
  rintro e w2 ⟨rfl, rfl⟩
  rw [show shapeT 2 = 146 from rfl]
  go_wp2_with fail
  refine (DD.out _ w1.heap.size w.heap.size (kk HK.out (ka _ _)) (by omega) (HP.out.keep hz (ka _ _)) hz ⟨.slice none 0 0, blockHere rfl, World.ownsRow_nil _ _ _ _⟩).mono ?_
  rintro e w3 ⟨rfl, hs3, hk3⟩
  obtain ⟨g, cap3, hc3, hcv⟩ := hs3.out HNE.out
  have HK3 := Lib.hid (HK.out.trans ((Below.alloc (Below.refl _ _) (by omega) _).trans ((hk3.below (S := w1.heap.size) (xs := []) ⟨.slice none 0 0, blockHere rfl, World.ownsRow_nil _ _ _ _⟩).mono (by omega))))
  clear hs3 hk3
  go_wp2_with fail
  go_ret2
  exact ⟨rfl, HK3.out⟩

set_option maxRecDepth 100000 in
set_option maxHeartbeats 2000000 in
theorem writtenKey_tagg (n : Int) (s : ByteArray) (a : Option Addr) (cap : Nat) (l : List V) (w : World) (E : List UInt8) (hin : (V.mk 3 n s a cap l).In w w.heap.size) (hc : ¬ (V.mk 3 n s a cap l).cnt = 0) (hne : E ≠ [])
    (D : ∀ (w1 : World) (S b : Nat), Kp w w1 → w.heap.size ≤ S → PtrAt w1 b 0 3 n s (.slice a l.length cap) → b < S → Sink w1 S [] →
      Calls Tryz.prog 187 #[.agg #[.pointer (some ⟨b, 0, none⟩)], takeF S] w1 fun e w' => e = .returned (.tuple #[]) ∧ Sink w' S E ∧ Sk S w1 w') :
    Calls Tryz.prog 68 #[.agg #[.int .i64 3, .int .i64 n, .string s, .slice a l.length cap], .func (.methodOf 93 "deltaworks/value.key") #[] #[]] w fun e w' =>
      e = .returned (.tuple #[.string ⟨E.toArray⟩, .int .i64 0]) ∧ Kp w w' := by
  have C := fun w1 (h : Kp w w1) => checkV 3 n s a cap l w1 (hin.keep h.size h)
  rw [bad1 hc] at C
  have CC := Lib.hid C
  have DD := Lib.hid D
  have HNE := Lib.hid hne
  clear C D hin hc hne
  have hm := mTaggedKey
  go_enter Tryz.func68, Tryz.ntmps68
  go_wp2_with fail
  refine (CC.out _ (ka _ _)).mono ?_
  rintro e w1 ⟨rfl, hk⟩
  obtain ⟨b0, b1, b2, b3, hz⟩ := box4 hk
  have HK := Lib.hid (kk (ka _ _) hk)
  have HP := Lib.hid (⟨b0, b1, b2, b3⟩ : PtrAt w1 w.heap.size 0 3 n s (.slice a l.length cap))
  clear hk b0 b1 b2 b3
  go_wp2_with fail
  refine (shapeOf_any _ w.heap.size 0 3 n s (.slice a l.length cap) (HP.out.keep hz (ka _ _))).mono ?_
  rintro e w2 ⟨rfl, rfl⟩
  rw [show shapeT 3 = 149 from rfl]
  go_wp2_with fail
  refine (DD.out _ w1.heap.size w.heap.size (kk HK.out (ka _ _)) (by omega) (HP.out.keep hz (ka _ _)) hz ⟨.slice none 0 0, blockHere rfl, World.ownsRow_nil _ _ _ _⟩).mono ?_
  rintro e w3 ⟨rfl, hs3, hk3⟩
  obtain ⟨g, cap3, hc3, hcv⟩ := hs3.out HNE.out
  have HK3 := Lib.hid (HK.out.trans ((Below.alloc (Below.refl _ _) (by omega) _).trans ((hk3.below (S := w1.heap.size) (xs := []) ⟨.slice none 0 0, blockHere rfl, World.ownsRow_nil _ _ _ _⟩).mono (by omega))))
  clear hs3 hk3
  go_wp2_with fail
  go_ret2
  exact ⟨rfl, HK3.out⟩


set_option maxHeartbeats 1000000 in
theorem written_bad (k n : Int) (s : ByteArray) (a : Option Addr) (cap : Nat) (l : List V) (w : World) (f : Value) (hin : (V.mk k n s a cap l).In w w.heap.size) (hv : (V.mk k n s a cap l).valid = false) :
    Calls Tryz.prog 68 #[.agg #[.int .i64 k, .int .i64 n, .string s, .slice a l.length cap], f] w fun e w' =>
      e = .returned (.tuple #[.string ⟨#[]⟩, .int .i64 1]) ∧ Kp w w' := by
  have C := fun w1 (h : Kp w w1) => checkV k n s a cap l w1 (hin.keep h.size h)
  rw [bad_arg, hv] at C
  have CC := Lib.hid C
  clear C hin hv
  go_enter Tryz.func68, Tryz.ntmps68
  go_wp2_with fail
  refine (CC.out _ (ka _ _)).mono ?_
  rintro e w1 ⟨rfl, hk⟩
  have HK := Lib.hid (kk (ka _ _) hk)
  clear hk
  go_wp2_with fail
  go_ret2
  exact ⟨rfl, HK.out⟩

mutual
theorem V.keyB_len : ∀ (v : V) (d : Nat), v.sh d = true → v.keyB.length ≤ 110 * v.rank
  | .mk k n s a c l, d, h => by
    cases d with
    | zero => simp [V.sh] at h
    | succ d =>
    simp [V.sh] at h
    obtain ⟨hf, hl⟩ := h
    have ih := V.keyBL_len l d hl
    have ih2 := V.keyBH_len l
    simp only [V.keyB, V.rank]
    split
    · rename_i h1; subst h1
      simp [fitsB, textB] at hf
      simp; omega
    · split
      · simp; omega
      · split
        · simp; omega
        · simp [wordBytes]; omega
theorem V.keyBL_len : ∀ (l : List V) (d : Nat), V.shL l d = true → (V.keyBL l).length ≤ 110 * V.rank.ranks l
  | [], _, _ => by simp [V.keyBL]
  | x :: xs, d, h => by
    simp [V.shL] at h
    have h1 := V.keyB_len x d h.1
    have h2 := V.keyBL_len xs d h.2
    simp [V.keyBL, V.rank.ranks]; omega
theorem V.keyBH_len : ∀ (l : List V), (V.keyBH l).length ≤ (V.keyBL l).length
  | [] => by simp [V.keyBH]
  | x :: xs => by simp [V.keyBH, V.keyBL]
end
theorem V.keyB_ne (v : V) : v.keyB ≠ [] := by
  cases v
  simp only [V.keyB]
  split
  · simp
  · split
    · simp
    · split <;> simp

/-- What Key answers. -/
def keyOut (v : V) : Value := if v.valid then .tuple #[.string ⟨v.keyB.toArray⟩, .int .i64 0] else .tuple #[.string ⟨#[]⟩, .int .i64 1]

theorem writtenKeyV (k n : Int) (s : ByteArray) (a : Option Addr) (cap : Nat) (l : List V) (w : World) (hin : (V.mk k n s a cap l).In w w.heap.size) (hv : (V.mk k n s a cap l).valid = true) :
    Calls Tryz.prog 68 #[.agg #[.int .i64 k, .int .i64 n, .string s, .slice a l.length cap], .func (.methodOf 93 "deltaworks/value.key") #[] #[]] w fun e w' =>
      e = .returned (.tuple #[.string ⟨(V.mk k n s a cap l).keyB.toArray⟩, .int .i64 0]) ∧ Kp w w' := by
  have hc : ¬ (V.mk k n s a cap l).cnt = 0 := fun h => by
    have := (cnt_valid (V.mk k n s a cap l)).1 h
    rw [hv] at this; cases this
  have hsh : (V.mk k n s a cap l).sh 6 = true := by simp [V.valid] at hv; exact hv.1
  have hrk : (V.mk k n s a cap l).rank ≤ 60 := by simp [V.valid] at hv; exact hv.2
  have hlen := V.keyB_len _ 6 hsh
  have hb6 : (V.mk k n s a cap l).keyB.length ≤ 1000000000000 := by omega
  have hne := V.keyB_ne (V.mk k n s a cap l)
  have K : ∀ (w1 : World) (S b : Nat), Kp w w1 → w.heap.size ≤ S → PtrAt w1 b 0 k n s (.slice a l.length cap) → b < S → Sink w1 S [] → (V.mk k n s a cap l).In w1 S := fun w1 S b hk hS hp hb hs => hin.keep hS hk
  have hsh2 := hsh
  simp [V.sh] at hsh2
  obtain ⟨hf, hpl⟩ := hsh2
  have part : ∀ (w1 : World) (S b0 off0 : Nat), (∀ (j : Nat) (x : V), l[j]? = some x → PtrAt w1 b0 (off0 + j * 4) x.k x.n x.s (.slice x.a x.l.length x.cap) ∧ x.In w1 S) → b0 < S → Sink w1 S [] →
      ∀ (j : Nat) (x : V), l[j]? = some x → ∀ (w2 : World) (xs1 : List UInt8), Sk S w1 w2 → Sink w2 S xs1 → xs1.length + x.keyB.length ≤ 1000000000000 →
        Calls Tryz.prog 182 #[.pointer (some ⟨b0, off0 + j * 4, none⟩), takeF S] w2 fun e w' => e = .returned (.tuple #[]) ∧ Sink w' S (xs1 ++ x.keyB) ∧ Sk S w2 w' := by
    intro w1 S b0 off0 hpt hb0 hs j x hj w2 xs1 hk2 hs2 hx1
    have hbl := hk2.below hs
    exact keyBV _ x 5 w2 S b0 (off0 + j * 4) xs1 (Nat.le_refl _) (shLK_at hpl hj) ((hpt j x hj).2.keep (Nat.le_refl _) hbl) ((hpt j x hj).1.keep hb0 hbl) hb0 hs2 hx1
  by_cases k0 : k = 0
  · subst k0
    have e : (V.mk 0 n s a cap l).keyB = 1 :: wordBytes n := by simp [V.keyB]
    rw [e] at hb6 ⊢
    have hw : -2147483648 ≤ n ∧ n ≤ 2147483647 := by simp [fitsB, wordB] at hf; omega
    exact writtenKey_word n s a cap l w _ hin hc (by simp) (fun w1 S b hk hS hp hb hs => by simpa using wordKey_any w1 S b 0 [] 0 n s _ hs hp hb hw (by simp))
  by_cases k1 : k = 1
  · subst k1
    have e : (V.mk 1 n s a cap l).keyB = 2 :: s.data.toList ++ [0] := by simp [V.keyB]
    rw [e] at hb6 ⊢
    exact writtenKey_let n s a cap l w _ hin hc (by simp) (fun w1 S b hk hS hp hb hs => by simpa using lettersKey_any w1 S b 0 [] 1 n s _ hs hp hb (by simp at hb6 ⊢; omega))
  by_cases k2 : k = 2
  · subst k2
    have e : (V.mk 2 n s a cap l).keyB = 3 :: joinF V.keyB [] l ++ [0] := by simp [V.keyB, V.keyBL_join]
    rw [e] at hb6 ⊢
    refine writtenKey_tup n s a cap l w _ hin hc (by simp) (fun w1 S b hk hS hp hb hs => ?_)
    have hin1 := K w1 S b hk hS hp hb hs
    have hll := V.lenLe hin1
    by_cases hl : l = []
    · simpa using tupleKey_f V.keyB w1 S b 0 0 0 [] n s a cap l hs hb hp (fun h => absurd hl h) hll (fun j x hj => by subst hl; simp at hj) (by simp at hb6 ⊢; omega)
    · obtain ⟨b0, off0, ha, hb0, hpt⟩ := V.ptrPart hin1 hl
      simpa using tupleKey_f V.keyB w1 S b 0 b0 off0 [] n s a cap l hs hb hp (fun _ => ha) hll (part w1 S b0 off0 hpt hb0 hs) (by simp at hb6 ⊢; omega)
  by_cases k3 : k = 3
  · subst k3
    simp [fitsB, taggedB] at hf
    obtain ⟨h1, h2, -, h4⟩ := hf
    match l, h4 with
    | [x], _ =>
    have e : (V.mk 3 n s a cap [x]).keyB = 4 :: UInt8.ofNat (n + 1).toNat :: x.keyB := by simp [V.keyB, V.keyBH]
    rw [e] at hb6 ⊢
    refine writtenKey_tagg n s a cap [x] w _ hin hc (by simp) (fun w1 S b hk hS hp hb hs => ?_)
    have hin1 := K w1 S b hk hS hp hb hs
    obtain ⟨b0, off0, rfl, hb0, hpt⟩ := V.ptrPart hin1 (by simp)
    simpa using taggedKey_any w1 S b 0 b0 off0 [] n s _ cap x.keyB hs hb hp (by simp) (V.lenLe hin1) ⟨h1, h2⟩ (by simpa using part w1 S b0 off0 hpt hb0 hs 0 x (by simp)) (by simp at hb6 ⊢; omega)
  · simp [fitsB, k0, k1, k2, k3] at hf

set_option maxHeartbeats 1000000 in
/-- Key, for any value. -/
theorem keyP (k n : Int) (s : ByteArray) (a : Option Addr) (cap : Nat) (l : List V) (w : World) (hin : (V.mk k n s a cap l).In w w.heap.size) :
    Calls Tryz.prog 36 #[.agg #[.int .i64 k, .int .i64 n, .string s, .slice a l.length cap]] w fun e w' => e = .returned (keyOut (V.mk k n s a cap l)) ∧ Kp w w' := by
  have C : ∀ w1, Kp w w1 → Calls Tryz.prog 68 #[.agg #[.int .i64 k, .int .i64 n, .string s, .slice a l.length cap], .func (.methodOf 93 "deltaworks/value.key") #[] #[]] w1 fun e w' => e = .returned (keyOut (V.mk k n s a cap l)) ∧ Kp w1 w' := fun w1 h => by
    unfold keyOut
    cases hv : (V.mk k n s a cap l).valid with
    | true => simpa using writtenKeyV k n s a cap l w1 (hin.keep h.size h) hv
    | false => simpa using written_bad k n s a cap l w1 _ (hin.keep h.size h) hv
  obtain ⟨t, c, hkv⟩ : ∃ t c, keyOut (V.mk k n s a cap l) = .tuple #[.string t, .int .i64 c] := by unfold keyOut; split <;> exact ⟨_, _, rfl⟩
  rw [hkv] at C ⊢
  have CC := Lib.hid C
  clear C hin hkv
  go_enter Tryz.func36, Tryz.ntmps36
  go_wp2_with fail
  refine (CC.out _ (ka _ _)).mono ?_
  rintro e w1 ⟨rfl, hk⟩
  have HK := Lib.hid (kk (ka _ _) hk)
  clear hk
  go_wp2_with fail
  go_ret2
  exact ⟨rfl, HK.out⟩

end Go.Proofs.YtkofebafmjjljaaGreatDoor

/-
  PLAIN MATHEMATICS: THE ORDER OF VALUES IS ONE.
-/
namespace Go.Proofs.YtkofebafmjjljaaGreatDoor

theorem cmpQ_range (a b : Int) : cmpI a b = -1 ∨ cmpI a b = 0 ∨ cmpI a b = 1 := by unfold cmpI; split; simp; split <;> simp
theorem cmpQ_neg (a b : Int) : cmpI b a = -cmpI a b := by
  unfold cmpI
  by_cases h : a < b
  · simp [h, show ¬ b < a from by omega]
  · by_cases h' : b < a <;> simp [h, h']
theorem cmpQ_zero (a b : Int) : cmpI a b = 0 ↔ a = b := by
  unfold cmpI
  by_cases h : a < b
  · simp [h]; omega
  · by_cases h' : b < a
    · simp [h, h']; omega
    · simp [h, h']; omega
theorem cmpQ_le (a b : Int) : cmpI a b ≤ 0 ↔ a ≤ b := by
  unfold cmpI
  by_cases h : a < b
  · simp [h]; omega
  · by_cases h' : b < a
    · simp [h, h']
    · simp [h, h']; omega
theorem cmpQ_trans {a b c : Int} (h : cmpI a b ≤ 0) (h' : cmpI b c ≤ 0) : cmpI a c ≤ 0 := by
  rw [cmpQ_le] at *; omega

abbrev cb (a b : List UInt8) : Int := Lib.compareBytes a b
theorem cb_range : ∀ (a b : List UInt8), cb a b = -1 ∨ cb a b = 0 ∨ cb a b = 1
  | [], [] => by simp [Lib.compareBytes]
  | [], _ :: _ => by simp [Lib.compareBytes]
  | _ :: _, [] => by simp [Lib.compareBytes]
  | x :: a, y :: b => by
    unfold cb Lib.compareBytes
    split
    · simp
    · split
      · simp
      · exact cb_range a b
theorem cb_cons (x y : UInt8) (a b : List UInt8) : cb (x :: a) (y :: b) = if x < y then -1 else if y < x then 1 else cb a b := rfl
theorem u8_lt (x y : UInt8) : x < y ↔ x.toNat < y.toNat := UInt8.lt_iff_toNat_lt
theorem cb_neg : ∀ (a b : List UInt8), cb b a = -cb a b
  | [], [] => by simp [Lib.compareBytes]
  | [], _ :: _ => by simp [Lib.compareBytes]
  | _ :: _, [] => by simp [Lib.compareBytes]
  | x :: a, y :: b => by
    rw [cb_cons, cb_cons]
    have ih := cb_neg a b
    by_cases h : x < y
    · have : ¬ y < x := by rw [u8_lt] at *; omega
      simp [h, this]
    · by_cases h' : y < x
      · simp [h, h']
      · simp only [h, h', if_false]; exact ih
theorem cb_zero : ∀ (a b : List UInt8), cb a b = 0 ↔ a = b
  | [], [] => by simp [Lib.compareBytes]
  | [], _ :: _ => by simp [Lib.compareBytes]
  | _ :: _, [] => by simp [Lib.compareBytes]
  | x :: a, y :: b => by
    rw [cb_cons]
    have ih := cb_zero a b
    by_cases h : x < y
    · have : x ≠ y := by rintro rfl; rw [u8_lt] at h; omega
      simp [h, this]
    · by_cases h' : y < x
      · have : x ≠ y := by rintro rfl; rw [u8_lt] at h'; omega
        simp [h, h', this]
      · have : x = y := by rw [u8_lt] at *; exact UInt8.toNat_inj.1 (by omega)
        subst this
        simp only [h, if_false, List.cons.injEq, true_and]; exact ih
theorem cb_trans : ∀ (a b c : List UInt8), cb a b ≤ 0 → cb b c ≤ 0 → cb a c ≤ 0
  | [], _, [], _, _ => by simp [Lib.compareBytes]
  | [], _, _ :: _, _, _ => by simp [Lib.compareBytes]
  | _ :: _, [], _, h, _ => by simp [Lib.compareBytes] at h
  | _ :: _, _ :: _, [], _, h => by simp [Lib.compareBytes] at h
  | x :: a, y :: b, z :: c, h, h' => by
    rw [cb_cons] at *
    have ih := cb_trans a b c
    simp only [u8_lt] at *
    by_cases h1 : x.toNat < y.toNat
    · by_cases h2 : y.toNat < z.toNat
      · simp [show x.toNat < z.toNat from by omega]
      · by_cases h3 : z.toNat < y.toNat
        · simp [h2, h3] at h'
        · simp [show x.toNat < z.toNat from by omega]
    · by_cases h1' : y.toNat < x.toNat
      · simp [h1, h1'] at h
      · by_cases h2 : y.toNat < z.toNat
        · simp [show x.toNat < z.toNat from by omega]
        · by_cases h3 : z.toNat < y.toNat
          · simp [h2, h3] at h'
          · simp only [h1, h1', h2, h3, if_false] at h h'
            simp only [show ¬ x.toNat < z.toNat from by omega, show ¬ z.toNat < x.toNat from by omega, if_false]
            exact ih h h'

/-- The first that is not 0. -/
def lex (a b : Int) : Int := if a ≠ 0 then a else b
theorem lex_range {a b : Int} (h : a = -1 ∨ a = 0 ∨ a = 1) (h' : b = -1 ∨ b = 0 ∨ b = 1) : lex a b = -1 ∨ lex a b = 0 ∨ lex a b = 1 := by
  unfold lex; split <;> assumption
theorem lex_neg {a b a' b' : Int} (h : a' = -a) (h' : b' = -b) : lex a' b' = -lex a b := by
  unfold lex; subst h; subst h'
  by_cases h : a = 0
  · subst h; simp
  · have : -a ≠ 0 := by omega
    simp [h]
theorem lex_zero {a b : Int} : lex a b = 0 ↔ a = 0 ∧ b = 0 := by
  unfold lex
  by_cases h : a = 0 <;> simp [h]
/-- Of three in a round (a: x against y, b: y against z, c: z against x): two that don't go up make the third not go down. -/
def Tri (a b c : Int) : Prop := (a ≤ 0 → b ≤ 0 → 0 ≤ c) ∧ (c ≤ 0 → a ≤ 0 → 0 ≤ b) ∧ (b ≤ 0 → c ≤ 0 → 0 ≤ a)
theorem lex_tri {a b c a' b' c' : Int} (h : Tri a b c) (h' : Tri a' b' c') : Tri (lex a a') (lex b b') (lex c c') := by
  obtain ⟨h1, h2, h3⟩ := h
  obtain ⟨k1, k2, k3⟩ := h'
  unfold lex Tri
  by_cases ea : a = 0 <;> by_cases eb : b = 0 <;> by_cases ec : c = 0 <;> simp only [ea, eb, ec, ne_eq, not_true_eq_false, not_false_eq_true, if_true, if_false] <;> refine ⟨?_, ?_, ?_⟩ <;> intros <;> omega
theorem cmpQ_tri (x y z : Int) : Tri (cmpI x y) (cmpI y z) (cmpI z x) := by
  have e1 := cmpQ_neg x z
  have e2 := cmpQ_neg y z
  have e3 := cmpQ_neg x y
  refine ⟨fun h h' => ?_, fun h h' => ?_, fun h h' => ?_⟩
  · have := cmpQ_trans h h'; omega
  · have := cmpQ_trans h h'; omega
  · have := cmpQ_trans h h'; omega
theorem cb_tri (x y z : List UInt8) : Tri (cb x y) (cb y z) (cb z x) := by
  have e1 := cb_neg x z
  have e2 := cb_neg y z
  have e3 := cb_neg x y
  refine ⟨fun h h' => ?_, fun h h' => ?_, fun h h' => ?_⟩
  · have := cb_trans _ _ _ h h'; omega
  · have := cb_trans _ _ _ h h'; omega
  · have := cb_trans _ _ _ h h'; omega

/-- What a node alone says. -/
def own3 (x y : V) : Int := lex (cmpI x.k y.k) (lex (cmpI x.n y.n) (cb x.s.data.toList y.s.data.toList))
theorem ord_lex (x y : V) : x.ord y = lex (own3 x y) (V.ordL x.l y.l) := by
  cases x; cases y
  rw [V.ord]
  rfl
theorem ordL_lex (x y : V) (xs ys : List V) : V.ordL (x :: xs) (y :: ys) = lex (x.ord y) (V.ordL xs ys) := by
  simp only [V.ordL, lex]
theorem own3_range (x y : V) : own3 x y = -1 ∨ own3 x y = 0 ∨ own3 x y = 1 := lex_range (cmpQ_range _ _) (lex_range (cmpQ_range _ _) (cb_range _ _))
theorem own3_neg (x y : V) : own3 y x = -own3 x y := lex_neg (cmpQ_neg _ _) (lex_neg (cmpQ_neg _ _) (cb_neg _ _))
theorem own3_tri (x y z : V) : Tri (own3 x y) (own3 y z) (own3 z x) := lex_tri (cmpQ_tri _ _ _) (lex_tri (cmpQ_tri _ _ _) (cb_tri _ _ _))

mutual
theorem ord_range : ∀ (x y : V), x.ord y = -1 ∨ x.ord y = 0 ∨ x.ord y = 1
  | .mk k n s a c l, y => by rw [ord_lex]; exact lex_range (own3_range _ _) (ordL_range l y.l)
theorem ordL_range : ∀ (l m : List V), V.ordL l m = -1 ∨ V.ordL l m = 0 ∨ V.ordL l m = 1
  | [], [] => by simp [V.ordL]
  | [], _ :: _ => by simp [V.ordL]
  | _ :: _, [] => by simp [V.ordL]
  | x :: xs, y :: ys => by rw [ordL_lex]; exact lex_range (ord_range x y) (ordL_range xs ys)
end
mutual
theorem ord_neg : ∀ (x y : V), y.ord x = -x.ord y
  | .mk k n s a c l, y => by rw [ord_lex, ord_lex]; exact lex_neg (own3_neg _ _) (ordL_neg l y.l)
theorem ordL_neg : ∀ (l m : List V), V.ordL m l = -V.ordL l m
  | [], [] => by simp [V.ordL]
  | [], _ :: _ => by simp [V.ordL]
  | _ :: _, [] => by simp [V.ordL]
  | x :: xs, y :: ys => by rw [ordL_lex, ordL_lex]; exact lex_neg (ord_neg x y) (ordL_neg xs ys)
end
mutual
theorem ord_tri : ∀ (x y z : V), Tri (x.ord y) (y.ord z) (z.ord x)
  | .mk k n s a c l, y, z => by
    rw [ord_lex, ord_lex, ord_lex]
    exact lex_tri (own3_tri _ _ _) (ordL_tri l y.l z.l)
theorem ordL_tri : ∀ (l m q : List V), Tri (V.ordL l m) (V.ordL m q) (V.ordL q l)
  | [], [], [] => by simp [V.ordL, Tri]
  | [], [], _ :: _ => by simp [V.ordL, Tri]
  | [], _ :: _, [] => by simp [V.ordL, Tri]
  | [], y :: ys, z :: zs => by simp [V.ordL, Tri]
  | _ :: _, [], [] => by simp [V.ordL, Tri]
  | _ :: _, [], _ :: _ => by simp [V.ordL, Tri]
  | _ :: _, _ :: _, [] => by simp [V.ordL, Tri]
  | x :: xs, y :: ys, z :: zs => by
    rw [ordL_lex, ordL_lex, ordL_lex]
    exact lex_tri (ord_tri x y z) (ordL_tri xs ys zs)
end
theorem ord_trans (x y z : V) (h : x.ord y ≤ 0) (h' : y.ord z ≤ 0) : x.ord z ≤ 0 := by
  have := (ord_tri x y z).1 h h'
  have := ord_neg x z
  omega

mutual
theorem ord_same : ∀ (x y : V), x.ord y = 0 ↔ x.same y = true
  | .mk k n s a c l, .mk k' n' s' a' c' l' => by
    rw [ord_lex, lex_zero]
    simp only [own3, lex_zero, cmpQ_zero, cb_zero, V.k, V.n, V.s, V.l, V.same, Bool.and_eq_true, decide_eq_true_eq, ordL_same l l']
    rw [and_assoc, and_assoc]
    have : s.data.toList = s'.data.toList ↔ s.toList = s'.toList := by
      rw [ByteArray.toList_eq, ByteArray.toList_eq]
    rw [this]
theorem ordL_same : ∀ (l m : List V), V.ordL l m = 0 ↔ V.sameL l m = true
  | [], [] => by simp [V.ordL, V.sameL]
  | [], _ :: _ => by simp [V.ordL, V.sameL]
  | _ :: _, [] => by simp [V.ordL, V.sameL]
  | x :: xs, y :: ys => by
    rw [ordL_lex, lex_zero, ord_same x y, ordL_same xs ys]
    simp [V.sameL]
end

end Go.Proofs.YtkofebafmjjljaaGreatDoor

/-
  PLAIN MATHEMATICS: KEYS ARE IN THE ORDER OF VALUES, AND NONE IS ANOTHER's BEGINNING.
-/
namespace Go.Proofs.YtkofebafmjjljaaGreatDoor
open Go.RowKit

theorem lex_assoc (a b c : Int) : lex (lex a b) c = lex a (lex b c) := by
  unfold lex
  by_cases h : a = 0 <;> simp [h]
theorem lex_zero_l (b : Int) : lex 0 b = b := by simp [lex]
theorem lex_zero_r (a : Int) : lex a 0 = a := by
  unfold lex
  by_cases h : a = 0 <;> simp [h]
theorem cb_same (x : UInt8) (a b : List UInt8) : cb (x :: a) (x :: b) = cb a b := by
  rw [cb_cons]
  have : ¬ x < x := by rw [u8_lt]; omega
  simp [this]
theorem cb_byte (x y : UInt8) (a b : List UInt8) : cb (x :: a) (y :: b) = lex (cmpI x.toNat y.toNat) (cb a b) := by
  rw [cb_cons]
  simp only [u8_lt]
  unfold lex cmpI
  by_cases h : x.toNat < y.toNat
  · have h' : (x.toNat : Int) < (y.toNat : Int) := by omega
    simp [h, h']
  · have h' : ¬ (x.toNat : Int) < (y.toNat : Int) := by omega
    by_cases g : y.toNat < x.toNat
    · have g' : (y.toNat : Int) < (x.toNat : Int) := by omega
      simp [h, h', g, g']
    · have g' : ¬ (y.toNat : Int) < (x.toNat : Int) := by omega
      simp [h, h', g, g']

/-- A number of 32 bits, byte by byte. -/
theorem word_cmp (n m : Int) (r r' : List UInt8) (hn : -2147483648 ≤ n ∧ n ≤ 2147483647) (hm : -2147483648 ≤ m ∧ m ≤ 2147483647) : cb (wordBytes n ++ r) (wordBytes m ++ r') = lex (cmpI n m) (cb r r') := by
  simp only [wordBytes, List.cons_append, List.nil_append, cb_byte, ← lex_assoc]
  congr 1
  simp only [← byteAt_val]
  generalize hu : n + 2147483648 = u
  generalize hv : m + 2147483648 = v
  have h1 : cmpI n m = cmpI u v := by unfold cmpI; rw [← hu, ← hv]; congr 1 <;> simp
  rw [h1]
  have hu0 : 0 ≤ u ∧ u < 4294967296 := by omega
  have hv0 : 0 ≤ v ∧ v < 4294967296 := by omega
  clear hu hv h1 hn hm
  simp only [Nat.mul_zero, Nat.sub_zero, Nat.mul_one, show 24 - 8 = 16 from rfl, show 24 - 8 * 2 = 8 from rfl, show 24 - 8 * 3 = 0 from rfl, Int.pow_zero, Int.ediv_one, show (2 : Int) ^ 24 = 16777216 from rfl, show (2 : Int) ^ 16 = 65536 from rfl, show (2 : Int) ^ 8 = 256 from rfl]
  unfold lex cmpI
  by_cases e0 : u / 16777216 % 256 = v / 16777216 % 256
  · by_cases e1 : u / 65536 % 256 = v / 65536 % 256
    · by_cases e2 : u / 256 % 256 = v / 256 % 256
      · simp only [e0, e1, e2, Int.lt_irrefl, if_false, ne_eq, not_true_eq_false]
        by_cases h : u < v
        · have : u % 256 < v % 256 := by omega
          simp [h, this]
        · by_cases h' : v < u
          · have g1 : ¬ u % 256 < v % 256 := by omega
            have g2 : v % 256 < u % 256 := by omega
            simp [h, h', g1, g2]
          · have g1 : ¬ u % 256 < v % 256 := by omega
            have g2 : ¬ v % 256 < u % 256 := by omega
            simp [h, h', g1, g2]
      · simp only [e0, e1, Int.lt_irrefl, if_false, ne_eq, not_true_eq_false]
        by_cases h : u / 256 % 256 < v / 256 % 256
        · have : u < v := by omega
          simp [h, this]
        · have h2 : v / 256 % 256 < u / 256 % 256 := by omega
          have g1 : ¬ u < v := by omega
          have g2 : v < u := by omega
          simp [h, h2, g1, g2]
    · simp only [e0, Int.lt_irrefl, if_false, ne_eq, not_true_eq_false]
      by_cases h : u / 65536 % 256 < v / 65536 % 256
      · have : u < v := by omega
        simp [h, this]
      · have h2 : v / 65536 % 256 < u / 65536 % 256 := by omega
        have g1 : ¬ u < v := by omega
        have g2 : v < u := by omega
        simp [h, h2, g1, g2]
  · by_cases h : u / 16777216 % 256 < v / 16777216 % 256
    · have : u < v := by omega
      simp [h, this]
    · have h2 : v / 16777216 % 256 < u / 16777216 % 256 := by omega
      have g1 : ¬ u < v := by omega
      have g2 : v < u := by omega
      simp [h, h2, g1, g2]

/-- A text of bytes that are not 0, and its end. -/
theorem text_cmp : ∀ (s t : List UInt8) (r r' : List UInt8), (∀ c ∈ s, 0 < c.toNat) → (∀ c ∈ t, 0 < c.toNat) → cb (s ++ 0 :: r) (t ++ 0 :: r') = lex (cb s t) (cb r r')
  | [], [], r, r', _, _ => by simp [cb_same, lex, Lib.compareBytes]
  | [], c :: t, r, r', _, h => by
    have h0 := h c (by simp)
    have : cmpI ((0 : UInt8).toNat) c.toNat = -1 := by unfold cmpI; simp; omega
    rw [List.nil_append, List.cons_append, cb_byte, this]
    simp [lex, Lib.compareBytes]
  | c :: s, [], r, r', h, _ => by
    have h0 := h c (by simp)
    have : cmpI c.toNat ((0 : UInt8).toNat) = 1 := by unfold cmpI; simp; omega
    rw [List.nil_append, List.cons_append, cb_byte, this]
    simp [lex, Lib.compareBytes]
  | c :: s, e :: t, r, r', h, h' => by
    rw [List.cons_append, List.cons_append, cb_byte, cb_byte, text_cmp s t r r' (fun x hx => h x (by simp [hx])) (fun x hx => h' x (by simp [hx])), lex_assoc]

theorem chars_pos {s : ByteArray} (h : charsB s = true) : ∀ c ∈ s.data.toList, 0 < c.toNat := by
  intro c hc
  unfold charsB at h
  have := List.all_eq_true.1 h c hc
  simp [byteB] at this
  omega

theorem keyB_head (v : V) (d : Nat) (h : v.sh d = true) : ∃ b t, v.keyB = b :: t ∧ (b.toNat : Int) = v.k + 1 ∧ 0 ≤ v.k ∧ v.k ≤ 3 := by
  cases v with
  | mk k n s a c l =>
  cases d with
  | zero => simp [V.sh] at h
  | succ d =>
  simp [V.sh] at h
  obtain ⟨hf, -⟩ := h
  by_cases k1 : k = 1
  · subst k1; exact ⟨2, _, by simp [V.keyB]; rfl, by simp [V.k], by simp [V.k], by simp [V.k]⟩
  by_cases k2 : k = 2
  · subst k2; exact ⟨3, _, by simp [V.keyB]; rfl, by simp [V.k], by simp [V.k], by simp [V.k]⟩
  by_cases k3 : k = 3
  · subst k3; exact ⟨4, _, by simp [V.keyB]; rfl, by simp [V.k], by simp [V.k], by simp [V.k]⟩
  · by_cases k0 : k = 0
    · subst k0; exact ⟨1, _, by simp [V.keyB]; rfl, by simp [V.k], by simp [V.k], by simp [V.k]⟩
    · simp [fitsB, k0, k1, k2, k3] at hf

mutual
theorem key_cmp : ∀ (x y : V) (d d' : Nat), x.sh d = true → y.sh d' = true → ∀ (r r' : List UInt8), cb (x.keyB ++ r) (y.keyB ++ r') = lex (x.ord y) (cb r r')
  | .mk k n s a c l, .mk k' n' s' a' c' l', d, d', hx, hy, r, r' => by
    by_cases hk : k = k'
    · subst hk
      cases d with
      | zero => simp [V.sh] at hx
      | succ d =>
      cases d' with
      | zero => simp [V.sh] at hy
      | succ d' =>
      simp [V.sh] at hx hy
      obtain ⟨hf, hl⟩ := hx
      obtain ⟨hf', hl'⟩ := hy
      have hkk : cmpI k k = 0 := by rw [cmpQ_zero]
      rw [ord_lex, own3]
      simp only [V.k, V.n, V.s, V.l, hkk, lex_zero_l]
      by_cases k0 : k = 0
      · subst k0
        simp [fitsB, wordB] at hf hf'
        obtain ⟨h1, h2, h3, h4⟩ := hf
        obtain ⟨g1, g2, g3, g4⟩ := hf'
        subst h4 g4
        have es : s.data.toList = s'.data.toList := by rw [← ByteArray.toList_eq, ← ByteArray.toList_eq, h3, g3]
        have : cb s.data.toList s'.data.toList = 0 := by rw [cb_zero]; exact es
        simp only [V.keyB, V.ordL, this, lex_zero_r, show ¬ (0 : Int) = 1 by decide, show ¬ (0 : Int) = 2 by decide, show ¬ (0 : Int) = 3 by decide, if_false, List.cons_append, cb_same]
        exact word_cmp n n' r r' ⟨h1, h2⟩ ⟨g1, g2⟩
      by_cases k1 : k = 1
      · subst k1
        simp [fitsB, textB] at hf hf'
        obtain ⟨h1, h2, h3, h4⟩ := hf
        obtain ⟨g1, g2, g3, g4⟩ := hf'
        subst h1 g1 h2 g2
        have : cmpI 0 0 = 0 := by rw [cmpQ_zero]
        simp only [V.keyB, V.ordL, this, lex_zero_r, lex_zero_l, if_true, List.cons_append, List.append_assoc, cb_same, List.nil_append]
        exact text_cmp _ _ r r' (chars_pos h4) (chars_pos g4)
      by_cases k2 : k = 2
      · subst k2
        simp [fitsB, tupleB] at hf hf'
        obtain ⟨h1, h3, -⟩ := hf
        obtain ⟨g1, g3, -⟩ := hf'
        subst h1 g1
        have es : s.data.toList = s'.data.toList := by rw [← ByteArray.toList_eq, ← ByteArray.toList_eq, h3, g3]
        have e1 : cb s.data.toList s'.data.toList = 0 := by rw [cb_zero]; exact es
        have e2 : cmpI 0 0 = 0 := by rw [cmpQ_zero]
        simp only [V.keyB, e1, e2, lex_zero_l, show ¬ (2 : Int) = 1 by decide, if_false, if_true, List.cons_append, List.append_assoc, cb_same, List.nil_append]
        exact keyL_cmp l l' d d' hl hl' r r'
      by_cases k3 : k = 3
      · subst k3
        simp [fitsB, taggedB] at hf hf'
        obtain ⟨h1, h2, h3, h4⟩ := hf
        obtain ⟨g1, g2, g3, g4⟩ := hf'
        have es : s.data.toList = s'.data.toList := by rw [← ByteArray.toList_eq, ← ByteArray.toList_eq, h3, g3]
        have e1 : cb s.data.toList s'.data.toList = 0 := by rw [cb_zero]; exact es
        have e3 := keyH_cmp l l' d d' h4 g4 hl hl' r r'
        simp only [V.keyB, e1, lex_zero_r, show ¬ (3 : Int) = 1 by decide, show ¬ (3 : Int) = 2 by decide, if_false, if_true, List.cons_append, cb_same]
        rw [cb_byte, e3, ← u8_of (by omega), ← u8_of (by omega), lex_assoc]
        congr 1
        unfold cmpI
        congr 1 <;> simp
      · simp [fitsB, k0, k1, k2, k3] at hf
    · obtain ⟨b, t, e, hb, h0, h3⟩ := keyB_head _ _ hx
      obtain ⟨b', t', e', hb', h0', h3'⟩ := keyB_head _ _ hy
      rw [e, e', List.cons_append, List.cons_append, cb_byte, hb, hb', ord_lex, own3]
      simp only [V.k] at *
      have hc : cmpI (k + 1) (k' + 1) = cmpI k k' := by unfold cmpI; congr 1 <;> simp
      have hne : cmpI k k' ≠ 0 := by rw [ne_eq, cmpQ_zero]; exact hk
      rw [hc]
      unfold lex
      simp [hne]
theorem keyL_cmp : ∀ (l m : List V) (d d' : Nat), V.shL l d = true → V.shL m d' = true → ∀ (r r' : List UInt8), cb (V.keyBL l ++ 0 :: r) (V.keyBL m ++ 0 :: r') = lex (V.ordL l m) (cb r r')
  | [], [], _, _, _, _, r, r' => by simp [V.keyBL, V.ordL, lex_zero_l, cb_same]
  | [], y :: ys, d, d', _, h, r, r' => by
    simp [V.shL] at h
    obtain ⟨b, t, e, hb, h0, h3⟩ := keyB_head _ _ h.1
    have hc : cmpI ((0 : UInt8).toNat) b.toNat = -1 := by unfold cmpI; simp; omega
    rw [V.keyBL, V.keyBL, e, List.nil_append, List.cons_append, List.cons_append, cb_byte, hc]
    simp [V.ordL, lex]
  | x :: xs, [], d, d', h, _, r, r' => by
    simp [V.shL] at h
    obtain ⟨b, t, e, hb, h0, h3⟩ := keyB_head _ _ h.1
    have hc : cmpI b.toNat ((0 : UInt8).toNat) = 1 := by unfold cmpI; simp; omega
    rw [V.keyBL, V.keyBL, e, List.nil_append, List.cons_append, List.cons_append, cb_byte, hc]
    simp [V.ordL, lex]
  | x :: xs, y :: ys, d, d', h, h', r, r' => by
    simp [V.shL] at h h'
    rw [V.keyBL, V.keyBL, List.append_assoc, List.append_assoc, key_cmp x y d d' h.1 h'.1, keyL_cmp xs ys d d' h.2 h'.2, ordL_lex, lex_assoc]
theorem keyH_cmp : ∀ (l m : List V) (d d' : Nat), l.length = 1 → m.length = 1 → V.shL l d = true → V.shL m d' = true → ∀ (r r' : List UInt8), cb (V.keyBH l ++ r) (V.keyBH m ++ r') = lex (V.ordL l m) (cb r r')
  | [x], [y], d, d', _, _, h, h', r, r' => by
    simp [V.shL] at h h'
    rw [V.keyBH, V.keyBH, key_cmp x y d d' h h', ordL_lex, show V.ordL [] [] = 0 from by simp [V.ordL], lex_zero_r]
  | [], _, _, _, h, _, _, _, _, _ => by simp at h
  | _ :: _ :: _, _, _, _, h, _, _, _, _, _ => by simp at h
  | _, [], _, _, _, h, _, _, _, _ => by simp at h
  | _, _ :: _ :: _, _, _, _, h, _, _, _, _ => by simp at h
end

end Go.Proofs.YtkofebafmjjljaaGreatDoor
