/-
  Proved: the statement ValueChecks (value.Type, Check, Is, Size and Least answer as the specification's do, and the chapter's examples hold, for every value and type), as its tied card says it, with no condition beyond the card's own.
  Part 1 of 1.
-/
import Derived.Test.YtbiljalhabnhlaaGreatDoorBa07
import Derived.Test.YtbiljalhabnhlaaGreatDoorBa10
import Derived.Test.YtbiljalhabnhlaaGreatDoorBa08
import Derived.Lib.LaidIn
import Derived.Deep.DeepWitnessRowRef
/-
  ValueChecks: the statement's function, at any value and any type that lie in memory.
-/
namespace Go.Proofs.YtbiljalhabnhlaaGreatDoor
open Go.RowKit

theorem keep8 {w w' : World} {b c0 : Nat} {v0 v1 v2 v3 v4 v5 : Value} (hk : Kp w w') (h : w.cell? ⟨b, 0, none⟩ = some v0 ∧ w.cell? ⟨b, 1, none⟩ = some v1 ∧ w.cell? ⟨b, 2, none⟩ = some v2 ∧ w.cell? ⟨b, 3, none⟩ = some v3 ∧ w.cell? ⟨c0, 0, none⟩ = some v4 ∧ w.cell? ⟨c0, 1, none⟩ = some v5) :
    w'.cell? ⟨b, 0, none⟩ = some v0 ∧ w'.cell? ⟨b, 1, none⟩ = some v1 ∧ w'.cell? ⟨b, 2, none⟩ = some v2 ∧ w'.cell? ⟨b, 3, none⟩ = some v3 ∧ w'.cell? ⟨c0, 0, none⟩ = some v4 ∧ w'.cell? ⟨c0, 1, none⟩ = some v5 :=
  ⟨kc hk h.1, kc hk h.2.1, kc hk h.2.2.1, kc hk h.2.2.2.1, kc hk h.2.2.2.2.1, kc hk h.2.2.2.2.2⟩

set_option maxRecDepth 100000 in
set_option maxHeartbeats 4000000 in
theorem checks_any (x : V) (t : T) (w : World) (hx : x.In w w.heap.size) (ht : t.In w w.heap.size) (tb : Tb w w.heap.size) :
    Calls Tryz.prog 3 #[x.val, t.val] w fun e w' => e = .returned (.bool true) ∧ Kp w w' := by
  cases x with
  | mk k n s a cap l =>
  cases t with
  | mk tk ta tcap tl =>
  rw [V.val_mk, T.val_mk]
  have C1 := fun (w1 : World) (h : Kp w w1) => sizeV k n s a cap l w1 (hx.keep h.size h)
  have C2 := fun (w1 : World) (h : Kp w w1) => sizeR k n s a cap l w1 (hx.keep h.size h)
  have C3 := fun (w1 : World) (h : Kp w w1) => leastTopP tk ta tcap tl w1 (ht.keep h.size h)
  have C4 := fun (w1 : World) (h : Kp w w1) => leastTopR tk ta tcap tl w1 (ht.keep h.size h)
  have C5 := fun (w1 : World) (h : Kp w w1) => typeV tk ta tcap tl w1 (ht.keep h.size h)
  have C6 := fun (w1 : World) (h : Kp w w1) => typeR tk ta tcap tl w1 (ht.keep h.size h)
  have C7 := fun (w1 : World) (h : Kp w w1) => checkV k n s a cap l w1 (hx.keep h.size h)
  have C8 := fun (w1 : World) (h : Kp w w1) => checkR k n s a cap l w1 (hx.keep h.size h)
  have C9 := fun (w1 : World) (h : Kp w w1) => isP k n s a cap l tk ta tcap tl w1 (hx.keep h.size h) (ht.keep h.size h)
  have C10 := fun (w1 : World) (h : Kp w w1) => isR k n s a cap l tk ta tcap tl w1 (hx.keep h.size h) (ht.keep h.size h)
  have E := fun w1 (h : Kp w w1) => valued_any w1 (tb.keep h h.size)
  rw [cnt_size, bad_arg] at C1
  rw [badT_arg] at C5
  rw [bad_arg] at C7
  generalize sizeI (V.mk k n s a cap l) = z at C1 C2
  generalize argI (V.mk k n s a cap l).valid = c at C1 C2 C7 C8
  generalize argI (T.mk tk ta tcap tl).valid = d at C3 C4 C5 C6
  generalize isV (V.mk k n s a cap l) (T.mk tk ta tcap tl) = i at C9 C10
  generalize lstV (T.mk tk ta tcap tl) = y at C3 C4
  have HC1 := Lib.hid C1
  have HC2 := Lib.hid C2
  have HC3 := Lib.hid C3
  have HC4 := Lib.hid C4
  have HC5 := Lib.hid C5
  have HC6 := Lib.hid C6
  have HC7 := Lib.hid C7
  have HC8 := Lib.hid C8
  have HC9 := Lib.hid C9
  have HC10 := Lib.hid C10
  have HE := Lib.hid E
  clear C1 C2 C3 C4 C5 C6 C7 C8 C9 C10 E hx ht tb
  go_enter Tryz.func3, Tryz.ntmps3
  go_wp2_with fail
  refine (HC1.out _ (kk (ka _ _) (ka _ _))).mono ?_
  rintro e w1 ⟨rfl, hk⟩
  obtain ⟨b0, b1, b2, b3, d0, d1⟩ := twoBoxVT hk
  have HK1 := Lib.hid (kk (kk (ka _ _) (ka _ _)) hk)
  clear hk
  go_wp2_with fail
  refine (HC2.out _ HK1.out).mono ?_
  rintro e w2 ⟨rfl, hk⟩
  replace b0 := kc hk b0
  replace b1 := kc hk b1
  replace b2 := kc hk b2
  replace b3 := kc hk b3
  replace d0 := kc hk d0
  replace d1 := kc hk d1
  have HK2 := Lib.hid (kk HK1.out hk)
  clear hk
  go_wp2_with fail
  refine (HC3.out _ HK2.out).mono ?_
  rintro e w3 ⟨⟨yk, yn, ys, ya, yc, yl⟩, rfl, hx3, hf3, hs3, hk⟩
  rw [V.val_mk]
  replace b0 := kc hk b0
  replace b1 := kc hk b1
  replace b2 := kc hk b2
  replace b3 := kc hk b3
  replace d0 := kc hk d0
  replace d1 := kc hk d1
  have HK3 := Lib.hid (kk HK2.out hk)
  have HX3 := Lib.hid hx3
  have HS3 := Lib.hid hs3
  clear hk hf3 hx3 hs3
  have hz0 : w.heap.size < w3.heap.size := World.block_lt_of_cell? w3 _ b0
  have hz1 : w.heap.size + 1 < w3.heap.size := World.block_lt_of_cell? w3 _ d0
  go_wp2_with fail
  refine (HC4.out _ (kk HK3.out (ka _ _))).mono ?_
  rintro e w4 ⟨⟨zk, zn, zs, za, zc, zl⟩, rfl, hx4, hf4, hs4, hk⟩
  rw [V.val_mk]
  have hk34 := kk (ka w3 (.cells #[.int .i64 yk, .int .i64 yn, .string ys, .slice ya yl.length yc] 24)) hk
  replace b0 := kc hk34 b0
  replace b1 := kc hk34 b1
  replace b2 := kc hk34 b2
  replace b3 := kc hk34 b3
  replace d0 := kc hk34 d0
  replace d1 := kc hk34 d1
  have hy := (hk.block w3.heap.size (by simp)).trans (blockHere (w := w3) (o := .cells #[.int .i64 yk, .int .i64 yn, .string ys, .slice ya yl.length yc] 24 (0, 0)) rfl)
  have HX4 := Lib.hid (HX3.out.keep hk34.size hk34)
  have HS4 := Lib.hid hs4
  have HY := Lib.hid hy
  have HK4 := Lib.hid (kk HK3.out hk34)
  have HX5 := Lib.hid hx4
  clear hk hk34 hf4 hx4 hs4 hy HX3 hz0 hz1
  have hz0 : w.heap.size < w4.heap.size := World.block_lt_of_cell? w4 _ b0
  have hz1 : w.heap.size + 1 < w4.heap.size := World.block_lt_of_cell? w4 _ d0
  go_wp2_with fail
  have hka := ka w4 (.cells #[.int .i64 zk, .int .i64 zn, .string zs, .slice za zl.length zc] 24)
  have hkW := kk HK4.out hka
  have hY : (w4.alloc (.cells #[.int .i64 zk, .int .i64 zn, .string zs, .slice za zl.length zc] 24)).heap[w3.heap.size]? = some (.cells #[.int .i64 yk, .int .i64 yn, .string ys, .slice ya yl.length yc] 24 (0, 0)) := blockPast HY.out
  have hZ : (w4.alloc (.cells #[.int .i64 zk, .int .i64 zn, .string zs, .slice za zl.length zc] 24)).heap[w4.heap.size]? = some (.cells #[.int .i64 zk, .int .i64 zn, .string zs, .slice za zl.length zc] 24 (0, 0)) := blockHere rfl
  have hXY := HX4.out.keep hka.size hka
  have hXZ := HX5.out.keep hka.size hka
  replace b0 := past (o := .cells #[.int .i64 zk, .int .i64 zn, .string zs, .slice za zl.length zc] 24) b0
  replace b1 := past (o := .cells #[.int .i64 zk, .int .i64 zn, .string zs, .slice za zl.length zc] 24) b1
  replace b2 := past (o := .cells #[.int .i64 zk, .int .i64 zn, .string zs, .slice za zl.length zc] 24) b2
  replace b3 := past (o := .cells #[.int .i64 zk, .int .i64 zn, .string zs, .slice za zl.length zc] 24) b3
  replace d0 := past (o := .cells #[.int .i64 zk, .int .i64 zn, .string zs, .slice za zl.length zc] 24) d0
  replace d1 := past (o := .cells #[.int .i64 zk, .int .i64 zn, .string zs, .slice za zl.length zc] 24) d1
  generalize w4.alloc (.cells #[.int .i64 zk, .int .i64 zn, .string zs, .slice za zl.length zc] 24) = W at *
  generalize w3.heap.size = q3 at *
  generalize w4.heap.size = q4 at *
  have HKW := Lib.hid hkW
  have HYW := Lib.hid hY
  have HZW := Lib.hid hZ
  have HXY := Lib.hid hXY
  have HXZ := Lib.hid hXZ
  clear hka hkW hY hZ hXY hXZ HK1 HK2 HK3 HK4 HX4 HX5 HY
  go_region_held3 (fun w' => w'.cell? ⟨w.heap.size, 0, none⟩ = some (.int .i64 k) ∧ w'.cell? ⟨w.heap.size, 1, none⟩ = some (.int .i64 n) ∧ w'.cell? ⟨w.heap.size, 2, none⟩ = some (.string s) ∧ w'.cell? ⟨w.heap.size, 3, none⟩ = some (.slice a l.length cap) ∧ w'.cell? ⟨w.heap.size + 1, 0, none⟩ = some (.int .i64 tk) ∧ w'.cell? ⟨w.heap.size + 1, 1, none⟩ = some (.slice ta tl.length tcap) ∧ Kp W w')
    (first
      | exact ⟨b0, b1, b2, b3, d0, d1, kpD⟩
      | (go_split_ands; exact ⟨kc hk ‹_›, kc hk ‹_›, kc hk ‹_›, kc hk ‹_›, kc hk ‹_›, kc hk ‹_›, kk ‹_› hk⟩))
    (first
      | (go_at_call 17; refine (HC5.out _ (kk HKW.out (by first | assumption | exact kpD | (go_split_ands; assumption)))).mono ?_; rintro e wa ⟨rfl, hk⟩)
      | (go_at_call 18; refine (HC6.out _ (kk HKW.out (by first | assumption | exact kpD | (go_split_ands; assumption)))).mono ?_; rintro e wa ⟨rfl, hk⟩)
      | (go_at_call 19; refine (HC7.out _ (kk HKW.out (by first | assumption | exact kpD | (go_split_ands; assumption)))).mono ?_; rintro e wa ⟨rfl, hk⟩)
      | (go_at_call 20; refine (HC8.out _ (kk HKW.out (by first | assumption | exact kpD | (go_split_ands; assumption)))).mono ?_; rintro e wa ⟨rfl, hk⟩)
      | (go_at_call 21; refine (HC9.out _ (kk HKW.out (by first | assumption | exact kpD | (go_split_ands; assumption)))).mono ?_; rintro e wa ⟨rfl, hk⟩)
      | (go_at_call 22; refine (HC10.out _ (kk HKW.out (by first | assumption | exact kpD | (go_split_ands; assumption)))).mono ?_; rintro e wa ⟨rfl, hk⟩))
  go_split_ands
  rename_i hKf
  have hsm : (V.mk yk yn ys ya yc yl).same (V.mk zk zn zs za zc zl) = true := V.same_trans _ _ _ HS3.out (V.same_symm _ _ HS4.out)
  obtain ⟨c0, c1, c2, c3, -⟩ := cell4 ((hKf.block _ (lt_of_block HYW.out)).trans HYW.out)
  obtain ⟨e0, e1, e2, e3, -⟩ := cell4 ((hKf.block _ (lt_of_block HZW.out)).trans HZW.out)
  have S := sameV (V.mk yk yn ys ya yc yl).rank (V.mk yk yn ys ya yc yl) (V.mk zk zn zs za zc zl) _ (Nat.le_refl _) (HXY.out.keep hKf.size hKf) (HXZ.out.keep hKf.size hKf)
  rw [hsm, V.val_mk, V.val_mk] at S
  have HS := Lib.hid S
  have HKf := Lib.hid (kk HKW.out hKf)
  clear S hsm hKf HXY HXZ HYW HZW HKW HS3 HS4
  go_wp2_with fail
  refine HS.out.mono ?_
  rintro e w6 ⟨rfl, hk⟩
  have HK6 := Lib.hid (kk HKf.out hk)
  clear hk
  go_wp2_with fail
  refine (HE.out _ HK6.out).mono ?_
  rintro e w7 ⟨rfl, hk⟩
  have HK7 := Lib.hid (kk HK6.out hk)
  clear hk
  go_wp2_with fail
  go_ret
  exact ⟨rfl, HK7.out⟩

end Go.Proofs.YtbiljalhabnhlaaGreatDoor

/-
  ValueChecks: WHAT THE WALKS GIVE, for every arguments that read; THE STATEMENT, AND ITS CARD.
-/
namespace Go.Proofs.YtbiljalhabnhlaaGreatDoor.valueChecks
open Go.ChangeShapes Go.WideShapes Go.ChangeAt Go.RowKit Go.Lib

theorem tens {W : World} (h : laidMetH Tryz.prog Rows.valueChecksRow.laid W) : Tb W W.heap.size := by
  have h1 : laidMet Tryz.prog Rows.valueChecksRow.laid W := h
  have h2 := laid_tail (laid_tail h1)
  refine Lib.tabBelow_of_tabIs ?_
  exact Lib.tabIs_of_head gTab (t := 179) (n := 20) (e := 167) (by kernel_rfl) (by kernel_rfl) (by kernel_rfl) (by kernel_rfl) (by kernel_rfl) h2

set_option maxRecDepth 100000 in
theorem contract (H : Type) (enc : TypeId × Value → H) (W : World) (base : Nat) (args : Array Value) (ds gs : List (DataW H)) (before : List MemPlace)
    (hval : ∀ (j : Nat) t v, Tryz.f3.params[j]? = some t → args[j]? = some v → Value.okWide Tryz.prog W .any base t v)
    (hW : DataW.Whole enc Tryz.prog Tryz.f3.params.toList Rows.valueChecksSpec.vars false W args.toList ds gs before) (ht : Tb W W.heap.size) :
    Calls Tryz.prog 3 args W fun e W' => ∃ v, e = .returned v ∧ Rows.valueChecksSpec.post enc Tryz.prog Tryz.f3 false true false false W args v W' := by
  have hW' := hW
  obtain ⟨p, q, hA0, hV, rfl, hfz, hnd⟩ := hW
  have hA : DataW.TrodAll enc Tryz.prog W 0 (fun _ => true) true Tryz.f3.params.toList args.toList ds p := hA0
  rw [Tryz.params3] at hA hval
  obtain ⟨v0, vs0, d0, ds0, p0, q0, hargs, rfl, rfl, h0, r0⟩ := trodAll_cons hA
  obtain ⟨v1, vs1, d1, ds1, p1, q1, rfl, rfl, rfl, h1, r1⟩ := trodAll_cons r0
  obtain ⟨rfl, rfl, rfl⟩ := trodAll_nil r1
  obtain rfl : args = #[v0, v1] := by cases args; simp_all
  obtain ⟨rfl, rfl⟩ := trodVars_none hV
  obtain ⟨x0, rfl, hx0⟩ := open_arg (hval 0 24 v0 rfl rfl) h0
  obtain ⟨x1, rfl, hx1⟩ := open_argT (hval 1 27 v1 rfl rfl) h1
  refine (checks_any x0 x1 W hx0 hx1 ht).mono fun e W' ⟨he, hk⟩ => ?_
  subst he
  refine ⟨_, rfl, ?_⟩
  have hlt : ∀ p ∈ p0 ++ (p1 ++ []) ++ [], p.block < W.heap.size := fun p hp => hW'.lt p hp
  have hT0 : 27 < Tryz.prog.types.size := of_decide_eq_true (by kernel_rfl)
  have hT1 : 24 < Tryz.prog.types.size := of_decide_eq_true (by kernel_rfl)
  refine post_of_kp (pa := p0 ++ (p1 ++ [])) (pv := []) hW' hk (fun _ _ _ => trodAll_cons_mk (shut_bool Tryz.underlying4 _) trodAll_mk0) (fun sp hsp => ?_) (fun _ _ => rfl) rfl (ok_one (by kernel_rfl) rfl (okWide_bool_mk Tryz.underlying4 _))
  rw [Tryz.params3]
  exact trodAll_cons_mk (trod_kp (DataW.Trod.respare kidsP fullP hT1 h0 (fun p hp => hsp p (by simp [hp]))) hk (fun p hp => hlt p (by simp [hp])))
    (trodAll_cons_mk (trod_kp (DataW.Trod.respare kidsP fullP hT0 h1 (fun p hp => hsp p (by simp [hp]))) hk (fun p hp => hlt p (by simp [hp])))
    (trodAll_mk0))

theorem own : ownKnob Tryz.prog.godebug = none := by kernel_rfl

def intsOf (k : IntKind) : DataW Unit → Array Value
  | .agg l => (l.map fun d => match d with | .lit (.int _ n) => Value.int k n | _ => Value.int k 0).toArray
  | _ => #[]

/-- THE WITNESS: the settled world with two blocks more (the two errors), the five variables holding what their initialisers lay. -/
noncomputable def laidWorld (os : Os) : World :=
  let N := (World.settled Tryz.prog os).heap.size
  let w0 := World.holding Tryz.prog os ⟨#[.cells #[.string ⟨#[105, 110, 118, 97, 108, 105, 100, 32, 115, 121, 110, 116, 97, 120]⟩] 187 (0, 0), .cells #[.string ⟨#[118, 97, 108, 117, 101, 32, 111, 117, 116, 32, 111, 102, 32, 114, 97, 110, 103, 101]⟩] 187 (0, 0)], #[], []⟩
  let put (h : Array Obj) (g : Nat) (cs : Array Value) : Array Obj := h.modify g fun
    | .cells _ t frozen => .cells cs t frozen
    | o => o
  let h1 := put w0.heap 1 #[.iface 185 (.pointer (some ⟨N, 0, none⟩))]
  let h2 := put h1 2 #[.iface 185 (.pointer (some ⟨N + 1, 0, none⟩))]
  let h3 := put h2 3 (intsOf .u64 Rows.laid_internal_strconv_uint64pow10)
  let h4 := put h3 4 (intsOf .u8 Rows.laid_math_bits_deBruijn32tab)
  let h5 := put h4 5 (intsOf .u8 Rows.laid_math_bits_deBruijn64tab)
  { w0 with heap := h5 }

noncomputable abbrev N0 : Nat := (World.settled Tryz.prog default).heap.size
/-- The witness's arguments. -/
abbrev wArgs : Array Value := #[.agg #[.int .i64 0, .int .i64 0, .string ⟨#[]⟩, .slice none 0 0], .agg #[.int .i64 0, .slice none 0 0]]

set_option maxRecDepth 1000000 in
theorem laid_met (os : Os) (args : Array Value) : laidMet Tryz.prog Rows.valueChecksRow.laid ((laidWorld os).forCall (fun _ _ => 0) ⟨#[], args, []⟩).memory :=
  (LaidIn.of_run (l := Rows.valueChecksRow.laid) [4, 5, 3, 2, N0 + 1, 1, N0] 8 (by kernel_rfl) (by kernel_rfl) (by kernel_rfl) (by kernel_rfl)).met

theorem witness_row (os : Os) {H : Type} (enc : TypeId × Value → H) :
    (OpenSpec.ofChange Rows.valueChecksSpec).preRow enc Tryz.prog Tryz.f3 Rows.valueChecksRow.domain false Rows.valueChecksRow.laid ((laidWorld os).forCall (fun _ _ => 0) ⟨#[], wArgs, []⟩).memory wArgs := by
  have hw : (DataW.whole enc Tryz.prog ((laidWorld os).forCall (fun _ _ => 0) ⟨#[], wArgs, []⟩).memory Tryz.f3.params.toList Rows.valueChecksSpec.vars false wArgs.toList 8).map (fun x => (x.1, x.2.1)) =
      some ([.agg [.lit (.int .i64 0), .lit (.int .i64 0), .lit (.string []), .nil], .agg [.lit (.int .i64 0), .nil]], []) := by kernel_rfl
  obtain ⟨⟨x1, x2, x3⟩, hx, hx1⟩ := Option.map_eq_some_iff.1 hw
  simp only [Prod.mk.injEq] at hx1
  obtain ⟨rfl, rfl⟩ := hx1
  exact OpenSpec.preRow_of_cond 8 hx (by kernel_rfl) (fun k hk => by cases hk) (by kernel_rfl) (laid_met os _)

set_option maxRecDepth 100000 in
set_option maxHeartbeats 2000000 in
theorem lifted (os : Os) (started : os.Started) (H : Type) (enc : TypeId × Value → H) (F : Stop.Interp) :
    ReturnsInHanded {} Tryz.checked os 3 .any ((OpenSpec.ofChange Rows.valueChecksSpec).preRow enc Tryz.prog Tryz.f3 Rows.valueChecksRow.domain false Rows.valueChecksRow.laid) (((OpenSpec.ofChange Rows.valueChecksSpec).at F).post enc Tryz.prog Tryz.f3 false true false false) := by
  refine returnsInHanded_of_row (C := Tryz.checked) (s := OpenSpec.ofChange Rows.valueChecksSpec) own started (by kernel_rfl) Tryz.func3
    (witness_row_atRef (enc := enc) (C := Tryz.checked) false (laidWorld os) wArgs rfl (by kernel_rfl) (by kernel_rfl) (by kernel_rfl) (witness_row os enc)) ?_
  intro W base args ds gs before hval hW _ _ _ hL _ _
  exact contract H enc W base args ds gs before hval hW (tens hL)

theorem said : Rows.ValueChecksSaid :=
  OpenClaim.holds_of_cond 3 Tryz.f3 rfl rfl rfl rfl rfl rfl rfl ⟨rfl, rfl, rfl, rfl, rfl⟩ rfl rfl rfl rfl rfl (by kernel_rfl) Tryz.func3 (by kernel_rfl)
    (of_decide_eq_true (by kernel_rfl)) (by unfold Func.isWrapper; first | (rw [if_pos (by decide +kernel)]; kernel_rfl) | (rw [if_neg (by decide +kernel)]; exact ⟨rfl, rfl⟩))
    (fun os started H enc _ F => by rw [OpenClaim.pre_eq_preRow]; exact lifted os started H enc F)

/-- No parameter wants a stand-in; the program's own looks are off: what the card asks. -/
theorem plain (f : FuncId) (fn : Func) (hf : Tryz.pinned.checked.prog.funcNamed "deltaworks/deltaworkslaw01.ValueChecks" = some f) (hfn : Tryz.pinned.checked.prog.funcs[f]? = some fn) :
    true = Tryz.pinned.checked.prog.looks [] ∧ ∀ (j : Nat) t, fn.params[j]? = some t → Tryz.pinned.checked.prog.wantsStandIn t = false := by
  obtain rfl : f = 3 := Option.some.inj ((show Tryz.prog.funcNamed "deltaworks/deltaworkslaw01.ValueChecks" = some 3 by kernel_rfl).symm.trans hf) |>.symm
  obtain rfl : fn = Tryz.f3 := (Option.some.inj (Tryz.func3.symm.trans hfn)).symm
  refine ⟨by kernel_rfl, fun j t ht => ?_⟩
  rw [Tryz.params3] at ht
  obtain rfl | rfl : t = 24 ∨ t = 27 := by simpa using Array.mem_of_getElem? ht
  · exact (show Tryz.prog.wantsStandIn 24 = false by kernel_rfl)
  · exact (show Tryz.prog.wantsStandIn 27 = false by kernel_rfl)

/-- ████ THE CARD ████ -/
theorem card : Rows.ValueChecksCardSaid :=
  Claim7.holds_tied_plain_at .later [] _ _ _ _ said (fun _ h => by cases h) (by kernel_rfl) (fun _ h => by cases h) valueChecks_row_tie rfl ⟨rfl, rfl⟩ (by kernel_rfl) rfl plain (by kernel_rfl)

end Go.Proofs.YtbiljalhabnhlaaGreatDoor.valueChecks
