/-
  Contracts of the functions of package value, of its specification and of what the statements of layer 1 share (values and types made of numbers, the chapter's examples), each for every argument: used by the proofs of layer 1's statements.
  Part 8 of 10.
-/
import Derived.Test.YtbiljalhabnhlaaGreatDoorBa07
import Derived.Deep.Slices
import Derived.Test.YtbiljalhabnhlaaGreatDoorCards
import Derived.Test.YtbiljalhabnhlaaGreatDoorTie
import Derived.ProofKit
import Derived.OpenShut
import Derived.ReadAgain
import Derived.Deep.Onto
import Derived.Deep.DeepHandedRow
import Derived.Lib.LaidTab
import Derived.Test.YtbiljalhabnhlaaGreatDoorBa01
import Derived.Laws.AppendOwn
import Derived.Test.YtbiljalhabnhlaaGreatDoorBa04
import Derived.OwnWalk
/-
  AN ARGUMENT OF THE TYPE api.Value, FROM ITS READING.
-/
namespace Go.Proofs.YtbiljalhabnhlaaGreatDoor
open Go.RowKit

theorem list_of {α : Type} {p : Nat → α → Prop} : ∀ (n : Nat), (∀ i, i < n → ∃ v, p i v) → ∃ l : List α, l.length = n ∧ ∀ j x, l[j]? = some x → p j x
  | 0, _ => ⟨[], rfl, fun j x h => by simp at h⟩
  | n + 1, h => by
    obtain ⟨l, hl, hp⟩ := list_of n (fun i hi => h i (by omega))
    obtain ⟨v, hv⟩ := h n (by omega)
    refine ⟨l ++ [v], by simp [hl], fun j x hx => ?_⟩
    by_cases hj : j < l.length
    · rw [List.getElem?_append_left hj] at hx; exact hp j x hx
    · rw [List.getElem?_append_right (by omega)] at hx
      have : j = l.length := by
        have := (List.getElem?_eq_some_iff.1 hx).1
        simp at this; omega
      subst this
      simp at hx; subst hx; rw [hl]; exact hv

theorem i64_of_wf {n : Int} (h : (Lit.int .i64 n).wf = true) : I64 n := by
  simp [Lit.wf] at h
  have hm : IntKind.i64.min = -9223372036854775808 := by decide
  unfold I64
  omega

theorem addr_add (a : Addr) (i j : Nat) : (a.add i).add j = a.add (i + j) := by
  unfold Addr.add
  by_cases hi : i = 0 <;> by_cases hj : j = 0 <;> simp [hi, hj, Nat.add_assoc]

theorem cells24v : Tryz.prog.cellsOf 24 = 4 := by kernel_rfl
theorem cells3v : Tryz.prog.cellsOf 3 = 1 := by kernel_rfl
theorem cells9v : Tryz.prog.cellsOf 9 = 1 := by kernel_rfl
theorem cells22v : Tryz.prog.cellsOf 22 = 1 := by kernel_rfl

set_option maxRecDepth 100000 in
set_option maxHeartbeats 2000000 in
theorem open_value {H : Type} {enc : TypeId × Value → H} {w : World} {base : Nat} {spare : Nat → Bool} {held : Bool} : ∀ (fuel : Nat) (cs : List Value) (x : DataW H × List MemPlace),
    DataW.trod enc Tryz.prog w base spare held fuel 24 cs = some x → ∃ v : V, cs = [.int .i64 v.k, .int .i64 v.n, .string v.s, .slice v.a v.l.length v.cap] ∧ v.In w w.heap.size := by
  intro fuel
  induction fuel using Nat.strongRecOn with
  | ind fuel ih =>
    intro cs x h
    obtain ⟨xs, n, rfl, -, hl, hlen, hf⟩ := DataW.trod_struct Tryz.underlying24 h
    rw [cells24v] at hl
    match cs, hl, xs, hlen with
    | [c0, c1, c2, c3], _, [x0, x1, x2, x3], _ =>
      have g0 := hf 0 _ rfl
      have g1 := hf 1 _ rfl
      have g2 := hf 2 _ rfl
      have g3 := hf 3 _ rfl
      simp [cells3v, cells9v, cells22v] at g0 g1 g2 g3
      obtain ⟨k, e0, -, w0⟩ := DataW.trod_int Tryz.underlying3 g0
      obtain ⟨m, e1, -, w1⟩ := DataW.trod_int Tryz.underlying3 g1
      obtain ⟨s, e2, -, hs⟩ := DataW.trod_string Tryz.underlying9 g2
      simp at e0 e1 e2
      subst e0 e1 e2
      rcases DataW.trod_slice Tryz.underlying22 g3 with ⟨e3, -⟩ | ⟨a, len, cap, elems, rest, n', rfl, e3, -, hb, hlc, hcm, hel, hread, -, -⟩
      · simp at e3
        subst e3
        exact ⟨.mk k m s none 0 [], rfl, in_leaf k m s (i64_of_wf w0) (i64_of_wf w1) hs⟩
      · simp at e3
        subst e3
        obtain ⟨l, hll, hp⟩ := list_of (p := fun i (v : V) => w.cell? ⟨a.block, a.off + i * 4, none⟩ = some (.int .i64 v.k) ∧ w.cell? ⟨a.block, a.off + i * 4 + 1, none⟩ = some (.int .i64 v.n) ∧ w.cell? ⟨a.block, a.off + i * 4 + 2, none⟩ = some (.string v.s) ∧ w.cell? ⟨a.block, a.off + i * 4 + 3, none⟩ = some (.slice v.a v.l.length v.cap) ∧ (i = 0 → a.spot = none) ∧ a.block < w.heap.size ∧ v.In w w.heap.size) len (fun i hi => by
          have hr := hread i hi
          rw [cells24v] at hr
          have he : ∃ y, elems[i]? = some y := ⟨elems[i], by simp [hel, hi]⟩
          obtain ⟨y, hy⟩ := he
          rw [hy] at hr
          cases hc : w.cells? base (a.add (i * 4)) 4 with
          | none => rw [hc] at hr; cases hr
          | some cs' =>
            rw [hc] at hr
            obtain ⟨v, rfl, hv⟩ := ih n' (by omega) cs' y hr
            obtain ⟨_, _, hcell⟩ := World.cells?_some hc
            have k0 := hcell 0 (by omega)
            have k1 := hcell 1 (by omega)
            have k2 := hcell 2 (by omega)
            have k3 := hcell 3 (by omega)
            simp only [addr_add] at k0 k1 k2 k3
            have hspot : i = 0 → a.spot = none := fun hi0 => by
              subst hi0
              have : w.cell? a = some (.int .i64 v.k) := by simpa [Addr.add] using k0
              unfold World.cell? at this
              split at this
              · split at this
                · cases this
                · rename_i hs; simpa using hs
              · cases this
            have hblk : a.block < w.heap.size := by
              have := World.block_lt_of_cell? w _ (k1.trans (by rfl : _ = some (Value.int .i64 v.n)))
              simpa [Addr.add] using this
            refine ⟨v, ?_, ?_, ?_, ?_, hspot, hblk, hv⟩
            · by_cases hi0 : i = 0
              · subst hi0
                have hs := hspot rfl
                have : w.cell? a = some (.int .i64 v.k) := by simpa [Addr.add] using k0
                obtain ⟨ab, ao, asp⟩ := a
                simp at hs
                subst hs
                simpa using this
              · have h4 : ¬ i * 4 = 0 := by omega
                simpa [Addr.add, h4] using k0
            · simpa [Addr.add, Nat.add_assoc] using k1
            · simpa [Addr.add, Nat.add_assoc] using k2
            · simpa [Addr.add, Nat.add_assoc] using k3)
        obtain ⟨ab, ao, asp⟩ := a
        by_cases h0 : l = []
        · subst h0
          simp at hll
          subst hll
          refine ⟨.mk k m s (some ⟨ab, ao, asp⟩) cap [], rfl, ?_⟩
          simp [V.In, V.InL, i64_of_wf w0, i64_of_wf w1, hs, hcm]
        · have hpos : 0 < l.length := by cases l with
            | nil => exact absurd rfl h0
            | cons _ _ => simp
          have hsp : asp = none := (hp 0 l[0] (by simp)).2.2.2.2.1 rfl
          have hbl := (hp 0 l[0] (by simp)).2.2.2.2.2.1
          subst hsp
          refine ⟨.mk k m s (some ⟨ab, ao, none⟩) cap l, by subst hll; rfl, ?_⟩
          simp only [V.In]
          refine ⟨i64_of_wf w0, i64_of_wf w1, hs, by omega, hcm, .inr ⟨ab, ao, rfl, hbl, fun j x hx => ?_⟩, V.InL_iff.2 fun j x hx => (hp j x hx).2.2.2.2.2.2⟩
          obtain ⟨r0, r1, r2, r3, -⟩ := hp j x hx
          exact ⟨r0, r1, r2, r3⟩

end Go.Proofs.YtbiljalhabnhlaaGreatDoor

/-
  ValueOrders: WHAT THE WALKS GIVE, for every two arguments that read.
-/
namespace Go.Proofs.YtbiljalhabnhlaaGreatDoor
open Go.ChangeShapes Go.WideShapes Go.ChangeAt Go.RowKit

theorem kidsP : Kids Tryz.prog (· < Tryz.prog.types.size) := kids_rows (by kernel_rfl) (by kernel_rfl)
theorem fullP : ∀ t e, t < Tryz.prog.types.size → Tryz.prog.underlying t = some (.slice e) → 0 < Tryz.prog.cellsOf e := slices_full_of Tryz.prog (by kernel_rfl)

theorem kp_kept {W W' : World} (h : Kp W W') (may : MemPlace → Prop) : W.keptBut W' may := (World.keptBut_refl W may).congr h.os h.output h.block

/-- A place that lay in W lies the same in W'. -/
theorem kp_same {W W' : World} (h : Kp W W') {p : MemPlace} (hp : p.block < W.heap.size) : W.sameAt W' p := by
  cases p with
  | cell b o =>
    show W'.cell? ⟨b, o, none⟩ = W.cell? ⟨b, o, none⟩
    unfold World.cell?
    rw [show W'.heap[b]? = W.heap[b]? from h.block b hp]
  | map b => exact h.block b hp

theorem trod_kp {H : Type} {enc : TypeId × Value → H} {W W' : World} {base : Nat} {spare : Nat → Bool} {held : Bool} {t : TypeId} {v : Value} {d : DataW H} {ps : List MemPlace} (h : DataW.Trod enc Tryz.prog W base spare held t v d ps) (hk : Kp W W') (hlt : ∀ p ∈ ps, p.block < W.heap.size) :
    DataW.Trod enc Tryz.prog W' base spare held t v d ps := by
  obtain ⟨n, hn⟩ := h
  exact ⟨n, DataW.trod_carry n _ _ _ hn (fun p hp => kp_same hk (hlt p hp))⟩

set_option maxRecDepth 100000 in
/-- A law that answers true and leaves all that was there as it was. -/
theorem post_of_kp {H : Type} {enc : TypeId × Value → H} {f : Func} {s : ChangeSpec} {apart fresh handsOn again : Bool} {W W' : World} {args : Array Value} {v : Value} {ds gs : List (DataW H)} {before pa pv : List MemPlace}
    (hW : DataW.Whole enc Tryz.prog f.params.toList s.vars apart W args.toList ds gs before) (hk : Kp W W')
    (hres : ∀ (b : Nat) (sp : Nat → Bool) (hd : Bool), DataW.TrodAll enc Tryz.prog W' b sp hd f.resultTypes.toList (v.resultList f.resultTypes.size) (s.fn H (ds ++ gs)).results [])
    (hargs : ∀ sp : Nat → Bool, (∀ p ∈ before, sp p.block = true) → DataW.TrodAll enc Tryz.prog W' 0 sp true f.params.toList args.toList (s.fn H (ds ++ gs)).args pa)
    (hvars : ∀ sp : Nat → Bool, (∀ p ∈ before, sp p.block = true) → DataW.TrodVars enc Tryz.prog W' sp s.vars (s.fn H (ds ++ gs)).vars pv)
    (hps : before = pa ++ pv)
    (hok : ∀ (j : Nat) (t : TypeId) (r : Value), f.resultTypes[j]? = some t → (v.resultList f.resultTypes.size)[j]? = some r → Value.okWide Tryz.prog W' .any 0 t r) :
    s.post enc Tryz.prog f apart fresh handsOn again W args v W' := by
  have hold : ∀ p ∈ before, p.block < W.heap.size := fun p hp => hW.lt p hp
  have hsp : ∀ p ∈ before, (fun b => decide (b < W.heap.size)) p.block = true := fun p hp => by simpa using hold p hp
  refine ⟨ds, gs, before, [], pa, pv, hW, hres _ _ _, hargs _ hsp, hvars _ hsp, kp_kept hk _, fun _ => ?_⟩
  obtain ⟨_, _, _, _, _, hz, hn⟩ := hW
  refine ⟨hok, _, _, ([] ++ pa) ++ pv, ⟨[] ++ pa, pv, trodAll_append (hargs _ (fun _ _ => rfl)) (hres _ _ _), hvars _ (fun _ _ => rfl), rfl, fun b off hp => ?_, fun ha => ?_⟩, fun p hp _ => by rw [hps]; simpa using hp⟩
  · have hb : MemPlace.cell b off ∈ before := by rw [hps]; simpa using hp
    have hfr : W'.frozen? ⟨b, off, none⟩ = W.frozen? ⟨b, off, none⟩ := by
      unfold World.frozen?
      rw [show W'.heap[b]? = W.heap[b]? from hk.block b (hold _ hb)]
    rw [hfr]
    exact hz b off hb
  · have := hn ha
    rw [hps] at this
    simpa using this

set_option maxRecDepth 100000 in
/-- What reads as a value is one. -/
theorem open_arg {H : Type} {enc : TypeId × Value → H} {W : World} {base : Nat} {spare : Nat → Bool} {held : Bool} {b0 : Nat} {v : Value} {d : DataW H} {ps : List MemPlace}
    (hval : Value.okWide Tryz.prog W .any b0 24 v) (h : DataW.Trod enc Tryz.prog W base spare held 24 v d ps) : ∃ x : V, v = x.val ∧ x.In W W.heap.size := by
  obtain ⟨cs, rfl, -⟩ := okWide_struct Tryz.underlying24 hval
  obtain ⟨fuel, hf⟩ := h
  obtain ⟨x, hx, hin⟩ := open_value fuel _ _ hf
  refine ⟨x, ?_, hin⟩
  have : cs = #[.int .i64 x.k, .int .i64 x.n, .string x.s, .slice x.a x.l.length x.cap] := by
    apply Array.ext'
    simpa [Value.cells] using hx
  rw [this]; rfl

set_option maxRecDepth 100000 in
theorem orders_contract (H : Type) (enc : TypeId × Value → H) (W : World) (base : Nat) (args : Array Value) (ds gs : List (DataW H)) (before : List MemPlace)
    (hval : ∀ (j : Nat) t v, Tryz.f4.params[j]? = some t → args[j]? = some v → Value.okWide Tryz.prog W .any base t v)
    (hW : DataW.Whole enc Tryz.prog Tryz.f4.params.toList Rows.valueOrdersSpec.vars false W args.toList ds gs before) (ht : Tb W W.heap.size) :
    Calls Tryz.prog 4 args W fun e W' => ∃ v, e = .returned v ∧ Rows.valueOrdersSpec.post enc Tryz.prog Tryz.f4 false true false false W args v W' := by
  have hW' := hW
  obtain ⟨p, q, hA0, hV, rfl, hfz, hnd⟩ := hW
  have hA : DataW.TrodAll enc Tryz.prog W 0 (fun _ => true) true Tryz.f4.params.toList args.toList ds p := hA0
  rw [Tryz.params4] at hA hval
  obtain ⟨v0, vs0, d0, ds0, p0, q0, hargs, rfl, rfl, h0, r0⟩ := trodAll_cons hA
  obtain ⟨v1, vs1, d1, ds1, p1, q1, rfl, rfl, rfl, h1, r1⟩ := trodAll_cons r0
  obtain ⟨rfl, rfl, rfl⟩ := trodAll_nil r1
  obtain rfl : args = #[v0, v1] := by cases args; simp_all
  obtain ⟨rfl, rfl⟩ := trodVars_none hV
  obtain ⟨x, rfl, hx⟩ := open_arg (hval 0 24 v0 rfl rfl) h0
  obtain ⟨y, rfl, hy⟩ := open_arg (hval 1 24 v1 rfl rfl) h1
  refine (orders_any x y W hx hy ht).mono fun e W' ⟨he, hk⟩ => ?_
  subst he
  refine ⟨_, rfl, ?_⟩
  have hlt : ∀ p ∈ p0 ++ (p1 ++ []) ++ [], p.block < W.heap.size := fun p hp => hW'.lt p hp
  have hT : 24 < Tryz.prog.types.size := of_decide_eq_true (by kernel_rfl)
  refine post_of_kp (pa := p0 ++ (p1 ++ [])) (pv := []) hW' hk (fun _ _ _ => trodAll_cons_mk (shut_bool Tryz.underlying4 _) trodAll_mk0) (fun sp hsp => ?_) (fun _ _ => rfl) rfl (ok_one (by kernel_rfl) rfl (okWide_bool_mk Tryz.underlying4 _))
  rw [Tryz.params4]
  exact trodAll_cons_mk (trod_kp (DataW.Trod.respare kidsP fullP hT h0 (fun p hp => hsp p (by simp [hp]))) hk (fun p hp => hlt p (by simp [hp])))
    (trodAll_cons_mk (trod_kp (DataW.Trod.respare kidsP fullP hT h1 (fun p hp => hsp p (by simp [hp]))) hk (fun p hp => hlt p (by simp [hp]))) trodAll_mk0)

end Go.Proofs.YtbiljalhabnhlaaGreatDoor

/-
  PLAIN MATHEMATICS, no Go: in which blocks a value lies; a value that a call has made.
-/
namespace Go.Proofs.YtbiljalhabnhlaaGreatDoor
open Go.RowKit

mutual
/-- Each list of a value lies in a block of which P holds. -/
def V.foot (P : Nat → Prop) : V → Prop
  | .mk _ _ _ a _ l => (l = [] ∨ ∃ b off, a = some ⟨b, off, none⟩ ∧ P b) ∧ V.footL P l
def V.footL (P : Nat → Prop) : List V → Prop
  | [] => True
  | x :: xs => x.foot P ∧ V.footL P xs
end

theorem V.footL_iff {P : Nat → Prop} {l : List V} : V.footL P l ↔ ∀ (j : Nat) (x : V), l[j]? = some x → x.foot P := by
  induction l with
  | nil => simp [V.footL]
  | cons y ys ih =>
    simp only [V.footL, ih]
    constructor
    · rintro ⟨h1, h2⟩ j x hj
      cases j with
      | zero => simp at hj; exact hj ▸ h1
      | succ j => exact h2 j x (by simpa using hj)
    · intro h
      exact ⟨h 0 y (by simp), fun j x hj => h (j + 1) x (by simpa using hj)⟩

mutual
theorem V.foot.mono {P Q : Nat → Prop} (h : ∀ b, P b → Q b) : ∀ (v : V), v.foot P → v.foot Q
  | .mk k n s a cap l, hv => by
    simp only [V.foot] at hv ⊢
    refine ⟨?_, V.footL.mono h l hv.2⟩
    rcases hv.1 with h1 | ⟨b, off, ha, hb⟩
    · exact .inl h1
    · exact .inr ⟨b, off, ha, h b hb⟩
theorem V.footL.mono {P Q : Nat → Prop} (h : ∀ b, P b → Q b) : ∀ (l : List V), V.footL P l → V.footL Q l
  | [], _ => trivial
  | x :: xs, hv => ⟨V.foot.mono h x hv.1, V.footL.mono h xs hv.2⟩
end

theorem At.move {w w' : World} {b off : Nat} {l : List V} (h : At w b off l) (k : w'.heap[b]? = w.heap[b]?) : At w' b off l := fun j x hj => by
  obtain ⟨h0, h1, h2, h3⟩ := h j x hj
  exact ⟨(World.cell?_of_block k).trans h0, (World.cell?_of_block k).trans h1, (World.cell?_of_block k).trans h2, (World.cell?_of_block k).trans h3⟩

mutual
/-- What memory holds is still held where the blocks in which it lies are as they were. -/
theorem V.In.move {w w' : World} {B C : Nat} {P : Nat → Prop} (hC : B ≤ C) (k : ∀ b, b < B → P b → w'.heap[b]? = w.heap[b]?) : ∀ (v : V), v.In w B → v.foot P → v.In w' C
  | .mk c n s a cap l, hv, hf => by
    simp only [V.In, V.foot] at hv hf ⊢
    obtain ⟨h1, h2, h3, h4, h5, h6, h7⟩ := hv
    refine ⟨h1, h2, h3, h4, h5, ?_, V.InL.move hC k l h7 hf.2⟩
    rcases hf.1 with h8 | ⟨b', off', ha', hp⟩
    · exact .inl h8
    · rcases h6 with h6 | ⟨b, off, ha, hb, hat⟩
      · exact .inl h6
      · refine .inr ⟨b, off, ha, by omega, hat.move (k b hb ?_)⟩
        rw [ha] at ha'
        cases ha'
        exact hp
theorem V.InL.move {w w' : World} {B C : Nat} {P : Nat → Prop} (hC : B ≤ C) (k : ∀ b, b < B → P b → w'.heap[b]? = w.heap[b]?) : ∀ (l : List V), V.InL w B l → V.footL P l → V.InL w' C l
  | [], _, _ => trivial
  | x :: xs, hv, hf => ⟨V.In.move hC k x hv.1 hf.1, V.InL.move hC k xs hv.2 hf.2⟩
end

/-- A call has made a value that is the same as y: it lies in new memory. -/
def Makes (w : World) (y : V) (e : Ending) (w' : World) : Prop :=
  ∃ x : V, e = .returned x.val ∧ x.In w' w'.heap.size ∧ x.foot (fun b => w.heap.size ≤ b) ∧ x.same y = true ∧ Kp w w'

/-- A call has made a value that is the same as y, and another number. -/
def Makes2 (w : World) (y : V) (c : Int) (e : Ending) (w' : World) : Prop :=
  ∃ x : V, e = .returned (.tuple #[x.val, .int .i64 c]) ∧ x.In w' w'.heap.size ∧ x.foot (fun b => w.heap.size ≤ b) ∧ x.same y = true ∧ Kp w w'

/-- A value without parts. -/
theorem V.foot_leaf {P : Nat → Prop} (k n : Int) (s : ByteArray) (a : Option Addr) (cap : Nat) : (V.mk k n s a cap []).foot P := by simp [V.foot, V.footL]

mutual
theorem V.same_refl : ∀ (v : V), v.same v = true
  | .mk k n s a cap l => by simp [V.same, V.sameL_refl l]
theorem V.sameL_refl : ∀ (l : List V), V.sameL l l = true
  | [] => by simp [V.sameL]
  | x :: xs => by simp [V.sameL, V.same_refl x, V.sameL_refl xs]
end
mutual
theorem V.same_symm : ∀ (v w : V), v.same w = true → w.same v = true
  | .mk k n s a cap l, .mk k' n' s' a' cap' l', h => by
    simp [V.same] at h ⊢
    exact ⟨h.1.symm, h.2.1.symm, h.2.2.1.symm, V.sameL_symm l l' h.2.2.2⟩
theorem V.sameL_symm : ∀ (l m : List V), V.sameL l m = true → V.sameL m l = true
  | [], [], _ => by simp [V.sameL]
  | [], _ :: _, h => by simp [V.sameL] at h
  | _ :: _, [], h => by simp [V.sameL] at h
  | x :: xs, y :: ys, h => by
    simp [V.sameL] at h ⊢
    exact ⟨V.same_symm x y h.1, V.sameL_symm xs ys h.2⟩
end
mutual
theorem V.same_trans : ∀ (u v w : V), u.same v = true → v.same w = true → u.same w = true
  | .mk k n s a cap l, .mk k' n' s' a' cap' l', .mk k2 n2 s2 a2 cap2 l2, h, h' => by
    simp [V.same] at h h' ⊢
    exact ⟨h.1.trans h'.1, h.2.1.trans h'.2.1, h.2.2.1.trans h'.2.2.1, V.sameL_trans l l' l2 h.2.2.2 h'.2.2.2⟩
theorem V.sameL_trans : ∀ (k l m : List V), V.sameL k l = true → V.sameL l m = true → V.sameL k m = true
  | [], [], [], _, _ => by simp [V.sameL]
  | [], [], _ :: _, _, h => by simp [V.sameL] at h
  | [], _ :: _, _, h, _ => by simp [V.sameL] at h
  | _ :: _, [], _, h, _ => by simp [V.sameL] at h
  | _ :: _, _ :: _, [], _, h => by simp [V.sameL] at h
  | x :: xs, y :: ys, z :: zs, h, h' => by
    simp [V.sameL] at h h' ⊢
    exact ⟨V.same_trans x y z h.1 h'.1, V.sameL_trans xs ys zs h.2 h'.2⟩
end

theorem V.sameL_snoc {l m : List V} {x y : V} (h : V.sameL l m = true) (hx : x.same y = true) : V.sameL (l ++ [x]) (m ++ [y]) = true := by
  induction l generalizing m with
  | nil => cases m with
    | nil => simp [V.sameL, hx]
    | cons _ _ => simp [V.sameL] at h
  | cons z zs ih => cases m with
    | nil => simp [V.sameL] at h
    | cons b bs =>
      simp [V.sameL] at h ⊢
      exact ⟨h.1, ih h.2⟩

theorem V.same_node {k n : Int} {s : ByteArray} {a a' : Option Addr} {cap cap' : Nat} {l m : List V} (h : V.sameL l m = true) : (V.mk k n s a cap l).same (.mk k n s a' cap' m) = true := by
  simp only [V.same, h]; simp
theorem V.sameL_one {x y : V} (h : x.same y = true) : V.sameL [x] [y] = true := by
  show (x.same y && V.sameL [] []) = true
  rw [h]; simp [V.sameL]

theorem V.InL_snoc {w : World} {B : Nat} {l : List V} {x : V} (h : V.InL w B l) (hx : x.In w B) : V.InL w B (l ++ [x]) := by
  induction l with
  | nil => exact ⟨hx, trivial⟩
  | cons z zs ih => exact ⟨h.1, ih h.2⟩
theorem V.footL_snoc {P : Nat → Prop} {l : List V} {x : V} (h : V.footL P l) (hx : x.foot P) : V.footL P (l ++ [x]) := by
  induction l with
  | nil => exact ⟨hx, trivial⟩
  | cons z zs ih => exact ⟨h.1, ih h.2⟩
theorem V.InL.keep {w w' : World} {B C : Nat} {l : List V} (h : V.InL w B l) (hC : B ≤ C) (k : Below B w w') : V.InL w' C l := by
  rw [V.InL_iff] at h ⊢
  exact fun j x hx => (h j x hx).keep hC k

/-- The four cells of a value, and those of a list. -/
def V.cells4 (x : V) : List Value := [.int .i64 x.k, .int .i64 x.n, .string x.s, .slice x.a x.l.length x.cap]
def cellsL (l : List V) : List Value := l.flatMap V.cells4

theorem cellsL_length (l : List V) : (cellsL l).length = l.length * 4 := by
  induction l with
  | nil => rfl
  | cons x xs ih => simp [cellsL, V.cells4] at ih ⊢; omega
theorem cellsL_snoc (l : List V) (x : V) : cellsL (l ++ [x]) = cellsL l ++ x.cells4 := by simp [cellsL]
theorem cellsL_at : ∀ (l : List V) (j : Nat) (x : V), l[j]? = some x → (cellsL l)[j * 4]? = some (.int .i64 x.k) ∧ (cellsL l)[j * 4 + 1]? = some (.int .i64 x.n) ∧ (cellsL l)[j * 4 + 2]? = some (.string x.s) ∧ (cellsL l)[j * 4 + 3]? = some (.slice x.a x.l.length x.cap)
  | [], j, x, h => by simp at h
  | y :: ys, 0, x, h => by simp at h; subst h; simp [cellsL, V.cells4]
  | y :: ys, j + 1, x, h => by
    have ih := cellsL_at ys j x (by simpa using h)
    have hc : cellsL (y :: ys) = .int .i64 y.k :: .int .i64 y.n :: .string y.s :: .slice y.a y.l.length y.cap :: cellsL ys := by simp [cellsL, V.cells4]
    rw [hc, show (j + 1) * 4 = j * 4 + 1 + 1 + 1 + 1 from by omega]
    simpa using ih

/-- A list of values that a row of the call's own holds. -/
theorem At.of_row {w : World} {base g n cap : Nat} {t : TypeId} {l : List V} (h : w.ownsRow base t 4 (.slice (some ⟨g, 0, none⟩) n cap) n (cellsL l)) : At w g 0 l := fun j x hj => by
  have hc := h.cells (g := g) rfl
  obtain ⟨h0, h1, h2, h3⟩ := cellsL_at l j x hj
  have ad : ∀ i, (⟨g, 0, none⟩ : Addr).add i = ⟨g, i, none⟩ := fun i => by unfold Addr.add; split <;> simp_all
  have c0 := hc _ _ h0
  have c1 := hc _ _ h1
  have c2 := hc _ _ h2
  have c3 := hc _ _ h3
  rw [ad] at c0 c1 c2 c3
  simpa using ⟨c0, c1, c2, c3⟩

/-- A row whose block is known whole. -/
theorem At.of_block {w : World} {g t : Nat} {fr : Nat × Nat} {cs : Array Value} {l : List V} (h : w.heap[g]? = some (.cells cs t fr)) (hc : cs.toList = cellsL l) : At w g 0 l := fun j x hj => by
  obtain ⟨h0, h1, h2, h3⟩ := cellsL_at l j x hj
  rw [← hc] at h0 h1 h2 h3
  simp only [Array.getElem?_toList] at h0 h1 h2 h3
  simp only [Nat.zero_add, World.cell?, h, h0, h1, h2, h3]
  simp

mutual
theorem V.In.foot_lt {w : World} {B : Nat} {P : Nat → Prop} : ∀ (v : V), v.In w B → v.foot P → v.foot (fun b => P b ∧ b < B)
  | .mk c n s a cap l, hv, hf => by
    simp only [V.In, V.foot] at hv hf ⊢
    obtain ⟨h1, h2, h3, h4, h5, h6, h7⟩ := hv
    refine ⟨?_, V.InL.foot_lt l h7 hf.2⟩
    rcases hf.1 with h8 | ⟨b', off', ha', hp⟩
    · exact .inl h8
    · rcases h6 with h6 | ⟨b, off, ha, hb, hat⟩
      · exact .inl h6
      · rw [ha] at ha'
        cases ha'
        exact .inr ⟨_, _, ha, hp, hb⟩
theorem V.InL.foot_lt {w : World} {B : Nat} {P : Nat → Prop} : ∀ (l : List V), V.InL w B l → V.footL P l → V.footL (fun b => P b ∧ b < B) l
  | [], _, _ => trivial
  | x :: xs, hv, hf => ⟨V.In.foot_lt x hv.1 hf.1, V.InL.foot_lt xs hv.2 hf.2⟩
end

theorem ownsRow_kp {w w' : World} {base size n : Nat} {e : TypeId} {v : Value} {xs : List Value} (h : w.ownsRow base e size v n xs) (k : Kp w w') : w'.ownsRow base e size v n xs := by
  refine ⟨h.1, ?_⟩
  rcases h.2 with hn | ⟨g, cap, cur, rfl, hb, hg, rest⟩
  · exact .inl hn
  · exact .inr ⟨g, cap, cur, rfl, hb, (k.block g (Array.getElem?_eq_some_iff.1 hg).1).trans hg, rest⟩
theorem ownsRow_set {w : World} {base size n b i : Nat} {e : TypeId} {v u : Value} {xs : List Value} (h : w.ownsRow base e size v n xs) (hb : b < base) : (w.setCell ⟨b, i, none⟩ u).ownsRow base e size v n xs := by
  refine ⟨h.1, ?_⟩
  rcases h.2 with hn | ⟨g, cap, cur, rfl, hbg, hg, rest⟩
  · exact .inl hn
  · exact .inr ⟨g, cap, cur, rfl, hbg, (Below.heap_setCell _ _ _ _ (by show g ≠ b; omega)).trans hg, rest⟩

/-- A tuple in the making in block vb: its parts vs (the same as ys) lie in a row of the call's own. -/
structure TupAt (w : World) (vb : Nat) (ys : List V) (sl : Value) (vs : List V) : Prop where
  box : w.heap[vb]? = some (.cells #[.int .i64 2, .int .i64 0, .string ⟨#[]⟩, sl] 24 (0, 0))
  own : w.ownsRow (vb + 1) 24 4 sl vs.length (cellsL vs)
  same : V.sameL vs ys = true
  hin : V.InL w w.heap.size vs
  foot : V.footL (fun b => vb < b ∧ sl.ownBlock ≠ some b) vs

theorem V.sameL_length : ∀ (l m : List V), V.sameL l m = true → l.length = m.length
  | [], [], _ => rfl
  | [], _ :: _, h => by simp [V.sameL] at h
  | _ :: _, [], h => by simp [V.sameL] at h
  | x :: xs, y :: ys, h => by simp [V.sameL] at h; simp [V.sameL_length xs ys h.2]

theorem TupAt.lt {w : World} {vb : Nat} {ys : List V} {sl : Value} {vs : List V} (h : TupAt w vb ys sl vs) : vb < w.heap.size := (Array.getElem?_eq_some_iff.1 h.box).1

theorem TupAt.kp {w w' : World} {vb : Nat} {ys : List V} {sl : Value} {vs : List V} (h : TupAt w vb ys sl vs) (k : Kp w w') : TupAt w' vb ys sl vs :=
  ⟨(k.block _ h.lt).trans h.box, ownsRow_kp h.own k, h.same, h.hin.keep k.size k, h.foot⟩

theorem TupAt.step {wr wz wc w2 : World} {vb g cap : Nat} {ys : List V} {sl : Value} {vs : List V} {z y : V} (h : TupAt wr vb ys sl vs) (hkz : Kp wr wz) (hz : z.In wz wz.heap.size) (hf : z.foot (fun b => wr.heap.size ≤ b)) (hs : z.same y = true)
    (hkc : Kp wz wc) (hown : w2.ownsRow (vb + 1) 24 4 (.slice (some ⟨g, 0, none⟩) (vs.length + 1) cap) (vs.length + 1) (cellsL vs ++ z.cells4)) (hg : wc.grownBy w2 sl.ownBlock) (hat : sl.ownBlock = some g ∨ g = wc.heap.size) :
    TupAt (w2.setCell ⟨vb, 3, none⟩ (.slice (some ⟨g, 0, none⟩) (vs.length + 1) cap)) vb (ys ++ [y]) (.slice (some ⟨g, 0, none⟩) (vs.length + 1) cap) (vs ++ [z]) := by
  have hvb := h.lt
  have hrow := h.own.lt
  have hkk := kk hkz hkc
  have hz1 := hkk.size
  have hz2 := hkc.size
  have hz3 : wc.heap.size ≤ w2.heap.size := by obtain ⟨_, _, _, h4, _⟩ := hg; exact h4
  have hz4 : w2.heap.size = (w2.setCell ⟨vb, 3, none⟩ (.slice (some ⟨g, 0, none⟩) (vs.length + 1) cap)).heap.size := by simp [World.setCell]
  have hvr : some vb ≠ sl.ownBlock := fun e => by have := (hrow vb e.symm).1; omega
  have hbox : w2.heap[vb]? = some (.cells #[.int .i64 2, .int .i64 0, .string ⟨#[]⟩, sl] 24 (0, 0)) := (hg.block vb (by omega) hvr).trans ((hkk.block _ hvb).trans h.box)
  have mv : ∀ b, b < wc.heap.size → (vb < b ∧ sl.ownBlock ≠ some b) → (w2.setCell ⟨vb, 3, none⟩ (.slice (some ⟨g, 0, none⟩) (vs.length + 1) cap)).heap[b]? = wc.heap[b]? := fun b hb hp =>
    (Below.heap_setCell _ _ _ _ (by show b ≠ vb; omega)).trans (hg.block b hb (Ne.symm hp.2))
  have hfz : z.foot (fun b => (wr.heap.size ≤ b) ∧ b < wz.heap.size) := V.In.foot_lt z hz hf
  have hfv : V.footL (fun b => (vb < b ∧ sl.ownBlock ≠ some b) ∧ b < wr.heap.size) vs := V.InL.foot_lt vs h.hin h.foot
  have hzp : z.foot (fun b => vb < b ∧ sl.ownBlock ≠ some b) := V.foot.mono (fun b hb => ⟨by omega, fun e => by have := (hrow b e).2; omega⟩) z hfz
  refine ⟨?_, ?_, V.sameL_snoc h.same hs, ?_, ?_⟩
  · have := heap_setCell_same w2 vb 3 _ _ (.slice (some ⟨g, 0, none⟩) (vs.length + 1) cap) hbox
    simpa using this
  · rw [cellsL_snoc, List.length_append]
    exact ownsRow_set hown (by omega)
  · rw [← hz4]
    refine V.InL_snoc (V.InL.move hz3 mv vs (h.hin.keep hz1 hkk) h.foot) (V.In.move hz3 mv z (hz.keep hz2 hkc) hzp)
  · refine V.footL_snoc (V.footL.mono (fun b hb => ⟨hb.1.1, ?_⟩) vs hfv) (V.foot.mono (fun b hb => ⟨by omega, ?_⟩) z hfz)
    · intro e
      have e' : g = b := by simpa [Value.ownBlock] using e
      subst e'
      rcases hat with h1 | h1
      · exact hb.1.2 h1
      · omega
    · intro e
      have e' : g = b := by simpa [Value.ownBlock] using e
      subst e'
      rcases hat with h1 | h1
      · have := (hrow g h1).2; omega
      · omega

/-- What has been made is a value. -/
theorem TupAt.value {w : World} {vb : Nat} {ys : List V} {sl : Value} {vs : List V} (h : TupAt w vb ys sl vs) : ∃ a cap, sl = .slice a vs.length cap ∧ (V.mk 2 0 ⟨#[]⟩ a cap vs).In w w.heap.size ∧ (V.mk 2 0 ⟨#[]⟩ a cap vs).foot (fun b => vb < b) := by
  have hft : V.footL (fun b => vb < b) vs := V.footL.mono (fun b hb => hb.1) vs h.foot
  rcases h.own.2 with ⟨hs, hn⟩ | ⟨g, cap, cur, hs, hb, hg, hnc, hcm, -, -⟩
  · have : vs = [] := List.length_eq_zero_iff.1 hn
    subst this
    refine ⟨none, 0, hs, ?_, V.foot_leaf _ _ _ _ _⟩
    simp [V.In, V.InL, I64]
    decide
  · refine ⟨some ⟨g, 0, none⟩, cap, hs, ?_, ?_⟩
    · simp only [V.In]
      have hrow := h.own
      rw [hs] at hrow
      exact ⟨by unfold I64; omega, by unfold I64; omega, by decide, hnc, hcm, .inr ⟨g, 0, rfl, (Array.getElem?_eq_some_iff.1 hg).1, At.of_row hrow⟩, h.hin⟩
    · simp only [V.foot]
      exact ⟨.inr ⟨g, 0, rfl, by omega⟩, hft⟩

theorem kp_grown {w wc w2 : World} {row : Option Nat} (h : Kp w wc) (hg : wc.grownBy w2 row) (hr : ∀ k, row = some k → w.heap.size ≤ k) : Kp w w2 := by
  have hsz := h.size
  obtain ⟨h1, h2, h3, h4, h5⟩ := hg
  obtain ⟨k1, k2, k3, k4, k5⟩ := h
  exact ⟨h1.trans k1, h2.trans k2, h3.trans k3, Nat.le_trans k4 h4, fun k hk => (h5 k (by omega) (fun e => by have := hr k e.symm; omega)).trans (k5 k hk)⟩

theorem step_block {wr wz wc w2 : World} {vb k i : Nat} {row : Option Nat} {o : Obj} {u : Value} (hk : Kp wr wz) (hc : Kp wz wc) (hg : wc.grownBy w2 row) (hrow : some k ≠ row) (hkv : k ≠ vb) (h : wr.heap[k]? = some o) : (w2.setCell ⟨vb, i, none⟩ u).heap[k]? = some o := by
  have hlt := (Array.getElem?_eq_some_iff.1 h).1
  have := (hk.trans (hc.mono hk.size)).size
  exact (Below.heap_setCell _ _ _ _ (by show k ≠ vb; exact hkv)).trans ((hg.block k (by omega) hrow).trans (((hk.trans (hc.mono hk.size)).block k hlt).trans h))

theorem I64.ofSmall {n : Int} (h : -2147483648 ≤ n) (h' : n ≤ 2147483648) : I64 n := by unfold I64; omega

mutual
/-- The least value of a type. -/
def T.lst : T → V
  | .mk k _ _ l => if k = 1 then .mk 1 0 ⟨#[]⟩ none 0 [] else if k = 2 then .mk 2 0 ⟨#[]⟩ none 0 (T.lstL l) else if k = 3 then .mk 3 0 ⟨#[]⟩ none 0 (T.lstH l) else .mk 0 (-2147483648) ⟨#[]⟩ none 0 []
def T.lstL : List T → List V
  | [] => []
  | x :: xs => x.lst :: T.lstL xs
def T.lstH : List T → List V
  | [] => []
  | x :: _ => [x.lst]
end

theorem lstL_length (l : List T) : (T.lstL l).length = l.length := by
  induction l with
  | nil => rfl
  | cons x xs ih => simp [T.lstL, ih]
theorem lstL_take (l : List T) (j : Nat) (x : T) (h : l[j]? = some x) : T.lstL (l.take (j + 1)) = T.lstL (l.take j) ++ [x.lst] := by
  induction l generalizing j with
  | nil => simp at h
  | cons y ys ih =>
    cases j with
    | zero => simp at h; subst h; simp [T.lstL]
    | succ j => have := ih j (by simpa using h); simp [T.lstL, this]

end Go.Proofs.YtbiljalhabnhlaaGreatDoor

/-
  PLAIN MATHEMATICS: WHERE A TYPE's PARTS LIE; A TYPE IN THE MAKING.
-/
namespace Go.Proofs.YtbiljalhabnhlaaGreatDoor
open Go.RowKit

mutual
/-- Each list of a type lies in a block of which P holds. -/
def T.foot (P : Nat → Prop) : T → Prop
  | .mk _ a _ l => (l = [] ∨ ∃ b off, a = some ⟨b, off, none⟩ ∧ P b) ∧ T.footL P l
def T.footL (P : Nat → Prop) : List T → Prop
  | [] => True
  | x :: xs => x.foot P ∧ T.footL P xs
end

mutual
theorem T.foot.mono {P Q : Nat → Prop} (h : ∀ b, P b → Q b) : ∀ (v : T), v.foot P → v.foot Q
  | .mk k a cap l, hv => by
    simp only [T.foot] at hv ⊢
    refine ⟨?_, T.footL.mono h l hv.2⟩
    rcases hv.1 with h1 | ⟨b, off, ha, hb⟩
    · exact .inl h1
    · exact .inr ⟨b, off, ha, h b hb⟩
theorem T.footL.mono {P Q : Nat → Prop} (h : ∀ b, P b → Q b) : ∀ (l : List T), T.footL P l → T.footL Q l
  | [], _ => trivial
  | x :: xs, hv => ⟨T.foot.mono h x hv.1, T.footL.mono h xs hv.2⟩
end

theorem AtT.move {w w' : World} {b off : Nat} {l : List T} (h : AtT w b off l) (k : w'.heap[b]? = w.heap[b]?) : AtT w' b off l := fun j x hj => by
  obtain ⟨h0, h1⟩ := h j x hj
  exact ⟨(World.cell?_of_block k).trans h0, (World.cell?_of_block k).trans h1⟩

mutual
/-- What memory holds is still held where the blocks in which it lies are as they were. -/
theorem T.In.move {w w' : World} {B C : Nat} {P : Nat → Prop} (hC : B ≤ C) (k : ∀ b, b < B → P b → w'.heap[b]? = w.heap[b]?) : ∀ (v : T), v.In w B → v.foot P → v.In w' C
  | .mk c a cap l, hv, hf => by
    simp only [T.In, T.foot] at hv hf ⊢
    obtain ⟨h1, h4, h5, h6, h7⟩ := hv
    refine ⟨h1, h4, h5, ?_, T.InL.move hC k l h7 hf.2⟩
    rcases hf.1 with h8 | ⟨b', off', ha', hp⟩
    · exact .inl h8
    · rcases h6 with h6 | ⟨b, off, ha, hb, hat⟩
      · exact .inl h6
      · refine .inr ⟨b, off, ha, by omega, hat.move (k b hb ?_)⟩
        rw [ha] at ha'
        cases ha'
        exact hp
theorem T.InL.move {w w' : World} {B C : Nat} {P : Nat → Prop} (hC : B ≤ C) (k : ∀ b, b < B → P b → w'.heap[b]? = w.heap[b]?) : ∀ (l : List T), T.InL w B l → T.footL P l → T.InL w' C l
  | [], _, _ => trivial
  | x :: xs, hv, hf => ⟨T.In.move hC k x hv.1 hf.1, T.InL.move hC k xs hv.2 hf.2⟩
end

/-- A type without parts. -/
theorem T.foot_leaf {P : Nat → Prop} (k : Int) (a : Option Addr) (cap : Nat) : (T.mk k a cap []).foot P := by simp [T.foot, T.footL]

theorem T.InL_snoc {w : World} {B : Nat} {l : List T} {x : T} (h : T.InL w B l) (hx : x.In w B) : T.InL w B (l ++ [x]) := by
  induction l with
  | nil => exact ⟨hx, trivial⟩
  | cons z zs ih => exact ⟨h.1, ih h.2⟩
theorem T.footL_snoc {P : Nat → Prop} {l : List T} {x : T} (h : T.footL P l) (hx : x.foot P) : T.footL P (l ++ [x]) := by
  induction l with
  | nil => exact ⟨hx, trivial⟩
  | cons z zs ih => exact ⟨h.1, ih h.2⟩
theorem T.InL.keep {w w' : World} {B C : Nat} {l : List T} (h : T.InL w B l) (hC : B ≤ C) (k : Below B w w') : T.InL w' C l := by
  rw [T.InL_iff] at h ⊢
  exact fun j x hx => (h j x hx).keep hC k

/-- The two cells of a type, and those of a list. -/
def T.cells2 (x : T) : List Value := [.int .i64 x.k, .slice x.a x.l.length x.cap]
def cellsTL (l : List T) : List Value := l.flatMap T.cells2

theorem cellsTL_length (l : List T) : (cellsTL l).length = l.length * 2 := by
  induction l with
  | nil => rfl
  | cons x xs ih => simp [cellsTL, T.cells2] at ih ⊢; omega
theorem cellsTL_snoc (l : List T) (x : T) : cellsTL (l ++ [x]) = cellsTL l ++ x.cells2 := by simp [cellsTL]
theorem cellsTL_at : ∀ (l : List T) (j : Nat) (x : T), l[j]? = some x → (cellsTL l)[j * 2]? = some (.int .i64 x.k) ∧ (cellsTL l)[j * 2 + 1]? = some (.slice x.a x.l.length x.cap)
  | [], j, x, h => by simp at h
  | y :: ys, 0, x, h => by simp at h; subst h; simp [cellsTL, T.cells2]
  | y :: ys, j + 1, x, h => by
    have ih := cellsTL_at ys j x (by simpa using h)
    have hc : cellsTL (y :: ys) = .int .i64 y.k :: .slice y.a y.l.length y.cap :: cellsTL ys := by simp [cellsTL, T.cells2]
    rw [hc, show (j + 1) * 2 = j * 2 + 1 + 1 from by omega]
    simpa using ih

/-- A list of types that a row of the call's own holds. -/
theorem AtT.of_row {w : World} {base g n cap : Nat} {t : TypeId} {l : List T} (h : w.ownsRow base t 2 (.slice (some ⟨g, 0, none⟩) n cap) n (cellsTL l)) : AtT w g 0 l := fun j x hj => by
  have hc := h.cells (g := g) rfl
  obtain ⟨h0, h1⟩ := cellsTL_at l j x hj
  have ad : ∀ i, (⟨g, 0, none⟩ : Addr).add i = ⟨g, i, none⟩ := fun i => by unfold Addr.add; split <;> simp_all
  have c0 := hc _ _ h0
  have c1 := hc _ _ h1
  rw [ad] at c0 c1
  simpa using ⟨c0, c1⟩

mutual
theorem T.In.foot_lt {w : World} {B : Nat} {P : Nat → Prop} : ∀ (v : T), v.In w B → v.foot P → v.foot (fun b => P b ∧ b < B)
  | .mk c a cap l, hv, hf => by
    simp only [T.In, T.foot] at hv hf ⊢
    obtain ⟨h1, h4, h5, h6, h7⟩ := hv
    refine ⟨?_, T.InL.foot_lt l h7 hf.2⟩
    rcases hf.1 with h8 | ⟨b', off', ha', hp⟩
    · exact .inl h8
    · rcases h6 with h6 | ⟨b, off, ha, hb, hat⟩
      · exact .inl h6
      · rw [ha] at ha'
        cases ha'
        exact .inr ⟨_, _, ha, hp, hb⟩
theorem T.InL.foot_lt {w : World} {B : Nat} {P : Nat → Prop} : ∀ (l : List T), T.InL w B l → T.footL P l → T.footL (fun b => P b ∧ b < B) l
  | [], _, _ => trivial
  | x :: xs, hv, hf => ⟨T.In.foot_lt x hv.1 hf.1, T.InL.foot_lt xs hv.2 hf.2⟩
end

/-- A type in the making in block vb: its kind k; its parts vs lie in a row of the call's own. -/
structure TupAtT (w : World) (vb : Nat) (k : Int) (sl : Value) (vs : List T) : Prop where
  box : w.heap[vb]? = some (.cells #[.int .i64 k, sl] 27 (0, 0))
  own : w.ownsRow (vb + 1) 27 2 sl vs.length (cellsTL vs)
  hin : T.InL w w.heap.size vs
  foot : T.footL (fun b => vb < b ∧ sl.ownBlock ≠ some b) vs

theorem TupAtT.lt {w : World} {vb : Nat} {k : Int} {sl : Value} {vs : List T} (h : TupAtT w vb k sl vs) : vb < w.heap.size := (Array.getElem?_eq_some_iff.1 h.box).1

theorem TupAtT.kp {w w' : World} {vb : Nat} {k : Int} {sl : Value} {vs : List T} (h : TupAtT w vb k sl vs) (hk : Kp w w') : TupAtT w' vb k sl vs :=
  ⟨(hk.block _ h.lt).trans h.box, ownsRow_kp h.own hk, h.hin.keep hk.size hk, h.foot⟩

theorem TupAtT.step {wr wz wc w2 : World} {vb g cap : Nat} {k : Int} {sl : Value} {vs : List T} {z : T} (h : TupAtT wr vb k sl vs) (hkz : Kp wr wz) (hz : z.In wz wz.heap.size) (hf : z.foot (fun b => wr.heap.size ≤ b))
    (hkc : Kp wz wc) (hown : w2.ownsRow (vb + 1) 27 2 (.slice (some ⟨g, 0, none⟩) (vs.length + 1) cap) (vs.length + 1) (cellsTL vs ++ z.cells2)) (hg : wc.grownBy w2 sl.ownBlock) (hat : sl.ownBlock = some g ∨ g = wc.heap.size) :
    TupAtT (w2.setCell ⟨vb, 1, none⟩ (.slice (some ⟨g, 0, none⟩) (vs.length + 1) cap)) vb k (.slice (some ⟨g, 0, none⟩) (vs.length + 1) cap) (vs ++ [z]) := by
  have hvb := h.lt
  have hrow := h.own.lt
  have hkk := kk hkz hkc
  have hz1 := hkk.size
  have hz2 := hkc.size
  have hz3 : wc.heap.size ≤ w2.heap.size := by obtain ⟨_, _, _, h4, _⟩ := hg; exact h4
  have hz4 : w2.heap.size = (w2.setCell ⟨vb, 1, none⟩ (.slice (some ⟨g, 0, none⟩) (vs.length + 1) cap)).heap.size := by simp [World.setCell]
  have hvr : some vb ≠ sl.ownBlock := fun e => by have := (hrow vb e.symm).1; omega
  have hbox : w2.heap[vb]? = some (.cells #[.int .i64 k, sl] 27 (0, 0)) := (hg.block vb (by omega) hvr).trans ((hkk.block _ hvb).trans h.box)
  have mv : ∀ b, b < wc.heap.size → (vb < b ∧ sl.ownBlock ≠ some b) → (w2.setCell ⟨vb, 1, none⟩ (.slice (some ⟨g, 0, none⟩) (vs.length + 1) cap)).heap[b]? = wc.heap[b]? := fun b hb hp =>
    (Below.heap_setCell _ _ _ _ (by show b ≠ vb; omega)).trans (hg.block b hb (Ne.symm hp.2))
  have hfz : z.foot (fun b => (wr.heap.size ≤ b) ∧ b < wz.heap.size) := T.In.foot_lt z hz hf
  have hfv : T.footL (fun b => (vb < b ∧ sl.ownBlock ≠ some b) ∧ b < wr.heap.size) vs := T.InL.foot_lt vs h.hin h.foot
  have hzp : z.foot (fun b => vb < b ∧ sl.ownBlock ≠ some b) := T.foot.mono (fun b hb => ⟨by omega, fun e => by have := (hrow b e).2; omega⟩) z hfz
  refine ⟨?_, ?_, ?_, ?_⟩
  · have := heap_setCell_same w2 vb 1 _ _ (.slice (some ⟨g, 0, none⟩) (vs.length + 1) cap) hbox
    simpa using this
  · rw [cellsTL_snoc, List.length_append]
    exact ownsRow_set hown (by omega)
  · rw [← hz4]
    refine T.InL_snoc (T.InL.move hz3 mv vs (h.hin.keep hz1 hkk) h.foot) (T.In.move hz3 mv z (hz.keep hz2 hkc) hzp)
  · refine T.footL_snoc (T.footL.mono (fun b hb => ⟨hb.1.1, ?_⟩) vs hfv) (T.foot.mono (fun b hb => ⟨by omega, ?_⟩) z hfz)
    · intro e
      have e' : g = b := by simpa [Value.ownBlock] using e
      subst e'
      rcases hat with h1 | h1
      · exact hb.1.2 h1
      · omega
    · intro e
      have e' : g = b := by simpa [Value.ownBlock] using e
      subst e'
      rcases hat with h1 | h1
      · have := (hrow g h1).2; omega
      · omega

/-- What has been made is a type. -/
theorem TupAtT.value {w : World} {vb : Nat} {k : Int} {sl : Value} {vs : List T} (hk : I64 k) (h : TupAtT w vb k sl vs) : ∃ a cap, sl = .slice a vs.length cap ∧ (T.mk k a cap vs).In w w.heap.size ∧ (T.mk k a cap vs).foot (fun b => vb < b) := by
  have hft : T.footL (fun b => vb < b) vs := T.footL.mono (fun b hb => hb.1) vs h.foot
  rcases h.own.2 with ⟨hs, hn⟩ | ⟨g, cap, cur, hs, hb, hg, hnc, hcm, -, -⟩
  · have : vs = [] := List.length_eq_zero_iff.1 hn
    subst this
    refine ⟨none, 0, hs, ?_, T.foot_leaf _ _ _⟩
    simp [T.In, T.InL, hk]
  · refine ⟨some ⟨g, 0, none⟩, cap, hs, ?_, ?_⟩
    · simp only [T.In]
      have hrow := h.own
      rw [hs] at hrow
      exact ⟨hk, hnc, hcm, .inr ⟨g, 0, rfl, (Array.getElem?_eq_some_iff.1 hg).1, AtT.of_row hrow⟩, h.hin⟩
    · simp only [T.foot]
      exact ⟨.inr ⟨g, 0, rfl, by omega⟩, hft⟩

/-- A call has made a type such as P says, and another number. -/
def MakesT (w : World) (P : T → Int → Prop) (e : Ending) (w' : World) : Prop :=
  ∃ (x : T) (c : Int), e = .returned (.tuple #[x.val, .int .i64 c]) ∧ x.In w' w'.heap.size ∧ x.foot (fun b => w.heap.size ≤ b) ∧ P x c ∧ Kp w w'

/-- A call has made a value such as P says, and another number. -/
def MakesV (w : World) (P : V → Int → Prop) (e : Ending) (w' : World) : Prop :=
  ∃ (x : V) (c : Int), e = .returned (.tuple #[x.val, .int .i64 c]) ∧ x.In w' w'.heap.size ∧ x.foot (fun b => w.heap.size ≤ b) ∧ P x c ∧ Kp w w'

/-- A list of numbers in memory. -/
def Ints (w : World) (B : Nat) (a : Option Addr) (cap : Nat) (l : List Int) : Prop :=
  l.length ≤ cap ∧ cap ≤ maxLen ∧ (∀ n ∈ l, I64 n) ∧ (l = [] ∨ ∃ b off, a = some ⟨b, off, none⟩ ∧ b < B ∧ ∀ (j : Nat) (n : Int), l[j]? = some n → w.cell? ⟨b, off + j, none⟩ = some (.int .i64 n))

theorem Ints.keep {w w' : World} {B C : Nat} {a : Option Addr} {cap : Nat} {l : List Int} (h : Ints w B a cap l) (hC : B ≤ C) (k : Below B w w') : Ints w' C a cap l := by
  obtain ⟨h1, h2, h3, h4⟩ := h
  refine ⟨h1, h2, h3, ?_⟩
  rcases h4 with h4 | ⟨b, off, ha, hb, hc⟩
  · exact .inl h4
  · exact .inr ⟨b, off, ha, by omega, fun j n hj => (k.cell (p := ⟨b, _, none⟩) hb).trans (hc j n hj)⟩


theorem inTLeaf0 {w : World} {B : Nat} (k : Int) (hk : I64 k) : (T.mk k none 0 []).In w B := by
  simp [T.In, T.InL, hk]

end Go.Proofs.YtbiljalhabnhlaaGreatDoor

/-
  ARGUMENTS OF THE TYPES api.Type, []int, []byte, string AND bool, FROM THEIR READING.
-/
namespace Go.Proofs.YtbiljalhabnhlaaGreatDoor
open Go.ChangeShapes Go.WideShapes Go.ChangeAt Go.RowKit

theorem spot_none {w : World} {a : Addr} {v : Value} (h : w.cell? a = some v) : a.spot = none := by
  unfold World.cell? at h
  split at h
  · split at h
    · cases h
    · rename_i hs; simpa using hs
  · cases h

theorem cells27v : Tryz.prog.cellsOf 27 = 2 := by kernel_rfl
theorem cells25v : Tryz.prog.cellsOf 25 = 1 := by kernel_rfl
theorem cellsByte : Tryz.prog.cellsOf 5 = 1 := by kernel_rfl

set_option maxRecDepth 100000 in
set_option maxHeartbeats 2000000 in
theorem open_type {H : Type} {enc : TypeId × Value → H} {w : World} {base : Nat} {spare : Nat → Bool} {held : Bool} : ∀ (fuel : Nat) (cs : List Value) (x : DataW H × List MemPlace),
    DataW.trod enc Tryz.prog w base spare held fuel 27 cs = some x → ∃ v : T, cs = [.int .i64 v.k, .slice v.a v.l.length v.cap] ∧ v.In w w.heap.size := by
  intro fuel
  induction fuel using Nat.strongRecOn with
  | ind fuel ih =>
    intro cs x h
    obtain ⟨xs, n, rfl, -, hl, hlen, hf⟩ := DataW.trod_struct Tryz.underlying27 h
    rw [cells27v] at hl
    match cs, hl, xs, hlen with
    | [c0, c1], _, [x0, x1], _ =>
      have g0 := hf 0 _ rfl
      have g1 := hf 1 _ rfl
      simp [cells3v, cells25v] at g0 g1
      obtain ⟨k, e0, -, w0⟩ := DataW.trod_int Tryz.underlying3 g0
      simp at e0
      subst e0
      rcases DataW.trod_slice Tryz.underlying25 g1 with ⟨e3, -⟩ | ⟨a, len, cap, elems, rest, n', rfl, e3, -, hb, hlc, hcm, hel, hread, -, -⟩
      · simp at e3
        subst e3
        exact ⟨.mk k none 0 [], rfl, inTLeaf0 k (i64_of_wf w0)⟩
      · simp at e3
        subst e3
        obtain ⟨l, hll, hp⟩ := list_of (p := fun i (v : T) => w.cell? ⟨a.block, a.off + i * 2, none⟩ = some (.int .i64 v.k) ∧ w.cell? ⟨a.block, a.off + i * 2 + 1, none⟩ = some (.slice v.a v.l.length v.cap) ∧ (i = 0 → a.spot = none) ∧ a.block < w.heap.size ∧ v.In w w.heap.size) len (fun i hi => by
          have hr := hread i hi
          rw [cells27v] at hr
          have he : ∃ y, elems[i]? = some y := ⟨elems[i], by simp [hel, hi]⟩
          obtain ⟨y, hy⟩ := he
          rw [hy] at hr
          cases hc : w.cells? base (a.add (i * 2)) 2 with
          | none => rw [hc] at hr; cases hr
          | some cs' =>
            rw [hc] at hr
            obtain ⟨v, rfl, hv⟩ := ih n' (by omega) cs' y hr
            obtain ⟨_, _, hcell⟩ := World.cells?_some hc
            have k0 := hcell 0 (by omega)
            have k1 := hcell 1 (by omega)
            simp only [addr_add] at k0 k1
            have hspot : i = 0 → a.spot = none := fun hi0 => by
              subst hi0
              exact spot_none (v := .int .i64 v.k) (by simpa [Addr.add] using k0)
            have hblk : a.block < w.heap.size := by
              have := World.block_lt_of_cell? w _ (k1.trans (by rfl : _ = some (Value.slice v.a v.l.length v.cap)))
              simpa [Addr.add] using this
            refine ⟨v, ?_, ?_, hspot, hblk, hv⟩
            · by_cases hi0 : i = 0
              · subst hi0
                have hs := hspot rfl
                have : w.cell? a = some (.int .i64 v.k) := by simpa [Addr.add] using k0
                obtain ⟨ab, ao, asp⟩ := a
                simp at hs
                subst hs
                simpa using this
              · have h4 : ¬ i * 2 = 0 := by omega
                simpa [Addr.add, h4] using k0
            · simpa [Addr.add, Nat.add_assoc] using k1)
        obtain ⟨ab, ao, asp⟩ := a
        by_cases h0 : l = []
        · subst h0
          simp at hll
          subst hll
          refine ⟨.mk k (some ⟨ab, ao, asp⟩) cap [], rfl, ?_⟩
          simp [T.In, T.InL, i64_of_wf w0, hcm]
        · have hpos : 0 < l.length := by cases l with
            | nil => exact absurd rfl h0
            | cons _ _ => simp
          have hsp : asp = none := (hp 0 l[0] (by simp)).2.2.1 rfl
          have hbl := (hp 0 l[0] (by simp)).2.2.2.1
          subst hsp
          refine ⟨.mk k (some ⟨ab, ao, none⟩) cap l, by subst hll; rfl, ?_⟩
          simp only [T.In]
          refine ⟨i64_of_wf w0, by omega, hcm, .inr ⟨ab, ao, rfl, hbl, fun j x hx => ?_⟩, T.InL_iff.2 fun j x hx => (hp j x hx).2.2.2.2⟩
          obtain ⟨r0, r1, -⟩ := hp j x hx
          exact ⟨r0, r1⟩

set_option maxRecDepth 100000 in
theorem open_argT {H : Type} {enc : TypeId × Value → H} {W : World} {base : Nat} {spare : Nat → Bool} {held : Bool} {b0 : Nat} {v : Value} {d : DataW H} {ps : List MemPlace}
    (hval : Value.okWide Tryz.prog W .any b0 27 v) (h : DataW.Trod enc Tryz.prog W base spare held 27 v d ps) : ∃ x : T, v = x.val ∧ x.In W W.heap.size := by
  obtain ⟨cs, rfl, -⟩ := okWide_struct Tryz.underlying27 hval
  obtain ⟨fuel, hf⟩ := h
  obtain ⟨x, hx, hin⟩ := open_type fuel _ _ hf
  refine ⟨x, ?_, hin⟩
  have : cs = #[.int .i64 x.k, .slice x.a x.l.length x.cap] := by
    apply Array.ext'
    simpa [Value.cells] using hx
  rw [this]; rfl

set_option maxRecDepth 100000 in
theorem open_argI {H : Type} {enc : TypeId × Value → H} {W : World} {base : Nat} {spare : Nat → Bool} {held : Bool} {b0 : Nat} {v : Value} {d : DataW H} {ps : List MemPlace}
    (hval : Value.okWide Tryz.prog W .any b0 48 v) (h : DataW.Trod enc Tryz.prog W base spare held 48 v d ps) : ∃ a cap, ∃ l : List Int, v = .slice a l.length cap ∧ Ints W W.heap.size a cap l := by
  obtain ⟨a0, len0, cap0, rfl⟩ := okWide_slice Tryz.underlying48 hval
  obtain ⟨fuel, hf⟩ := h
  rcases open_ints Tryz.underlying48 Tryz.underlying3 cells3v hf with ⟨hc, -⟩ | ⟨a, len, cap, zs, hc, hb, hlc, hcm, hzl, -, hcell, hwf⟩
  · simp [Value.cells] at hc
    obtain ⟨rfl, rfl, rfl⟩ := hc
    exact ⟨none, 0, [], rfl, by simp [Ints]⟩
  · simp [Value.cells] at hc
    obtain ⟨rfl, rfl, rfl⟩ := hc
    have hle : len0 ≤ zs.length := by rw [hzl]; split <;> omega
    refine ⟨some a, cap0, zs.take len0, by simp [Nat.min_eq_left hle], by simp [Nat.min_eq_left hle]; omega, hcm, fun n hn => i64_of_wf (hwf n (List.mem_of_mem_take hn)), ?_⟩
    by_cases h0 : len0 = 0
    · left; simp [h0]
    · right
      have k0 := hcell 0 (by omega)
      have hs := spot_none (a := a) (by simpa [Addr.add] using k0)
      obtain ⟨ab, ao, asp⟩ := a
      simp at hs
      subst hs
      refine ⟨ab, ao, rfl, ?_, fun j n hj => ?_⟩
      · have := World.block_lt_of_cell? W _ k0
        simpa [Addr.add] using this
      · have hjl : j < len0 := by
          have := (List.getElem?_eq_some_iff.1 hj).1
          simp at this; omega
        rw [List.getElem?_take_of_lt hjl] at hj
        have := hcell j (by omega)
        rw [List.getD_eq_getElem?_getD, hj] at this
        by_cases hj0 : j = 0
        · subst hj0; simpa [Addr.add] using this
        · simpa [Addr.add, hj0] using this

set_option maxRecDepth 100000 in
theorem open_argS {H : Type} {enc : TypeId × Value → H} {W : World} {base : Nat} {spare : Nat → Bool} {held : Bool} {b0 : Nat} {v : Value} {d : DataW H} {ps : List MemPlace}
    (hval : Value.okWide Tryz.prog W .any b0 9 v) (h : DataW.Trod enc Tryz.prog W base spare held 9 v d ps) : ∃ s : ByteArray, v = .string s ∧ s.size ≤ maxLen := by
  obtain ⟨s0, rfl⟩ := okWide_string Tryz.underlying9 hval
  obtain ⟨fuel, hf⟩ := h
  obtain ⟨s, e2, -, hs⟩ := DataW.trod_string Tryz.underlying9 hf
  simp [Value.cells] at e2
  subst e2
  exact ⟨_, rfl, hs⟩

set_option maxRecDepth 100000 in
theorem open_argB {W : World} {b0 : Nat} {v : Value} (hval : Value.okWide Tryz.prog W .any b0 4 v) : ∃ b : Bool, v = .bool b := okWide_bool Tryz.underlying4 hval

end Go.Proofs.YtbiljalhabnhlaaGreatDoor

/-
  ValueOrders: THE TABLE OF TENS, FROM THE ROW's LIST.
-/
namespace Go.Proofs.YtbiljalhabnhlaaGreatDoor
open Go.ChangeShapes Go.WideShapes Go.ChangeAt Go.RowKit

theorem laid_tail {P : Program} {x : String × DataW Unit} {xs : List (String × DataW Unit)} {W : World} (h : laidMet P (x :: xs) W) : laidMet P xs W := by
  obtain ⟨ps, hl, hn, hc⟩ := h
  obtain ⟨g, t, cs, fuel, p, q, hg, ht, hv, hd, hr, rfl⟩ := hl
  exact ⟨q, hr, (List.nodup_append.1 hn).2.1, fun b off hp => hc b off (List.mem_append_right _ hp)⟩

theorem gTab : Tryz.prog.globalNamed "internal/strconv.uint64pow10" = some 3 := by kernel_rfl

theorem tens {W : World} (h : laidMetH Tryz.prog Rows.valueOrdersRow.laid W) : Tb W W.heap.size := by
  have h1 : laidMet Tryz.prog Rows.valueOrdersRow.laid W := h
  have h2 := laid_tail (laid_tail h1)
  refine Lib.tabBelow_of_tabIs ?_
  exact Lib.tabIs_of_head gTab (t := 179) (n := 20) (e := 167) (by kernel_rfl) (by kernel_rfl) (by kernel_rfl) (by kernel_rfl) (by kernel_rfl) h2

end Go.Proofs.YtbiljalhabnhlaaGreatDoor

/-
  Turn, Nth: A NUMBER BELOW ANOTHER ONE; A NUMBER OF A LIST, ROUND AND ROUND.
-/
namespace Go.Proofs.YtbiljalhabnhlaaGreatDoor
open Go.RowKit

/-- What Turn answers. -/
def turnI (n m : Int) : Int := if m < 1 then 0 else n % m

theorem turnI_range {n m : Int} (h : 1 ≤ m) : 0 ≤ turnI n m ∧ turnI n m < m := by
  unfold turnI
  rw [if_neg (by omega)]
  exact ⟨Int.emod_nonneg _ (by omega), Int.emod_lt_of_pos _ (by omega)⟩

theorem turn_any (n m : Int) (w : World) (hn : I64 n) (hm : I64 m) :
    Calls Tryz.prog 45 #[.int .i64 n, .int .i64 m] w fun e w' => e = .returned (.int .i64 (turnI n m)) ∧ w = w' := by
  unfold I64 at hn hm
  by_cases h1 : m < 1
  · have hv : turnI n m = 0 := by unfold turnI; rw [if_pos h1]
    rw [hv]
    have g1 : decide (m < 1) = true := by simpa using h1
    go_enter Tryz.func45, Tryz.ntmps45
    go_wp2_with fail
    go_ret
    exact ⟨rfl, rfl⟩
  · have hm0 : m ≠ 0 := by omega
    have hv : turnI n m = n % m := by unfold turnI; rw [if_neg h1]
    have hlo := Int.emod_nonneg n hm0
    have hhi := Int.emod_lt_of_pos n (by omega : 0 < m)
    rw [hv]
    have g1 : decide (m < 1) = false := by simpa using h1
    by_cases h0 : 0 ≤ n
    · have g2 : decide (n % m < 0) = false := by simpa using hlo
      clear hv
      go_enter Tryz.func45, Tryz.ntmps45
      go_wp2_with fail
      go_ret
      exact ⟨rfl, rfl⟩
    · have e := Int.tmod_eq_emod (a := n) (b := m)
      by_cases hd : m ∣ n
      · rw [if_pos (.inr hd)] at e
        have hz : n % m = 0 := Int.emod_eq_zero_of_dvd hd
        rw [hz] at e ⊢
        have e0 : n.tmod m = 0 := by omega
        clear e hv hz hd hlo hhi
        have g2 : decide (n.tmod m < 0) = false := by rw [e0]; rfl
        go_enter Tryz.func45, Tryz.ntmps45
        go_wp2_with fail
        go_ret
        exact ⟨by first | rfl | rw [e0], rfl⟩
      · rw [if_neg (by intro hh; rcases hh with hh | hh; exact h0 hh; exact hd hh)] at e
        have hr : n % m ≠ 0 := fun hz => hd (Int.dvd_of_emod_eq_zero hz)
        generalize n % m = r at *
        have e0 : n.tmod m = r - m := by omega
        have g2 : decide (n.tmod m < 0) = true := by rw [e0]; simp; omega
        have g3 : IntKind.i64.wrap (n.tmod m + m) = r := by rw [e0, show r - m + m = r from by omega]; exact IntWalk.i64_in _ (by omega)
        have H0 := Lib.hid e0
        clear e hv hr hd e0
        go_enter Tryz.func45, Tryz.ntmps45
        go_wp2_with fail
        go_ret
        exact ⟨rfl, rfl⟩

/-- What Nth answers. -/
def nthI (l : List Int) (at_ : Int) : Int := if l = [] then 0 else l.getD (turnI at_ l.length).toNat 0

theorem nth_any (a : Option Addr) (cap : Nat) (l : List Int) (n : Int) (w : World) (h : Ints w w.heap.size a cap l) (hn : I64 n) :
    Calls Tryz.prog 126 #[.slice a l.length cap, .int .i64 n] w fun e w' => e = .returned (.int .i64 (nthI l n)) ∧ w = w' ∧ I64 (nthI l n) := by
  obtain ⟨h1, h2, h3, h4⟩ := h
  unfold maxLen at h2
  by_cases hl : l = []
  · subst hl
    have hv : nthI [] n = 0 := rfl
    rw [hv]
    clear h3 h4 h1
    go_enter Tryz.func126, Tryz.ntmps126
    go_wp2_with fail
    go_ret
    exact ⟨rfl, rfl, by unfold I64; omega⟩
  · have hpos : 0 < l.length := List.length_pos_iff.2 hl
    rcases h4 with h4 | ⟨b, off, rfl, hb, hc⟩
    · exact absurd h4 hl
    have hv : nthI l n = l.getD (turnI n l.length).toNat 0 := by unfold nthI; rw [if_neg hl]
    have ht := turnI_range (n := n) (m := (l.length : Int)) (by omega)
    have T := turn_any n l.length w hn (by unfold I64; omega)
    rw [hv]
    generalize hq : turnI n l.length = q at *
    obtain ⟨j, rfl⟩ := Int.eq_ofNat_of_zero_le ht.1
    have hj : j < l.length := by omega
    simp only [Int.toNat_natCast] at hv ⊢
    obtain ⟨x, hx⟩ : ∃ x, l[j]? = some x := ⟨l[j], by simp [hj]⟩
    have hgd : l.getD j 0 = x := by simp [List.getD, hx]
    have hcell := hc j x hx
    have hI : I64 x := h3 x (List.mem_of_getElem? hx)
    rw [hgd]
    have HT := Lib.hid T
    have hlen : (l.length : Int) ≠ 0 := by omega
    have g1 : ((l.length : Int) == 0) = false := by rw [beq_eq_false_iff_ne]; omega
    have g2 : (j : Int) < l.length := by omega
    clear hq hv hgd hx hc h3 T hl
    go_enter Tryz.func126, Tryz.ntmps126
    go_wp2_with fail
    refine HT.out.mono ?_
    rintro e w' ⟨rfl, rfl⟩
    go_wp2_with fail
    go_ret
    exact ⟨rfl, rfl, hI⟩

end Go.Proofs.YtbiljalhabnhlaaGreatDoor

/-
  THE PROGRAM's least, AT ANY VALID TYPE.
-/
namespace Go.Proofs.YtbiljalhabnhlaaGreatDoor
open Go.RowKit

theorem infoV : (Tryz.prog.info? 24).map (fun i => (i.zero, i.size, i.bytes)) = some (some (.agg #[.int .i64 0, .int .i64 0, .string ⟨#[]⟩, .slice none 0 0]), 4, 56) := by kernel_rfl

theorem grown_kp {w w' : World} (h : w.grownBy w' none) : Kp w w' := by
  obtain ⟨h1, h2, h3, h4, h5⟩ := h
  exact ⟨h1, h2, h3, h4, fun k hk => h5 k hk (by simp)⟩

theorem inLeaf {w : World} {B : Nat} (k n : Int) (s : ByteArray) (hk : I64 k) (hn : I64 n) (hs : s.size ≤ maxLen) : (V.mk k n s none 0 []).In w B := by
  simp [V.In, V.InL, hk, hn, hs]

theorem leastP_int (w : World) (a : Option Addr) (l c : Nat) :
    Calls Tryz.prog 54 #[.agg #[.int .i64 0, .slice a l c]] w (Makes w (.mk 0 (-2147483648) ⟨#[]⟩ none 0 [])) :=
  (least_int w a l c).mono fun _ _ ⟨he, hk⟩ => ⟨.mk 0 (-2147483648) ⟨#[]⟩ none 0 [], he, inLeaf _ _ _ (by unfold I64; omega) (by unfold I64; omega) (by decide), V.foot_leaf _ _ _ _ _, V.same_refl _, hk⟩

theorem leastP_text (w : World) (a : Option Addr) (l c : Nat) :
    Calls Tryz.prog 54 #[.agg #[.int .i64 1, .slice a l c]] w (Makes w (.mk 1 0 ⟨#[]⟩ none 0 [])) :=
  (least_text w a l c).mono fun _ _ ⟨he, hk⟩ => ⟨.mk 1 0 ⟨#[]⟩ none 0 [], he, inLeaf _ _ _ (by unfold I64; omega) (by unfold I64; omega) (by decide), V.foot_leaf _ _ _ _ _, V.same_refl _, hk⟩

set_option maxRecDepth 100000 in
set_option maxHeartbeats 4000000 in
theorem leastP_sum (g off l c : Nat) (x : T) (w : World) (x1 : w.cell? ⟨g, off, none⟩ = some (.int .i64 x.k)) (x2 : w.cell? ⟨g, off + 1, none⟩ = some (.slice x.a x.l.length x.cap)) (hx : x.In w w.heap.size)
    (ih : ∀ w1 : World, x.In w1 w1.heap.size → Calls Tryz.prog 54 #[.agg #[.int .i64 x.k, .slice x.a x.l.length x.cap]] w1 (Makes w1 x.lst)) :
    Calls Tryz.prog 54 #[.agg #[.int .i64 3, .slice (some ⟨g, off, none⟩) (l + 1) c]] w (Makes w (.mk 3 0 ⟨#[]⟩ none 0 [x.lst])) := by
  have hg := World.block_lt_of_cell? w _ x1
  have C := fun w1 (h : Kp w w1) => ih w1 (hx.keep h.size h)
  generalize x.lst = y at C ⊢
  generalize x.k = xk at *
  generalize x.a = xa at *
  generalize x.l.length = xl at *
  generalize x.cap = xc at *
  have HC := Lib.hid C
  clear C ih hx
  go_enter Tryz.func54, Tryz.ntmps54
  go_wp2_with fail
  refine (HC.out _ (kk (ka _ _) (ka _ _))).mono ?_
  rintro e w1 ⟨z, rfl, hzi, hzf, hzs, hk1⟩
  have hz1 := hk1.size
  simp at hz1
  have hblk : w1.heap[w.heap.size + 1]? = some (.cells zero4 24 (0, 0)) := (hk1.block _ (by simp)).trans (blockHere (by simp))
  obtain ⟨c0, c1, c2, c3, f0, f1, f2, f3⟩ := cell4 hblk
  have HB := Lib.hid hblk
  have HK1 := Lib.hid (kk (kk (ka _ _) (ka _ _)) hk1)
  have hzf2 : z.foot (fun b => w.heap.size + 2 ≤ b) := V.foot.mono (fun b hb => by simp at hb; omega) z hzf
  have HZI := Lib.hid hzi
  have HZF := Lib.hid hzf2
  have HZS := Lib.hid hzs
  clear hk1 hblk hzi hzf hzf2 hzs
  cases z with
  | mk k n s a cap zl =>
  simp only [V.val_mk]
  go_wp2_with fail
  refine (together_one _ w1.heap.size 0 1 (.int .i64 k) (.int .i64 n) (.string s) (.slice a zl.length cap) (here rfl rfl) (here rfl rfl) (here rfl rfl) (here rfl rfl) (by simp [Value.oneCell'])).mono ?_
  rintro e w2 ⟨q, rfl, hq, hqb, hk2⟩
  simp at hq
  have hblk := ((kk (ka _ _) hk2).block _ (lt_of_block HB.out)).trans HB.out
  obtain ⟨d0, d1, d2, d3, g0, g1, g2, g3⟩ := cell4 hblk
  have HB2 := Lib.hid hblk
  have hk12 := kk (ka _ _) hk2
  have HK2 := Lib.hid (kk HK1.out hk12)
  have HQ := Lib.hid hqb
  have HZ2 := Lib.hid (HZI.out.keep hk12.size hk12)
  clear hk2 hk12 hblk hqb c0 c1 c2 c3 f0 f1 f2 f3
  go_wp2_with fail
  obtain ⟨e0, e1, e2, e3, -⟩ := cell4 (put4_block (v0 := .int .i64 3) (v1 := .int .i64 0) (v2 := .string ⟨#[]⟩) (v3 := .slice (some ⟨q, 0, none⟩) 1 1) HB2.out)
  refine bodyPost_ret (v := .agg #[.int .i64 3, .int .i64 0, .string ⟨#[]⟩, .slice (some ⟨q, 0, none⟩) 1 1]) (by simp [results, Tryz.results54, go_sem, e0, e1, e2, e3]) rfl ?_
  have hqs := lt_of_block HQ.out
  have hmv : ∀ b, b < w2.heap.size → w.heap.size + 2 ≤ b → (put4 w2 (w.heap.size + 1) (.int .i64 3) (.int .i64 0) (.string ⟨#[]⟩) (.slice (some ⟨q, 0, none⟩) 1 1)).heap[b]? = w2.heap[b]? := fun b _ hb => put4_other (by omega)
  have hS : (put4 w2 (w.heap.size + 1) (.int .i64 3) (.int .i64 0) (.string ⟨#[]⟩) (.slice (some ⟨q, 0, none⟩) 1 1)).heap.size = w2.heap.size := by simp [World.setCell]
  refine ⟨.mk 3 0 ⟨#[]⟩ (some ⟨q, 0, none⟩) 1 [.mk k n s a cap zl], rfl, ?_, ?_, ?_, put4_kp HK2.out (by omega)⟩
  · rw [hS]
    simp only [V.In, V.InL]
    refine ⟨by unfold I64; omega, by unfold I64; omega, by decide, Nat.le_refl _, by decide, .inr ⟨q, 0, rfl, hqs, ?_⟩, ?_, trivial⟩
    · exact At.of_block ((hmv q hqs (by omega)).trans HQ.out) rfl
    · exact V.In.move (Nat.le_refl _) hmv _ HZ2.out HZF.out
  · simp only [V.foot, V.footL]
    exact ⟨.inr ⟨q, 0, rfl, by omega⟩, V.foot.mono (fun b hb => by omega) _ HZF.out, trivial⟩
  · exact V.same_node (V.sameL_one HZS.out)

/-- A row of l.length values in block g, of which the first j have been stored: vs, the least values of l's first j types. -/
structure RowAt (w : World) (g : Nat) (l : List T) (j : Nat) (cs : Array Value) (vs : List V) : Prop where
  blk : w.heap[g]? = some (.cells cs 24 (0, 0))
  size : cs.size = l.length * 4
  take : cs.toList.take (j * 4) = cellsL vs
  same : V.sameL vs (T.lstL (l.take j)) = true
  hin : V.InL w w.heap.size vs
  foot : V.footL (fun b => g < b) vs

/-- Four cells of a row turned. -/
theorem take_put4 {cs : Array Value} {j n : Nat} {v0 v1 v2 v3 : Value} (hs : cs.size = n * 4) (hj : j < n) :
    ((((cs.setIfInBounds (j * 4) v0).setIfInBounds (j * 4 + 1) v1).setIfInBounds (j * 4 + 2) v2).setIfInBounds (j * 4 + 3) v3).toList.take ((j + 1) * 4) = cs.toList.take (j * 4) ++ [v0, v1, v2, v3] := by
  apply List.ext_getElem?
  intro i
  simp only [Array.toList_setIfInBounds, List.getElem?_take, List.getElem?_set, List.getElem?_append, List.length_take, Array.length_toList, List.length_set]
  have hmin : min (j * 4) cs.size = j * 4 := by omega
  rw [hmin]
  by_cases h0 : i < j * 4
  · have h1 : i < (j + 1) * 4 := by omega
    simp [h0, h1, show ¬ j * 4 + 3 = i from by omega, show ¬ j * 4 + 2 = i from by omega, show ¬ j * 4 + 1 = i from by omega, show ¬ j * 4 = i from by omega]
  · by_cases h1 : i < (j + 1) * 4
    · obtain ⟨r, hr, hr4⟩ : ∃ r, i = j * 4 + r ∧ r < 4 := ⟨i - j * 4, by omega, by omega⟩
      subst hr
      have : r = 0 ∨ r = 1 ∨ r = 2 ∨ r = 3 := by omega
      rcases this with rfl | rfl | rfl | rfl
      · simp [show (0 : Nat) < 4 from by omega, show j * 4 < (j + 1) * 4 from by omega, show j * 4 < cs.size from by omega]
      · simp [h1, show j * 4 + 1 < cs.size from by omega]
        intro h; omega
      · simp [h1, show j * 4 + 2 < cs.size from by omega]
        intro h; omega
      · simp [h1, show j * 4 + 3 < cs.size from by omega]
        intro h; omega
    · simp [h0, h1]
      omega

theorem RowAt.step {w w2 : World} {g j : Nat} {l : List T} {cs : Array Value} {vs : List V} {z y : V} (h : RowAt w g l j cs vs) (hj : j < l.length) (hg : g < w.heap.size) (hk : Kp w w2) (hz : z.In w2 w2.heap.size)
    (hf : z.foot (fun b => w.heap.size ≤ b)) (hs : z.same y = true) (htk : T.lstL (l.take (j + 1)) = T.lstL (l.take j) ++ [y]) :
    RowAt (putAt w2 g (j * 4) (.int .i64 z.k) (.int .i64 z.n) (.string z.s) (.slice z.a z.l.length z.cap)) g l (j + 1)
      ((((cs.setIfInBounds (j * 4) (.int .i64 z.k)).setIfInBounds (j * 4 + 1) (.int .i64 z.n)).setIfInBounds (j * 4 + 2) (.string z.s)).setIfInBounds (j * 4 + 3) (.slice z.a z.l.length z.cap)) (vs ++ [z]) := by
  have hS : (putAt w2 g (j * 4) (.int .i64 z.k) (.int .i64 z.n) (.string z.s) (.slice z.a z.l.length z.cap)).heap.size = w2.heap.size := by simp [World.setCell]
  have hmv : ∀ b, b < w2.heap.size → g < b → (putAt w2 g (j * 4) (.int .i64 z.k) (.int .i64 z.n) (.string z.s) (.slice z.a z.l.length z.cap)).heap[b]? = w2.heap[b]? := fun b _ hb => putAt_other (by omega)
  refine ⟨putAt_block ((hk.block _ hg).trans h.blk), by simp [h.size], ?_, ?_, ?_, ?_⟩
  · rw [take_put4 h.size hj, h.take, cellsL_snoc]; rfl
  · rw [htk]; exact V.sameL_snoc h.same hs
  · rw [hS]
    exact V.InL_snoc (V.InL.move (Nat.le_refl _) hmv _ (h.hin.keep hk.size hk) h.foot) (V.In.move (Nat.le_refl _) hmv _ hz (V.foot.mono (fun b hb => by omega) _ hf))
  · exact V.footL_snoc h.foot (V.foot.mono (fun b hb => by omega) _ hf)

set_option maxRecDepth 100000 in
set_option maxHeartbeats 8000000 in
theorem leastP_tuple (a : Option Addr) (cap : Nat) (l : List T) (w : World) (hin : (T.mk 2 a cap l).In w w.heap.size) (hl8 : l.length ≤ 8)
    (ih : ∀ (j : Nat) (x : T), l[j]? = some x → ∀ w1 : World, x.In w1 w1.heap.size → Calls Tryz.prog 54 #[.agg #[.int .i64 x.k, .slice x.a x.l.length x.cap]] w1 (Makes w1 x.lst)) :
    Calls Tryz.prog 54 #[.agg #[.int .i64 2, .slice a l.length cap]] w (Makes w (.mk 2 0 ⟨#[]⟩ none 0 (T.lstL l))) := by
  obtain ⟨i0, hi, hz0, hz1, hz2⟩ := info_parts infoV
  have HIN := Lib.hid hin
  have IH := Lib.hid ih
  clear hin ih
  go_enter Tryz.func54, Tryz.ntmps54
  go_wp2_with (refine wpList_make_full _ rfl _ _ 22 rfl 0 24 i0 _ 4 Tryz.underlying22 hi hz0 hz1 .i64 .i64 _ _ l.length rfl rfl rfl rfl ?c1 ?c2 ?c3 ?_)
  case c1 => rw [hz2]; omega
  case c2 => unfold maxLen; omega
  case c3 => omega
  intro w1 hown hgrow
  obtain ⟨cs, hblk, hcs⟩ : ∃ cs : Array Value, w1.heap[w.heap.size + 1 + 1]? = some (.cells cs 24 (0, 0)) ∧ cs.size = l.length * 4 := by
    rcases hown.2 with ⟨h, -⟩ | ⟨g, cap', cur, hv, -, hg, -, -, hsz, -⟩
    · cases h
    · cases hv; exact ⟨cur, hg, hsz⟩
  have hk1 : Kp w w1 := kk (kk (ka _ _) (ka _ _)) (grown_kp hgrow)
  have hbox : w1.heap[w.heap.size]? = some (.cells #[.int .i64 2, .slice a l.length cap] 27 (0, 0)) := ((grown_kp hgrow).block _ (by simp; omega)).trans (blockPast (blockHere rfl))
  have hres : w1.heap[w.heap.size + 1]? = some (.cells zero4 24 (0, 0)) := ((grown_kp hgrow).block _ (by simp)).trans (blockHere (by simp))
  have hzw := lt_of_block hblk
  have b0 := cellOf (i := 0) hbox rfl
  have b1 := cellOf (i := 1) hbox rfl
  have HB := Lib.hid hblk
  have HBX := Lib.hid hbox
  have HRS := Lib.hid hres
  have HK1 := Lib.hid hk1
  have HCS := Lib.hid hcs
  clear hblk hbox hres hk1 hcs hown hgrow hz0 hz1 hz2 hi
  generalize hg : w.heap.size + 1 + 1 = g at *
  go_wp2_with fail
  go_loopw [20] (fun i wr => ∃ (j : Nat) (cs : Array Value) (vs : List V), j ≤ l.length ∧ i = .int .i64 j ∧ RowAt wr g l j cs vs ∧ Kp w wr ∧ wr.heap[w.heap.size]? = some (.cells #[.int .i64 2, .slice a l.length cap] 27 (0, 0)) ∧ wr.heap[w.heap.size + 1]? = some (.cells zero4 24 (0, 0))) (fun i _ => l.length - (intOf i).toNat)
  case atStart => exact ⟨0, cs, [], Nat.zero_le _, rfl, ⟨HB.out, HCS.out, by simp [cellsL], by simp [T.lstL, V.sameL], trivial, trivial⟩, HK1.out, HBX.out, HRS.out⟩
  case round =>
    obtain ⟨j, cs, vs, hj, rfl, hrow, hk, hbox, hres⟩ := hrel
    by_cases hlt : j < l.length
    · obtain ⟨x, hx⟩ : ∃ x, l[j]? = some x := ⟨l[j], by simp [hlt]⟩
      obtain ⟨p0, off, rfl, hp0, q0, q1, hxin⟩ := T.atPart HIN.out hx
      have r0 := kc hk q0
      have r1 := kc hk q1
      have g0 : (0 : Int) ≤ (j : Int) := by omega
      have g1 : (j : Int) < (l.length : Int) := by omega
      have hih := fun (w1 : World) (h : Kp wr w1) => IH.out j x hx w1 (hxin.keep (kk hk h).size (kk hk h))
      have htk := lstL_take l j x hx
      generalize x.lst = y at *
      generalize x.k = xk at *
      generalize x.a = xa at *
      generalize x.l.length = xl at *
      generalize x.cap = xc at *
      have HIH := Lib.hid hih
      have HTK := Lib.hid htk
      have HROW := Lib.hid hrow
      have HK := Lib.hid hk
      have HBX2 := Lib.hid hbox
      have HRS2 := Lib.hid hres
      clear hih htk hrow hk hbox hres hx hxin q0 q1
      go_wp2_with fail
      have hgl := lt_of_block HROW.out.blk
      have hsz := HROW.out.size
      refine (HIH.out _ (ka _ _)).mono ?_
      rintro e w2 ⟨z, rfl, hzi, hzf, hzs, hk2⟩
      have hk2' := kk (ka _ _) hk2
      have hst := HROW.out.step hlt hgl hk2' hzi (V.foot.mono (fun b hb => by simp at hb; omega) z hzf) hzs HTK.out
      have hb2 := (hk2'.block _ hgl).trans HROW.out.blk
      obtain ⟨u0, hu0⟩ : ∃ u, cs[j * 4]? = some u := ⟨cs[j * 4]'(by omega), by simp⟩
      obtain ⟨u1, hu1⟩ : ∃ u, cs[j * 4 + 1]? = some u := ⟨cs[j * 4 + 1]'(by omega), by simp⟩
      obtain ⟨u2, hu2⟩ : ∃ u, cs[j * 4 + 2]? = some u := ⟨cs[j * 4 + 2]'(by omega), by simp⟩
      obtain ⟨u3, hu3⟩ : ∃ u, cs[j * 4 + 3]? = some u := ⟨cs[j * 4 + 3]'(by omega), by simp⟩
      have m0 := cellOf hb2 hu0
      have m1 := cellOf hb2 hu1
      have m2 := cellOf hb2 hu2
      have m3 := cellOf hb2 hu3
      have n0 := freeOf (i := j * 4) hb2
      have n1 := freeOf (i := j * 4 + 1) hb2
      have n2 := freeOf (i := j * 4 + 2) hb2
      have n3 := freeOf (i := j * 4 + 3) hb2
      have HST := Lib.hid hst
      have HK2 := Lib.hid (kk HK.out hk2')
      have HBX3 := Lib.hid ((hk2'.block _ (lt_of_block HBX2.out)).trans HBX2.out)
      have HRS3 := Lib.hid ((hk2'.block _ (lt_of_block HRS2.out)).trans HRS2.out)
      clear hst hk2 hk2' hzi hzf hzs hb2 hu0 hu1 hu2 hu3 r0 r1
      cases z with
      | mk k n s za zc zl =>
      simp only [V.val_mk]
      go_wp2_with fail
      go_roundw
      case rel => exact ⟨j + 1, _, _, by omega, by first | go_num | simp, HST.out, putAt_kp HK2.out (by omega), (putAt_other (by omega)).trans HBX3.out, (putAt_other (by omega)).trans HRS3.out⟩
      case measure => simp [intOf]; omega
    · have hjj : j = l.length := by omega
      subst hjj
      obtain ⟨d0, d1, d2, d3, f0, f1, f2, f3⟩ := cell4 hres
      have HROW := Lib.hid hrow
      have HK := Lib.hid hk
      have HRS2 := Lib.hid hres
      clear hrow hk hbox hres
      go_wp2_with fail
      obtain ⟨e0, e1, e2, e3, -⟩ := cell4 (put4_block (v0 := .int .i64 2) (v1 := .int .i64 0) (v2 := .string ⟨#[]⟩) (v3 := .slice (some ⟨g, 0, none⟩) l.length l.length) HRS2.out)
      refine bodyPost_ret (v := .agg #[.int .i64 2, .int .i64 0, .string ⟨#[]⟩, .slice (some ⟨g, 0, none⟩) l.length l.length]) (by simp [results, Tryz.results54, go_sem, e0, e1, e2, e3]) rfl ?_
      obtain ⟨hb, hsz, htk, hsm, hvi, hvf⟩ := HROW.out
      rw [List.take_of_length_le (Nat.le_refl _)] at hsm
      have hcl : cs.toList.length = l.length * 4 := (Array.length_toList (xs := cs)).trans hsz
      have hlen : vs.length = l.length := by
        have := congrArg List.length htk
        rw [cellsL_length, List.length_take, hcl, Nat.min_self] at this
        omega
      rw [← hlen]
      have hmv : ∀ b, b < wr.heap.size → g ≤ b → (put4 wr (w.heap.size + 1) (.int .i64 2) (.int .i64 0) (.string ⟨#[]⟩) (.slice (some ⟨g, 0, none⟩) vs.length vs.length)).heap[b]? = wr.heap[b]? := fun b _ hb => put4_other (by omega)
      have hS : (put4 wr (w.heap.size + 1) (.int .i64 2) (.int .i64 0) (.string ⟨#[]⟩) (.slice (some ⟨g, 0, none⟩) vs.length vs.length)).heap.size = wr.heap.size := by simp [World.setCell]
      refine ⟨.mk 2 0 ⟨#[]⟩ (some ⟨g, 0, none⟩) vs.length vs, rfl, ?_, ?_, V.same_node hsm, put4_kp HK.out (by omega)⟩
      · rw [hS]
        simp only [V.In]
        refine ⟨by unfold I64; omega, by unfold I64; omega, by decide, Nat.le_refl _, by unfold maxLen; omega, .inr ⟨g, 0, rfl, lt_of_block hb, ?_⟩, V.InL.move (Nat.le_refl _) (fun b h1 h2 => hmv b h1 (Nat.le_of_lt h2)) _ hvi hvf⟩
        refine At.of_block ((hmv g (lt_of_block hb) (Nat.le_refl _)).trans hb) ?_
        rw [← htk]
        exact (List.take_of_length_le (l := cs.toList) (i := l.length * 4) (Nat.le_of_eq hcl)).symm
      · simp only [V.foot]
        exact ⟨.inr ⟨g, 0, rfl, by omega⟩, V.footL.mono (fun b hb => by omega) _ hvf⟩

set_option maxHeartbeats 1000000 in
theorem leastP : ∀ (N : Nat) (t : T) (d : Nat) (w : World), t.rank ≤ N → t.sh d = true → t.In w w.heap.size →
    Calls Tryz.prog 54 #[.agg #[.int .i64 t.k, .slice t.a t.l.length t.cap]] w (Makes w t.lst) := by
  intro N
  induction N with
  | zero => intro t d w h; have := t.rank_pos; omega
  | succ N ih =>
    intro t d w hN ht hin
    cases t with
    | mk k a cap l =>
    cases d with
    | zero => simp [T.sh] at ht
    | succ d =>
    simp [T.sh] at ht
    obtain ⟨hf, hp⟩ := ht
    have hih : ∀ (j : Nat) (x : T), l[j]? = some x → ∀ w1 : World, x.In w1 w1.heap.size → Calls Tryz.prog 54 #[.agg #[.int .i64 x.k, .slice x.a x.l.length x.cap]] w1 (Makes w1 x.lst) := fun j x hx w1 h1 =>
      ih x d w1 (by have := T.rank_part (v := .mk k a cap l) (j := j) (x := x) hx; omega) (shLT_at hp hx) h1
    show Calls Tryz.prog 54 #[.agg #[.int .i64 k, .slice a l.length cap]] w _
    by_cases h0 : k = 0
    · subst h0; simp [T.lst]; exact leastP_int w a l.length cap
    by_cases h1 : k = 1
    · subst h1; simp [T.lst]; exact leastP_text w a l.length cap
    by_cases h2 : k = 2
    · subst h2; simp [T.lst]
      exact leastP_tuple a cap l w hin (by simp [fitsT] at hf; exact hf) hih
    by_cases h3 : k = 3
    · subst h3
      have hl : 0 < l.length := by simp [fitsT] at hf; exact hf.1
      cases l with
      | nil => simp at hl
      | cons x xs =>
        simp [T.lst, T.lstH]
        obtain ⟨p0, off, rfl, hp0, q0, q1, hxin⟩ := T.atPart hin (j := 0) (x := x) rfl
        exact leastP_sum p0 off xs.length cap x w (by simpa using q0) (by simpa using q1) hxin (fun w1 h1 => hih 0 x rfl w1 h1)
    · simp [fitsT, h0, h1, h2, h3] at hf

end Go.Proofs.YtbiljalhabnhlaaGreatDoor
