/-
  Proved: the statement ValueSizes (value.Size and value.Check of values that numbers make, put together as other numbers say, and the chapter's examples), as its tied card says it, with no condition beyond the card's own.
  Part 1 of 1.
-/
import Derived.Test.YtbiljalhabnhlaaGreatDoorBa10
import Derived.Deep.CutRange
import Derived.Deep.RegionLaw
import Derived.Test.YtbiljalhabnhlaaGreatDoorBa08
import Derived.Lib.LaidIn
import Derived.Deep.DeepWitnessRowRef
/-
  ValueSizes: WHAT IS PUT TOGETHER.
-/
namespace Go.Proofs.YtbiljalhabnhlaaGreatDoor
open Go.RowKit

/-- What is known of a value that is put together: its form is right, at some depth. -/
def Formed (y : V) : Prop := ∃ D, y.sh D = true

theorem Formed.valid {y : V} (h : Formed y) : y.valid = (decide (y.dep ≤ 6) && decide (y.rank ≤ 60)) := by
  obtain ⟨D, hD⟩ := h
  have := V.sh_dep y D 6 hD
  unfold V.valid
  congr 1
  rw [Bool.eq_iff_iff, decide_eq_true_eq]
  exact this
theorem Formed.of_valid {y : V} (h : y.valid = true) : Formed y := ⟨6, by simp [V.valid] at h; exact h.1⟩
theorem Good.formed {t : T} {y : V} (h : Good t y) : y.sh 3 = true := h.2.1

theorem tag_formed {i : Int} {qa : Option Addr} {v : V} (hv : Formed v) (h0 : 0 ≤ i) (h8 : i < 8) : Formed (.mk 3 i ⟨#[]⟩ qa 1 [v]) := by
  obtain ⟨D, hD⟩ := hv
  exact ⟨D + 1, by simp [V.sh, V.shL, fitsB, taggedB, hD, h0, h8]⟩
theorem V.sh_le {x : V} {d : Nat} (h : x.sh d = true) : ∀ e, x.sh (d + e) = true
  | 0 => h
  | e + 1 => V.sh_up _ _ (V.sh_le h e)
theorem tuple_formed {vs : List V} {qa : Option Addr} {c : Nat} (hv : V.shL vs 6 = true) (hl : vs.length ≤ 8) : Formed (.mk 2 0 ⟨#[]⟩ qa c vs) := ⟨7, by simp [V.sh, fitsB, tupleB, hv, hl]⟩
theorem shLV_snoc {l : List V} {x : V} {d : Nat} (h : V.shL l d = true) (hx : x.sh d = true) : V.shL (l ++ [x]) d = true := by
  induction l with
  | nil => simp [V.shL, hx]
  | cons y ys ih => simp [V.shL] at h ⊢; exact ⟨h.1, ih h.2⟩

/-- What has been put together, y in block nb, and what it was put together of, v in block vb. -/
structure Nxt (W0 W : World) (vb nb : Nat) (v y : V) : Prop where
  nbx : W.heap[nb]? = some (.cells #[.int .i64 y.k, .int .i64 y.n, .string y.s, .slice y.a y.l.length y.cap] 24 (0, 0))
  vbx : W.heap[vb]? = some (.cells #[.int .i64 v.k, .int .i64 v.n, .string v.s, .slice v.a v.l.length v.cap] 24 (0, 0))
  kp : Kp W0 W
  yin : y.In W W.heap.size
  yft : y.foot (fun b => b ≠ nb ∧ b ≠ vb)
  vin : v.In W W.heap.size
  vft : v.foot (fun b => b < nb ∧ b ≠ vb)
  lt : vb < nb

theorem tag_in {w : World} {q : Nat} {i : Int} {v : V} (hi : 0 ≤ i ∧ i < 8) (hq : w.heap[q]? = some (.cells #[.int .i64 v.k, .int .i64 v.n, .string v.s, .slice v.a v.l.length v.cap] 24 (0, 0))) (hv : v.In w w.heap.size) : (V.mk 3 i ⟨#[]⟩ (some ⟨q, 0, none⟩) 1 [v]).In w w.heap.size := by
  simp only [V.In, V.InL]
  exact ⟨by unfold I64; omega, by unfold I64; omega, by decide, Nat.le_refl _, by decide, .inr ⟨q, 0, rfl, lt_of_block hq, At.of_block hq (by simp [cellsL, V.cells4])⟩, hv, trivial⟩
theorem tag_foot {P : Nat → Prop} {q : Nat} {i : Int} {v : V} (hq : P q) (hv : v.foot P) : (V.mk 3 i ⟨#[]⟩ (some ⟨q, 0, none⟩) 1 [v]).foot P := by
  simp only [V.foot, V.footL]
  exact ⟨.inr ⟨q, 0, rfl, hq⟩, hv, trivial⟩

theorem Nxt.first {W0 wr w3 w4 : World} {vb q : Nat} {i : Int} {v : V} (hi : 0 ≤ i ∧ i < 8) (hk : Kp W0 wr) (hvi : v.In wr wr.heap.size) (hvf : v.foot (fun b => b ≠ vb)) (hbx : wr.heap[vb]? = some (.cells #[.int .i64 v.k, .int .i64 v.n, .string v.s, .slice v.a v.l.length v.cap] 24 (0, 0))) (h3 : Kp wr w3)
    (h4 : Kp (w3.alloc (.cells zero4 24)) w4) (hqb : w4.heap[q]? = some (.cells #[.int .i64 v.k, .int .i64 v.n, .string v.s, .slice v.a v.l.length v.cap] 24 (0, 0))) (hq : w3.heap.size + 1 ≤ q) (_hv0 : W0.heap.size ≤ vb) :
    Nxt W0 (put4 w4 w3.heap.size (.int .i64 3) (.int .i64 i) (.string ⟨#[]⟩) (.slice (some ⟨q, 0, none⟩) 1 1)) vb w3.heap.size v (.mk 3 i ⟨#[]⟩ (some ⟨q, 0, none⟩) 1 [v]) := by
  have hlt := lt_of_block hbx
  have hz3 := h3.size
  have k34 := kk (ka w3 (.cells zero4 24)) h4
  have hnb : w4.heap[w3.heap.size]? = some (.cells zero4 24 (0, 0)) := (h4.block _ (by simp)).trans (blockHere rfl)
  have kr4 := kk h3 k34
  have hS : (put4 w4 w3.heap.size (.int .i64 3) (.int .i64 i) (.string ⟨#[]⟩) (.slice (some ⟨q, 0, none⟩) 1 1)).heap.size = w4.heap.size := by simp [World.setCell]
  have hvf2 : v.foot (fun b => b < w3.heap.size ∧ b ≠ vb) := V.foot.mono (fun b hb => ⟨by omega, hb.1⟩) _ (V.In.foot_lt _ hvi hvf)
  have hv4 := hvi.keep kr4.size kr4
  have hyf : (V.mk 3 i ⟨#[]⟩ (some ⟨q, 0, none⟩) 1 [v]).foot (fun b => b ≠ w3.heap.size ∧ b ≠ vb) := tag_foot ⟨by omega, by omega⟩ (V.foot.mono (fun b hb => ⟨by omega, hb.2⟩) _ hvf2)
  refine ⟨put4_block hnb, (put4_other (by omega)).trans ((kr4.block _ hlt).trans hbx), put4_kp (kk hk kr4) (by have := hk.size; omega), ?_, hyf, ?_, hvf2, by omega⟩
  · rw [hS]
    exact V.In.move (Nat.le_refl _) (fun b _ hb => put4_other (by omega)) _ (tag_in hi hqb hv4) hyf
  · rw [hS]
    exact V.In.move (Nat.le_refl _) (fun b _ hb => put4_other (by omega)) _ hv4 hvf2

theorem Nxt.last {W0 wr w3 w4 : World} {vb q : Nat} {i : Int} {v : V} (hi : 0 ≤ i ∧ i < 8) (hk : Kp W0 wr) (hvi : v.In wr wr.heap.size) (hvf : v.foot (fun b => b ≠ vb)) (hbx : wr.heap[vb]? = some (.cells #[.int .i64 v.k, .int .i64 v.n, .string v.s, .slice v.a v.l.length v.cap] 24 (0, 0))) (h3 : Kp wr w3)
    (h4 : Kp w3 w4) (hqb : w4.heap[q]? = some (.cells #[.int .i64 v.k, .int .i64 v.n, .string v.s, .slice v.a v.l.length v.cap] 24 (0, 0))) (hq : w3.heap.size ≤ q) :
    Nxt W0 (w4.alloc (.cells #[.int .i64 3, .int .i64 i, .string ⟨#[]⟩, .slice (some ⟨q, 0, none⟩) 1 1] 24)) vb w4.heap.size v (.mk 3 i ⟨#[]⟩ (some ⟨q, 0, none⟩) 1 [v]) := by
  have hlt := lt_of_block hbx
  have hz3 := h3.size
  have hz4 := h4.size
  have hql := lt_of_block hqb
  have kr4 := kk h3 h4
  have hka := ka w4 (.cells #[.int .i64 3, .int .i64 i, .string ⟨#[]⟩, .slice (some ⟨q, 0, none⟩) 1 1] 24)
  have hvf2 : v.foot (fun b => b < w4.heap.size ∧ b ≠ vb) := V.foot.mono (fun b hb => ⟨by omega, hb.1⟩) _ (V.In.foot_lt _ hvi hvf)
  have hv4 := hvi.keep kr4.size kr4
  have hyf : (V.mk 3 i ⟨#[]⟩ (some ⟨q, 0, none⟩) 1 [v]).foot (fun b => b ≠ w4.heap.size ∧ b ≠ vb) := tag_foot ⟨by omega, by omega⟩ (V.foot.mono (fun b hb => ⟨by omega, hb.2⟩) _ hvf2)
  exact ⟨blockHere rfl, blockPast ((kr4.block _ hlt).trans hbx), kk hk (kk kr4 hka), (tag_in hi hqb hv4).keep hka.size hka, hyf, hv4.keep hka.size hka, hvf2, by omega⟩


/-- What has been put together, y in block nb; the value v lies as it lay. -/
structure Nx (W0 W : World) (vb nb : Nat) (v y : V) : Prop where
  nbx : W.heap[nb]? = some (.cells #[.int .i64 y.k, .int .i64 y.n, .string y.s, .slice y.a y.l.length y.cap] 24 (0, 0))
  vbx : W.heap[vb]? = some (.cells #[.int .i64 v.k, .int .i64 v.n, .string v.s, .slice v.a v.l.length v.cap] 24 (0, 0))
  kp : Kp W0 W
  yin : y.In W W.heap.size
  yft : y.foot (fun b => b ≠ nb ∧ b ≠ vb)

theorem Nxt.nx {W0 W : World} {vb nb : Nat} {v y : V} (h : Nxt W0 W vb nb v y) : Nx W0 W vb nb v y := ⟨h.nbx, h.vbx, h.kp, h.yin, h.yft⟩

theorem Nxt.tuple {W0 W5 w6 : World} {vb nb : Nat} {v y : V} (h : Nxt W0 W5 vb nb v y) (h6 : Kp (W5.alloc (.cells #[.int .i64 v.k, .int .i64 v.n, .string v.s, .slice v.a v.l.length v.cap] 24)) w6) (hv0 : W0.heap.size ≤ vb) :
    Tup2 (put4 w6 nb (.int .i64 2) (.int .i64 0) (.string ⟨#[]⟩) (.slice (some ⟨W5.heap.size, 0, none⟩) 1 1)) nb vb (.slice (some ⟨W5.heap.size, 0, none⟩) 1 1) [v] ∧
    (put4 w6 nb (.int .i64 2) (.int .i64 0) (.string ⟨#[]⟩) (.slice (some ⟨W5.heap.size, 0, none⟩) 1 1)).heap[vb]? = some (.cells #[.int .i64 v.k, .int .i64 v.n, .string v.s, .slice v.a v.l.length v.cap] 24 (0, 0)) ∧
    Kp W0 (put4 w6 nb (.int .i64 2) (.int .i64 0) (.string ⟨#[]⟩) (.slice (some ⟨W5.heap.size, 0, none⟩) 1 1)) := by
  have hlt := h.lt
  have hnl := lt_of_block h.nbx
  have hvl := lt_of_block h.vbx
  have k56 := kk (ka W5 (.cells #[.int .i64 v.k, .int .i64 v.n, .string v.s, .slice v.a v.l.length v.cap] 24)) h6
  have hS : (put4 w6 nb (.int .i64 2) (.int .i64 0) (.string ⟨#[]⟩) (.slice (some ⟨W5.heap.size, 0, none⟩) 1 1)).heap.size = w6.heap.size := by simp [World.setCell]
  have hv6 := h.vin.keep k56.size k56
  refine ⟨Tup2.one (put4_block ((k56.block _ hnl).trans h.nbx)) hnl ((put4_other (by omega)).trans ((h6.block _ (by simp)).trans (blockHere rfl))) ?_ h.vft, (put4_other (by omega)).trans ((k56.block _ hvl).trans h.vbx), put4_kp (kk h.kp k56) (by omega)⟩
  rw [hS]
  exact V.In.move (Nat.le_refl _) (fun b _ hb => put4_other (by omega)) _ hv6 h.vft

theorem Tup2.nx {W0 W : World} {vb nb : Nat} {sl : Value} {v : V} {vs : List V} (h : Tup2 W nb vb sl vs) (hlt : vb < nb) (hv : W.heap[vb]? = some (.cells #[.int .i64 v.k, .int .i64 v.n, .string v.s, .slice v.a v.l.length v.cap] 24 (0, 0))) (hk : Kp W0 W) :
    ∃ a c, sl = .slice a vs.length c ∧ Nx W0 W vb nb v (.mk 2 0 ⟨#[]⟩ a c vs) := by
  obtain ⟨a, c, rfl, hin, hft⟩ := h.value hlt
  exact ⟨a, c, rfl, h.box, hv, hk, hin, hft⟩

end Go.Proofs.YtbiljalhabnhlaaGreatDoor

/-
  ValueSizes: the statement's function, at any two lists of numbers.
-/
namespace Go.Proofs.YtbiljalhabnhlaaGreatDoor
open Go.RowKit

set_option maxRecDepth 100000 in
set_option maxHeartbeats 16000000 in
theorem sizes_any (a : Option Addr) (cap : Nat) (l : List Int) (a' : Option Addr) (cap' : Nat) (l' : List Int) (w : World) (hin : Ints w w.heap.size a cap l) (hin' : Ints w w.heap.size a' cap' l') (tb : Tb w w.heap.size) :
    Calls Tryz.prog 11 #[.slice a l.length cap, .slice a' l'.length cap'] w fun e w' => e = .returned (.bool true) ∧ Kp w w' := by
  obtain ⟨i0, hi, hz0, hz1, hz2⟩ := info_parts infoV
  have T1 := three_any a cap l w hin
  have E := fun w1 (h : Kp w w1) => valued_any w1 (tb.keep h h.size)
  have HT1 := Lib.hid T1
  have HE := Lib.hid E
  have HIN := Lib.hid hin'
  clear T1 E hin hin' tb
  go_enter Tryz.func11, Tryz.ntmps11
  go_wp2_with fail
  refine HT1.out.mono ?_
  rintro e w1 ⟨t, x, y, z, rfl, hti, hsh, hrk, hvi, hvf, hgx, hgy, hgz, hk⟩
  obtain ⟨xk, xn, xs, xa, xc, xl⟩ := x
  obtain ⟨yk, yn, ys, ya, yc, yl⟩ := y
  obtain ⟨zk, zn, zs, za, zc, zl⟩ := z
  cases t with
  | mk tk ta tc tl =>
  rw [T.val_mk]
  simp only [cellsL, V.cells4, List.flatMap_cons, List.flatMap_nil, List.cons_append, List.nil_append, List.append_nil, V.k, V.n, V.s, V.a, V.l, V.cap]
  have hfl := V.InL.foot_lt _ hvi hvf
  have HVI := Lib.hid hvi
  have HVF := Lib.hid hfl
  have HX := Lib.hid hgx
  have HY := Lib.hid hgy
  have HZ := Lib.hid hgz
  have HK := Lib.hid hk
  clear hti hvi hvf hfl hgx hgy hgz hk hsh hrk
  go_wp2_with fail
  have hka := kk (ka w1 (.cells #[.int .i64 tk, .slice ta tl.length tc] 27)) (ka _ (.cells #[.int .i64 xk, .int .i64 xn, .string xs, .slice xa xl.length xc, .int .i64 yk, .int .i64 yn, .string ys, .slice ya yl.length yc, .int .i64 zk, .int .i64 zn, .string zs, .slice za zl.length zc] 49))
  have hkW := kk HK.out hka
  have htr : Trio ((w1.alloc (.cells #[.int .i64 tk, .slice ta tl.length tc] 27)).alloc (.cells #[.int .i64 xk, .int .i64 xn, .string xs, .slice xa xl.length xc, .int .i64 yk, .int .i64 yn, .string ys, .slice ya yl.length yc, .int .i64 zk, .int .i64 zn, .string zs, .slice za zl.length zc] 49)) (w1.heap.size + 1) [.mk xk xn xs xa xc xl, .mk yk yn ys ya yc yl, .mk zk zn zs za zc zl] :=
    ⟨blockHere (by simp), rfl, HVI.out.keep hka.size hka, fun v hv => by simp at hv; rcases hv with rfl | rfl | rfl; exact HX.out.valid; exact HY.out.valid; exact HZ.out.valid⟩
  have hsz : ((w1.alloc (.cells #[.int .i64 tk, .slice ta tl.length tc] 27)).alloc (.cells #[.int .i64 xk, .int .i64 xn, .string xs, .slice xa xl.length xc, .int .i64 yk, .int .i64 yn, .string ys, .slice ya yl.length yc, .int .i64 zk, .int .i64 zn, .string zs, .slice za zl.length zc] 49)).heap.size = w1.heap.size + 1 + 1 := by simp
  have hgood : ∀ v ∈ [V.mk xk xn xs xa xc xl, V.mk yk yn ys ya yc yl, V.mk zk zn zs za zc zl], v.sh 3 = true ∧ v.rank ≤ 13 ∧ v.foot (fun b => b < w1.heap.size) := fun v hv => by
    obtain ⟨f1, f2, f3, -⟩ := HVF.out
    simp at hv
    rcases hv with rfl | rfl | rfl
    · exact ⟨HX.out.2.1, HX.out.2.2, V.foot.mono (fun b hb => hb.2) _ f1⟩
    · exact ⟨HY.out.2.1, HY.out.2.2, V.foot.mono (fun b hb => hb.2) _ f2⟩
    · exact ⟨HZ.out.2.1, HZ.out.2.2, V.foot.mono (fun b hb => hb.2) _ f3⟩
  have hxin := (HVI.out.1).keep hka.size hka
  have hxv := HX.out.valid
  have hx0 := hgood _ (List.mem_cons_self ..)
  generalize [V.mk xk xn xs xa xc xl, V.mk yk yn ys ya yc yl, V.mk zk zn zs za zc zl] = vs at htr hgood
  generalize (w1.alloc (.cells #[.int .i64 tk, .slice ta tl.length tc] 27)).alloc (.cells #[.int .i64 xk, .int .i64 xn, .string xs, .slice xa xl.length xc, .int .i64 yk, .int .i64 yn, .string ys, .slice ya yl.length yc, .int .i64 zk, .int .i64 zn, .string zs, .slice za zl.length zc] 49) = W0 at *
  have hg2 : w1.heap.size < w1.heap.size + 1 := by omega
  generalize w1.heap.size + 1 = g at *
  have HKW := Lib.hid hkW
  have HTR := Lib.hid htr
  have HGD := Lib.hid hgood
  clear hkW htr hgood HVI HVF HX HY HZ HK hka
  have hkx := ka W0 (.cells #[.int .i64 xk, .int .i64 xn, .string xs, .slice xa xl.length xc] 24)
  have hDp := depth_any _ (V.mk xk xn xs xa xc xl) _ (Nat.le_refl _) (by omega) (hxin.keep hkx.size hkx)
  dsimp only [V.k, V.n, V.s, V.a, V.l, V.cap] at hDp
  have HDp := Lib.hid hDp
  have hvb : (W0.alloc (.cells #[.int .i64 xk, .int .i64 xn, .string xs, .slice xa xl.length xc] 24)).heap[g + 1]? = some (.cells #[.int .i64 xk, .int .i64 xn, .string xs, .slice xa xl.length xc] 24 (0, 0)) := blockHere (by omega)
  have HVB := Lib.hid hvb
  have HXI := Lib.hid (hxin.keep hkx.size hkx)
  have HXV := Lib.hid hxv
  have HXF := Lib.hid (V.foot.mono (Q := fun b => b ≠ g + 1) (fun b hb => by omega) _ hx0.2.2)
  have HKX := Lib.hid hkx
  have hgs : W0.heap.size = g + 1 := hsz
  have hgs1 : W0.heap.size ≤ g + 1 := by omega
  have hgs2 : g < W0.heap.size := by omega
  have HHL := Lib.hid HIN.out.1
  have hl1 : l'.length ≤ 9223372036854775807 := by have := HIN.out.1; have := HIN.out.2.1; unfold maxLen at this; omega
  clear hkx hDp hvb hxin hxv hx0 hsz hgs
  refine HDp.out.mono ?_
  rintro e w2 ⟨rfl, hk2⟩
  have HK2 := Lib.hid (kk HKX.out hk2)
  have HVB2 := Lib.hid ((hk2.block _ (lt_of_block HVB.out)).trans HVB.out)
  have HXI2 := Lib.hid (HXI.out.keep hk2.size hk2)
  clear hk2
  go_wp2_with fail
  go_loopw [8, 9, 10] (fun dp sz i wr => ∃ (j : Nat) (v : V) (sv : Int), j ≤ l'.length ∧ j ≤ 12 ∧ dp = .int .i64 (v.dep : Int) ∧ sz = .int .i64 sv ∧ i = .int .i64 j ∧ v.valid = true ∧ v.In wr wr.heap.size ∧ v.foot (fun b => b ≠ g + 1) ∧ wr.heap[g + 1]? = some (.cells #[.int .i64 v.k, .int .i64 v.n, .string v.s, .slice v.a v.l.length v.cap] 24 (0, 0)) ∧ Kp W0 wr) (fun _ _ i _ => 12 - (intOf i).toNat)
  case atStart => exact ⟨0, .mk xk xn xs xa xc xl, 0, by omega, by omega, rfl, rfl, rfl, HXV.out, HXI2.out, HXF.out, HVB2.out, HK2.out⟩
  case round =>
    obtain ⟨j, v, sv, hj1, hj2, rfl, rfl, rfl, hvv, hvi, hvf, hbx, hk⟩ := hrel
    by_cases hlt : j < l'.length ∧ j < 12
    · obtain ⟨hlt1, hlt2⟩ := hlt
      have p1 : decide ((j : Int) < (l'.length : Int)) = true := by simpa using hlt1
      have p2 : decide ((j : Int) < 12) = true := by simp; omega
      have g0 : (0 : Int) ≤ (j : Int) := by omega
      have g1 : (j : Int) < (l'.length : Int) := by omega
      obtain ⟨h, hh⟩ : ∃ h, l'[j]? = some h := ⟨l'[j], by simp [hlt1]⟩
      obtain ⟨ib, io, rfl, hib, hic, hI⟩ : ∃ b off, a' = some ⟨b, off, none⟩ ∧ b < w.heap.size ∧ w.cell? ⟨b, off + j, none⟩ = some (.int .i64 h) ∧ I64 h := by
        obtain ⟨_, _, h3, h4⟩ := HIN.out
        rcases h4 with h4 | ⟨b, off, ha, hb, hc⟩
        · subst h4; simp at hlt1
        · exact ⟨b, off, ha, hb, hc j h hh, h3 h (List.mem_of_getElem? hh)⟩
      have i0c := kc (kk HKW.out hk) hic
      have T8 := fun w2 => turn_any h 8 w2 hI (by unfold I64; omega)
      have T5 := fun w2 => turn_any h 5 w2 hI (by unfold I64; omega)
      obtain ⟨t80, t81⟩ := turnI_range (n := h) (m := 8) (by omega)
      obtain ⟨t50, t51⟩ := turnI_range (n := h) (m := 5) (by omega)
      generalize turnI h 8 = tg at *
      generalize turnI h 5 = nn at *
      obtain ⟨vk, vn, vs', va, vc, vl⟩ := v
      dsimp only [V.k, V.n, V.s, V.a, V.l, V.cap] at hbx
      have S := sizeV vk vn vs' va vc vl wr hvi
      have hrank : sizeI (V.mk vk vn vs' va vc vl) = ((V.mk vk vn vs' va vc vl).rank : Int) := by simp [sizeI, hvv]
      rw [cnt_size, bad_arg, hrank, hvv] at S
      have hvd := Formed.valid (Formed.of_valid hvv)
      rw [hvv] at hvd
      have hvd2 : (V.mk vk vn vs' va vc vl).dep ≤ 6 ∧ (V.mk vk vn vs' va vc vl).rank ≤ 60 := by simpa using hvd.symm
      obtain ⟨hd6, hr60⟩ := hvd2
      obtain ⟨c0, c1, c2, c3, -⟩ := cell4 hbx
      have HFO := Lib.hid (Formed.of_valid hvv)
      have HVS := Lib.hid (show (V.mk vk vn vs' va vc vl).sh 6 = true by have := hvv; simp [V.valid] at this; exact this.1)
      have HVD := Lib.hid (show ∀ n : Nat, n = (V.mk vk vn vs' va vc vl).dep → (V.mk vk vn vs' va vc vl).dep = n from fun n h => h.symm)
      have HS := Lib.hid S
      have HT8 := Lib.hid T8
      have HT5 := Lib.hid T5
      have HVI := Lib.hid hvi
      have HVF := Lib.hid hvf
      have HBX := Lib.hid hbx
      have HK := Lib.hid hk
      have hir := World.block_lt_of_cell? wr _ i0c
      have HIC := Lib.hid hic
      clear S T8 T5 hvi hvf hbx hk hvv hvd hrank hh hic hI HVD
      generalize hdd : (V.mk vk vn vs' va vc vl).dep = dd at *
      generalize hrr : (V.mk vk vn vs' va vc vl).rank = rr at *
      have HDD := Lib.hid hdd
      have HRR := Lib.hid hrr
      clear hdd hrr
      go_wp2_with fail
      refine HS.out.mono ?_
      rintro e w3 ⟨rfl, hk3⟩
      replace c0 := kc hk3 c0
      replace c1 := kc hk3 c1
      replace c2 := kc hk3 c2
      replace c3 := kc hk3 c3
      replace i0c := kc hk3 i0c
      have hlv : g + 1 < w3.heap.size := World.block_lt_of_cell? w3 _ c0
      have hli : ib < w3.heap.size := World.block_lt_of_cell? w3 _ i0c
      have HK3 := Lib.hid hk3
      clear hk3
      go_upto_region 10 with fail
      go_cut [13] from 28 to 134 (fun s13 wx => ∃ nb q : Nat, s13 = .pointer (some ⟨nb, 0, none⟩) ∧ Nxt W0 wx (g + 1) nb (.mk vk vn vs' va vc vl) (.mk 3 tg ⟨#[]⟩ (some ⟨q, 0, none⟩) 1 [.mk vk vn vs' va vc vl]))
      case first =>
        go_region_law
          (first
            | (go_simp; go_at_call 45; refine (HT8.out _).mono ?_; rintro e w4 ⟨rfl, rfl⟩; dsimp only)
            | (go_simp; go_at_call 44; refine (tag_any _ _ _ _ _ _ _ _).mono ?_; rintro e w4 ⟨q, rfl, hqb, hq, hkc⟩; (first | (have hnb4 : w4.heap[w3.heap.size]? = some (.cells zero4 24 (0, 0)) := (hkc.block _ (by simp)).trans (blockHere rfl); obtain ⟨n0, n1, n2, n3, o0, o1, o2, o3⟩ := cell4 hnb4) | skip); dsimp only))
        all_goals
          first
            | (have hN := Nxt.first (v := .mk vk vn vs' va vc vl) ⟨t80, t81⟩ HK.out HVI.out HVF.out HBX.out HK3.out (by first | exact hkc | exact kk kpD hkc) hqb (by simpa using hq) hgs1
               dsimp only [put4] at hN
               clear hnb4 n0 n1 n2 n3 o0 o1 o2 o3 hqb hq hkc
               generalize ((((w4).setCell ⟨w3.heap.size, 0, none⟩ (.int .i64 3)).setCell ⟨w3.heap.size, 1, none⟩ (.int .i64 tg)).setCell ⟨w3.heap.size, 2, none⟩ (.string ⟨#[]⟩)).setCell ⟨w3.heap.size, 3, none⟩ (.slice (some ⟨q, 0, none⟩) 1 1) = W5 at hN ⊢
               generalize w3.heap.size = nb at hN ⊢)
            | (have hN := Nxt.last (v := .mk vk vn vs' va vc vl) ⟨t80, t81⟩ HK.out HVI.out HVF.out HBX.out HK3.out (by first | exact hkc | exact kk kpD hkc) hqb (by simpa using hq)
               clear hqb hq hkc
               generalize w4.alloc (.cells #[.int .i64 3, .int .i64 tg, .string ⟨#[]⟩, .slice (some ⟨q, 0, none⟩) 1 1] 24) = W5 at hN ⊢
               generalize w4.heap.size = nb at hN ⊢)
          go_wp2_with fail
          go_meet
          exact ⟨_, _, rfl, hN⟩
      case rest =>
        obtain ⟨nb, q, rfl, hN⟩ := hcut
        obtain ⟨W5, rfl⟩ : ∃ W5 : World, W5 = wc := ⟨_, rfl⟩
        have i5 := kc (kk HKW.out hN.kp) HIC.out
        have HN := Lib.hid hN
        clear hN c0 c1 c2 c3 i0c
        go_wp2_with fail
        refine (HT5.out _).mono ?_
        rintro e w6 ⟨rfl, rfl⟩
        by_cases hnn : 1 < nn
        · have q0 : decide (1 < nn) = true := by simpa using hnn
          obtain ⟨v0, v1, v2, v3, -⟩ := cell4 HN.out.vbx
          dsimp only [V.k, V.n, V.s, V.a, V.l, V.cap] at v0 v1 v2 v3
          have hnbl := lt_of_block HN.out.nbx
          go_wp2_with fail
          refine (tuple_any _ _ _ _).mono ?_
          rintro e w6 ⟨rfl, hk6⟩
          obtain ⟨ht, hvx, hkx⟩ := HN.out.tuple hk6 hgs1
          have hn6 := ((kk (ka W5 _) hk6).block _ hnbl).trans HN.out.nbx
          obtain ⟨n0, n1, n2, n3, o0, o1, o2, o3⟩ := cell4 hn6
          have HT := Lib.hid ht
          have HVX := Lib.hid hvx
          have HKX := Lib.hid hkx
          have hltn : g + 1 < nb := HN.out.lt
          clear ht hvx hkx hk6 hn6 v0 v1 v2 v3 hnbl i5
          go_wp2_with fail
          go_loopw [8, 9, 15] (fun dp sz kq wr => ∃ (m : Nat) (sl : Value) (us : List V), 1 ≤ m ∧ (m : Int) ≤ nn ∧ us.length = m ∧ dp = .int .i64 ((V.depL us : Int) + 1) ∧ sz = .int .i64 ((V.rank.ranks us : Int) + 1) ∧ kq = .int .i64 m ∧ Tup2 wr nb (g + 1) sl us ∧ V.shL us 6 = true ∧ V.depL us ≤ 60 ∧ V.rank.ranks us ≤ 60 + 13 * m ∧ wr.heap[g + 1]? = some (.cells #[.int .i64 vk, .int .i64 vn, .string vs', .slice va vl.length vc] 24 (0, 0)) ∧ Kp W0 wr) (fun _ _ kq _ => nn.toNat - (intOf kq).toNat)
          case atStart =>
            have e1 := HDD.out
            have e2 := HRR.out
            exact ⟨1, _, [.mk vk vn vs' va vc vl], by omega, by omega, rfl, by simp [V.depL, e1], by simp [V.rank.ranks, e2], rfl, HT.out, by simp [V.shL, HVS.out], by simp [V.depL, e1]; omega, by simp [V.rank.ranks, e2]; omega, HVX.out, HKX.out⟩
          case round =>
            obtain ⟨m, sl, us, hm1, hm2, hul, rfl, rfl, rfl, htp, hsh, hdl, hrl, hvx, hk⟩ := hrel
            by_cases hml : (m : Int) < nn
            · have hm3 : m ≤ 3 := by omega
              obtain ⟨r, hr, hmr⟩ : ∃ r : Nat, r < 3 ∧ (m : Int) % 3 = (r : Int) := ⟨m % 3, by omega, by omega⟩
              have hmt : (m : Int).tmod 3 = (r : Int) := by rw [Int.tmod_eq_emod_of_nonneg (by omega)]; exact hmr
              have gr0 : (0 : Int) ≤ (r : Int) := by omega
              have gr3 : (r : Int) < 3 := by omega
              obtain ⟨z, hz, hzi, hzv, d0, d1, d2, d3⟩ := HTR.out.at hk hr
              obtain ⟨hz3, hz13, hzf⟩ := HGD.out z (List.mem_of_getElem? hz)
              have hzf2 : z.foot (fun b => b < nb ∧ b ≠ g + 1) := V.foot.mono (fun b hb => ⟨by omega, by omega⟩) _ hzf
              have hzd := V.dep_rank z
              have HZ := Lib.hid hz
              have HZI := Lib.hid hzi
              have HZF := Lib.hid hzf2
              have HZ6 := Lib.hid (V.sh_le hz3 3)
              have HZV := Lib.hid hzv
              have s3 : wr.cell? ⟨nb, 3, none⟩ = some sl := cellOf htp.box rfl
              have hnl := htp.lt
              have nvb : some nb ≠ sl.ownBlock := fun e => by have := (htp.own.lt _ e.symm).1; omega
              have nvg : some (g + 1) ≠ sl.ownBlock := fun e => by have := (htp.own.lt _ e.symm).1; omega
              have hgl : g < wr.heap.size := by have := hk.size; omega
              obtain ⟨zk, zn, zs, za, zc, zl⟩ := z
              dsimp only [V.k, V.n, V.s, V.a, V.l, V.cap] at d0 d1 d2 d3
              have hul4 : us.length ≤ 3 := by omega
              have HTP := Lib.hid htp
              have HSH := Lib.hid hsh
              have HUL := Lib.hid hul
              have HVX2 := Lib.hid hvx
              have HK := Lib.hid hk
              clear hz hzi hzv hz3 hzf hzf2 htp hsh hul hvx hk
              go_wp2_with fail
              go_region_law
                (first
                  | (refine step_append_lies _ (by rfl) _ _ _ (by rfl) (nb + 1) 24 i0 _ 4 56 Tryz.underlying22 hi hz0 hz1 hz2 rfl (by omega) sl us.length (cellsL us) (by rfl) (ownsRow_kp HTP.out.own (by first | exact kk (ka _ _) kpD | exact kk kpD (ka _ _)))
                      ⟨wr.heap.size, 0, none⟩ 1 1 [.int .i64 zk, .int .i64 zn, .string zs, .slice za zl.length zc] (by rfl) (by rfl) (World.news_of_block (cs := #[.int .i64 zk, .int .i64 zn, .string zs, .slice za zl.length zc]) (t := 24) (fr := (0, 0)) (heap_alloc_new wr _)) (by simp [Value.oneCell'])
                      (by omega) (by unfold maxLen; omega) (by omega) (by simp; omega) (wr.heap.size + 1) (by simp) ?_; intro gg gcap w3 hown1 hgrow hat hltg; have hkc : Kp wr ((wr.alloc (.cells #[.int .i64 zk, .int .i64 zn, .string zs, .slice za zl.length zc] 24)).drew) := kk (ka _ _) kpD; have hb3 := (hgrow.block nb (by simp; omega) nvb).trans ((hkc.block _ hnl).trans HTP.out.box); have s3e : w3.cell? ⟨nb, 3, none⟩ = some sl := cellOf hb3 rfl; have f3e : w3.frozen? ⟨nb, 3, none⟩ = false := freeOf hb3))
              all_goals
                have hst := HTP.out.step HZI.out HZF.out hkc hown1 hgrow
                have hkn := put1_kp (i := 3) (v := .slice (some ⟨gg, 0, none⟩) (us.length + 1) gcap) (kp_grown (kk HK.out hkc) hgrow (fun k e => by have := (HTP.out.own.lt k e).1; omega)) (by omega : W0.heap.size ≤ nb)
                have hvx := step_block (i := 3) (u := .slice (some ⟨gg, 0, none⟩) (us.length + 1) gcap) (Below.refl _ _) hkc hgrow nvg (by omega : g + 1 ≠ nb) HVX2.out
                generalize w3.setCell ⟨nb, 3, none⟩ (.slice (some ⟨gg, 0, none⟩) (us.length + 1) gcap) = Wn at *
                obtain ⟨z2, hz2, hzi2, -, e0, e1, e2, e3⟩ := HTR.out.at hkn hr
                have hzeq := HZ.out.symm.trans hz2
                simp only [Option.some.injEq] at hzeq
                subst hzeq
                dsimp only [V.k, V.n, V.s, V.a, V.l, V.cap] at e0 e1 e2 e3
                have S := sizeV zk zn zs za zc zl Wn hzi2
                rw [cnt_size, bad_arg, show sizeI (V.mk zk zn zs za zc zl) = ((V.mk zk zn zs za zc zl).rank : Int) from by simp [sizeI, HZV.out], HZV.out] at S
                have D := fun (w8 : World) (h : Kp Wn w8) => depth_any _ (V.mk zk zn zs za zc zl) w8 (Nat.le_refl _) (by omega) (hzi2.keep h.size h)
                dsimp only [V.k, V.n, V.s, V.a, V.l, V.cap] at D
                have hds := V.depL_snoc us (V.mk zk zn zs za zc zl)
                have hrs := ranksV_snoc us (V.mk zk zn zs za zc zl)
                generalize (V.mk zk zn zs za zc zl).dep = dz at *
                generalize (V.mk zk zn zs za zc zl).rank = rz at *
                have HDS := Lib.hid hds
                have HRS := Lib.hid hrs
                have HST := Lib.hid hst
                have HKN := Lib.hid hkn
                have HVN := Lib.hid hvx
                have HS2 := Lib.hid S
                have HD2 := Lib.hid D
                clear hds hrs hst hkn hvx S D hz2 hzi2 hkc hown1 hgrow hat hb3 s3e f3e d0 d1 d2 d3 s3
                go_wp2_with fail
                refine HS2.out.mono ?_
                rintro e w7 ⟨rfl, hk7⟩
                replace e0 := kc hk7 e0
                replace e1 := kc hk7 e1
                replace e2 := kc hk7 e2
                replace e3 := kc hk7 e3
                have HK7 := Lib.hid hk7
                clear hk7
                go_wp2_with fail
                refine (HD2.out _ HK7.out).mono ?_
                rintro e w8 ⟨rfl, hk8⟩
                have HK8 := Lib.hid (kk HK7.out hk8)
                clear hk8 e0 e1 e2 e3
                go_wp2_with fail
                go_roundw
                case rel => exact ⟨m + 1, _, _, by omega, by omega, by simp [HUL.out], by rw [HDS.out]; congr 1; omega, by rw [HRS.out]; congr 1; omega, by first | go_num | simp, HST.out.kp HK8.out, shLV_snoc HSH.out HZ6.out, by rw [HDS.out]; omega, by rw [HRS.out]; omega, (HK8.out.block _ (lt_of_block HVN.out)).trans HVN.out, kk HKN.out HK8.out⟩
                case measure => simp [intOf]; omega
            · have hmn : (m : Int) = nn := by omega
              obtain ⟨a2, c2, rfl, hnx⟩ := htp.nx (v := .mk vk vn vs' va vc vl) hltn hvx hk
              have hfy : Formed (.mk 2 0 ⟨#[]⟩ a2 c2 us) := tuple_formed hsh (by omega)
              have hd1 : ((V.depL us : Int) + 1) = ((V.mk 2 0 ⟨#[]⟩ a2 c2 us).dep : Int) := by simp [V.dep]
              have hr1 : ((V.rank.ranks us : Int) + 1) = ((V.mk 2 0 ⟨#[]⟩ a2 c2 us).rank : Int) := by simp [V.rank]; omega
              rw [hd1, hr1]
              have HFY := Lib.hid hfy
              have HN2 := Lib.hid hnx
              clear hd1 hr1 hfy hnx htp hsh hvx hk hdl hrl HN HT HVX HKX n0 n1 n2 n3 o0 o1 o2 o3
              generalize (V.mk 2 0 ⟨#[]⟩ a2 c2 us) = y at *
              have HN := HN2
              clear HN2
              obtain ⟨WT, rfl⟩ : ∃ WT : World, WT = wr := ⟨_, rfl⟩
              have hSY := HN.out.yin
              obtain ⟨n0, n1, n2, n3, -⟩ := cell4 HN.out.nbx
              obtain ⟨v0, v1, v2, v3, o0, o1, o2, o3⟩ := cell4 HN.out.vbx
              have hFY := HFY.out.valid
              obtain ⟨yk, yn, ys, ya, yc, yl⟩ := y
              dsimp only [V.k, V.n, V.s, V.a, V.l, V.cap] at n0 n1 n2 n3 v0 v1 v2 v3
              have S := sizeV yk yn ys ya yc yl WT hSY
              have C := fun (w8 : World) (h : Kp WT w8) => checkV yk yn ys ya yc yl w8 (hSY.keep h.size h)
              rw [cnt_size, bad_arg] at S
              rw [bad_arg] at C
              generalize hdy : (V.mk yk yn ys ya yc yl).dep = dy at *
              have hsi : sizeI (V.mk yk yn ys ya yc yl) = if (V.mk yk yn ys ya yc yl).valid then ((V.mk yk yn ys ya yc yl).rank : Int) else 0 := by simp [sizeI]
              rw [hsi] at S
              generalize hry : (V.mk yk yn ys ya yc yl).rank = ry at *
              have HDY := Lib.hid hdy
              clear hdy hry hsi
              cases hv : (V.mk yk yn ys ya yc yl).valid with
              | true =>
                rw [hv] at S C hFY
                have hb : dy ≤ 6 ∧ ry ≤ 60 := by simpa using hFY.symm
                have q1 : decide ((60 : Int) < (ry : Int)) = false := by simp; omega
                have q2 : decide ((6 : Int) < (dy : Int)) = false := by simp; omega
                simp only [if_true] at S
                have HS2 := Lib.hid S
                have HC2 := Lib.hid C
                have HV := Lib.hid hv
                have HSY := Lib.hid hSY
                clear S C hv hSY hFY hb
                go_wp2_with fail
                refine HS2.out.mono ?_
                rintro e w7 ⟨rfl, hk7⟩
                replace n0 := kc hk7 n0
                replace n1 := kc hk7 n1
                replace n2 := kc hk7 n2
                replace n3 := kc hk7 n3
                have HK7 := Lib.hid hk7
                clear hk7 v0 v1 v2 v3 o0 o1 o2 o3
                go_wp2_with fail
                refine (HC2.out _ HK7.out).mono ?_
                rintro e w8 ⟨rfl, hk8⟩
                have k78 := kk HK7.out hk8
                replace n0 := kc hk8 n0
                replace n1 := kc hk8 n1
                replace n2 := kc hk8 n2
                replace n3 := kc hk8 n3
                have hvb8 := (k78.block _ (lt_of_block HN.out.vbx)).trans HN.out.vbx
                obtain ⟨v0, v1, v2, v3, o0, o1, o2, o3⟩ := cell4 hvb8
                have HVB8 := Lib.hid hvb8
                have HY8 := Lib.hid (HSY.out.keep k78.size k78)
                have HK8 := Lib.hid (kk HN.out.kp k78)
                clear hk8 k78 hvb8
                go_wp2_with fail
                go_roundw
                case rel => exact ⟨j + 1, .mk yk yn ys ya yc yl, ry, by omega, by omega, by rw [HDY.out], rfl, by first | go_num | simp, HV.out, by rw [show (put4 w8 (g + 1) (.int .i64 yk) (.int .i64 yn) (.string ys) (.slice ya yl.length yc)).heap.size = w8.heap.size from by simp [World.setCell]]; exact V.In.move (Nat.le_refl _) (fun b _ hb => put4_other hb.2) _ HY8.out HN.out.yft, V.foot.mono (fun b hb => hb.2) _ HN.out.yft, put4_block HVB8.out, put4_kp HK8.out hgs1⟩
                case measure => simp [intOf]; omega
              | false =>
                rw [hv] at S C hFY
                simp only [if_false, Bool.false_eq_true] at S
                have hb : ¬ (dy ≤ 6 ∧ ry ≤ 60) := by simpa using hFY.symm
                have HS2 := Lib.hid S
                have HC2 := Lib.hid C
                clear S C hv hSY hFY v0 v1 v2 v3 o0 o1 o2 o3
                have hq : (decide ((60 : Int) < (ry : Int)) = true) ∨ (decide ((60 : Int) < (ry : Int)) = false ∧ decide ((6 : Int) < (dy : Int)) = true) := by
                  by_cases h60 : ry ≤ 60
                  · right; simp; omega
                  · left; simp; omega
                clear hb
                rcases hq with q1 | ⟨q1, q2⟩
                all_goals
                  go_wp2_with fail
                  refine HS2.out.mono ?_
                  rintro e w7 ⟨rfl, hk7⟩
                  replace n0 := kc hk7 n0
                  replace n1 := kc hk7 n1
                  replace n2 := kc hk7 n2
                  replace n3 := kc hk7 n3
                  have HK7 := Lib.hid hk7
                  clear hk7
                  go_wp2_with fail
                  refine (HC2.out _ HK7.out).mono ?_
                  rintro e w8 ⟨rfl, hk8⟩
                  have HK8 := Lib.hid (kk HKW.out (kk HN.out.kp (kk HK7.out hk8)))
                  clear hk8
                  go_wp2_with fail
                  refine (HE.out _ HK8.out).mono ?_
                  rintro e w9 ⟨rfl, hk9⟩
                  have HK9 := Lib.hid (kk HK8.out hk9)
                  clear hk9
                  go_wp2_with fail
                  go_ret
                  exact ⟨rfl, HK9.out⟩
        · have q0 : decide (1 < nn) = false := by simpa using hnn
          have hfy : Formed (.mk 3 tg ⟨#[]⟩ (some ⟨q, 0, none⟩) 1 [.mk vk vn vs' va vc vl]) := tag_formed HFO.out t80 t81
          have hd1 : ((dd : Int) + 1) = ((V.mk 3 tg ⟨#[]⟩ (some ⟨q, 0, none⟩) 1 [.mk vk vn vs' va vc vl]).dep : Int) := by have := HDD.out; simp [V.dep, V.depL] at this ⊢; omega
          have hr1 : ((rr : Int) + 1) = ((V.mk 3 tg ⟨#[]⟩ (some ⟨q, 0, none⟩) 1 [.mk vk vn vs' va vc vl]).rank : Int) := by have := HRR.out; simp [V.rank, V.rank.ranks] at this ⊢; omega
          rw [hd1, hr1]
          generalize (V.mk 3 tg ⟨#[]⟩ (some ⟨q, 0, none⟩) 1 [.mk vk vn vs' va vc vl]) = y at *
          have HFY := Lib.hid hfy
          obtain ⟨WT, rfl⟩ : ∃ WT : World, WT = W5 := ⟨_, rfl⟩
          clear hfy hd1 hr1 i5
          replace HN := Lib.hid HN.out.nx
          have hSY := HN.out.yin
          obtain ⟨n0, n1, n2, n3, -⟩ := cell4 HN.out.nbx
          obtain ⟨v0, v1, v2, v3, o0, o1, o2, o3⟩ := cell4 HN.out.vbx
          have hFY := HFY.out.valid
          obtain ⟨yk, yn, ys, ya, yc, yl⟩ := y
          dsimp only [V.k, V.n, V.s, V.a, V.l, V.cap] at n0 n1 n2 n3 v0 v1 v2 v3
          have S := sizeV yk yn ys ya yc yl WT hSY
          have C := fun (w8 : World) (h : Kp WT w8) => checkV yk yn ys ya yc yl w8 (hSY.keep h.size h)
          rw [cnt_size, bad_arg] at S
          rw [bad_arg] at C
          generalize hdy : (V.mk yk yn ys ya yc yl).dep = dy at *
          have hsi : sizeI (V.mk yk yn ys ya yc yl) = if (V.mk yk yn ys ya yc yl).valid then ((V.mk yk yn ys ya yc yl).rank : Int) else 0 := by simp [sizeI]
          rw [hsi] at S
          generalize hry : (V.mk yk yn ys ya yc yl).rank = ry at *
          have HDY := Lib.hid hdy
          clear hdy hry hsi
          cases hv : (V.mk yk yn ys ya yc yl).valid with
          | true =>
            rw [hv] at S C hFY
            have hb : dy ≤ 6 ∧ ry ≤ 60 := by simpa using hFY.symm
            have q1 : decide ((60 : Int) < (ry : Int)) = false := by simp; omega
            have q2 : decide ((6 : Int) < (dy : Int)) = false := by simp; omega
            simp only [if_true] at S
            have HS2 := Lib.hid S
            have HC2 := Lib.hid C
            have HV := Lib.hid hv
            have HSY := Lib.hid hSY
            clear S C hv hSY hFY hb
            go_wp2_with fail
            refine HS2.out.mono ?_
            rintro e w7 ⟨rfl, hk7⟩
            replace n0 := kc hk7 n0
            replace n1 := kc hk7 n1
            replace n2 := kc hk7 n2
            replace n3 := kc hk7 n3
            have HK7 := Lib.hid hk7
            clear hk7 v0 v1 v2 v3 o0 o1 o2 o3
            go_wp2_with fail
            refine (HC2.out _ HK7.out).mono ?_
            rintro e w8 ⟨rfl, hk8⟩
            have k78 := kk HK7.out hk8
            replace n0 := kc hk8 n0
            replace n1 := kc hk8 n1
            replace n2 := kc hk8 n2
            replace n3 := kc hk8 n3
            have hvb8 := (k78.block _ (lt_of_block HN.out.vbx)).trans HN.out.vbx
            obtain ⟨v0, v1, v2, v3, o0, o1, o2, o3⟩ := cell4 hvb8
            have HVB8 := Lib.hid hvb8
            have HY8 := Lib.hid (HSY.out.keep k78.size k78)
            have HK8 := Lib.hid (kk HN.out.kp k78)
            clear hk8 k78 hvb8
            go_wp2_with fail
            go_roundw
            case rel => exact ⟨j + 1, .mk yk yn ys ya yc yl, ry, by omega, by omega, by rw [HDY.out], rfl, by first | go_num | simp, HV.out, by rw [show (put4 w8 (g + 1) (.int .i64 yk) (.int .i64 yn) (.string ys) (.slice ya yl.length yc)).heap.size = w8.heap.size from by simp [World.setCell]]; exact V.In.move (Nat.le_refl _) (fun b _ hb => put4_other hb.2) _ HY8.out HN.out.yft, V.foot.mono (fun b hb => hb.2) _ HN.out.yft, put4_block HVB8.out, put4_kp HK8.out hgs1⟩
            case measure => simp [intOf]; omega
          | false =>
            rw [hv] at S C hFY
            simp only [if_false, Bool.false_eq_true] at S
            have hb : ¬ (dy ≤ 6 ∧ ry ≤ 60) := by simpa using hFY.symm
            have HS2 := Lib.hid S
            have HC2 := Lib.hid C
            clear S C hv hSY hFY v0 v1 v2 v3 o0 o1 o2 o3
            have hq : (decide ((60 : Int) < (ry : Int)) = true) ∨ (decide ((60 : Int) < (ry : Int)) = false ∧ decide ((6 : Int) < (dy : Int)) = true) := by
              by_cases h60 : ry ≤ 60
              · right; simp; omega
              · left; simp; omega
            clear hb
            rcases hq with q1 | ⟨q1, q2⟩
            all_goals
              go_wp2_with fail
              refine HS2.out.mono ?_
              rintro e w7 ⟨rfl, hk7⟩
              replace n0 := kc hk7 n0
              replace n1 := kc hk7 n1
              replace n2 := kc hk7 n2
              replace n3 := kc hk7 n3
              have HK7 := Lib.hid hk7
              clear hk7
              go_wp2_with fail
              refine (HC2.out _ HK7.out).mono ?_
              rintro e w8 ⟨rfl, hk8⟩
              have HK8 := Lib.hid (kk HKW.out (kk HN.out.kp (kk HK7.out hk8)))
              clear hk8
              go_wp2_with fail
              refine (HE.out _ HK8.out).mono ?_
              rintro e w9 ⟨rfl, hk9⟩
              have HK9 := Lib.hid (kk HK8.out hk9)
              clear hk9
              go_wp2_with fail
              go_ret
              exact ⟨rfl, HK9.out⟩
    · have hq : (decide ((j : Int) < (l'.length : Int)) = false) ∨ (decide ((j : Int) < (l'.length : Int)) = true ∧ decide ((j : Int) < 12) = false) := by
        by_cases h1 : j < l'.length
        · right
          have h2 : ¬ j < 12 := fun h => hlt ⟨h1, h⟩
          simp; omega
        · left; simp; omega
      have HK := Lib.hid (kk HKW.out hk)
      clear hlt hk hvi hvf hbx hvv
      have hq2 : (decide ((j : Int) < (l'.length : Int)) = false ∧ decide (j < l'.length) = false) ∨ (decide ((j : Int) < (l'.length : Int)) = true ∧ decide (j < l'.length) = true ∧ decide ((j : Int) < 12) = false ∧ decide (j < 12) = false) := by
        rcases hq with h | ⟨h, h'⟩
        · left; exact ⟨h, by simp at h ⊢; omega⟩
        · right; exact ⟨h, by simp at h ⊢; omega, h', by simp at h' ⊢; omega⟩
      clear hq
      rcases hq2 with ⟨p1, p3⟩ | ⟨p1, p3, p2, p4⟩
      all_goals
        go_wp2_with fail
        refine (HE.out _ HK.out).mono ?_
        rintro e w7 ⟨rfl, hk⟩
        have HK7 := Lib.hid (kk HK.out hk)
        clear hk
        go_wp2_with fail
        go_ret
        exact ⟨rfl, HK7.out⟩

end Go.Proofs.YtbiljalhabnhlaaGreatDoor

/-
  ValueSizes: WHAT THE WALKS GIVE, for every arguments that read; THE STATEMENT, AND ITS CARD.
-/
namespace Go.Proofs.YtbiljalhabnhlaaGreatDoor.valueSizes
open Go.ChangeShapes Go.WideShapes Go.ChangeAt Go.RowKit Go.Lib

theorem tens {W : World} (h : laidMetH Tryz.prog Rows.valueSizesRow.laid W) : Tb W W.heap.size := by
  have h1 : laidMet Tryz.prog Rows.valueSizesRow.laid W := h
  have h2 := laid_tail (laid_tail h1)
  refine Lib.tabBelow_of_tabIs ?_
  exact Lib.tabIs_of_head gTab (t := 179) (n := 20) (e := 167) (by kernel_rfl) (by kernel_rfl) (by kernel_rfl) (by kernel_rfl) (by kernel_rfl) h2

set_option maxRecDepth 100000 in
theorem contract (H : Type) (enc : TypeId × Value → H) (W : World) (base : Nat) (args : Array Value) (ds gs : List (DataW H)) (before : List MemPlace)
    (hval : ∀ (j : Nat) t v, Tryz.f11.params[j]? = some t → args[j]? = some v → Value.okWide Tryz.prog W .any base t v)
    (hW : DataW.Whole enc Tryz.prog Tryz.f11.params.toList Rows.valueSizesSpec.vars false W args.toList ds gs before) (ht : Tb W W.heap.size) :
    Calls Tryz.prog 11 args W fun e W' => ∃ v, e = .returned v ∧ Rows.valueSizesSpec.post enc Tryz.prog Tryz.f11 false true false false W args v W' := by
  have hW' := hW
  obtain ⟨p, q, hA0, hV, rfl, hfz, hnd⟩ := hW
  have hA : DataW.TrodAll enc Tryz.prog W 0 (fun _ => true) true Tryz.f11.params.toList args.toList ds p := hA0
  rw [Tryz.params11] at hA hval
  obtain ⟨v0, vs0, d0, ds0, p0, q0, hargs, rfl, rfl, h0, r0⟩ := trodAll_cons hA
  obtain ⟨v1, vs1, d1, ds1, p1, q1, rfl, rfl, rfl, h1, r1⟩ := trodAll_cons r0
  obtain ⟨rfl, rfl, rfl⟩ := trodAll_nil r1
  obtain rfl : args = #[v0, v1] := by cases args; simp_all
  obtain ⟨rfl, rfl⟩ := trodVars_none hV
  obtain ⟨a0, c0, l0, rfl, hx0⟩ := open_argI (hval 0 48 v0 rfl rfl) h0
  obtain ⟨a1, c1, l1, rfl, hx1⟩ := open_argI (hval 1 48 v1 rfl rfl) h1
  refine (sizes_any a0 c0 l0 a1 c1 l1 W hx0 hx1 ht).mono fun e W' ⟨he, hk⟩ => ?_
  subst he
  refine ⟨_, rfl, ?_⟩
  have hlt : ∀ p ∈ p0 ++ (p1 ++ []) ++ [], p.block < W.heap.size := fun p hp => hW'.lt p hp
  have hT0 : 48 < Tryz.prog.types.size := of_decide_eq_true (by kernel_rfl)
  refine post_of_kp (pa := p0 ++ (p1 ++ [])) (pv := []) hW' hk (fun _ _ _ => trodAll_cons_mk (shut_bool Tryz.underlying4 _) trodAll_mk0) (fun sp hsp => ?_) (fun _ _ => rfl) rfl (ok_one (by kernel_rfl) rfl (okWide_bool_mk Tryz.underlying4 _))
  rw [Tryz.params11]
  exact trodAll_cons_mk (trod_kp (DataW.Trod.respare kidsP fullP hT0 h0 (fun p hp => hsp p (by simp [hp]))) hk (fun p hp => hlt p (by simp [hp])))
    (trodAll_cons_mk (trod_kp (DataW.Trod.respare kidsP fullP hT0 h1 (fun p hp => hsp p (by simp [hp]))) hk (fun p hp => hlt p (by simp [hp])))
    (trodAll_mk0))

theorem own : ownKnob Tryz.prog.godebug = none := by kernel_rfl

def intsOf (k : IntKind) : DataW Unit → Array Value
  | .agg l => (l.map fun d => match d with | .lit (.int _ n) => Value.int k n | _ => Value.int k 0).toArray
  | _ => #[]

/-- THE WITNESS: the settled world with two blocks more (the two errors), the five variables holding what their initialisers lay. -/
noncomputable def laidWorld (os : Os) : World :=
  let N := (World.settled Tryz.prog os).heap.size
  let w0 := World.holding Tryz.prog os ⟨#[.cells #[.string ⟨#[105, 110, 118, 97, 108, 105, 100, 32, 115, 121, 110, 116, 97, 120]⟩] 187 (0, 0), .cells #[.string ⟨#[118, 97, 108, 117, 101, 32, 111, 117, 116, 32, 111, 102, 32, 114, 97, 110, 103, 101]⟩] 187 (0, 0)], #[], []⟩
  let put (h : Array Obj) (g : Nat) (cs : Array Value) : Array Obj := h.modify g fun
    | .cells _ t frozen => .cells cs t frozen
    | o => o
  let h1 := put w0.heap 1 #[.iface 185 (.pointer (some ⟨N, 0, none⟩))]
  let h2 := put h1 2 #[.iface 185 (.pointer (some ⟨N + 1, 0, none⟩))]
  let h3 := put h2 3 (intsOf .u64 Rows.laid_internal_strconv_uint64pow10)
  let h4 := put h3 4 (intsOf .u8 Rows.laid_math_bits_deBruijn32tab)
  let h5 := put h4 5 (intsOf .u8 Rows.laid_math_bits_deBruijn64tab)
  { w0 with heap := h5 }

noncomputable abbrev N0 : Nat := (World.settled Tryz.prog default).heap.size
/-- The witness's arguments. -/
abbrev wArgs : Array Value := #[.slice none 0 0, .slice none 0 0]

set_option maxRecDepth 1000000 in
theorem laid_met (os : Os) (args : Array Value) : laidMet Tryz.prog Rows.valueSizesRow.laid ((laidWorld os).forCall (fun _ _ => 0) ⟨#[], args, []⟩).memory :=
  (LaidIn.of_run (l := Rows.valueSizesRow.laid) [4, 5, 3, 2, N0 + 1, 1, N0] 8 (by kernel_rfl) (by kernel_rfl) (by kernel_rfl) (by kernel_rfl)).met

theorem witness_row (os : Os) {H : Type} (enc : TypeId × Value → H) :
    (OpenSpec.ofChange Rows.valueSizesSpec).preRow enc Tryz.prog Tryz.f11 Rows.valueSizesRow.domain false Rows.valueSizesRow.laid ((laidWorld os).forCall (fun _ _ => 0) ⟨#[], wArgs, []⟩).memory wArgs := by
  have hw : (DataW.whole enc Tryz.prog ((laidWorld os).forCall (fun _ _ => 0) ⟨#[], wArgs, []⟩).memory Tryz.f11.params.toList Rows.valueSizesSpec.vars false wArgs.toList 8).map (fun x => (x.1, x.2.1)) =
      some ([.nil, .nil], []) := by kernel_rfl
  obtain ⟨⟨x1, x2, x3⟩, hx, hx1⟩ := Option.map_eq_some_iff.1 hw
  simp only [Prod.mk.injEq] at hx1
  obtain ⟨rfl, rfl⟩ := hx1
  exact OpenSpec.preRow_of_cond 8 hx (by kernel_rfl) (fun k hk => by cases hk) (by kernel_rfl) (laid_met os _)

set_option maxRecDepth 100000 in
set_option maxHeartbeats 2000000 in
theorem lifted (os : Os) (started : os.Started) (H : Type) (enc : TypeId × Value → H) (F : Stop.Interp) :
    ReturnsInHanded {} Tryz.checked os 11 .any ((OpenSpec.ofChange Rows.valueSizesSpec).preRow enc Tryz.prog Tryz.f11 Rows.valueSizesRow.domain false Rows.valueSizesRow.laid) (((OpenSpec.ofChange Rows.valueSizesSpec).at F).post enc Tryz.prog Tryz.f11 false true false false) := by
  refine returnsInHanded_of_row (C := Tryz.checked) (s := OpenSpec.ofChange Rows.valueSizesSpec) own started (by kernel_rfl) Tryz.func11
    (witness_row_atRef (enc := enc) (C := Tryz.checked) false (laidWorld os) wArgs rfl (by kernel_rfl) (by kernel_rfl) (by kernel_rfl) (witness_row os enc)) ?_
  intro W base args ds gs before hval hW _ _ _ hL _ _
  exact contract H enc W base args ds gs before hval hW (tens hL)

theorem said : Rows.ValueSizesSaid :=
  OpenClaim.holds_of_cond 11 Tryz.f11 rfl rfl rfl rfl rfl rfl rfl ⟨rfl, rfl, rfl, rfl, rfl⟩ rfl rfl rfl rfl rfl (by kernel_rfl) Tryz.func11 (by kernel_rfl)
    (of_decide_eq_true (by kernel_rfl)) (by unfold Func.isWrapper; first | (rw [if_pos (by decide +kernel)]; kernel_rfl) | (rw [if_neg (by decide +kernel)]; exact ⟨rfl, rfl⟩))
    (fun os started H enc _ F => by rw [OpenClaim.pre_eq_preRow]; exact lifted os started H enc F)

/-- No parameter wants a stand-in; the program's own looks are off: what the card asks. -/
theorem plain (f : FuncId) (fn : Func) (hf : Tryz.pinned.checked.prog.funcNamed "deltaworks/deltaworkslaw01.ValueSizes" = some f) (hfn : Tryz.pinned.checked.prog.funcs[f]? = some fn) :
    true = Tryz.pinned.checked.prog.looks [] ∧ ∀ (j : Nat) t, fn.params[j]? = some t → Tryz.pinned.checked.prog.wantsStandIn t = false := by
  obtain rfl : f = 11 := Option.some.inj ((show Tryz.prog.funcNamed "deltaworks/deltaworkslaw01.ValueSizes" = some 11 by kernel_rfl).symm.trans hf) |>.symm
  obtain rfl : fn = Tryz.f11 := (Option.some.inj (Tryz.func11.symm.trans hfn)).symm
  refine ⟨by kernel_rfl, fun j t ht => ?_⟩
  rw [Tryz.params11] at ht
  obtain rfl : t = 48 := by simpa using Array.mem_of_getElem? ht
  exact (show Tryz.prog.wantsStandIn 48 = false by kernel_rfl)

/-- ████ THE CARD ████ -/
theorem card : Rows.ValueSizesCardSaid :=
  Claim7.holds_tied_plain_at .later [] _ _ _ _ said (fun _ h => by cases h) (by kernel_rfl) (fun _ h => by cases h) valueSizes_row_tie rfl ⟨rfl, rfl⟩ (by kernel_rfl) rfl plain (by kernel_rfl)

end Go.Proofs.YtbiljalhabnhlaaGreatDoor.valueSizes
