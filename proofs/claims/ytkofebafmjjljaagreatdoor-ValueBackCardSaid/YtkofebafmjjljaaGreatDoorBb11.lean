/-
  Contracts of the functions of package value, of its specification and of what the statements of layer 1 share (values and types made of numbers, the chapter's examples), each for every argument: used by the proofs of layer 1's statements.
  Part 11 of 14.
-/
import Derived.Test.YtkofebafmjjljaaGreatDoorBb10
import Derived.Test.YtkofebafmjjljaaGreatDoorBb08
import Derived.Test.YtkofebafmjjljaaGreatDoorBb07
import Derived.Test.YtkofebafmjjljaaGreatDoorBb09
/-
  Made OF A TUPLE, WALKED; Made OF ANY VALID TYPE.
-/
namespace Go.Proofs.YtkofebafmjjljaaGreatDoor
open Go.RowKit

set_option maxRecDepth 100000 in
set_option maxHeartbeats 8000000 in
theorem made_tuple (ta : Option Addr) (tcap : Nat) (tl : List T) (a : Option Addr) (cap : Nat) (l : List Int) (at_ : Int) (w : World) (ht : (T.mk 2 ta tcap tl).In w w.heap.size) (hl8 : tl.length ≤ 8) (hin : Ints w w.heap.size a cap l) (h0 : 0 ≤ at_) (h1 : at_ + 1 + (T.rank.ranks tl : Int) ≤ 2000000000)
    (ih : ∀ (j : Nat) (x : T), tl[j]? = some x → ∀ (at' : Int) (w1 : World), 0 ≤ at' → at' + (x.rank : Int) ≤ 2000000000 → x.In w1 w1.heap.size → Ints w1 w1.heap.size a cap l → Calls Tryz.prog 84 #[.agg #[.int .i64 x.k, .slice x.a x.l.length x.cap], .slice a l.length cap, .int .i64 at'] w1 (MakesV w1 (MadeVal x at'))) :
    Calls Tryz.prog 84 #[.agg #[.int .i64 2, .slice ta tl.length tcap], .slice a l.length cap, .int .i64 at_] w
      (MakesV w (MadeVal (.mk 2 ta tcap tl) at_)) := by
  obtain ⟨i0, hi, hz0, hz1, hz2⟩ := info_parts infoV
  have N := fun (w1 : World) (h : Kp w w1) => nth_any a cap l at_ w1 (hin.keep h.size h) (by unfold I64; omega)
  generalize nthI l at_ = m at *
  have HN := Lib.hid N
  have HT := Lib.hid ht
  have HIN := Lib.hid hin
  have IH := Lib.hid ih
  clear N ht hin ih
  go_enter Tryz.func84, Tryz.ntmps84
  go_wp2_with fail
  refine (HN.out _ (kk (ka _ _) (ka _ _))).mono ?_
  rintro e w1 ⟨rfl, rfl, hI⟩
  clear hI
  go_wp2_with fail
  refine (tuple_any _ _ _ _).mono ?_
  rintro e w1 ⟨rfl, hk1⟩
  go_wp2_with fail
  have hvz : w.heap.size + 2 ≤ w1.heap.size := by have := hk1.size; simp at this; omega
  have hkW := kk (kk (kk (ka _ _) (ka _ _)) hk1) (ka w1 (.cells #[.int .i64 2, .int .i64 0, .string ⟨#[]⟩, .slice none 0 0] 24))
  have hbox : (w1.alloc (.cells #[.int .i64 2, .int .i64 0, .string ⟨#[]⟩, .slice none 0 0] 24)).heap[w.heap.size]? = some (.cells #[.int .i64 2, .slice ta tl.length tcap] 27 (0, 0)) := blockPast ((hk1.block _ (by simp; omega)).trans (blockPast (blockHere rfl)))
  have hres : (w1.alloc (.cells #[.int .i64 2, .int .i64 0, .string ⟨#[]⟩, .slice none 0 0] 24)).heap[w.heap.size + 1]? = some (.cells zero4 24 (0, 0)) := blockPast ((hk1.block _ (by simp)).trans (blockHere (by simp)))
  have htup : TupAt (w1.alloc (.cells #[.int .i64 2, .int .i64 0, .string ⟨#[]⟩, .slice none 0 0] 24)) w1.heap.size [] (.slice none 0 0) [] := ⟨blockHere rfl, World.ownsRow_nil _ _ _ _, rfl, trivial, trivial⟩
  generalize w1.alloc (.cells #[.int .i64 2, .int .i64 0, .string ⟨#[]⟩, .slice none 0 0] 24) = W at *
  generalize w1.heap.size = vb at *
  have HKW := Lib.hid hkW
  have HBX := Lib.hid hbox
  have HRS := Lib.hid hres
  have HTP := Lib.hid htup
  clear hk1 hkW hbox hres htup
  go_loopw [2, 15] (fun ac i wr => ∃ (j : Nat) (sl : Value) (vs : List V) (c : Int), j ≤ tl.length ∧ ac = .int .i64 c ∧ i = .int .i64 j ∧ vs.length = j ∧ Parts tl vs ∧ V.rank.ranks vs ≤ T.rank.ranks (tl.take j) ∧ at_ + 1 ≤ c ∧ c ≤ at_ + 1 + (T.rank.ranks (tl.take j) : Int) ∧ TupAt wr vb vs sl vs ∧ Kp w wr ∧ wr.heap[w.heap.size]? = some (.cells #[.int .i64 2, .slice ta tl.length tcap] 27 (0, 0)) ∧ wr.heap[w.heap.size + 1]? = some (.cells zero4 24 (0, 0))) (fun _ i _ => tl.length - (intOf i).toNat)
  case atStart => exact ⟨0, _, [], at_ + 1, Nat.zero_le _, rfl, rfl, rfl, (fun i x u h _ => by simp at h), by simp [V.rank.ranks], by omega, by omega, HTP.out, HKW.out, HBX.out, HRS.out⟩
  case round =>
    obtain ⟨j, sl, vs, c, hj, rfl, rfl, hvl, hpt, hrk, hc1, hc2, htp, hk, hbox, hres⟩ := hrel
    by_cases hlt : j < tl.length
    · obtain ⟨x, hx⟩ : ∃ x, tl[j]? = some x := ⟨tl[j], by simp [hlt]⟩
      have htk := ranksT_take tl j x hx
      have hle := ranksT_le tl (j + 1)
      obtain ⟨p0, off, rfl, hp0, q0, q1, hxin⟩ := T.atPart HT.out hx
      have r0 := kc hk q0
      have r1 := kc hk q1
      have b1 : wr.cell? ⟨w.heap.size, 1, none⟩ = some (.slice (some ⟨p0, off, none⟩) tl.length tcap) := cellOf hbox rfl
      have v3 : wr.cell? ⟨vb, 3, none⟩ = some sl := cellOf htp.box rfl
      have hvb := htp.lt
      have hvs : vs.length ≤ 8 := by omega
      have g0 : (0 : Int) ≤ (j : Int) := by omega
      have g1 : (j : Int) < (tl.length : Int) := by omega
      have nb0 : some w.heap.size ≠ sl.ownBlock := fun e => by have := (htp.own.lt _ e.symm).1; omega
      have nb1 : some (w.heap.size + 1) ≠ sl.ownBlock := fun e => by have := (htp.own.lt _ e.symm).1; omega
      have nvb : some vb ≠ sl.ownBlock := fun e => by have := (htp.own.lt _ e.symm).1; omega
      have hih := IH.out j x hx c wr (by omega) (by omega) (hxin.keep hk.size hk) (HIN.out.keep hk.size hk)
      have HX := Lib.hid hx
      have HHL := Lib.hid (show tl[vs.length]? = some x by rw [hvl]; exact hx)
      have hxr : T.rank.ranks (tl.take j) + x.rank = T.rank.ranks (tl.take (j + 1)) := htk.symm
      have HIH := Lib.hid hih
      have HVL := Lib.hid hvl
      have HPT := Lib.hid hpt
      have HTP2 := Lib.hid htp
      have HK := Lib.hid hk
      have HBX2 := Lib.hid hbox
      have HRS2 := Lib.hid hres
      have HXR := Lib.hid hxr
      clear hih htk hx hvl hpt htp hk hbox hres hxr hxin q0 q1 hle
      generalize hxk : x.k = xk at *
      generalize hxa : x.a = xa at *
      generalize hxl : x.l.length = xl at *
      generalize hxc : x.cap = xc at *
      clear hxk hxa hxl hxc
      go_wp2_with fail
      refine HIH.out.mono ?_
      rintro e w2 ⟨⟨zk, zn, zs, za, zc, zl⟩, c', rfl, hzi, hzf, ⟨hzt, hzs, hzr, hd1, hd2⟩, hk2⟩
      rw [V.val_mk]
      have hb2 := (hk2.block _ hvb).trans HTP2.out.box
      have hvb2 := lt_of_block hb2
      have v2 : w2.cell? ⟨vb, 3, none⟩ = some sl := cellOf hb2 rfl
      have HB2 := Lib.hid hb2
      have HZI := Lib.hid hzi
      have HZF := Lib.hid hzf
      have HZP := Lib.hid (show (V.mk zk zn zs za zc zl).is x = true ∧ (∀ d, x.sh d = true → (V.mk zk zn zs za zc zl).sh d = true) from ⟨hzt, hzs⟩)
      have HK2 := Lib.hid hk2
      clear hb2 hzi hzf hzt hzs hk2 v3 r0 r1 b1
      go_wp2_with (at_builtin; refine wpList_append_lies _ rfl _ _ 22 rfl (vb + 1) 24 i0 _ 4 56 Tryz.underlying22 hi hz0 hz1 hz2 rfl (by decide) _ _ _ rfl (((ownsRow_kp HTP2.out.own HK2.out).alloc _).alloc _) ⟨w2.heap.size + 1, 0, none⟩ 1 1 [.int .i64 zk, .int .i64 zn, .string zs, .slice za zl.length zc] rfl rfl ?c1 ?c2 (by decide) ?c3 ?c4 ?c5 (w2.heap.size + 1 + 1) (by simp) ?_)
      case c1 =>
        intro j u hj
        match j, hj with
        | 0, hj => simp at hj; subst hj; simp [Addr.add]
        | 1, hj => simp at hj; subst hj; simp [Addr.add]
        | 2, hj => simp at hj; subst hj; simp [Addr.add]
        | 3, hj => simp at hj; subst hj; simp [Addr.add]
      case c2 => intro u hu; simp at hu; rcases hu with rfl | rfl | rfl | rfl <;> rfl
      case c3 => unfold maxLen; omega
      case c4 => omega
      case c5 => simp; omega
      intro gg gcap w3 hown1 hgrow hat hltg
      have hka2 := ka w2 (.cells #[.int .i64 zk, .int .i64 zn, .string zs, .slice za zl.length zc] 24)
      have hkc := kk hka2 (ka (w2.alloc (.cells #[.int .i64 zk, .int .i64 zn, .string zs, .slice za zl.length zc] 24)) (.cells #[.int .i64 zk, .int .i64 zn, .string zs, .slice za zl.length zc] 24))
      have hb3 := (hgrow.block vb (by simp; omega) nvb).trans (blockPast (blockPast HB2.out))
      have v3 : w3.cell? ⟨vb, 3, none⟩ = some sl := cellOf hb3 rfl
      have f3 : w3.frozen? ⟨vb, 3, none⟩ = false := freeOf hb3
      have HST := Lib.hid (HTP2.out.step HK2.out HZI.out HZF.out (V.same_refl _) hkc hown1 hgrow (by simpa using hat))
      have HK3 := Lib.hid (put1_kp (i := 3) (v := .slice (some ⟨gg, 0, none⟩) (vs.length + 1) gcap) (kp_grown (kk (kk HK.out HK2.out) hkc) hgrow (fun k e => by have := (HTP2.out.own.lt k e).1; omega)) (by omega : w.heap.size ≤ vb))
      have HB4 := Lib.hid (step_block (i := 3) (u := .slice (some ⟨gg, 0, none⟩) (vs.length + 1) gcap) HK2.out hkc hgrow nb0 (by omega : w.heap.size ≠ vb) HBX2.out)
      have HR4 := Lib.hid (step_block (i := 3) (u := .slice (some ⟨gg, 0, none⟩) (vs.length + 1) gcap) HK2.out hkc hgrow nb1 (by omega : w.heap.size + 1 ≠ vb) HRS2.out)
      clear hka2 hkc hb3 hown1 hgrow hat v2
      go_wp2_with fail
      go_roundw
      case rel => exact ⟨j + 1, _, _, c', by omega, rfl, by first | go_num | simp, by simp [HVL.out], Parts.snoc HPT.out HHL.out HZP.out, by rw [ranksV_snoc, ← HXR.out]; omega, by omega, by rw [← HXR.out]; omega, HST.out, HK3.out, HB4.out, HR4.out⟩
      case measure => simp [intOf]; omega
    · have hjj : j = tl.length := by omega
      subst hjj
      rw [List.take_of_length_le (Nat.le_refl _)] at hrk hc2
      have hP : ∀ a' cap', MadeVal (.mk 2 ta tcap tl) at_ (.mk 2 0 ⟨#[]⟩ a' cap' vs) c := fun a' cap' => madeVal_tuple hvl hpt hrk hc1 hc2
      have b1 : wr.cell? ⟨w.heap.size, 1, none⟩ = some (.slice ta tl.length tcap) := cellOf hbox rfl
      obtain ⟨a', cap', rfl, hvin, hvft⟩ := htp.value
      obtain ⟨d0, d1, d2, d3, f0, f1, f2, f3⟩ := cell4 hres
      obtain ⟨c0, c1, c2, c3, -⟩ := cell4 htp.box
      have hvb := htp.lt
      have HK := Lib.hid hk
      have HRS2 := Lib.hid hres
      have HVI := Lib.hid hvin
      have HVF := Lib.hid hvft
      have HP := Lib.hid hP
      clear htp hk hbox hres hvin hvft hP hvl hpt hrk
      go_wp2_with fail
      obtain ⟨e0, e1, e2, e3, -⟩ := cell4 (put4_block (v0 := .int .i64 2) (v1 := .int .i64 0) (v2 := .string ⟨#[]⟩) (v3 := .slice a' vs.length cap') HRS2.out)
      refine bodyPost_ret (v := .tuple #[.agg #[.int .i64 2, .int .i64 0, .string ⟨#[]⟩, .slice a' vs.length cap'], .int .i64 c]) (by simp [results, Tryz.results84, go_sem, e0, e1, e2, e3]) rfl ?_
      have hS : (put4 wr (w.heap.size + 1) (.int .i64 2) (.int .i64 0) (.string ⟨#[]⟩) (.slice a' vs.length cap')).heap.size = wr.heap.size := by simp [World.setCell]
      refine ⟨.mk 2 0 ⟨#[]⟩ a' cap' vs, c, rfl, ?_, V.foot.mono (fun b hb => by omega) _ HVF.out, HP.out _ _, put4_kp HK.out (by omega)⟩
      rw [hS]
      exact V.In.move (Nat.le_refl _) (fun b _ hb => put4_other (by omega)) _ HVI.out HVF.out

theorem MakesV.mono {w : World} {P Q : V → Int → Prop} (h : ∀ x c, P x c → Q x c) {e : Ending} {w' : World} (hm : MakesV w P e w') : MakesV w Q e w' := by
  obtain ⟨x, c, h1, h2, h3, h4, h5⟩ := hm
  exact ⟨x, c, h1, h2, h3, h _ _ h4, h5⟩

set_option maxHeartbeats 1000000 in
theorem made_any (a : Option Addr) (cap : Nat) (l : List Int) : ∀ (N : Nat) (t : T) (d : Nat) (at_ : Int) (w : World), t.rank ≤ N → t.sh d = true → 0 ≤ at_ → at_ + (t.rank : Int) ≤ 2000000000 → t.In w w.heap.size → Ints w w.heap.size a cap l →
    Calls Tryz.prog 84 #[.agg #[.int .i64 t.k, .slice t.a t.l.length t.cap], .slice a l.length cap, .int .i64 at_] w (MakesV w (MadeVal t at_)) := by
  intro N
  induction N with
  | zero => intro t d at_ w h; have := t.rank_pos; omega
  | succ N ih =>
    intro t d at_ w hN ht h0 h1 hin hI
    cases t with
    | mk k ta tcap tl =>
    cases d with
    | zero => simp [T.sh] at ht
    | succ d =>
    simp [T.sh] at ht
    obtain ⟨hf, hp⟩ := ht
    have hrk : (T.mk k ta tcap tl).rank = 1 + T.rank.ranks tl := by simp [T.rank]
    rw [hrk] at h1 hN
    have hih : ∀ (j : Nat) (x : T), tl[j]? = some x → ∀ (at' : Int) (w1 : World), 0 ≤ at' → at' + (x.rank : Int) ≤ 2000000000 → x.In w1 w1.heap.size → Ints w1 w1.heap.size a cap l → Calls Tryz.prog 84 #[.agg #[.int .i64 x.k, .slice x.a x.l.length x.cap], .slice a l.length cap, .int .i64 at'] w1 (MakesV w1 (MadeVal x at')) := fun j x hx at' w1 e1 e2 e3 e4 =>
      ih x d at' w1 (by have := T.ranks_mem hx; omega) (shLT_at hp hx) e1 e2 e3 e4
    show Calls Tryz.prog 84 #[.agg #[.int .i64 k, .slice ta tl.length tcap], _, _] w _
    by_cases k0 : k = 0
    · subst k0
      have : tl = [] := by simpa [fitsT] using hf
      subst this
      refine (made_int ta 0 tcap a cap l at_ w hI h0 (by omega)).mono fun e w' hm => hm.mono ?_
      rintro x c ⟨⟨n, rfl, hn1, hn2⟩, rfl⟩
      exact madeVal_int ta tcap at_ n ⟨hn1, hn2⟩
    by_cases k1 : k = 1
    · subst k1
      have : tl = [] := by simpa [fitsT] using hf
      subst this
      refine (made_text ta 0 tcap a cap l at_ w hI h0 (by omega)).mono fun e w' hm => hm.mono ?_
      rintro x c ⟨⟨s, rfl, hs1, hs2⟩, rfl⟩
      exact madeVal_text ta tcap at_ s ⟨hs1, hs2⟩
    by_cases k2 : k = 2
    · subst k2
      exact made_tuple ta tcap tl a cap l at_ w hin (by simpa [fitsT] using hf) hI h0 (by omega) hih
    by_cases k3 : k = 3
    · subst k3
      have hl : 0 < tl.length ∧ tl.length ≤ 8 := by simpa [fitsT] using hf
      refine (made_sum ta tcap tl a cap l at_ w hin hl hI h0 (by omega) (fun j x hx w1 e1 e2 => hih j x hx (at_ + 1) w1 (by omega) (by have := T.ranks_mem hx; omega) e1 e2)).mono fun e w' hm => hm.mono ?_
      rintro x c ⟨j, u, qa, z, hu, rfl, hm⟩
      exact madeVal_sum hu hl.2 hm
    · simp [fitsT, k0, k1, k2, k3] at hf

end Go.Proofs.YtkofebafmjjljaaGreatDoor

/-
  three: A TYPE THAT NUMBERS MAKE, AND THREE VALUES OF IT.
-/
namespace Go.Proofs.YtkofebafmjjljaaGreatDoor
open Go.RowKit

/-- An array of n values in block g, of which the first have been stored: vs. -/
structure ArrAt (w : World) (g n ty : Nat) (cs : Array Value) (vs : List V) : Prop where
  blk : w.heap[g]? = some (.cells cs ty (0, 0))
  size : cs.size = n * 4
  take : cs.toList.take (vs.length * 4) = cellsL vs
  hin : V.InL w w.heap.size vs
  foot : V.footL (fun b => g < b) vs

theorem ArrAt.kp {w w' : World} {g n ty : Nat} {cs : Array Value} {vs : List V} (h : ArrAt w g n ty cs vs) (k : Kp w w') : ArrAt w' g n ty cs vs :=
  ⟨(k.block _ (lt_of_block h.blk)).trans h.blk, h.size, h.take, h.hin.keep k.size k, h.foot⟩

theorem ArrAt.step {w w2 : World} {g n ty : Nat} {cs : Array Value} {vs : List V} {z : V} (h : ArrAt w g n ty cs vs) (hj : vs.length < n) (hk : Kp w w2) (hz : z.In w2 w2.heap.size) (hf : z.foot (fun b => w.heap.size ≤ b)) :
    ArrAt (putAt w2 g (vs.length * 4) (.int .i64 z.k) (.int .i64 z.n) (.string z.s) (.slice z.a z.l.length z.cap)) g n ty
      ((((cs.setIfInBounds (vs.length * 4) (.int .i64 z.k)).setIfInBounds (vs.length * 4 + 1) (.int .i64 z.n)).setIfInBounds (vs.length * 4 + 2) (.string z.s)).setIfInBounds (vs.length * 4 + 3) (.slice z.a z.l.length z.cap)) (vs ++ [z]) := by
  have hg := lt_of_block h.blk
  have hS : (putAt w2 g (vs.length * 4) (.int .i64 z.k) (.int .i64 z.n) (.string z.s) (.slice z.a z.l.length z.cap)).heap.size = w2.heap.size := by simp [World.setCell]
  have hmv : ∀ b, b < w2.heap.size → g < b → (putAt w2 g (vs.length * 4) (.int .i64 z.k) (.int .i64 z.n) (.string z.s) (.slice z.a z.l.length z.cap)).heap[b]? = w2.heap[b]? := fun b _ hb => putAt_other (by omega)
  refine ⟨putAt_block ((hk.block _ hg).trans h.blk), by simp [h.size], ?_, ?_, ?_⟩
  · rw [List.length_append, List.length_singleton, take_put4 h.size hj, h.take, cellsL_snoc]; rfl
  · rw [hS]
    exact V.InL_snoc (V.InL.move (Nat.le_refl _) hmv _ (h.hin.keep hk.size hk) h.foot) (V.In.move (Nat.le_refl _) hmv _ hz (V.foot.mono (fun b hb => by omega) _ hf))
  · exact V.footL_snoc h.foot (V.foot.mono (fun b hb => by omega) _ hf)

/-- What three's values are: of the type, and valid. -/
def Good (t : T) (x : V) : Prop := x.is t = true ∧ x.sh 3 = true ∧ x.rank ≤ 13

theorem RD3 : RD 3 = 13 := rfl

abbrev zero12 : Array Value := #[.int .i64 0, .int .i64 0, .string ⟨#[]⟩, .slice none 0 0, .int .i64 0, .int .i64 0, .string ⟨#[]⟩, .slice none 0 0, .int .i64 0, .int .i64 0, .string ⟨#[]⟩, .slice none 0 0]
abbrev put12 (w : World) (b : Nat) (v0 v1 v2 v3 v4 v5 v6 v7 v8 v9 v10 v11 : Value) : World := ((((((((((((w).setCell ⟨b, 0, none⟩ v0).setCell ⟨b, 1, none⟩ v1).setCell ⟨b, 2, none⟩ v2).setCell ⟨b, 3, none⟩ v3).setCell ⟨b, 4, none⟩ v4).setCell ⟨b, 5, none⟩ v5).setCell ⟨b, 6, none⟩ v6).setCell ⟨b, 7, none⟩ v7).setCell ⟨b, 8, none⟩ v8).setCell ⟨b, 9, none⟩ v9).setCell ⟨b, 10, none⟩ v10).setCell ⟨b, 11, none⟩ v11
theorem put12_block {w : World} {b t : Nat} {v0 v1 v2 v3 v4 v5 v6 v7 v8 v9 v10 v11 : Value} (h : w.heap[b]? = some (.cells zero12 t (0, 0))) :
    (put12 w b v0 v1 v2 v3 v4 v5 v6 v7 v8 v9 v10 v11).heap[b]? = some (.cells #[v0, v1, v2, v3, v4, v5, v6, v7, v8, v9, v10, v11] t (0, 0)) := by
  have h0 := h
  have h1 := heap_setCell_same _ b 0 _ _ v0 h0
  have h2 := heap_setCell_same _ b 1 _ _ v1 h1
  have h3 := heap_setCell_same _ b 2 _ _ v2 h2
  have h4 := heap_setCell_same _ b 3 _ _ v3 h3
  have h5 := heap_setCell_same _ b 4 _ _ v4 h4
  have h6 := heap_setCell_same _ b 5 _ _ v5 h5
  have h7 := heap_setCell_same _ b 6 _ _ v6 h6
  have h8 := heap_setCell_same _ b 7 _ _ v7 h7
  have h9 := heap_setCell_same _ b 8 _ _ v8 h8
  have h10 := heap_setCell_same _ b 9 _ _ v9 h9
  have h11 := heap_setCell_same _ b 10 _ _ v10 h10
  have h12 := heap_setCell_same _ b 11 _ _ v11 h11
  simpa using h12
theorem put12_other {w : World} {b k : Nat} {v0 v1 v2 v3 v4 v5 v6 v7 v8 v9 v10 v11 : Value} (h : k ≠ b) : (put12 w b v0 v1 v2 v3 v4 v5 v6 v7 v8 v9 v10 v11).heap[k]? = w.heap[k]? := by
  rw [Below.heap_setCell _ _ _ _ h, Below.heap_setCell _ _ _ _ h, Below.heap_setCell _ _ _ _ h, Below.heap_setCell _ _ _ _ h, Below.heap_setCell _ _ _ _ h, Below.heap_setCell _ _ _ _ h, Below.heap_setCell _ _ _ _ h, Below.heap_setCell _ _ _ _ h, Below.heap_setCell _ _ _ _ h, Below.heap_setCell _ _ _ _ h, Below.heap_setCell _ _ _ _ h, Below.heap_setCell _ _ _ _ h]
theorem put12_kp {b : Nat} {w w' : World} {v0 v1 v2 v3 v4 v5 v6 v7 v8 v9 v10 v11 : Value} (h : Kp w w') (hb : w.heap.size ≤ b) : Kp w (put12 w' b v0 v1 v2 v3 v4 v5 v6 v7 v8 v9 v10 v11) := put1_kp (put1_kp (put1_kp (put1_kp (put1_kp (put1_kp (put1_kp (put1_kp (put1_kp (put1_kp (put1_kp (put1_kp (h) hb) hb) hb) hb) hb) hb) hb) hb) hb) hb) hb) hb


set_option maxRecDepth 100000 in
set_option maxHeartbeats 8000000 in
theorem three_any (a : Option Addr) (cap : Nat) (l : List Int) (w : World) (hin : Ints w w.heap.size a cap l) :
    Calls Tryz.prog 40 #[.slice a l.length cap] w fun e w' => ∃ (t : T) (x y z : V), e = .returned (.tuple #[t.val, .agg (cellsL [x, y, z]).toArray]) ∧ t.In w' w'.heap.size ∧ t.sh 3 = true ∧ t.rank ≤ 13 ∧ V.InL w' w'.heap.size [x, y, z] ∧ V.footL (fun b => w.heap.size ≤ b) [x, y, z] ∧ Good t x ∧ Good t y ∧ Good t z ∧ Kp w w' := by
  have M := fun (w1 : World) (h : Kp w w1) => madeType a cap l 3 3 0 w1 (by omega) (by omega) rfl (by omega) (by rw [RD3]; omega) (hin.keep h.size h)
  have HM := Lib.hid M
  have HIN := Lib.hid hin
  clear M hin
  go_enter Tryz.func40, Tryz.ntmps40
  go_wp2_with fail
  refine (HM.out _ (kk (ka _ _) (ka _ _))).mono ?_
  rintro e w1 ⟨⟨tk, ta, tc, tl⟩, c, rfl, hti, htf, ⟨hsh, hrk, hc1, hc2⟩, hk1⟩
  rw [RD3] at hrk hc2
  rw [T.val_mk]
  have HTI := Lib.hid hti
  have HTF := Lib.hid (T.foot.mono (Q := fun b => w.heap.size + 2 ≤ b ∧ b < w1.heap.size) (fun b hb => ⟨by have := hb.1; simp at this; omega, hb.2⟩) _ (T.In.foot_lt _ hti htf))
  have HSH := Lib.hid hsh
  have HRK := Lib.hid hrk
  have HK1 := Lib.hid hk1
  clear hti htf hsh hk1
  go_wp2_with fail
  have hkW := kk (kk (kk (ka w (.cells #[.int .i64 0, .slice none 0 0] 27)) (ka _ (.cells zero12 49))) HK1.out) (kk (ka w1 (.cells #[.int .i64 tk, .slice ta tl.length tc] 27)) (ka _ (.cells zero12 49)))
  have hz1 : w.heap.size + 2 ≤ w1.heap.size := by have := HK1.out.size; simp at this; omega
  have hr0 : ((w1.alloc (.cells #[.int .i64 tk, .slice ta tl.length tc] 27)).alloc (.cells zero12 49)).heap[w.heap.size]? = some (.cells #[.int .i64 0, .slice none 0 0] 27 (0, 0)) := blockPast (blockPast ((HK1.out.block _ (by simp; omega)).trans (blockPast (blockHere rfl))))
  have hr1 : ((w1.alloc (.cells #[.int .i64 tk, .slice ta tl.length tc] 27)).alloc (.cells zero12 49)).heap[w.heap.size + 1]? = some (.cells zero12 49 (0, 0)) := blockPast (blockPast ((HK1.out.block _ (by simp)).trans (blockHere (by simp))))
  have hbt : ((w1.alloc (.cells #[.int .i64 tk, .slice ta tl.length tc] 27)).alloc (.cells zero12 49)).heap[w1.heap.size]? = some (.cells #[.int .i64 tk, .slice ta tl.length tc] 27 (0, 0)) := blockPast (blockHere rfl)
  have har : ArrAt ((w1.alloc (.cells #[.int .i64 tk, .slice ta tl.length tc] 27)).alloc (.cells zero12 49)) (w1.heap.size + 1) 3 49 zero12 [] := ⟨blockHere (by simp), rfl, rfl, trivial, trivial⟩
  have hti2 := HTI.out.keep (kk (ka w1 (.cells #[.int .i64 tk, .slice ta tl.length tc] 27)) (ka _ (.cells zero12 49))).size (kk (ka w1 (.cells #[.int .i64 tk, .slice ta tl.length tc] 27)) (ka _ (.cells zero12 49)))
  generalize (w1.alloc (.cells #[.int .i64 tk, .slice ta tl.length tc] 27)).alloc (.cells zero12 49) = W at *
  generalize w1.heap.size = tb at *
  have HKW := Lib.hid hkW
  have HR0 := Lib.hid hr0
  have HR1 := Lib.hid hr1
  have HBT := Lib.hid hbt
  have HAR := Lib.hid har
  have HT2 := Lib.hid hti2
  clear hkW hr0 hr1 hbt har hti2 HTI HK1
  go_loopw [5, 7] (fun ac i wr => ∃ (j : Nat) (cs : Array Value) (vs : List V) (c : Int), j ≤ 3 ∧ vs.length = j ∧ ac = .int .i64 c ∧ i = .int .i64 j ∧ 0 ≤ c ∧ c ≤ 26 + 13 * (j : Int) ∧ ArrAt wr (tb + 1) 3 49 cs vs ∧ (∀ x ∈ vs, Good (.mk tk ta tc tl) x) ∧ Kp w wr ∧ wr.heap[tb]? = some (.cells #[.int .i64 tk, .slice ta tl.length tc] 27 (0, 0)) ∧ (T.mk tk ta tc tl).In wr wr.heap.size ∧ wr.heap[w.heap.size]? = some (.cells #[.int .i64 0, .slice none 0 0] 27 (0, 0)) ∧ wr.heap[w.heap.size + 1]? = some (.cells zero12 49 (0, 0))) (fun _ i _ => 3 - (intOf i).toNat)
  case atStart => exact ⟨0, _, [], c, by omega, rfl, rfl, rfl, by omega, by omega, HAR.out, (fun x h => by cases h), HKW.out, HBT.out, HT2.out, HR0.out, HR1.out⟩
  case round =>
    obtain ⟨j, cs, vs, c, hj, hvl, rfl, rfl, h0, h1, har, hgood, hk, hbt, hti, hr0, hr1⟩ := hrel
    obtain ⟨b0, b1, -⟩ := cell2 hbt
    have hgl := lt_of_block har.blk
    by_cases hlt : j < 3
    · have hlt' : (j : Int) < 3 := by omega
      have g0 : (0 : Int) ≤ (j : Int) := by omega
      have hmade := made_any a cap l 13 (.mk tk ta tc tl) 3 c wr HRK.out HSH.out h0 (by have := HRK.out; omega) hti (HIN.out.keep hk.size hk)
      dsimp only [T.k, T.a, T.l, T.cap] at hmade
      have hlv : vs.length < 3 := by omega
      have hstep := fun (w2 : World) (z : V) (hk2 : Kp wr w2) (hz : z.In w2 w2.heap.size) (hf : z.foot (fun b => wr.heap.size ≤ b)) => har.step hlv hk2 hz hf
      rw [hvl] at hstep
      have HMD := Lib.hid hmade
      have HST := Lib.hid hstep
      have HAR2 := Lib.hid har
      have HG := Lib.hid hgood
      have HK := Lib.hid hk
      have HBT2 := Lib.hid hbt
      have HTI2 := Lib.hid hti
      have HR02 := Lib.hid hr0
      have HR12 := Lib.hid hr1
      have HVL := Lib.hid hvl
      clear hmade hstep har hgood hk hti hr0 hr1 hvl hbt
      go_wp2_with fail
      refine HMD.out.mono ?_
      rintro e w2 ⟨z, c', rfl, hzi, hzf, ⟨hz1, hz2, hz3, hz4, hz5⟩, hk2⟩
      have hb2 := (hk2.block _ hgl).trans HAR2.out.blk
      have hsz := HAR2.out.size
      obtain ⟨u0, hu0⟩ : ∃ u, cs[j * 4]? = some u := ⟨cs[j * 4]'(by omega), by simp⟩
      obtain ⟨u1, hu1⟩ : ∃ u, cs[j * 4 + 1]? = some u := ⟨cs[j * 4 + 1]'(by omega), by simp⟩
      obtain ⟨u2, hu2⟩ : ∃ u, cs[j * 4 + 2]? = some u := ⟨cs[j * 4 + 2]'(by omega), by simp⟩
      obtain ⟨u3, hu3⟩ : ∃ u, cs[j * 4 + 3]? = some u := ⟨cs[j * 4 + 3]'(by omega), by simp⟩
      have m0 := cellOf hb2 hu0
      have m1 := cellOf hb2 hu1
      have m2 := cellOf hb2 hu2
      have m3 := cellOf hb2 hu3
      have n0 := freeOf (i := j * 4) hb2
      have n1 := freeOf (i := j * 4 + 1) hb2
      have n2 := freeOf (i := j * 4 + 2) hb2
      have n3 := freeOf (i := j * 4 + 3) hb2
      have hr13 := HRK.out
      have hgz : Good (.mk tk ta tc tl) z := ⟨hz1, hz2 3 HSH.out, by omega⟩
      have HGZ := Lib.hid hgz
      have HS2 := Lib.hid (HST.out w2 z hk2 hzi hzf)
      have HK2 := Lib.hid (kk HK.out hk2)
      have HBT3 := Lib.hid ((hk2.block _ (lt_of_block HBT2.out)).trans HBT2.out)
      have HTI3 := Lib.hid (HTI2.out.keep hk2.size hk2)
      have HR03 := Lib.hid ((hk2.block _ (lt_of_block HR02.out)).trans HR02.out)
      have HR13 := Lib.hid ((hk2.block _ (lt_of_block HR12.out)).trans HR12.out)
      clear hgz hzi hzf hz1 hz2 hz3 hk2 hb2 hu0 hu1 hu2 hu3 b0 b1
      cases z with
      | mk k n s za zc zl =>
      simp only [V.val_mk]
      go_wp2_with fail
      go_roundw
      case rel => exact ⟨j + 1, _, _, c', by omega, by rw [List.length_append, HVL.out]; rfl, rfl, by first | go_num | simp, by omega, by omega, HS2.out, (fun x h => by rcases List.mem_append.1 h with h | h; exact HG.out x h; rw [List.mem_singleton.1 h]; exact HGZ.out), putAt_kp HK2.out (by omega), (putAt_other (by omega)).trans HBT3.out, by rw [show (putAt w2 (tb + 1) (j * 4) (.int .i64 k) (.int .i64 n) (.string s) (.slice za zl.length zc)).heap.size = w2.heap.size from by simp [World.setCell]]; exact T.In.move (Nat.le_refl _) (fun b _ hb => putAt_other (by have := hb.2; omega)) _ HTI3.out HTF.out, (putAt_other (by omega)).trans HR03.out, (putAt_other (by omega)).trans HR13.out⟩
      case measure => simp [intOf]; omega
    · have hj3 : j = 3 := by omega
      subst hj3
      obtain ⟨hb, hsz, htk, hvi, hvf⟩ := har
      match vs, hvl with
      | [x, y, z], _ =>
      have hcs : cs = (cellsL [x, y, z]).toArray := by
        apply Array.ext'
        rw [← htk, List.take_of_length_le (by simp [hsz])]
      subst hcs
      obtain ⟨r0, r1, f0, f1⟩ := cell2 hr0
      obtain ⟨xk, xn, xs, xa, xc, xl⟩ := x
      obtain ⟨yk, yn, ys, ya, yc, yl⟩ := y
      obtain ⟨zk, zn, zs, za, zc, zl⟩ := z
      simp only [cellsL, V.cells4, List.flatMap_cons, List.flatMap_nil, List.cons_append, List.nil_append, List.append_nil, V.k, V.n, V.s, V.a, V.l, V.cap] at hb ⊢
      have v0 := cellOf (i := 0) hb rfl
      have v1 := cellOf (i := 1) hb rfl
      have v2 := cellOf (i := 2) hb rfl
      have v3 := cellOf (i := 3) hb rfl
      have v4 := cellOf (i := 4) hb rfl
      have v5 := cellOf (i := 5) hb rfl
      have v6 := cellOf (i := 6) hb rfl
      have v7 := cellOf (i := 7) hb rfl
      have v8 := cellOf (i := 8) hb rfl
      have v9 := cellOf (i := 9) hb rfl
      have v10 := cellOf (i := 10) hb rfl
      have v11 := cellOf (i := 11) hb rfl
      have s0 := cellOf (i := 0) hr1 rfl
      have t0 := freeOf (i := 0) hr1
      have s1 := cellOf (i := 1) hr1 rfl
      have t1 := freeOf (i := 1) hr1
      have s2 := cellOf (i := 2) hr1 rfl
      have t2 := freeOf (i := 2) hr1
      have s3 := cellOf (i := 3) hr1 rfl
      have t3 := freeOf (i := 3) hr1
      have s4 := cellOf (i := 4) hr1 rfl
      have t4 := freeOf (i := 4) hr1
      have s5 := cellOf (i := 5) hr1 rfl
      have t5 := freeOf (i := 5) hr1
      have s6 := cellOf (i := 6) hr1 rfl
      have t6 := freeOf (i := 6) hr1
      have s7 := cellOf (i := 7) hr1 rfl
      have t7 := freeOf (i := 7) hr1
      have s8 := cellOf (i := 8) hr1 rfl
      have t8 := freeOf (i := 8) hr1
      have s9 := cellOf (i := 9) hr1 rfl
      have t9 := freeOf (i := 9) hr1
      have s10 := cellOf (i := 10) hr1 rfl
      have t10 := freeOf (i := 10) hr1
      have s11 := cellOf (i := 11) hr1 rfl
      have t11 := freeOf (i := 11) hr1
      have ne1 : w.heap.size ≠ tb := by omega
      have ne2 : w.heap.size ≠ tb + 1 := by omega
      have ne3 : w.heap.size + 1 ≠ tb := by omega
      have ne4 : w.heap.size ≠ tb := by omega
      have HK := Lib.hid hk
      have HR0' := Lib.hid hr0
      have HR1' := Lib.hid hr1
      have HVI := Lib.hid hvi
      have HVF := Lib.hid hvf
      have HG := Lib.hid hgood
      have HB := Lib.hid hb
      have HTI3 := Lib.hid hti
      have HBT3 := Lib.hid hbt
      clear hk hr0 hr1 hvi hvf hgood hb hti hbt hsz htk
      go_wp2_with fail
      go_region
      go_wp2_with fail
      have hA : (put12 (put2 wr w.heap.size (.int .i64 tk) (.slice ta tl.length tc)) (w.heap.size + 1) (.int .i64 xk) (.int .i64 xn) (.string xs) (.slice xa xl.length xc) (.int .i64 yk) (.int .i64 yn) (.string ys) (.slice ya yl.length yc) (.int .i64 zk) (.int .i64 zn) (.string zs) (.slice za zl.length zc)).heap[w.heap.size]? = some (.cells #[.int .i64 tk, .slice ta tl.length tc] 27 (0, 0)) := (put12_other (by omega)).trans (put2_block HR0'.out)
      have hB : (put12 (put2 wr w.heap.size (.int .i64 tk) (.slice ta tl.length tc)) (w.heap.size + 1) (.int .i64 xk) (.int .i64 xn) (.string xs) (.slice xa xl.length xc) (.int .i64 yk) (.int .i64 yn) (.string ys) (.slice ya yl.length yc) (.int .i64 zk) (.int .i64 zn) (.string zs) (.slice za zl.length zc)).heap[w.heap.size + 1]? = some (.cells #[.int .i64 xk, .int .i64 xn, .string xs, .slice xa xl.length xc, .int .i64 yk, .int .i64 yn, .string ys, .slice ya yl.length yc, .int .i64 zk, .int .i64 zn, .string zs, .slice za zl.length zc] 49 (0, 0)) := put12_block ((put2_other (by omega)).trans HR1'.out)
      have hK : Kp w (put12 (put2 wr w.heap.size (.int .i64 tk) (.slice ta tl.length tc)) (w.heap.size + 1) (.int .i64 xk) (.int .i64 xn) (.string xs) (.slice xa xl.length xc) (.int .i64 yk) (.int .i64 yn) (.string ys) (.slice ya yl.length yc) (.int .i64 zk) (.int .i64 zn) (.string zs) (.slice za zl.length zc)) := put12_kp (put2_kp HK.out (by omega)) (by omega)
      have hO : ∀ b, b ≠ w.heap.size → b ≠ w.heap.size + 1 → (put12 (put2 wr w.heap.size (.int .i64 tk) (.slice ta tl.length tc)) (w.heap.size + 1) (.int .i64 xk) (.int .i64 xn) (.string xs) (.slice xa xl.length xc) (.int .i64 yk) (.int .i64 yn) (.string ys) (.slice ya yl.length yc) (.int .i64 zk) (.int .i64 zn) (.string zs) (.slice za zl.length zc)).heap[b]? = wr.heap[b]? := fun b h1 h2 => (put12_other h2).trans (put2_other h1)
      have hS : (put12 (put2 wr w.heap.size (.int .i64 tk) (.slice ta tl.length tc)) (w.heap.size + 1) (.int .i64 xk) (.int .i64 xn) (.string xs) (.slice xa xl.length xc) (.int .i64 yk) (.int .i64 yn) (.string ys) (.slice ya yl.length yc) (.int .i64 zk) (.int .i64 zn) (.string zs) (.slice za zl.length zc)).heap.size = wr.heap.size := by simp [World.setCell]
      dsimp only [put12, put2] at hA hB hK hO hS
      generalize (((((((((((((wr.setCell ⟨w.heap.size, 0, none⟩ (.int .i64 tk)).setCell ⟨w.heap.size, 1, none⟩ (.slice ta tl.length tc)).setCell ⟨w.heap.size + 1, 0, none⟩ (.int .i64 xk)).setCell ⟨w.heap.size + 1, 1, none⟩ (.int .i64 xn)).setCell ⟨w.heap.size + 1, 2, none⟩ (.string xs)).setCell ⟨w.heap.size + 1, 3, none⟩ (.slice xa xl.length xc)).setCell ⟨w.heap.size + 1, 4, none⟩ (.int .i64 yk)).setCell ⟨w.heap.size + 1, 5, none⟩ (.int .i64 yn)).setCell ⟨w.heap.size + 1, 6, none⟩ (.string ys)).setCell ⟨w.heap.size + 1, 7, none⟩ (.slice ya yl.length yc)).setCell ⟨w.heap.size + 1, 8, none⟩ (.int .i64 zk)).setCell ⟨w.heap.size + 1, 9, none⟩ (.int .i64 zn)).setCell ⟨w.heap.size + 1, 10, none⟩ (.string zs)).setCell ⟨w.heap.size + 1, 11, none⟩ (.slice za zl.length zc) = W' at *
      have hAd : W'.drew.heap[w.heap.size]? = some (.cells #[.int .i64 tk, .slice ta tl.length tc] 27 (0, 0)) := hA
      have hBd : W'.drew.heap[w.heap.size + 1]? = some (.cells #[.int .i64 xk, .int .i64 xn, .string xs, .slice xa xl.length xc, .int .i64 yk, .int .i64 yn, .string ys, .slice ya yl.length yc, .int .i64 zk, .int .i64 zn, .string zs, .slice za zl.length zc] 49 (0, 0)) := hB
      have e0 := cellOf (i := 0) hBd rfl
      have e1 := cellOf (i := 1) hBd rfl
      have e2 := cellOf (i := 2) hBd rfl
      have e3 := cellOf (i := 3) hBd rfl
      have e4 := cellOf (i := 4) hBd rfl
      have e5 := cellOf (i := 5) hBd rfl
      have e6 := cellOf (i := 6) hBd rfl
      have e7 := cellOf (i := 7) hBd rfl
      have e8 := cellOf (i := 8) hBd rfl
      have e9 := cellOf (i := 9) hBd rfl
      have e10 := cellOf (i := 10) hBd rfl
      have e11 := cellOf (i := 11) hBd rfl
      have d0 := cellOf (i := 0) hAd rfl
      have d1 := cellOf (i := 1) hAd rfl
      refine bodyPost_ret (v := .tuple #[.agg #[.int .i64 tk, .slice ta tl.length tc], .agg #[.int .i64 xk, .int .i64 xn, .string xs, .slice xa xl.length xc, .int .i64 yk, .int .i64 yn, .string ys, .slice ya yl.length yc, .int .i64 zk, .int .i64 zn, .string zs, .slice za zl.length zc]]) (by simp [results, Tryz.results40, go_sem, d0, d1, e0, e1, e2, e3, e4, e5, e6, e7, e8, e9, e10, e11]) rfl ?_
      have hmv : ∀ b, b < wr.heap.size → tb + 1 < b → W'.heap[b]? = wr.heap[b]? := fun b _ hb => hO b (by omega) (by omega)
      have hI : V.InL W' W'.heap.size [.mk xk xn xs xa xc xl, .mk yk yn ys ya yc yl, .mk zk zn zs za zc zl] := by
        rw [hS]
        exact V.InL.move (Nat.le_refl _) hmv _ HVI.out HVF.out
      have hT : (T.mk tk ta tc tl).In W' W'.heap.size := by
        rw [hS]
        exact T.In.move (Nat.le_refl _) (fun b _ hb => hO b (by omega) (by omega)) _ HTI3.out HTF.out
      have hG := HG.out
      refine ⟨.mk tk ta tc tl, .mk xk xn xs xa xc xl, .mk yk yn ys ya yc yl, .mk zk zn zs za zc zl, ?_, hT.keep (Nat.le_refl _) kpD, HSH.out, HRK.out, hI.keep (Nat.le_refl _) kpD, V.footL.mono (fun b hb => by omega) _ HVF.out, hG _ (by simp), hG _ (by simp), hG _ (by simp), kk hK kpD⟩
      rfl

end Go.Proofs.YtkofebafmjjljaaGreatDoor

/-
  ValueOne: the statement's function, at any two lists of numbers.
-/
namespace Go.Proofs.YtkofebafmjjljaaGreatDoor
open Go.RowKit

mutual
theorem V.sh_up : ∀ (x : V) (d : Nat), x.sh d = true → x.sh (d + 1) = true
  | .mk k n s a c l, d, h => by
    cases d with
    | zero => simp [V.sh] at h
    | succ d =>
      simp [V.sh] at h ⊢
      exact ⟨h.1, V.shL_up l d h.2⟩
theorem V.shL_up : ∀ (l : List V) (d : Nat), V.shL l d = true → V.shL l (d + 1) = true
  | [], _, _ => by simp [V.shL]
  | x :: xs, d, h => by
    simp [V.shL] at h ⊢
    exact ⟨V.sh_up x d h.1, V.shL_up xs d h.2⟩
end

theorem Good.valid {t : T} {x : V} (h : Good t x) : x.valid = true := by
  obtain ⟨_, h1, h2⟩ := h
  have := V.sh_up _ _ (V.sh_up _ _ (V.sh_up _ _ h1))
  simp [V.valid, this]; omega

/-- Compare of two of three values. -/
def ordAt (vs : List V) (q : Nat) : Int := (vs.getD (q / 3) (.mk 0 0 ⟨#[]⟩ none 0 [])).ord (vs.getD (q % 3) (.mk 0 0 ⟨#[]⟩ none 0 []))

theorem ordAt_mk {vs : List V} {i k : Nat} {x y : V} (hi : vs[i]? = some x) (hk : vs[k]? = some y) (hk3 : k < 3) : ordAt vs (i * 3 + k) = x.ord y := by
  unfold ordAt
  rw [show (i * 3 + k) / 3 = i from by omega, show (i * 3 + k) % 3 = k from by omega]
  simp [List.getD, hi, hk]

/-- Three valid values in block g, and all that they are made of, below a block. -/
structure Trio (W : World) (g : Nat) (vs : List V) : Prop where
  blk : W.heap[g]? = some (.cells (cellsL vs).toArray 49 (0, 0))
  len : vs.length = 3
  hin : V.InL W W.heap.size vs
  valid : ∀ x ∈ vs, x.valid = true

theorem Trio.at {W w : World} {g : Nat} {vs : List V} (h : Trio W g vs) (hk : Kp W w) {j : Nat} (hj : j < 3) : ∃ x : V, vs[j]? = some x ∧ x.In w w.heap.size ∧ x.valid = true ∧
    w.cell? ⟨g, j * 4, none⟩ = some (.int .i64 x.k) ∧ w.cell? ⟨g, j * 4 + 1, none⟩ = some (.int .i64 x.n) ∧ w.cell? ⟨g, j * 4 + 2, none⟩ = some (.string x.s) ∧ w.cell? ⟨g, j * 4 + 3, none⟩ = some (.slice x.a x.l.length x.cap) := by
  have hl : j < vs.length := by rw [h.len]; exact hj
  obtain ⟨x, hx⟩ : ∃ x, vs[j]? = some x := ⟨vs[j], by simp [hl]⟩
  have hb := (hk.block _ (lt_of_block h.blk)).trans h.blk
  obtain ⟨c0, c1, c2, c3⟩ := cellsL_at vs j x hx
  refine ⟨x, hx, (V.InL_iff.1 h.hin j x hx).keep hk.size hk, h.valid x (List.mem_of_getElem? hx), cellOf hb (by simpa using c0), cellOf hb (by simpa using c1), cellOf hb (by simpa using c2), cellOf hb (by simpa using c3)⟩

/-- The answers of the first q comparisons lie in block ob. -/
def Ords (w : World) (ob : Nat) (vs : List V) (q : Nat) : Prop := ∃ os : Array Value, w.heap[ob]? = some (.cells os 54 (0, 0)) ∧ os.size = 9 ∧ ∀ r, r < q → os[r]? = some (.int .i64 (ordAt vs r))

theorem Ords.step {w w' : World} {ob q : Nat} {vs : List V} {n : Int} (h : Ords w ob vs q) (hk : w'.heap[ob]? = w.heap[ob]?) (hq : q < 9) (hn : ordAt vs q = n) : Ords (w'.setCell ⟨ob, q, none⟩ (.int .i64 n)) ob vs (q + 1) := by
  obtain ⟨os, hb, hs, ho⟩ := h
  refine ⟨os.setIfInBounds q (.int .i64 n), heap_set (hk.trans hb), by simp [hs], fun r hr => ?_⟩
  by_cases e : r = q
  · subst e
    rw [Array.getElem?_setIfInBounds_self_of_lt (by omega), hn]
  · rw [Array.getElem?_setIfInBounds_ne (by omega)]
    exact ho r (by omega)

theorem Ords.cell {w : World} {ob q r : Nat} {vs : List V} (h : Ords w ob vs q) (hr : r < q) : w.cell? ⟨ob, r, none⟩ = some (.int .i64 (ordAt vs r)) := by
  obtain ⟨os, hb, hs, ho⟩ := h
  exact cellOf hb (ho r hr)
theorem Ords.there {w : World} {ob q r : Nat} {vs : List V} (h : Ords w ob vs q) (hr : r < 9) : ∃ u, w.cell? ⟨ob, r, none⟩ = some u ∧ w.frozen? ⟨ob, r, none⟩ = false := by
  obtain ⟨os, hb, hs, ho⟩ := h
  exact ⟨os[r]'(by omega), cellOf hb (by simp), freeOf hb⟩
theorem Ords.kp {w w' : World} {ob q : Nat} {vs : List V} (h : Ords w ob vs q) (hk : Kp w w') : Ords w' ob vs q := by
  obtain ⟨os, hb, hs, ho⟩ := h
  exact ⟨os, (hk.block _ (lt_of_block hb)).trans hb, hs, ho⟩

set_option maxRecDepth 100000 in
set_option maxHeartbeats 8000000 in
theorem one_false (a : Option Addr) (cap : Nat) (l : List Int) (a' : Option Addr) (cap' : Nat) (l' : List Int) (w : World) (hin : Ints w w.heap.size a cap l) (_hin' : Ints w w.heap.size a' cap' l') (tb : Tb w w.heap.size) :
    Calls Tryz.prog 7 #[.slice a l.length cap, .slice a' l'.length cap', .bool false] w fun e w' => e = .returned (.bool true) ∧ Kp w w' := by
  have T1 := three_any a cap l w hin
  have E := fun w1 (h : Kp w w1) => valued_any w1 (tb.keep h h.size)
  have HT1 := Lib.hid T1
  have HE := Lib.hid E
  clear T1 E hin _hin' tb
  go_enter Tryz.func7, Tryz.ntmps7
  go_wp2_with fail
  refine HT1.out.mono ?_
  rintro e w1 ⟨t, x, y, z, rfl, hti, hsh, hrk, hvi, hvf, hgx, hgy, hgz, hk⟩
  obtain ⟨xk, xn, xs, xa, xc, xl⟩ := x
  obtain ⟨yk, yn, ys, ya, yc, yl⟩ := y
  obtain ⟨zk, zn, zs, za, zc, zl⟩ := z
  cases t with
  | mk tk ta tc tl =>
  rw [T.val_mk]
  simp only [cellsL, V.cells4, List.flatMap_cons, List.flatMap_nil, List.cons_append, List.nil_append, List.append_nil, V.k, V.n, V.s, V.a, V.l, V.cap]
  have HVI := Lib.hid hvi
  have HX := Lib.hid hgx.valid
  have HY := Lib.hid hgy.valid
  have HZ := Lib.hid hgz.valid
  have HK := Lib.hid hk
  clear hti hvi hvf hgx hgy hgz hk hsh hrk
  go_wp2_with fail
  have hkW := kk HK.out (kk (ka w1 (.cells #[.int .i64 tk, .slice ta tl.length tc] 27)) (ka _ (.cells #[.int .i64 xk, .int .i64 xn, .string xs, .slice xa xl.length xc, .int .i64 yk, .int .i64 yn, .string ys, .slice ya yl.length yc, .int .i64 zk, .int .i64 zn, .string zs, .slice za zl.length zc] 49)))
  have hka := kk (ka w1 (.cells #[.int .i64 tk, .slice ta tl.length tc] 27)) (ka _ (.cells #[.int .i64 xk, .int .i64 xn, .string xs, .slice xa xl.length xc, .int .i64 yk, .int .i64 yn, .string ys, .slice ya yl.length yc, .int .i64 zk, .int .i64 zn, .string zs, .slice za zl.length zc] 49))
  have htr : Trio ((w1.alloc (.cells #[.int .i64 tk, .slice ta tl.length tc] 27)).alloc (.cells #[.int .i64 xk, .int .i64 xn, .string xs, .slice xa xl.length xc, .int .i64 yk, .int .i64 yn, .string ys, .slice ya yl.length yc, .int .i64 zk, .int .i64 zn, .string zs, .slice za zl.length zc] 49)) (w1.heap.size + 1) [.mk xk xn xs xa xc xl, .mk yk yn ys ya yc yl, .mk zk zn zs za zc zl] :=
    ⟨blockHere (by simp), rfl, HVI.out.keep hka.size hka, fun v hv => by simp at hv; rcases hv with rfl | rfl | rfl; exact HX.out; exact HY.out; exact HZ.out⟩
  generalize [V.mk xk xn xs xa xc xl, V.mk yk yn ys ya yc yl, V.mk zk zn zs za zc zl] = vs at htr
  have hsz : ((w1.alloc (.cells #[.int .i64 tk, .slice ta tl.length tc] 27)).alloc (.cells #[.int .i64 xk, .int .i64 xn, .string xs, .slice xa xl.length xc, .int .i64 yk, .int .i64 yn, .string ys, .slice ya yl.length yc, .int .i64 zk, .int .i64 zn, .string zs, .slice za zl.length zc] 49)).heap.size = w1.heap.size + 1 + 1 := by simp
  clear HVI HX HY HZ HK hka
  generalize (w1.alloc (.cells #[.int .i64 tk, .slice ta tl.length tc] 27)).alloc (.cells #[.int .i64 xk, .int .i64 xn, .string xs, .slice xa xl.length xc, .int .i64 yk, .int .i64 yn, .string ys, .slice ya yl.length yc, .int .i64 zk, .int .i64 zn, .string zs, .slice za zl.length zc] 49) = W0 at *
  generalize w1.heap.size + 1 = g at *
  have hord : Ords (W0.alloc (.cells #[.int .i64 0, .int .i64 0, .int .i64 0, .int .i64 0, .int .i64 0, .int .i64 0, .int .i64 0, .int .i64 0, .int .i64 0] 54)) (g + 1) vs 0 := ⟨_, blockHere (by omega), rfl, fun r hr => by omega⟩
  have HKW := Lib.hid hkW
  have HTR := Lib.hid htr
  have HO := Lib.hid hord
  have HSZ := Lib.hid hsz
  have hgW : g < W0.heap.size := by omega
  have hgW2 : W0.heap.size ≤ g + 1 := by omega
  clear hkW htr hord hsz
  go_loopw [12] (fun i wr => ∃ (j : Nat), j ≤ 3 ∧ i = .int .i64 j ∧ Ords wr (g + 1) vs (j * 3) ∧ Kp W0 wr) (fun i _ => 3 - (intOf i).toNat)
  case atStart => exact ⟨0, by omega, rfl, HO.out, ka _ _⟩
  case round =>
    obtain ⟨j, hj, rfl, hor, hk⟩ := hrel
    obtain ⟨wo, rfl⟩ : ∃ wo : World, wo = wr := ⟨_, rfl⟩
    by_cases hlt : j < 3
    · have hlt' : (j : Int) < 3 := by omega
      have HOR := Lib.hid hor
      have HK := Lib.hid hk
      clear hor hk
      go_wp2_with fail
      go_loopw [13] (fun k wr => ∃ (m : Nat), m ≤ 3 ∧ k = .int .i64 m ∧ Ords wr (g + 1) vs (j * 3 + m) ∧ Kp W0 wr) (fun k _ => 3 - (intOf k).toNat)
      case atStart => exact ⟨0, by omega, rfl, HOR.out, HK.out⟩
      case round =>
        obtain ⟨m, hm, rfl, hor, hk⟩ := hrel
        by_cases hml : m < 3
        · have hml' : (m : Int) < 3 := by omega
          have g0 : (0 : Int) ≤ (j : Int) := by omega
          have g1 : (0 : Int) ≤ (m : Int) := by omega
          obtain ⟨x, hx, hxi, hxv, c0, c1, c2, c3⟩ := HTR.out.at hk hlt
          obtain ⟨y, hy, hyi, hyv, d0, d1, d2, d3⟩ := HTR.out.at hk hml
          have hat := ordAt_mk hx hy hml
          have hrg := ord_range x y
          have hsm := ord_same x y
          have C := fun (w2 : World) (h : Kp wr w2) => compare_prog x y w2 (hxi.keep h.size h) (hyi.keep h.size h)
          have S := fun (w2 : World) (h : Kp wr w2) => sameV x.rank x y w2 (Nat.le_refl _) (hxi.keep h.size h) (hyi.keep h.size h)
          rw [show cmpV x y = .tuple #[.int .i64 (x.ord y), .int .i64 0] from by simp [cmpV, hxv, hyv]] at C
          rw [show x.same y = (x.ord y == 0) from by rw [Bool.eq_iff_iff, beq_iff_eq]; exact hsm.symm] at S
          clear hsm hxv hyv hx hy hxi hyi
          obtain ⟨xk, xn, xs, xa, xc, xl⟩ := x
          obtain ⟨yk, yn, ys, ya, yc, yl⟩ := y
          simp only [V.val_mk, V.k, V.n, V.s, V.a, V.l, V.cap] at C S c0 c1 c2 c3 d0 d1 d2 d3
          generalize (V.mk xk xn xs xa xc xl).ord (V.mk yk yn ys ya yc yl) = n at *
          have L := fun w2 => lies_any n (-1) 1 w2
          rw [show (decide ((-1 : Int) ≤ n) && decide (n ≤ 1)) = true from by rcases hrg with rfl | rfl | rfl <;> rfl] at L
          obtain ⟨u, hu, hfu⟩ := hor.there (r := j * 3 + m) (by omega)
          have HC := Lib.hid C
          have HS := Lib.hid S
          have HL := Lib.hid L
          have HOR2 := Lib.hid hor
          have HK2 := Lib.hid hk
          have HAT := Lib.hid hat
          clear C S L hor hk hat hrg
          go_wp2_with fail
          go_region_held3 (fun w' => w'.cell? ⟨g, j * 4, none⟩ = some (.int .i64 xk) ∧ w'.cell? ⟨g, j * 4 + 1, none⟩ = some (.int .i64 xn) ∧ w'.cell? ⟨g, j * 4 + 2, none⟩ = some (.string xs) ∧ w'.cell? ⟨g, j * 4 + 3, none⟩ = some (.slice xa xl.length xc) ∧
              w'.cell? ⟨g, m * 4, none⟩ = some (.int .i64 yk) ∧ w'.cell? ⟨g, m * 4 + 1, none⟩ = some (.int .i64 yn) ∧ w'.cell? ⟨g, m * 4 + 2, none⟩ = some (.string ys) ∧ w'.cell? ⟨g, m * 4 + 3, none⟩ = some (.slice ya yl.length yc) ∧ Kp wr w')
            (first
              | exact ⟨c0, c1, c2, c3, d0, d1, d2, d3, kpD⟩
              | (go_split_ands; exact ⟨kc hkc ‹_›, kc hkc ‹_›, kc hkc ‹_›, kc hkc ‹_›, kc hkc ‹_›, kc hkc ‹_›, kc hkc ‹_›, kc hkc ‹_›, kk ‹_› hkc⟩))
            (first | (go_at_call 25; refine (HC.out _ (by first | assumption | exact kpD | (go_split_ands; assumption))).mono ?_; rintro e w2 ⟨rfl, hkc⟩))
          go_split_ands
          have hk2 : Kp wr w2 := by assumption
          replace c0 := kc hk2 c0
          replace c1 := kc hk2 c1
          replace c2 := kc hk2 c2
          replace c3 := kc hk2 c3
          replace d0 := kc hk2 d0
          replace d1 := kc hk2 d1
          replace d2 := kc hk2 d2
          replace d3 := kc hk2 d3
          have HKR := Lib.hid hk2
          clear hk2 hu hfu
          go_wp2_with fail
          go_region_held3 (fun w' => w'.cell? ⟨g, j * 4, none⟩ = some (.int .i64 xk) ∧ w'.cell? ⟨g, j * 4 + 1, none⟩ = some (.int .i64 xn) ∧ w'.cell? ⟨g, j * 4 + 2, none⟩ = some (.string xs) ∧ w'.cell? ⟨g, j * 4 + 3, none⟩ = some (.slice xa xl.length xc) ∧
              w'.cell? ⟨g, m * 4, none⟩ = some (.int .i64 yk) ∧ w'.cell? ⟨g, m * 4 + 1, none⟩ = some (.int .i64 yn) ∧ w'.cell? ⟨g, m * 4 + 2, none⟩ = some (.string ys) ∧ w'.cell? ⟨g, m * 4 + 3, none⟩ = some (.slice ya yl.length yc) ∧ Kp w2 w')
            (first
              | exact ⟨c0, c1, c2, c3, d0, d1, d2, d3, kpD⟩
              | (go_split_ands; exact ⟨kc hkc ‹_›, kc hkc ‹_›, kc hkc ‹_›, kc hkc ‹_›, kc hkc ‹_›, kc hkc ‹_›, kc hkc ‹_›, kc hkc ‹_›, kk ‹_› hkc⟩)
              | (go_split_ands; exact ⟨‹_›, ‹_›, ‹_›, ‹_›, ‹_›, ‹_›, ‹_›, ‹_›, ‹_›⟩))
            (first
              | (go_at_call 42; refine (HL.out _).mono ?_; rintro e w3 ⟨rfl, rfl⟩)
              | (go_at_call 23; refine (HS.out _ (kk HKR.out (by first | assumption | exact kpD | (go_split_ands; assumption)))).mono ?_; rintro e w3 ⟨rfl, hkc⟩))
          go_split_ands
          rename_i hk3
          have hor3 := HOR2.out.kp (kk HKR.out hk3)
          obtain ⟨u, hu, hfu⟩ := hor3.there (r := j * 3 + m) (by omega)
          have HOR3 := Lib.hid hor3
          have HK3 := Lib.hid (kk HK2.out (kk HKR.out hk3))
          clear hor3 hk3
          go_wp2_with fail
          go_roundw
          case rel => exact ⟨m + 1, by omega, by first | go_num | simp, HOR3.out.step rfl (by omega) HAT.out, put1_kp HK3.out (by omega)⟩
          case measure => simp [intOf]; omega
        · have hm3 : m = 3 := by omega
          subst hm3
          have HOR2 := Lib.hid hor
          have HK2 := Lib.hid hk
          clear hor hk
          go_wp2_with fail
          go_roundw
          case rel => exact ⟨j + 1, by omega, by first | go_num | simp, by rw [show (j + 1) * 3 = j * 3 + 3 from by omega]; exact HOR2.out, HK2.out⟩
          case measure => simp [intOf]; omega
    · have hj3 : j = 3 := by omega
      subst hj3
      have HOR := Lib.hid hor
      have HK := Lib.hid (kk HKW.out hk)
      clear hor hk HO
      go_wp2_with fail
      go_loopw [16] (fun i wr => ∃ (j : Nat), j ≤ 3 ∧ i = .int .i64 j ∧ Ords wr (g + 1) vs (3 * 3) ∧ Kp w wr) (fun i _ => 3 - (intOf i).toNat)
      case atStart => exact ⟨0, by omega, rfl, HOR.out, HK.out⟩
      case round =>
        obtain ⟨j, hj, rfl, hor, hk⟩ := hrel
        obtain ⟨wp, rfl⟩ : ∃ wp : World, wp = wr := ⟨_, rfl⟩
        have HOR1 := Lib.hid hor
        have HK1 := Lib.hid hk
        clear hor hk
        by_cases hlt : j < 3
        · have hlt' : (j : Int) < 3 := by omega
          go_wp2_with fail
          go_loopw [17] (fun i wr => ∃ (m : Nat), m ≤ 3 ∧ i = .int .i64 m ∧ Ords wr (g + 1) vs (3 * 3) ∧ Kp w wr) (fun i _ => 3 - (intOf i).toNat)
          case atStart => exact ⟨0, by omega, rfl, HOR1.out, HK1.out⟩
          case round =>
            obtain ⟨m, hm, rfl, hor, hk⟩ := hrel
            obtain ⟨wq, rfl⟩ : ∃ wq : World, wq = wr := ⟨_, rfl⟩
            have HOR2 := Lib.hid hor
            have HK2 := Lib.hid hk
            clear hor hk
            by_cases hml : m < 3
            · have hml' : (m : Int) < 3 := by omega
              go_wp2_with fail
              go_loopw [18] (fun i wr => ∃ (q : Nat), q ≤ 3 ∧ i = .int .i64 q ∧ Ords wr (g + 1) vs (3 * 3) ∧ Kp w wr) (fun i _ => 3 - (intOf i).toNat)
              case atStart => exact ⟨0, by omega, rfl, HOR2.out, HK2.out⟩
              case round =>
                obtain ⟨q, hq, rfl, hor, hk⟩ := hrel
                by_cases hql : q < 3
                · have hql' : (q : Int) < 3 := by omega
                  have g0 : (0 : Int) ≤ (j : Int) := by omega
                  have g1 : (0 : Int) ≤ (m : Int) := by omega
                  have g2 : (0 : Int) ≤ (q : Int) := by omega
                  have c1 := hor.cell (r := j * 3 + m) (by omega)
                  have c2 := hor.cell (r := m * 3 + j) (by omega)
                  have c3 := hor.cell (r := m * 3 + q) (by omega)
                  have c4 := hor.cell (r := j * 3 + q) (by omega)
                  obtain ⟨x, hx, -⟩ := HTR.out.at (Below.refl _ _) hlt
                  obtain ⟨y, hy, -⟩ := HTR.out.at (Below.refl _ _) hml
                  obtain ⟨z, hz, -⟩ := HTR.out.at (Below.refl _ _) hql
                  rw [ordAt_mk hx hy hml] at c1
                  rw [ordAt_mk hy hx hlt, ord_neg x y] at c2
                  rw [ordAt_mk hy hz hql] at c3
                  rw [ordAt_mk hx hz hql] at c4
                  have r1 : -1 ≤ x.ord y ∧ x.ord y ≤ 1 := by rcases ord_range x y with h | h | h <;> omega
                  have r3 : -1 ≤ y.ord z ∧ y.ord z ≤ 1 := by rcases ord_range y z with h | h | h <;> omega
                  have r4 : -1 ≤ x.ord z ∧ x.ord z ≤ 1 := by rcases ord_range x z with h | h | h <;> omega
                  have ht := ord_trans x y z
                  clear hx hy hz
                  generalize x.ord y = n1 at *
                  generalize y.ord z = n3 at *
                  generalize x.ord z = n4 at *
                  have HOR3 := Lib.hid hor
                  have HK3 := Lib.hid hk
                  clear hor hk
                  obtain ⟨r1a, r1b⟩ := r1
                  by_cases h1 : n1 ≤ 0
                  · have e1 : decide (n1 ≤ 0) = true := by simpa using h1
                    by_cases h3 : n3 ≤ 0
                    · have e3 : decide (n3 ≤ 0) = true := by simpa using h3
                      have h4 := ht h1 h3
                      have e4 : decide (0 < n4) = false := by simp; omega
                      clear ht h1 h3 r3 r4
                      go_wp2_with fail
                      go_quiet (fail)
                      go_wp2_with fail
                      go_roundw
                      case rel => exact ⟨q + 1, by omega, by first | go_num | simp, HOR3.out.kp (by first | exact kpDN | exact kpD), kk HK3.out (by first | exact kpDN | exact kpD)⟩
                      case measure => simp [intOf]; omega
                    · have e3 : decide (n3 ≤ 0) = false := by simp; omega
                      clear ht h1 h3 r3 r4 c4
                      go_wp2_with fail
                      go_quiet (fail)
                      go_wp2_with fail
                      go_roundw
                      case rel => exact ⟨q + 1, by omega, by first | go_num | simp, HOR3.out.kp (by first | exact kpDN | exact kpD), kk HK3.out (by first | exact kpDN | exact kpD)⟩
                      case measure => simp [intOf]; omega
                  · have e1 : decide (n1 ≤ 0) = false := by simp; omega
                    clear ht h1 r3 r4 c3 c4
                    go_wp2_with fail
                    go_quiet (fail)
                    go_wp2_with fail
                    go_roundw
                    case rel => exact ⟨q + 1, by omega, by first | go_num | simp, HOR3.out.kp (by first | exact kpDN | exact kpD), kk HK3.out (by first | exact kpDN | exact kpD)⟩
                    case measure => simp [intOf]; omega
                · have hq3 : q = 3 := by omega
                  subst hq3
                  have HOR3 := Lib.hid hor
                  have HK3 := Lib.hid hk
                  clear hor hk
                  go_wp2_with fail
                  go_roundw
                  case rel => exact ⟨m + 1, by omega, by first | go_num | simp, HOR3.out, HK3.out⟩
                  case measure => simp [intOf]; omega
            · have hm3 : m = 3 := by omega
              subst hm3
              go_wp2_with fail
              go_roundw
              case rel => exact ⟨j + 1, by omega, by first | go_num | simp, HOR2.out, HK2.out⟩
              case measure => simp [intOf]; omega
        · have hj3 : j = 3 := by omega
          subst hj3
          go_wp2_with fail
          refine (HE.out _ HK1.out).mono ?_
          rintro e w7 ⟨rfl, hk⟩
          have HK7 := Lib.hid (kk HK1.out hk)
          clear hk
          go_wp2_with fail
          go_ret
          exact ⟨rfl, HK7.out⟩

end Go.Proofs.YtkofebafmjjljaaGreatDoor

/-
  Least, THE PROGRAM's AND THE SPECIFICATION's, AT ANY TYPE.
-/
namespace Go.Proofs.YtkofebafmjjljaaGreatDoor
open Go.RowKit

/-- What Least makes: the least value, or none. -/
def lstV (t : T) : V := if t.valid then t.lst else .mk 0 0 ⟨#[]⟩ none 0 []

set_option maxRecDepth 100000 in
set_option maxHeartbeats 4000000 in
theorem leastTopP_no (k : Int) (a : Option Addr) (cap : Nat) (l : List T) (w : World) (hin : (T.mk k a cap l).In w w.heap.size) (hv : (T.mk k a cap l).valid = false) :
    Calls Tryz.prog 15 #[.agg #[.int .i64 k, .slice a l.length cap]] w (Makes2 w (lstV (T.mk k a cap l)) 1) := by
  have C := fun (w1 : World) (h : Kp w w1) => typeV k a cap l w1 (hin.keep h.size h)
  rw [badT_arg, hv] at C
  have y0 : lstV (T.mk k a cap l) = .mk 0 0 ⟨#[]⟩ none 0 [] := by simp [lstV, hv]
  rw [y0]
  have HC := Lib.hid C
  clear C hin hv y0
  go_enter Tryz.func15, Tryz.ntmps15
  go_wp2_with fail
  refine (HC.out _ (kk (ka _ _) (ka _ _))).mono ?_
  rintro e w1 ⟨rfl, hk1⟩
  have hz1 := hk1.size
  simp at hz1
  have hblk : w1.heap[w.heap.size + 1]? = some (.cells zero4 24 (0, 0)) := (hk1.block _ (by simp)).trans (blockHere (by simp))
  have hbox : w1.heap[w.heap.size]? = some (.cells #[.int .i64 k, .slice a l.length cap] 27 (0, 0)) := (hk1.block _ (by simp; omega)).trans (blockPast (blockHere rfl))
  have b0 : w1.cell? ⟨w.heap.size, 0, none⟩ = some (.int .i64 k) := cellOf hbox rfl
  have b1 : w1.cell? ⟨w.heap.size, 1, none⟩ = some (.slice a l.length cap) := cellOf hbox rfl
  obtain ⟨c0, c1, c2, c3, f0, f1, f2, f3⟩ := cell4 hblk
  have HB := Lib.hid hblk
  have HK1 := Lib.hid (kk (kk (ka _ _) (ka _ _)) hk1)
  have HZ1 := Lib.hid hz1
  clear hk1 hblk hbox
  go_wp2_with fail
  obtain ⟨e0, e1, e2, e3, -⟩ := cell4 (put4_block (v0 := .int .i64 0) (v1 := .int .i64 0) (v2 := .string ⟨#[]⟩) (v3 := .slice none 0 0) HB.out)
  refine bodyPost_ret (v := .tuple #[.agg #[.int .i64 0, .int .i64 0, .string ⟨#[]⟩, .slice none 0 0], .int .i64 1]) (by simp [results, Tryz.results15, go_sem, e0, e1, e2, e3, argI]) rfl ?_
  exact ⟨.mk 0 0 ⟨#[]⟩ none 0 [], rfl, inLeaf _ _ _ (by unfold I64; omega) (by unfold I64; omega) (by decide), V.foot_leaf _ _ _ _ _, V.same_refl _, put4_kp HK1.out (by omega)⟩

set_option maxRecDepth 100000 in
set_option maxHeartbeats 4000000 in
theorem leastTopP_yes (k : Int) (a : Option Addr) (cap : Nat) (l : List T) (w : World) (hin : (T.mk k a cap l).In w w.heap.size) (hv : (T.mk k a cap l).valid = true) :
    Calls Tryz.prog 15 #[.agg #[.int .i64 k, .slice a l.length cap]] w (Makes2 w (lstV (T.mk k a cap l)) 0) := by
  have C := fun (w1 : World) (h : Kp w w1) => typeV k a cap l w1 (hin.keep h.size h)
  rw [badT_arg, hv] at C
  have y0 : lstV (T.mk k a cap l) = (T.mk k a cap l).lst := by simp [lstV, hv]
  rw [y0]
  have hsh : (T.mk k a cap l).sh 6 = true := by simp [T.valid] at hv; exact hv.1
  have D := fun (w1 : World) (h : Kp w w1) => leastP _ (T.mk k a cap l) 6 w1 (Nat.le_refl _) hsh (hin.keep h.size h)
  dsimp only [T.k, T.a, T.l, T.cap] at D
  generalize (T.mk k a cap l).lst = y at D ⊢
  have HC := Lib.hid C
  have HD := Lib.hid D
  clear C D hin hv y0 hsh
  go_enter Tryz.func15, Tryz.ntmps15
  go_wp2_with fail
  refine (HC.out _ (kk (ka _ _) (ka _ _))).mono ?_
  rintro e w1 ⟨rfl, hk1⟩
  have hz1 := hk1.size
  simp at hz1
  have hblk : w1.heap[w.heap.size + 1]? = some (.cells zero4 24 (0, 0)) := (hk1.block _ (by simp)).trans (blockHere (by simp))
  have hbox : w1.heap[w.heap.size]? = some (.cells #[.int .i64 k, .slice a l.length cap] 27 (0, 0)) := (hk1.block _ (by simp; omega)).trans (blockPast (blockHere rfl))
  have b0 : w1.cell? ⟨w.heap.size, 0, none⟩ = some (.int .i64 k) := cellOf hbox rfl
  have b1 : w1.cell? ⟨w.heap.size, 1, none⟩ = some (.slice a l.length cap) := cellOf hbox rfl
  obtain ⟨c0, c1, c2, c3, f0, f1, f2, f3⟩ := cell4 hblk
  have HB := Lib.hid hblk
  have HK1 := Lib.hid (kk (kk (ka _ _) (ka _ _)) hk1)
  have HZ1 := Lib.hid hz1
  clear hk1 hblk hbox
  go_wp2_with fail
  refine (HD.out _ HK1.out).mono ?_
  rintro e w2 ⟨z, rfl, hzi, hzf, hzs, hk2⟩
  have hblk := (hk2.block _ (lt_of_block HB.out)).trans HB.out
  obtain ⟨d0, d1, d2, d3, g0, g1, g2, g3⟩ := cell4 hblk
  have HB2 := Lib.hid hblk
  have HK2 := Lib.hid (kk HK1.out hk2)
  have hzf2 : z.foot (fun b => w.heap.size + 2 ≤ b) := V.foot.mono (fun b hb => by have := HZ1.out; omega) z hzf
  have HZI := Lib.hid hzi
  have HZF := Lib.hid hzf2
  have HZS := Lib.hid hzs
  clear hk2 hblk hzi hzf hzf2 hzs c0 c1 c2 c3 f0 f1 f2 f3
  cases z with
  | mk zk zn zs za zc zl =>
  simp only [V.val_mk]
  go_wp2_with fail
  obtain ⟨e0, e1, e2, e3, -⟩ := cell4 (put4_block (v0 := .int .i64 zk) (v1 := .int .i64 zn) (v2 := .string zs) (v3 := .slice za zl.length zc) HB2.out)
  refine bodyPost_ret (v := .tuple #[.agg #[.int .i64 zk, .int .i64 zn, .string zs, .slice za zl.length zc], .int .i64 0]) (by simp [results, Tryz.results15, go_sem, e0, e1, e2, e3]) rfl ?_
  have hS : (put4 w2 (w.heap.size + 1) (.int .i64 zk) (.int .i64 zn) (.string zs) (.slice za zl.length zc)).heap.size = w2.heap.size := by simp [World.setCell]
  refine ⟨.mk zk zn zs za zc zl, rfl, ?_, V.foot.mono (fun b hb => by omega) _ HZF.out, HZS.out, put4_kp HK2.out (by omega)⟩
  rw [hS]
  exact V.In.move (Nat.le_refl _) (fun b _ hb => put4_other (by omega)) _ HZI.out HZF.out

theorem leastTopP (k : Int) (a : Option Addr) (cap : Nat) (l : List T) (w : World) (hin : (T.mk k a cap l).In w w.heap.size) :
    Calls Tryz.prog 15 #[.agg #[.int .i64 k, .slice a l.length cap]] w (Makes2 w (lstV (T.mk k a cap l)) (argI (T.mk k a cap l).valid)) := by
  cases hv : (T.mk k a cap l).valid with
  | false => exact leastTopP_no k a cap l w hin hv
  | true => exact leastTopP_yes k a cap l w hin hv

set_option maxRecDepth 100000 in
set_option maxHeartbeats 4000000 in
theorem leastTopR_no (k : Int) (a : Option Addr) (cap : Nat) (l : List T) (w : World) (hin : (T.mk k a cap l).In w w.heap.size) (hv : (T.mk k a cap l).valid = false) :
    Calls Tryz.prog 16 #[.agg #[.int .i64 k, .slice a l.length cap]] w (Makes2 w (lstV (T.mk k a cap l)) 1) := by
  have C := fun (w1 : World) (h : Kp w w1) => validT_ref k a cap l w1 (hin.keep h.size h)
  rw [hv] at C
  have y0 : lstV (T.mk k a cap l) = .mk 0 0 ⟨#[]⟩ none 0 [] := by simp [lstV, hv]
  rw [y0]
  have HC := Lib.hid C
  clear C hin hv y0
  go_enter Tryz.func16, Tryz.ntmps16
  go_wp2_with fail
  refine (HC.out _ (kk (ka _ _) (ka _ _))).mono ?_
  rintro e w1 ⟨rfl, hk1⟩
  have hz1 := hk1.size
  simp at hz1
  have hblk : w1.heap[w.heap.size + 1]? = some (.cells zero4 24 (0, 0)) := (hk1.block _ (by simp)).trans (blockHere (by simp))
  have hbox : w1.heap[w.heap.size]? = some (.cells #[.int .i64 k, .slice a l.length cap] 27 (0, 0)) := (hk1.block _ (by simp; omega)).trans (blockPast (blockHere rfl))
  have b0 : w1.cell? ⟨w.heap.size, 0, none⟩ = some (.int .i64 k) := cellOf hbox rfl
  have b1 : w1.cell? ⟨w.heap.size, 1, none⟩ = some (.slice a l.length cap) := cellOf hbox rfl
  obtain ⟨c0, c1, c2, c3, f0, f1, f2, f3⟩ := cell4 hblk
  have HB := Lib.hid hblk
  have HK1 := Lib.hid (kk (kk (ka _ _) (ka _ _)) hk1)
  have HZ1 := Lib.hid hz1
  clear hk1 hblk hbox
  go_wp2_with fail
  obtain ⟨e0, e1, e2, e3, -⟩ := cell4 (put4_block (v0 := .int .i64 0) (v1 := .int .i64 0) (v2 := .string ⟨#[]⟩) (v3 := .slice none 0 0) HB.out)
  refine bodyPost_ret (v := .tuple #[.agg #[.int .i64 0, .int .i64 0, .string ⟨#[]⟩, .slice none 0 0], .int .i64 1]) (by simp [results, Tryz.results16, go_sem, e0, e1, e2, e3]) rfl ?_
  exact ⟨.mk 0 0 ⟨#[]⟩ none 0 [], rfl, inLeaf _ _ _ (by unfold I64; omega) (by unfold I64; omega) (by decide), V.foot_leaf _ _ _ _ _, V.same_refl _, put4_kp HK1.out (by omega)⟩

set_option maxRecDepth 100000 in
set_option maxHeartbeats 4000000 in
theorem leastTopR_yes (k : Int) (a : Option Addr) (cap : Nat) (l : List T) (w : World) (hin : (T.mk k a cap l).In w w.heap.size) (hv : (T.mk k a cap l).valid = true) :
    Calls Tryz.prog 16 #[.agg #[.int .i64 k, .slice a l.length cap]] w (Makes2 w (lstV (T.mk k a cap l)) 0) := by
  have C := fun (w1 : World) (h : Kp w w1) => validT_ref k a cap l w1 (hin.keep h.size h)
  rw [hv] at C
  have y0 : lstV (T.mk k a cap l) = (T.mk k a cap l).lst := by simp [lstV, hv]
  rw [y0]
  have hsh : (T.mk k a cap l).sh 6 = true := by simp [T.valid] at hv; exact hv.1
  have D := fun (w1 : World) (h : Kp w w1) => leastR _ (T.mk k a cap l) 6 w1 (Nat.le_refl _) hsh (hin.keep h.size h)
  dsimp only [T.k, T.a, T.l, T.cap] at D
  generalize (T.mk k a cap l).lst = y at D ⊢
  have HC := Lib.hid C
  have HD := Lib.hid D
  clear C D hin hv y0 hsh
  go_enter Tryz.func16, Tryz.ntmps16
  go_wp2_with fail
  refine (HC.out _ (kk (ka _ _) (ka _ _))).mono ?_
  rintro e w1 ⟨rfl, hk1⟩
  have hz1 := hk1.size
  simp at hz1
  have hblk : w1.heap[w.heap.size + 1]? = some (.cells zero4 24 (0, 0)) := (hk1.block _ (by simp)).trans (blockHere (by simp))
  have hbox : w1.heap[w.heap.size]? = some (.cells #[.int .i64 k, .slice a l.length cap] 27 (0, 0)) := (hk1.block _ (by simp; omega)).trans (blockPast (blockHere rfl))
  have b0 : w1.cell? ⟨w.heap.size, 0, none⟩ = some (.int .i64 k) := cellOf hbox rfl
  have b1 : w1.cell? ⟨w.heap.size, 1, none⟩ = some (.slice a l.length cap) := cellOf hbox rfl
  obtain ⟨c0, c1, c2, c3, f0, f1, f2, f3⟩ := cell4 hblk
  have HB := Lib.hid hblk
  have HK1 := Lib.hid (kk (kk (ka _ _) (ka _ _)) hk1)
  have HZ1 := Lib.hid hz1
  clear hk1 hblk hbox
  go_wp2_with fail
  refine (HD.out _ HK1.out).mono ?_
  rintro e w2 ⟨z, rfl, hzi, hzf, hzs, hk2⟩
  have hblk := (hk2.block _ (lt_of_block HB.out)).trans HB.out
  obtain ⟨d0, d1, d2, d3, g0, g1, g2, g3⟩ := cell4 hblk
  have HB2 := Lib.hid hblk
  have HK2 := Lib.hid (kk HK1.out hk2)
  have hzf2 : z.foot (fun b => w.heap.size + 2 ≤ b) := V.foot.mono (fun b hb => by have := HZ1.out; omega) z hzf
  have HZI := Lib.hid hzi
  have HZF := Lib.hid hzf2
  have HZS := Lib.hid hzs
  clear hk2 hblk hzi hzf hzf2 hzs c0 c1 c2 c3 f0 f1 f2 f3
  cases z with
  | mk zk zn zs za zc zl =>
  simp only [V.val_mk]
  go_wp2_with fail
  obtain ⟨e0, e1, e2, e3, -⟩ := cell4 (put4_block (v0 := .int .i64 zk) (v1 := .int .i64 zn) (v2 := .string zs) (v3 := .slice za zl.length zc) HB2.out)
  refine bodyPost_ret (v := .tuple #[.agg #[.int .i64 zk, .int .i64 zn, .string zs, .slice za zl.length zc], .int .i64 0]) (by simp [results, Tryz.results16, go_sem, e0, e1, e2, e3]) rfl ?_
  have hS : (put4 w2 (w.heap.size + 1) (.int .i64 zk) (.int .i64 zn) (.string zs) (.slice za zl.length zc)).heap.size = w2.heap.size := by simp [World.setCell]
  refine ⟨.mk zk zn zs za zc zl, rfl, ?_, V.foot.mono (fun b hb => by omega) _ HZF.out, HZS.out, put4_kp HK2.out (by omega)⟩
  rw [hS]
  exact V.In.move (Nat.le_refl _) (fun b _ hb => put4_other (by omega)) _ HZI.out HZF.out

theorem leastTopR (k : Int) (a : Option Addr) (cap : Nat) (l : List T) (w : World) (hin : (T.mk k a cap l).In w w.heap.size) :
    Calls Tryz.prog 16 #[.agg #[.int .i64 k, .slice a l.length cap]] w (Makes2 w (lstV (T.mk k a cap l)) (argI (T.mk k a cap l).valid)) := by
  cases hv : (T.mk k a cap l).valid with
  | false => exact leastTopR_no k a cap l w hin hv
  | true => exact leastTopR_yes k a cap l w hin hv

end Go.Proofs.YtkofebafmjjljaaGreatDoor

/-
  PLAIN MATHEMATICS: THE LEAST VALUE OF A TYPE IS OF IT, AND NO VALUE OF IT IS AHEAD.
-/
namespace Go.Proofs.YtkofebafmjjljaaGreatDoor
open Go.RowKit

mutual
theorem same_sh : ∀ (x y : V) (d : Nat), x.same y = true → x.sh d = y.sh d
  | .mk k n s a c l, .mk k' n' s' a' c' l', d, h => by
    simp [V.same] at h
    obtain ⟨rfl, rfl, hs, hl⟩ := h
    have hs2 : s = s' := by
      have : s.data.toList = s'.data.toList := by rw [← ByteArray.toList_eq, ← ByteArray.toList_eq]; exact hs
      exact WideShapes.bytes_inj this
    subst hs2
    have h1 := V.sameL_length l l' hl
    cases d with
    | zero => simp [V.sh]
    | succ d => simp [V.sh, h1, same_shL l l' d hl]
theorem same_shL : ∀ (l m : List V) (d : Nat), V.sameL l m = true → V.shL l d = V.shL m d
  | [], [], _, _ => rfl
  | [], _ :: _, _, h => by simp [V.sameL] at h
  | _ :: _, [], _, h => by simp [V.sameL] at h
  | x :: xs, y :: ys, d, h => by
    simp [V.sameL] at h
    simp [V.shL, same_sh x y d h.1, same_shL xs ys d h.2]
end
mutual
theorem same_rank : ∀ (x y : V), x.same y = true → x.rank = y.rank
  | .mk k n s a c l, .mk k' n' s' a' c' l', h => by
    simp [V.same] at h
    simp [V.rank, same_ranks l l' h.2.2.2]
theorem same_ranks : ∀ (l m : List V), V.sameL l m = true → V.rank.ranks l = V.rank.ranks m
  | [], [], _ => rfl
  | [], _ :: _, h => by simp [V.sameL] at h
  | _ :: _, [], h => by simp [V.sameL] at h
  | x :: xs, y :: ys, h => by
    simp [V.sameL] at h
    simp [V.rank.ranks, same_rank x y h.1, same_ranks xs ys h.2]
end
theorem same_valid {x y : V} (h : x.same y = true) : x.valid = y.valid := by
  unfold V.valid
  rw [same_sh x y 6 h, same_rank x y h]
mutual
theorem same_is : ∀ (x y : V) (t : T), x.same y = true → x.is t = y.is t
  | .mk k n s a c l, .mk k' n' s' a' c' l', t, h => by
    simp [V.same] at h
    obtain ⟨rfl, rfl, hs, hl⟩ := h
    simp [V.is, V.sameL_length l l' hl, same_isL l l' k n t 0 hl]
theorem same_isL : ∀ (l m : List V) (k n : Int) (t : T) (i : Nat), V.sameL l m = true → V.isL k n t l i = V.isL k n t m i
  | [], [], _, _, _, _, _ => rfl
  | [], _ :: _, _, _, _, _, h => by simp [V.sameL] at h
  | _ :: _, [], _, _, _, _, h => by simp [V.sameL] at h
  | x :: xs, y :: ys, k, n, t, i, h => by
    simp [V.sameL] at h
    simp only [V.isL, same_isL xs ys k n t (i + 1) h.2]
    congr 1
    split
    · exact same_is x y _ h.1
    · rfl
end
theorem same_part : ∀ {l m : List V} {j : Nat} {x : V}, V.sameL l m = true → l[j]? = some x → ∃ y, m[j]? = some y ∧ x.same y = true
  | [], [], _, _, _, h => by simp at h
  | [], _ :: _, _, _, h, _ => by simp [V.sameL] at h
  | _ :: _, [], _, _, h, _ => by simp [V.sameL] at h
  | x :: xs, y :: ys, 0, z, h, hz => by
    simp [V.sameL] at h
    simp at hz
    subst hz
    exact ⟨y, rfl, h.1⟩
  | x :: xs, y :: ys, j + 1, z, h, hz => by
    simp [V.sameL] at h
    obtain ⟨y', h1, h2⟩ := same_part (j := j) h.2 (by simpa using hz)
    exact ⟨y', by simpa using h1, h2⟩

theorem lstL_at : ∀ {l : List T} {j : Nat} {u : T}, l[j]? = some u → (T.lstL l)[j]? = some u.lst
  | [], _, _, h => by simp at h
  | x :: xs, 0, u, h => by simp at h; subst h; simp [T.lstL]
  | x :: xs, j + 1, u, h => by simpa [T.lstL] using lstL_at (j := j) (by simpa using h)
theorem lstL_ranks : ∀ (l : List T), (∀ (j : Nat) (u : T), l[j]? = some u → u.lst.rank ≤ u.rank) → V.rank.ranks (T.lstL l) ≤ T.rank.ranks l
  | [], _ => by simp [T.lstL, V.rank.ranks]
  | x :: xs, h => by
    have h1 := h 0 x rfl
    have h2 := lstL_ranks xs (fun j u hu => h (j + 1) u (by simpa using hu))
    simp [T.lstL, V.rank.ranks, T.rank.ranks]; omega

theorem lst0 (a : Option Addr) (c : Nat) (l : List T) : (T.mk 0 a c l).lst = .mk 0 (-2147483648) ⟨#[]⟩ none 0 [] := by simp [T.lst]
theorem lst1 (a : Option Addr) (c : Nat) (l : List T) : (T.mk 1 a c l).lst = .mk 1 0 ⟨#[]⟩ none 0 [] := by simp [T.lst]
theorem lst2 (a : Option Addr) (c : Nat) (l : List T) : (T.mk 2 a c l).lst = .mk 2 0 ⟨#[]⟩ none 0 (T.lstL l) := by simp [T.lst]
theorem lst3 (a : Option Addr) (c : Nat) (u : T) (l : List T) : (T.mk 3 a c (u :: l)).lst = .mk 3 0 ⟨#[]⟩ none 0 [u.lst] := by simp [T.lst, T.lstH]
theorem shLV_at {l : List V} {d j : Nat} {x : V} (h : V.shL l d = true) (hx : l[j]? = some x) : x.sh d = true := by
  induction l generalizing j with
  | nil => simp at hx
  | cons y ys ih =>
    simp [V.shL] at h
    cases j with
    | zero => simp at hx; subst hx; exact h.1
    | succ j => exact ih h.2 (by simpa using hx)

/-- The least value of a type is of it, no deeper and with no more values. -/
theorem lst_of : ∀ (N : Nat) (t : T) (d : Nat), t.rank ≤ N → t.sh d = true → t.lst.is t = true ∧ (∀ d, t.sh d = true → t.lst.sh d = true) ∧ t.lst.rank ≤ t.rank := by
  intro N
  induction N with
  | zero => intro t d h; have := t.rank_pos; omega
  | succ N ih =>
    intro t d hN ht
    cases t with
    | mk k ta tc tl =>
    cases d with
    | zero => simp [T.sh] at ht
    | succ d =>
    simp [T.sh] at ht
    obtain ⟨hf, hp⟩ := ht
    have hrk : (T.mk k ta tc tl).rank = 1 + T.rank.ranks tl := by simp [T.rank]
    have hih : ∀ (j : Nat) (u : T), tl[j]? = some u → u.lst.is u = true ∧ (∀ d, u.sh d = true → u.lst.sh d = true) ∧ u.lst.rank ≤ u.rank := fun j u hu =>
      ih u d (by have := T.ranks_mem hu; omega) (shLT_at hp hu)
    by_cases k0 : k = 0
    · subst k0
      have : tl = [] := by simpa [fitsT] using hf
      subst this
      refine ⟨by simp [T.lst, V.is, okB, kindI, T.k, V.isL], fun d hd => ?_, by simp [T.lst, V.rank, V.rank.ranks, T.rank, T.rank.ranks]⟩
      cases d with
      | zero => simp [T.sh] at hd
      | succ d => simp [T.lst, V.sh, V.shL, fitsB, wordB]
    by_cases k1 : k = 1
    · subst k1
      have : tl = [] := by simpa [fitsT] using hf
      subst this
      refine ⟨by simp [T.lst, V.is, okB, kindI, T.k, V.isL], fun d hd => ?_, by simp [T.lst, V.rank, V.rank.ranks, T.rank, T.rank.ranks]⟩
      cases d with
      | zero => simp [T.sh] at hd
      | succ d =>
        simp [T.lst, V.sh, V.shL, fitsB, textB, charsB]
        decide
    by_cases k2 : k = 2
    · subst k2
      have hpt : Parts tl (T.lstL tl) := by
        intro i x u hx hu
        rw [lstL_at hu] at hx
        cases hx
        exact ⟨(hih i u hu).1, (hih i u hu).2.1⟩
      obtain ⟨h1, h2, h3, -, -⟩ := madeVal_tuple (ta := ta) (a' := none) (tcap := tc) (cap' := 0) (lstL_length tl) hpt (lstL_ranks tl (fun j u hu => (hih j u hu).2.2)) (at_ := 0) (c := 1) (by omega) (by omega)
      rw [lst2]
      exact ⟨h1, h2, h3⟩
    by_cases k3 : k = 3
    · subst k3
      have hl : 0 < tl.length ∧ tl.length ≤ 8 := by simpa [fitsT] using hf
      cases tl with
      | nil => simp at hl
      | cons u us =>
        obtain ⟨h1, h2, h3⟩ := hih 0 u rfl
        obtain ⟨g1, g2, g3, -, -⟩ := madeVal_sum (ta := ta) (qa := none) (tcap := tc) (tl := u :: us) (j := 0) (u := u) (z := u.lst) rfl hl.2 (at_ := 0) (c := 1) ⟨h1, h2, h3, by omega, by omega⟩
        have hS : ∀ c, (V.mk 3 0 ⟨#[]⟩ none c [u.lst]).same (.mk 3 0 ⟨#[]⟩ none 0 [u.lst]) = true := fun c => V.same_node (V.sameL_one (V.same_refl _))
        rw [lst3]
        refine ⟨?_, fun d hd => ?_, ?_⟩
        · have := same_is _ _ (.mk 3 ta tc (u :: us)) (hS 1); exact this ▸ g1
        · have := same_sh _ _ d (hS 1); exact this ▸ g2 d hd
        · have := same_rank _ _ (hS 1); exact this ▸ g3
    · simp [fitsT, k0, k1, k2, k3] at hf

theorem ordL_le : ∀ (l m : List V), l.length = m.length → (∀ (j : Nat) (x y : V), l[j]? = some x → m[j]? = some y → x.ord y ≤ 0) → V.ordL l m ≤ 0
  | [], [], _, _ => by simp [V.ordL]
  | [], _ :: _, h, _ => by simp at h
  | _ :: _, [], h, _ => by simp at h
  | x :: xs, y :: ys, h, hp => by
    have h1 := hp 0 x y rfl rfl
    have h2 := ordL_le xs ys (by simpa using h) (fun j a b ha hb => hp (j + 1) a b (by simpa using ha) (by simpa using hb))
    rw [ordL_lex]
    unfold lex
    split <;> assumption
theorem lex_le {a b : Int} (h : a ≤ 0) (h' : b ≤ 0) : lex a b ≤ 0 := by unfold lex; split <;> assumption
theorem cb_nil_le (l : List UInt8) : cb [] l ≤ 0 := by cases l <;> simp [Lib.compareBytes]

theorem isL_at {k n : Int} {t : T} : ∀ {l : List V} {i j : Nat} {x : V}, V.isL k n t l i = true → l[j]? = some x → ∃ u, t.l[if k = 3 then n.toNat else i + j]? = some u ∧ x.is u = true
  | [], _, _, _, _, h => by simp at h
  | y :: ys, i, 0, x, h, hx => by
    simp at hx
    subst hx
    simp only [V.isL, Bool.and_eq_true] at h
    obtain ⟨h1, -⟩ := h
    split at h1
    · rename_i u hu
      exact ⟨u, hu, h1⟩
    · cases h1
  | y :: ys, i, j + 1, x, h, hx => by
    simp only [V.isL, Bool.and_eq_true] at h
    obtain ⟨u, hu, hxu⟩ := isL_at (i := i + 1) (j := j) h.2 (by simpa using hx)
    exact ⟨u, by rw [← hu]; congr 1; split <;> omega, hxu⟩

/-- No value of a type is ahead of its least one. -/
theorem lst_le : ∀ (N : Nat) (t : T) (d d' : Nat) (z : V), t.rank ≤ N → t.sh d = true → z.is t = true → z.sh d' = true → t.lst.ord z ≤ 0 := by
  intro N
  induction N with
  | zero => intro t d d' z h; have := t.rank_pos; omega
  | succ N ih =>
    intro t d d' z hN ht hz hzs
    cases t with
    | mk k ta tc tl =>
    cases z with
    | mk zk zn zs za zc zl =>
    cases d with
    | zero => simp [T.sh] at ht
    | succ d =>
    cases d' with
    | zero => simp [V.sh] at hzs
    | succ d' =>
    simp [T.sh] at ht
    obtain ⟨hf, hp⟩ := ht
    simp [V.sh] at hzs
    obtain ⟨hzf, hzp⟩ := hzs
    simp only [V.is, Bool.and_eq_true] at hz
    obtain ⟨hok, hil⟩ := hz
    have hrk : (T.mk k ta tc tl).rank = 1 + T.rank.ranks tl := by simp [T.rank]
    have hpart : ∀ (j : Nat) (u : T) (y : V) (i : Nat), tl[j]? = some u → zl[i]? = some y → y.is u = true → u.lst.ord y ≤ 0 := fun j u y i hu hy hyu =>
      ih u d d' y (by have := T.ranks_mem hu; omega) (shLT_at hp hu) hyu (shLV_at hzp hy)
    have hkk : zk = kindI k := by simp only [okB, T.k, Bool.and_eq_true] at hok; exact of_decide_eq_true hok.1
    rw [ord_lex]
    by_cases k0 : k = 0
    · subst k0
      simp [kindI] at hkk
      subst hkk
      simp [fitsB, wordB] at hzf
      obtain ⟨h1, h2, h3, h4⟩ := hzf
      subst h4
      rw [lst0]
      refine lex_le (lex_le (by simp [V.k, cmpI]) (lex_le (by rw [cmpQ_le]; exact h1) (cb_nil_le _))) (by simp [V.ordL, V.l])
    by_cases k1 : k = 1
    · subst k1
      simp [kindI] at hkk
      subst hkk
      simp [fitsB, textB] at hzf
      obtain ⟨h1, h2, -⟩ := hzf
      subst h1 h2
      rw [lst1]
      refine lex_le (lex_le (by simp [V.k, cmpI]) (lex_le (by simp [V.n, cmpI]) (cb_nil_le _))) (by simp [V.ordL, V.l])
    by_cases k2 : k = 2
    · subst k2
      simp [kindI] at hkk
      subst hkk
      have hlen : zl.length = tl.length := by
        have h := hok
        simp [okB, T.k, T.l, kindI] at h
        exact Decidable.not_not.1 (of_decide_eq_false h)
      simp [fitsB, tupleB] at hzf
      obtain ⟨h1, -, -⟩ := hzf
      subst h1
      rw [lst2]
      refine lex_le (lex_le (by simp [V.k, cmpI]) (lex_le (by simp [V.n, cmpI]) (cb_nil_le _))) ?_
      refine ordL_le _ _ (by simp [V.l, lstL_length, hlen]) (fun j x y hx hy => ?_)
      simp only [V.l] at hx hy
      obtain ⟨u, hu, hyu⟩ := isL_at hil hy
      simp [T.l] at hu
      rw [lstL_at hu] at hx
      cases hx
      exact hpart j u y j hu hy hyu
    by_cases k3 : k = 3
    · subst k3
      simp [kindI] at hkk
      subst hkk
      simp [fitsB, taggedB] at hzf
      obtain ⟨h1, -, -, h4⟩ := hzf
      have hl : 0 < tl.length ∧ tl.length ≤ 8 := by simpa [fitsT] using hf
      match zl, h4, tl, hl with
      | [y], _, u :: us, _ =>
      obtain ⟨u', hu', hyu⟩ := isL_at (j := 0) (x := y) hil rfl
      simp [T.l] at hu'
      rw [lst3]
      by_cases hn : zn = 0
      · subst hn
        simp at hu'
        subst hu'
        have hy := hpart 0 u y 0 rfl rfl hyu
        refine lex_le (lex_le (by simp [V.k, cmpI]) (lex_le (by simp [V.n, cmpI]) (cb_nil_le _))) ?_
        refine ordL_le _ _ rfl (fun j a b ha hb => ?_)
        cases j with
        | zero => simp [V.l] at ha hb; subst ha hb; exact hy
        | succ j => simp [V.l] at ha
      · have hneg : own3 (V.mk 3 0 ⟨#[]⟩ none 0 [u.lst]) (V.mk 3 zn zs za zc [y]) = -1 := by
          have hlt : (0 : Int) < zn := by omega
          simp [own3, lex, V.k, V.n, cmpI, hlt]
        simp [hneg, lex]
    · simp [fitsT, k0, k1, k2, k3] at hf

end Go.Proofs.YtkofebafmjjljaaGreatDoor

/-
  ValueOrders: THE TABLE OF TENS, FROM THE ROW's LIST.
-/
namespace Go.Proofs.YtkofebafmjjljaaGreatDoor
open Go.ChangeShapes Go.WideShapes Go.ChangeAt Go.RowKit

theorem laid_tail {P : Program} {x : String × DataW Unit} {xs : List (String × DataW Unit)} {W : World} (h : laidMet P (x :: xs) W) : laidMet P xs W := by
  obtain ⟨ps, hl, hn, hc⟩ := h
  obtain ⟨g, t, cs, fuel, p, q, hg, ht, hv, hd, hr, rfl⟩ := hl
  exact ⟨q, hr, (List.nodup_append.1 hn).2.1, fun b off hp => hc b off (List.mem_append_right _ hp)⟩

theorem gTab : Tryz.prog.globalNamed "internal/strconv.uint64pow10" = some 3 := by kernel_rfl

theorem tens {W : World} (h : laidMetH Tryz.prog Rows.valueOrdersRow.laid W) : Tb W W.heap.size := by
  have h1 : laidMet Tryz.prog Rows.valueOrdersRow.laid W := h
  have h2 := laid_tail (laid_tail h1)
  refine Lib.tabBelow_of_tabIs ?_
  exact Lib.tabIs_of_head gTab (t := 179) (n := 20) (e := 167) (by kernel_rfl) (by kernel_rfl) (by kernel_rfl) (by kernel_rfl) (by kernel_rfl) h2

end Go.Proofs.YtkofebafmjjljaaGreatDoor

/-
  PLAIN MATHEMATICS: NUMBERS AND THEIR DIGITS.
-/
namespace Go.Proofs.YtkofebafmjjljaaGreatDoor
open Go.RowKit

theorem digit_val (d : Nat) (h : d < 10) : (UInt8.ofNat (48 + d)).toNat = 48 + d := by
  simp; omega

theorem parse_dec : ∀ (u : Nat), u < 1844674407370955162 → ∀ r : List UInt8, Lib.parseUint10 0 (Lib.decDigits u ++ r) = Lib.parseUint10 u r := by
  intro u
  induction u using Nat.strongRecOn with
  | ind u ih =>
    intro hu r
    rw [Lib.decDigits]
    by_cases h : u < 10
    · rw [dif_pos h, List.cons_append, List.nil_append, Lib.parseUint10, digit_val u h]
      have h1 : 48 ≤ 48 + u ∧ 48 + u ≤ 57 := by omega
      have h2 : ¬ 1844674407370955162 ≤ 0 := by omega
      have h3 : ¬ 18446744073709551616 ≤ 0 * 10 + (48 + u - 48) := by omega
      rw [if_pos h1, if_neg h2, if_neg h3]
      congr 1; omega
    · rw [dif_neg h, List.append_assoc, ih (u / 10) (by omega) (by omega), List.cons_append, List.nil_append, Lib.parseUint10, digit_val (u % 10) (by omega)]
      have h1 : 48 ≤ 48 + u % 10 ∧ 48 + u % 10 ≤ 57 := by omega
      have h2 : ¬ 1844674407370955162 ≤ u / 10 := by omega
      have h3 : ¬ 18446744073709551616 ≤ u / 10 * 10 + (48 + u % 10 - 48) := by omega
      rw [if_pos h1, if_neg h2, if_neg h3]
      congr 1; omega

theorem dec_digit : ∀ (u : Nat), ∀ c ∈ Lib.decDigits u, 48 ≤ c.toNat ∧ c.toNat ≤ 57 := by
  intro u
  induction u using Nat.strongRecOn with
  | ind u ih =>
    intro c hc
    rw [Lib.decDigits] at hc
    by_cases h : u < 10
    · rw [dif_pos h] at hc
      simp only [List.mem_cons, List.not_mem_nil, or_false] at hc
      subst hc
      rw [digit_val u h]; omega
    · rw [dif_neg h, List.mem_append] at hc
      rcases hc with hc | hc
      · exact ih (u / 10) (by omega) c hc
      · simp only [List.mem_cons, List.not_mem_nil, or_false] at hc
        subst hc
        rw [digit_val (u % 10) (by omega)]; omega

theorem dec_ne (u : Nat) : Lib.decDigits u ≠ [] := by
  rw [Lib.decDigits]
  split <;> simp

/-- A byte of a number: a sign or a digit. -/
def numC (c : UInt8) : Bool := decide (c.toNat = 45) || (decide (48 ≤ c.toNat) && decide (c.toNat ≤ 57))

theorem itoa_num (n : Int) : ∀ c ∈ Lib.itoa n, numC c = true := by
  intro c hc
  unfold Lib.itoa at hc
  have hd : ∀ u, c ∈ Lib.decDigits u → numC c = true := fun u h => by
    have := dec_digit u c h
    simp [numC, this]
  split at hc
  · simp only [List.mem_cons] at hc
    rcases hc with rfl | hc
    · rfl
    · exact hd _ hc
  · exact hd _ hc

theorem itoa_cons (n : Int) : ∃ c t, Lib.itoa n = c :: t ∧ numC c = true := by
  cases h : Lib.itoa n with
  | nil =>
    unfold Lib.itoa at h
    split at h
    · cases h
    · exact absurd h (dec_ne _)
  | cons c t => exact ⟨c, t, rfl, itoa_num n c (by rw [h]; simp)⟩

theorem atoi_itoa (n : Int) (h : -2147483648 ≤ n ∧ n ≤ 2147483647) : Lib.atoiAll (Lib.itoa n) = .ok n := by
  have key : ∀ u : Nat, u < 1844674407370955162 → Lib.parseMag (Lib.decDigits u) = .ok u := fun u hu => by
    have := parse_dec u hu []
    rw [List.append_nil, Lib.parseUint10] at this
    unfold Lib.parseMag
    simp [dec_ne, this]
  unfold Lib.itoa
  by_cases hn : n < 0
  · rw [if_pos hn]
    have h1 : (45 : UInt8).toNat = 43 ∨ (45 : UInt8).toNat = 45 := .inr rfl
    have h2 : (45 : UInt8).toNat = 45 := rfl
    have h3 : ¬ (9223372036854775808 < n.natAbs) := by omega
    have h4 : -((n.natAbs : Nat) : Int) = n := by omega
    unfold Lib.atoiAll
    simp only []
    rw [if_pos h1, key n.natAbs (by omega)]
    simp only [h2, not_true, false_and, if_false, true_and, if_neg h3, if_true, h4]
  · rw [if_neg hn]
    cases hd : Lib.decDigits n.toNat with
    | nil => exact absurd hd (dec_ne _)
    | cons c t =>
      have hc := dec_digit n.toNat c (by rw [hd]; simp)
      have h1 : ¬ (c.toNat = 43 ∨ c.toNat = 45) := by omega
      have h2 : ¬ c.toNat = 45 := by omega
      have h3 : ¬ (9223372036854775808 ≤ n.toNat) := by omega
      unfold Lib.atoiAll
      simp only [if_neg h1]
      rw [← hd, key n.toNat (by omega)]
      simp only [h2, not_false_eq_true, true_and, false_and, if_neg h3, if_false]
      congr 1; omega

/-- No byte of a number stands at a place. -/
def Stop (s : ByteArray) (q : Nat) : Prop := ∀ h : q < s.size, numC s[q] = false

end Go.Proofs.YtkofebafmjjljaaGreatDoor

/-
  PLAIN MATHEMATICS: WHAT THE READER READS OF ANY BYTES, as the program goes through them.
-/
namespace Go.Proofs.YtkofebafmjjljaaGreatDoor
open Go.RowKit

/-- The number with which bytes begin, and what is behind it. -/
def pN (l : List UInt8) : Option (Int × List UInt8) :=
  match Lib.atoiAll (l.takeWhile numC) with
  | .ok v => if Lib.itoa v = l.takeWhile numC then some (v, l.dropWhile numC) else none
  | _ => none

/-- The text that ends with the next mark, and what is behind it; true: behind a backslash. -/
def pE : Bool → List UInt8 → Option (List UInt8 × List UInt8)
  | _, [] => none
  | true, c :: r => if c = 34 ∨ c = 92 then (pE false r).map fun x => (c :: x.1, x.2) else none
  | false, b :: r => if b = 34 then some ([], r) else if b = 92 then pE true r else (pE false r).map fun x => (b :: x.1, x.2)
def pQ (l : List UInt8) : Option (List UInt8 × List UInt8) := pE false l

theorem pQ_nil : pQ [] = none := rfl
theorem pQ_end {r : List UInt8} : pQ (34 :: r) = some ([], r) := rfl
theorem pQ_esc {c : UInt8} {r : List UInt8} (h : c = 34 ∨ c = 92) : pQ (92 :: c :: r) = (pQ r).map fun x => (c :: x.1, x.2) := by
  show pE true (c :: r) = _
  rw [pE, if_pos h]; rfl
theorem pQ_bad {c : UInt8} {r : List UInt8} (h : ¬ (c = 34 ∨ c = 92)) : pQ (92 :: c :: r) = none := by
  show pE true (c :: r) = _
  rw [pE, if_neg h]
theorem pQ_cut : pQ [92] = none := rfl
theorem pQ_go {b : UInt8} {r : List UInt8} (h : b ≠ 34) (h' : b ≠ 92) : pQ (b :: r) = (pQ r).map fun x => (b :: x.1, x.2) := by
  show pE false (b :: r) = _
  rw [pE, if_neg h, if_neg h']; rfl

mutual
/-- What the reader makes of the bytes that come next: a value and what is behind it, or nothing. -/
inductive PV : List UInt8 → Option (V × List UInt8) → Prop
  | quoted {r : List UInt8} : PV (34 :: r) ((pQ r).map fun x => (.mk 1 0 ⟨x.1.toArray⟩ none 0 [], x.2))
  | tuple {r : List UInt8} {o : Option (List V × List UInt8)} : PL 0 r o → PV (40 :: r) (o.map fun x => (.mk 2 0 ⟨#[]⟩ none 0 x.1, x.2))
  | tag0 {r : List UInt8} : pN r = none → PV (35 :: r) none
  | tag1 {r r1 : List UInt8} {n : Int} : pN r = some (n, r1) → r1.head? ≠ some 32 → PV (35 :: r) none
  | tag2 {r r2 : List UInt8} {n : Int} {o : Option (V × List UInt8)} : pN r = some (n, 32 :: r2) → PV r2 o → PV (35 :: r) (o.map fun x => (.mk 3 n ⟨#[]⟩ none 0 [x.1], x.2))
  | word {l : List UInt8} : l.head? ≠ some 34 → l.head? ≠ some 40 → l.head? ≠ some 35 → PV l ((pN l).map fun x => (.mk 0 x.1 ⟨#[]⟩ none 0 [], x.2))
/-- The parts of a tuple from the j-th on. -/
inductive PL : Nat → List UInt8 → Option (List V × List UInt8) → Prop
  | done {j : Nat} {r : List UInt8} : PL j (41 :: r) (some ([], r))
  | wide {j : Nat} {l : List UInt8} : l.head? ≠ some 41 → j = 8 → PL j l none
  | first0 {l : List UInt8} : l.head? ≠ some 41 → PV l none → PL 0 l none
  | first1 {l r : List UInt8} {x : V} {o : Option (List V × List UInt8)} : l.head? ≠ some 41 → PV l (some (x, r)) → PL 1 r o → PL 0 l (o.map fun y => (x :: y.1, y.2))
  | next0 {j : Nat} {l : List UInt8} : l.head? ≠ some 41 → 0 < j → j < 8 → ¬ [44, 32] <+: l → PL j l none
  | next1 {j : Nat} {r : List UInt8} : 0 < j → j < 8 → PV r none → PL j (44 :: 32 :: r) none
  | next2 {j : Nat} {r r1 : List UInt8} {x : V} {o : Option (List V × List UInt8)} : 0 < j → j < 8 → PV r (some (x, r1)) → PL (j + 1) r1 o → PL j (44 :: 32 :: r) (o.map fun y => (x :: y.1, y.2))
end

end Go.Proofs.YtkofebafmjjljaaGreatDoor
