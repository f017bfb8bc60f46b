/-
  Proved: the statement ValueOne (of any three values that numbers make, of one type or of three, value.Compare tells one order, and the chapter's examples hold), as its tied card says it, with no condition beyond the card's own.
  Part 1 of 1.
-/
import Derived.Test.YtbiljalhabnhlaaGreatDoorBa10
import Derived.Deep.RegionLaw
import Derived.Deep.DeepCutAuto
import Derived.Test.YtbiljalhabnhlaaGreatDoorBa08
import Derived.Lib.LaidIn
import Derived.Deep.DeepWitnessRowRef
/-
  ValueOne: values of three types, put together.
-/
namespace Go.Proofs.YtbiljalhabnhlaaGreatDoor
open Go.RowKit

theorem pair_valid {t t' : T} {z y : V} {a : Option Addr} {c : Nat} (hz : Good t z) (hy : Good t' y) : (V.mk 2 0 ⟨#[]⟩ a c [z, y]).valid = true := by
  obtain ⟨_, h1, h2⟩ := hz
  obtain ⟨_, k1, k2⟩ := hy
  have a1 := V.sh_up _ _ (V.sh_up _ _ h1)
  have a2 := V.sh_up _ _ (V.sh_up _ _ k1)
  have h3 : (V.mk 2 0 ⟨#[]⟩ a c [z, y]).sh 6 = true := by simp [V.sh, V.shL, fitsB, tupleB, a1, a2]
  have h4 : (V.mk 2 0 ⟨#[]⟩ a c [z, y]).rank ≤ 60 := by simp [V.rank, V.rank.ranks]; omega
  simp [V.valid, h3, h4]

/-- The three values behind l[1], l[2] = m[0], B.Tuple(l[2], m[1]). -/
theorem mix_trio {w w1 w2 W2 w3 : World} {g : Nat} {x y z p q r : V} {t t' t'' t3 : T} (hvi : V.InL w1 w1.heap.size [x, y, z]) (hvf : V.footL (fun b => w.heap.size ≤ b ∧ b < w1.heap.size) [x, y, z]) (hg : w1.heap.size + 1 = g)
    (hka : Kp w1 w2) (hvi2 : V.InL w2 w2.heap.size [p, q, r]) (hvf2 : V.footL (fun b => w1.heap.size + 2 ≤ b) [p, q, r]) (hkb : Kp w2 W2) (hgW : g < W2.heap.size)
    (hk3 : Kp (W2.alloc (.cells (z.cells4 ++ q.cells4).toArray 24)) w3) (hb : w3.heap[g]? = some (.cells (cellsL [x, y, z]).toArray 49 (0, 0))) (hx : Good t x) (hz : Good t' z) (hp : Good t'' p) (hq : Good t3 q) :
    Trio (putAt (putAt w3 g 4 (.int .i64 p.k) (.int .i64 p.n) (.string p.s) (.slice p.a p.l.length p.cap)) g 8 (.int .i64 2) (.int .i64 0) (.string ⟨#[]⟩) (.slice (some ⟨W2.heap.size, 0, none⟩) 2 2)) g [x, p, .mk 2 0 ⟨#[]⟩ (some ⟨W2.heap.size, 0, none⟩) 2 [z, q]] := by
  have hka2 := ka W2 (.cells (z.cells4 ++ q.cells4).toArray 24)
  have k23 := kk hka2 hk3
  have k2 := kk hkb k23
  have k1 := kk hka k2
  have hS : (putAt (putAt w3 g 4 (.int .i64 p.k) (.int .i64 p.n) (.string p.s) (.slice p.a p.l.length p.cap)) g 8 (.int .i64 2) (.int .i64 0) (.string ⟨#[]⟩) (.slice (some ⟨W2.heap.size, 0, none⟩) 2 2)).heap.size = w3.heap.size := by simp [World.setCell]
  have hO : ∀ b, b ≠ g → (putAt (putAt w3 g 4 (.int .i64 p.k) (.int .i64 p.n) (.string p.s) (.slice p.a p.l.length p.cap)) g 8 (.int .i64 2) (.int .i64 0) (.string ⟨#[]⟩) (.slice (some ⟨W2.heap.size, 0, none⟩) 2 2)).heap[b]? = w3.heap[b]? := fun b h => (putAt_other h).trans (putAt_other h)
  have hnew : w3.heap[W2.heap.size]? = some (.cells (z.cells4 ++ q.cells4).toArray 24 (0, 0)) := (hk3.block _ (by simp)).trans (blockHere rfl)
  obtain ⟨hxi, hyi, hzi, -⟩ := hvi
  obtain ⟨hxf, hyf, hzf, -⟩ := hvf
  obtain ⟨hpi, hqi, -⟩ := hvi2
  obtain ⟨hpf, hqf, -⟩ := hvf2
  have hx3 := V.In.move (P := fun b => w.heap.size ≤ b ∧ b < w1.heap.size) (Nat.le_refl _) (fun b _ hb => hO b (by omega)) x (hxi.keep k1.size k1) hxf
  have hz3 := V.In.move (P := fun b => w.heap.size ≤ b ∧ b < w1.heap.size) (Nat.le_refl _) (fun b _ hb => hO b (by omega)) z (hzi.keep k1.size k1) hzf
  have hp3 := V.In.move (P := fun b => w1.heap.size + 2 ≤ b) (Nat.le_refl _) (fun b _ hb => hO b (by omega)) p (hpi.keep k2.size k2) hpf
  have hq3 := V.In.move (P := fun b => w1.heap.size + 2 ≤ b) (Nat.le_refl _) (fun b _ hb => hO b (by omega)) q (hqi.keep k2.size k2) hqf
  refine ⟨?_, rfl, ?_, ?_⟩
  · have h2 := putAt_block (v0 := .int .i64 2) (v1 := .int .i64 0) (v2 := .string ⟨#[]⟩) (v3 := .slice (some ⟨W2.heap.size, 0, none⟩) 2 2) (i := 8) (putAt_block (v0 := .int .i64 p.k) (v1 := .int .i64 p.n) (v2 := .string p.s) (v3 := .slice p.a p.l.length p.cap) (i := 4) hb)
    clear hO hS hx3 hz3 hp3 hq3 hnew hb hxi hyi hzi hpi hqi hxf hyf hzf hpf hqf
    cases x; cases y; cases z; cases p
    refine h2.trans ?_
    simp [cellsL, V.cells4, V.k, V.n, V.s, V.a, V.l, V.cap]
  · rw [hS]
    refine ⟨hx3, hp3, ?_, trivial⟩
    simp only [V.In, V.InL]
    refine ⟨by unfold I64; omega, by unfold I64; omega, by decide, by simp, by decide, .inr ⟨W2.heap.size, 0, rfl, lt_of_block hnew, ?_⟩, hz3, hq3, trivial⟩
    exact At.of_block ((hO _ (by omega)).trans hnew) (by simp [cellsL])
  · intro v hv
    simp at hv
    rcases hv with rfl | rfl | rfl
    · exact hx.valid
    · exact hp.valid
    · exact pair_valid hz hq


end Go.Proofs.YtbiljalhabnhlaaGreatDoor

/-
  ValueOne, MIXED: values of three types.
-/
namespace Go.Proofs.YtbiljalhabnhlaaGreatDoor
open Go.RowKit

set_option maxRecDepth 100000 in
set_option maxHeartbeats 8000000 in
theorem one_true (a : Option Addr) (cap : Nat) (l : List Int) (a' : Option Addr) (cap' : Nat) (l' : List Int) (w : World) (hin : Ints w w.heap.size a cap l) (hin' : Ints w w.heap.size a' cap' l') (tb : Tb w w.heap.size) :
    Calls Tryz.prog 7 #[.slice a l.length cap, .slice a' l'.length cap', .bool true] w fun e w' => e = .returned (.bool true) ∧ Kp w w' := by
  have T1 := three_any a cap l w hin
  have T2 := fun (w1 : World) (h : Kp w w1) => three_any a' cap' l' w1 (hin'.keep h.size h)
  have E := fun w1 (h : Kp w w1) => valued_any w1 (tb.keep h h.size)
  have HT1 := Lib.hid T1
  have HT2 := Lib.hid T2
  have HE := Lib.hid E
  clear T1 T2 E hin hin' tb
  go_enter Tryz.func7, Tryz.ntmps7
  go_wp2_with fail
  refine HT1.out.mono ?_
  rintro e w1 ⟨t, x, y, z, rfl, hti, hsh, hrk, hvi, hvf, hgx, hgy, hgz, hk⟩
  obtain ⟨xk, xn, xs, xa, xc, xl⟩ := x
  obtain ⟨yk, yn, ys, ya, yc, yl⟩ := y
  obtain ⟨zk, zn, zs, za, zc, zl⟩ := z
  cases t with
  | mk tk ta tc tl =>
  rw [T.val_mk]
  simp only [cellsL, V.cells4, List.flatMap_cons, List.flatMap_nil, List.cons_append, List.nil_append, List.append_nil, V.k, V.n, V.s, V.a, V.l, V.cap]
  have hfl := V.InL.foot_lt _ hvi hvf
  have HVI := Lib.hid hvi
  have HVF := Lib.hid hfl
  have HX := Lib.hid hgx
  have HZ := Lib.hid hgz
  have HK := Lib.hid hk
  clear hti hvi hvf hfl hgx hgy hgz hk hsh hrk
  go_wp2_with fail
  refine (HT2.out _ (kk HK.out (kk (ka _ _) (ka _ _)))).mono ?_
  rintro e w2 ⟨t', p, q, r, rfl, hti, hsh, hrk, hvi, hvf, hgx, hgy, hgz, hk⟩
  obtain ⟨pk, pn, ps, pa, pc, pl⟩ := p
  obtain ⟨qk, qn, qs, qa, qc, ql⟩ := q
  obtain ⟨rk, rn, rs, ra, rc, rl⟩ := r
  cases t' with
  | mk uk ua uc ul =>
  rw [T.val_mk]
  simp only [cellsL, V.cells4, List.flatMap_cons, List.flatMap_nil, List.cons_append, List.nil_append, List.append_nil, V.k, V.n, V.s, V.a, V.l, V.cap]
  have hz2 := hk.size
  simp at hz2
  have hlb : w2.heap[w1.heap.size + 1]? = some (.cells #[.int .i64 xk, .int .i64 xn, .string xs, .slice xa xl.length xc, .int .i64 yk, .int .i64 yn, .string ys, .slice ya yl.length yc, .int .i64 zk, .int .i64 zn, .string zs, .slice za zl.length zc] 49 (0, 0)) := (hk.block _ (by simp)).trans (blockHere (by simp))
  have HLB := Lib.hid hlb
  have HVI2 := Lib.hid hvi
  have HVF2 := Lib.hid hvf
  have HP := Lib.hid hgx
  have HQ := Lib.hid hgy
  have HVF3 := Lib.hid (V.footL.mono (Q := fun b => w1.heap.size + 2 ≤ b) (fun b hb => by simp at hb; omega) _ hvf)
  have HKC := Lib.hid (kk (kk (ka w1 (.cells #[.int .i64 tk, .slice ta tl.length tc] 27)) (ka _ (.cells #[.int .i64 xk, .int .i64 xn, .string xs, .slice xa xl.length xc, .int .i64 yk, .int .i64 yn, .string ys, .slice ya yl.length yc, .int .i64 zk, .int .i64 zn, .string zs, .slice za zl.length zc] 49))) hk)
  clear hti hvi hvf hgx hgy hgz hk hsh hrk hlb
  go_upto_region 4 with fail
  have hkb := kk (ka w2 (.cells #[.int .i64 uk, .slice ua ul.length uc] 27)) (ka _ (.cells #[.int .i64 pk, .int .i64 pn, .string ps, .slice pa pl.length pc, .int .i64 qk, .int .i64 qn, .string qs, .slice qa ql.length qc, .int .i64 rk, .int .i64 rn, .string rs, .slice ra rl.length rc] 49))
  have hlb3 : ((w2.alloc (.cells #[.int .i64 uk, .slice ua ul.length uc] 27)).alloc (.cells #[.int .i64 pk, .int .i64 pn, .string ps, .slice pa pl.length pc, .int .i64 qk, .int .i64 qn, .string qs, .slice qa ql.length qc, .int .i64 rk, .int .i64 rn, .string rs, .slice ra rl.length rc] 49)).heap[w1.heap.size + 1]? = some (.cells #[.int .i64 xk, .int .i64 xn, .string xs, .slice xa xl.length xc, .int .i64 yk, .int .i64 yn, .string ys, .slice ya yl.length yc, .int .i64 zk, .int .i64 zn, .string zs, .slice za zl.length zc] 49 (0, 0)) := blockPast (blockPast HLB.out)
  have hmb3 : ((w2.alloc (.cells #[.int .i64 uk, .slice ua ul.length uc] 27)).alloc (.cells #[.int .i64 pk, .int .i64 pn, .string ps, .slice pa pl.length pc, .int .i64 qk, .int .i64 qn, .string qs, .slice qa ql.length qc, .int .i64 rk, .int .i64 rn, .string rs, .slice ra rl.length rc] 49)).heap[w2.heap.size + 1]? = some (.cells #[.int .i64 pk, .int .i64 pn, .string ps, .slice pa pl.length pc, .int .i64 qk, .int .i64 qn, .string qs, .slice qa ql.length qc, .int .i64 rk, .int .i64 rn, .string rs, .slice ra rl.length rc] 49 (0, 0)) := blockHere (by simp)
  have hsz3 : ((w2.alloc (.cells #[.int .i64 uk, .slice ua ul.length uc] 27)).alloc (.cells #[.int .i64 pk, .int .i64 pn, .string ps, .slice pa pl.length pc, .int .i64 qk, .int .i64 qn, .string qs, .slice qa ql.length qc, .int .i64 rk, .int .i64 rn, .string rs, .slice ra rl.length rc] 49)).heap.size = w2.heap.size + 2 := by simp
  generalize (w2.alloc (.cells #[.int .i64 uk, .slice ua ul.length uc] 27)).alloc (.cells #[.int .i64 pk, .int .i64 pn, .string ps, .slice pa pl.length pc, .int .i64 qk, .int .i64 qn, .string qs, .slice qa ql.length qc, .int .i64 rk, .int .i64 rn, .string rs, .slice ra rl.length rc] 49) = W2 at *
  generalize hg : w1.heap.size + 1 = g at *
  generalize hmb : w2.heap.size + 1 = mb at *
  have hgW2 : g < W2.heap.size := by omega
  have hmW2 : mb < W2.heap.size := by omega
  have c4 := cellOf (i := 4) hlb3 rfl
  have f4 := freeOf (i := 4) hlb3
  have c5 := cellOf (i := 5) hlb3 rfl
  have f5 := freeOf (i := 5) hlb3
  have c6 := cellOf (i := 6) hlb3 rfl
  have f6 := freeOf (i := 6) hlb3
  have c7 := cellOf (i := 7) hlb3 rfl
  have f7 := freeOf (i := 7) hlb3
  have c8 := cellOf (i := 8) hlb3 rfl
  have f8 := freeOf (i := 8) hlb3
  have c9 := cellOf (i := 9) hlb3 rfl
  have f9 := freeOf (i := 9) hlb3
  have c10 := cellOf (i := 10) hlb3 rfl
  have f10 := freeOf (i := 10) hlb3
  have c11 := cellOf (i := 11) hlb3 rfl
  have f11 := freeOf (i := 11) hlb3
  have m0 := cellOf (i := 0) hmb3 rfl
  have m1 := cellOf (i := 1) hmb3 rfl
  have m2 := cellOf (i := 2) hmb3 rfl
  have m3 := cellOf (i := 3) hmb3 rfl
  have m4 := cellOf (i := 4) hmb3 rfl
  have m5 := cellOf (i := 5) hmb3 rfl
  have m6 := cellOf (i := 6) hmb3 rfl
  have m7 := cellOf (i := 7) hmb3 rfl
  have HLB3 := Lib.hid hlb3
  have HMB3 := Lib.hid hmb3
  have HKB := Lib.hid hkb
  have HG := Lib.hid hg
  have HMB := Lib.hid hmb
  have HSZ3 := Lib.hid hsz3
  clear hlb3 hmb3 hkb hg hmb hsz3 HLB
  have hgw : w.heap.size ≤ g := by have := HK.out.size; have := HG.out; omega
  have HGL := Lib.hid hgW2
  have HGW := Lib.hid hgw
  clear hgw
  go_cut [8] (fun s8 wx => s8 = .pointer (some ⟨g, 0, none⟩) ∧ ∃ vs, Trio wx g vs ∧ Kp w wx)
  case first =>
    go_region_law
      (go_simp; go_at_call 41; refine (tuple_any _ _ _ _).mono ?_; rintro e w3 ⟨rfl, hk3⟩; have hb4 : w3.heap[g]? = some (.cells #[.int .i64 xk, .int .i64 xn, .string xs, .slice xa xl.length xc, .int .i64 yk, .int .i64 yn, .string ys, .slice ya yl.length yc, .int .i64 zk, .int .i64 zn, .string zs, .slice za zl.length zc] 49 (0, 0)) := (hk3.block _ (by simp; omega)).trans (blockPast (w := W2) HLB3.out); have hm4 : w3.heap[mb]? = some (.cells #[.int .i64 pk, .int .i64 pn, .string ps, .slice pa pl.length pc, .int .i64 qk, .int .i64 qn, .string qs, .slice qa ql.length qc, .int .i64 rk, .int .i64 rn, .string rs, .slice ra rl.length rc] 49 (0, 0)) := (hk3.block _ (by simp; omega)).trans (blockPast (w := W2) HMB3.out); have e4 := cellOf (i := 4) hb4 rfl; have g4 := freeOf (i := 4) hb4; have e5 := cellOf (i := 5) hb4 rfl; have g5 := freeOf (i := 5) hb4; have e6 := cellOf (i := 6) hb4 rfl; have g6 := freeOf (i := 6) hb4; have e7 := cellOf (i := 7) hb4 rfl; have g7 := freeOf (i := 7) hb4; have e8 := cellOf (i := 8) hb4 rfl; have g8 := freeOf (i := 8) hb4; have e9 := cellOf (i := 9) hb4 rfl; have g9 := freeOf (i := 9) hb4; have e10 := cellOf (i := 10) hb4 rfl; have g10 := freeOf (i := 10) hb4; have e11 := cellOf (i := 11) hb4 rfl; have g11 := freeOf (i := 11) hb4; have n0 := cellOf (i := 0) hm4 rfl; have n1 := cellOf (i := 1) hm4 rfl; have n2 := cellOf (i := 2) hm4 rfl; have n3 := cellOf (i := 3) hm4 rfl; dsimp only)
    all_goals
      go_wp2_with fail
      go_meet
      have hk4 : Kp (W2.alloc (.cells ((V.mk zk zn zs za zc zl).cells4 ++ (V.mk qk qn qs qa qc ql).cells4).toArray 24)) w3 := by
        first | exact hk3 | exact kk kpD hk3
      have hb5 : w3.heap[g]? = some (.cells (cellsL [.mk xk xn xs xa xc xl, .mk yk yn ys ya yc yl, .mk zk zn zs za zc zl]).toArray 49 (0, 0)) := hb4
      have hT := mix_trio (r := .mk rk rn rs ra rc rl) HVI.out HVF.out HG.out HKC.out HVI2.out HVF3.out HKB.out HGL.out hk4 hb5 HX.out HZ.out HP.out HQ.out
      have hK5 := putAt_kp (b := g) (i := 8) (v0 := .int .i64 2) (v1 := .int .i64 0) (v2 := .string ⟨#[]⟩) (v3 := .slice (some ⟨W2.heap.size, 0, none⟩) 2 2) (putAt_kp (b := g) (i := 4) (v0 := .int .i64 pk) (v1 := .int .i64 pn) (v2 := .string ps) (v3 := .slice pa pl.length pc) (kk HK.out (kk HKC.out (kk HKB.out (kk (ka _ _) hk4)))) HGW.out) HGW.out
      dsimp only [V.k, V.n, V.s, V.a, V.l, V.cap, Nat.reduceAdd, putAt] at hT hK5
      exact ⟨rfl, _, hT, hK5⟩
  case rest =>
    obtain ⟨rfl, vs, htr, hkW⟩ := hcut
    obtain ⟨W0, rfl⟩ : ∃ W0 : World, W0 = wc := ⟨_, rfl⟩
    clear c4 c5 c6 c7 c8 c9 c10 c11 f4 f5 f6 f7 f8 f9 f10 f11 m0 m1 m2 m3 m4 m5 m6 m7 hgW2 hmW2
    go_wp2_with fail
    have hord : Ords (W0.alloc (.cells #[.int .i64 0, .int .i64 0, .int .i64 0, .int .i64 0, .int .i64 0, .int .i64 0, .int .i64 0, .int .i64 0, .int .i64 0] 54)) W0.heap.size vs 0 := ⟨_, blockHere rfl, rfl, fun r hr => by omega⟩
    have HKW := Lib.hid hkW
    have HTR := Lib.hid htr
    have HO := Lib.hid hord
    have hgW : g < W0.heap.size := lt_of_block htr.blk
    clear hkW htr hord
    go_loopw [12] (fun i wr => ∃ (j : Nat), j ≤ 3 ∧ i = .int .i64 j ∧ Ords wr W0.heap.size vs (j * 3) ∧ Kp W0 wr) (fun i _ => 3 - (intOf i).toNat)
    case atStart => exact ⟨0, by omega, rfl, HO.out, ka _ _⟩
    case round =>
      obtain ⟨j, hj, rfl, hor, hk⟩ := hrel
      obtain ⟨wo, rfl⟩ : ∃ wo : World, wo = wr := ⟨_, rfl⟩
      by_cases hlt : j < 3
      · have hlt' : (j : Int) < 3 := by omega
        have HOR := Lib.hid hor
        have HK := Lib.hid hk
        clear hor hk
        go_wp2_with fail
        go_loopw [13] (fun k wr => ∃ (m : Nat), m ≤ 3 ∧ k = .int .i64 m ∧ Ords wr W0.heap.size vs (j * 3 + m) ∧ Kp W0 wr) (fun k _ => 3 - (intOf k).toNat)
        case atStart => exact ⟨0, by omega, rfl, HOR.out, HK.out⟩
        case round =>
          obtain ⟨m, hm, rfl, hor, hk⟩ := hrel
          by_cases hml : m < 3
          · have hml' : (m : Int) < 3 := by omega
            have g0 : (0 : Int) ≤ (j : Int) := by omega
            have g1 : (0 : Int) ≤ (m : Int) := by omega
            obtain ⟨x, hx, hxi, hxv, c0, c1, c2, c3⟩ := HTR.out.at hk hlt
            obtain ⟨y, hy, hyi, hyv, d0, d1, d2, d3⟩ := HTR.out.at hk hml
            have hat := ordAt_mk hx hy hml
            have hrg := ord_range x y
            have hsm := ord_same x y
            have C := fun (w2 : World) (h : Kp wr w2) => compare_prog x y w2 (hxi.keep h.size h) (hyi.keep h.size h)
            have S := fun (w2 : World) (h : Kp wr w2) => sameV x.rank x y w2 (Nat.le_refl _) (hxi.keep h.size h) (hyi.keep h.size h)
            rw [show cmpV x y = .tuple #[.int .i64 (x.ord y), .int .i64 0] from by simp [cmpV, hxv, hyv]] at C
            rw [show x.same y = (x.ord y == 0) from by rw [Bool.eq_iff_iff, beq_iff_eq]; exact hsm.symm] at S
            clear hsm hxv hyv hx hy hxi hyi
            obtain ⟨xk, xn, xs, xa, xc, xl⟩ := x
            obtain ⟨yk, yn, ys, ya, yc, yl⟩ := y
            simp only [V.val_mk, V.k, V.n, V.s, V.a, V.l, V.cap] at C S c0 c1 c2 c3 d0 d1 d2 d3
            generalize (V.mk xk xn xs xa xc xl).ord (V.mk yk yn ys ya yc yl) = n at *
            have L := fun w2 => lies_any n (-1) 1 w2
            rw [show (decide ((-1 : Int) ≤ n) && decide (n ≤ 1)) = true from by rcases hrg with rfl | rfl | rfl <;> rfl] at L
            obtain ⟨u, hu, hfu⟩ := hor.there (r := j * 3 + m) (by omega)
            have HC := Lib.hid C
            have HS := Lib.hid S
            have HL := Lib.hid L
            have HOR2 := Lib.hid hor
            have HK2 := Lib.hid hk
            have HAT := Lib.hid hat
            clear C S L hor hk hat hrg
            go_wp2_with fail
            go_region_held3 (fun w' => w'.cell? ⟨g, j * 4, none⟩ = some (.int .i64 xk) ∧ w'.cell? ⟨g, j * 4 + 1, none⟩ = some (.int .i64 xn) ∧ w'.cell? ⟨g, j * 4 + 2, none⟩ = some (.string xs) ∧ w'.cell? ⟨g, j * 4 + 3, none⟩ = some (.slice xa xl.length xc) ∧
                w'.cell? ⟨g, m * 4, none⟩ = some (.int .i64 yk) ∧ w'.cell? ⟨g, m * 4 + 1, none⟩ = some (.int .i64 yn) ∧ w'.cell? ⟨g, m * 4 + 2, none⟩ = some (.string ys) ∧ w'.cell? ⟨g, m * 4 + 3, none⟩ = some (.slice ya yl.length yc) ∧ Kp wr w')
              (first
                | exact ⟨c0, c1, c2, c3, d0, d1, d2, d3, kpD⟩
                | (go_split_ands; exact ⟨kc hkc ‹_›, kc hkc ‹_›, kc hkc ‹_›, kc hkc ‹_›, kc hkc ‹_›, kc hkc ‹_›, kc hkc ‹_›, kc hkc ‹_›, kk ‹_› hkc⟩))
              (first | (go_at_call 25; refine (HC.out _ (by first | assumption | exact kpD | (go_split_ands; assumption))).mono ?_; rintro e w2 ⟨rfl, hkc⟩))
            go_split_ands
            have hk2 : Kp wr w2 := by assumption
            replace c0 := kc hk2 c0
            replace c1 := kc hk2 c1
            replace c2 := kc hk2 c2
            replace c3 := kc hk2 c3
            replace d0 := kc hk2 d0
            replace d1 := kc hk2 d1
            replace d2 := kc hk2 d2
            replace d3 := kc hk2 d3
            have HKR := Lib.hid hk2
            clear hk2 hu hfu
            go_wp2_with fail
            go_region_held3 (fun w' => w'.cell? ⟨g, j * 4, none⟩ = some (.int .i64 xk) ∧ w'.cell? ⟨g, j * 4 + 1, none⟩ = some (.int .i64 xn) ∧ w'.cell? ⟨g, j * 4 + 2, none⟩ = some (.string xs) ∧ w'.cell? ⟨g, j * 4 + 3, none⟩ = some (.slice xa xl.length xc) ∧
                w'.cell? ⟨g, m * 4, none⟩ = some (.int .i64 yk) ∧ w'.cell? ⟨g, m * 4 + 1, none⟩ = some (.int .i64 yn) ∧ w'.cell? ⟨g, m * 4 + 2, none⟩ = some (.string ys) ∧ w'.cell? ⟨g, m * 4 + 3, none⟩ = some (.slice ya yl.length yc) ∧ Kp w2 w')
              (first
                | exact ⟨c0, c1, c2, c3, d0, d1, d2, d3, kpD⟩
                | (go_split_ands; exact ⟨kc hkc ‹_›, kc hkc ‹_›, kc hkc ‹_›, kc hkc ‹_›, kc hkc ‹_›, kc hkc ‹_›, kc hkc ‹_›, kc hkc ‹_›, kk ‹_› hkc⟩)
                | (go_split_ands; exact ⟨‹_›, ‹_›, ‹_›, ‹_›, ‹_›, ‹_›, ‹_›, ‹_›, ‹_›⟩))
              (first
                | (go_at_call 42; refine (HL.out _).mono ?_; rintro e w3 ⟨rfl, rfl⟩)
                | (go_at_call 23; refine (HS.out _ (kk HKR.out (by first | assumption | exact kpD | (go_split_ands; assumption)))).mono ?_; rintro e w3 ⟨rfl, hkc⟩))
            go_split_ands
            rename_i hk3
            have hor3 := HOR2.out.kp (kk HKR.out hk3)
            obtain ⟨u, hu, hfu⟩ := hor3.there (r := j * 3 + m) (by omega)
            have HOR3 := Lib.hid hor3
            have HK3 := Lib.hid (kk HK2.out (kk HKR.out hk3))
            clear hor3 hk3
            go_wp2_with fail
            go_roundw
            case rel => exact ⟨m + 1, by omega, by first | go_num | simp, HOR3.out.step rfl (by omega) HAT.out, put1_kp HK3.out (by omega)⟩
            case measure => simp [intOf]; omega
          · have hm3 : m = 3 := by omega
            subst hm3
            have HOR2 := Lib.hid hor
            have HK2 := Lib.hid hk
            clear hor hk
            go_wp2_with fail
            go_roundw
            case rel => exact ⟨j + 1, by omega, by first | go_num | simp, by rw [show (j + 1) * 3 = j * 3 + 3 from by omega]; exact HOR2.out, HK2.out⟩
            case measure => simp [intOf]; omega
      · have hj3 : j = 3 := by omega
        subst hj3
        have HOR := Lib.hid hor
        have HK := Lib.hid (kk HKW.out hk)
        clear hor hk HO
        go_wp2_with fail
        go_loopw [16] (fun i wr => ∃ (j : Nat), j ≤ 3 ∧ i = .int .i64 j ∧ Ords wr W0.heap.size vs (3 * 3) ∧ Kp w wr) (fun i _ => 3 - (intOf i).toNat)
        case atStart => exact ⟨0, by omega, rfl, HOR.out, HK.out⟩
        case round =>
          obtain ⟨j, hj, rfl, hor, hk⟩ := hrel
          obtain ⟨wp, rfl⟩ : ∃ wp : World, wp = wr := ⟨_, rfl⟩
          have HOR1 := Lib.hid hor
          have HK1 := Lib.hid hk
          clear hor hk
          by_cases hlt : j < 3
          · have hlt' : (j : Int) < 3 := by omega
            go_wp2_with fail
            go_loopw [17] (fun i wr => ∃ (m : Nat), m ≤ 3 ∧ i = .int .i64 m ∧ Ords wr W0.heap.size vs (3 * 3) ∧ Kp w wr) (fun i _ => 3 - (intOf i).toNat)
            case atStart => exact ⟨0, by omega, rfl, HOR1.out, HK1.out⟩
            case round =>
              obtain ⟨m, hm, rfl, hor, hk⟩ := hrel
              obtain ⟨wq, rfl⟩ : ∃ wq : World, wq = wr := ⟨_, rfl⟩
              have HOR2 := Lib.hid hor
              have HK2 := Lib.hid hk
              clear hor hk
              by_cases hml : m < 3
              · have hml' : (m : Int) < 3 := by omega
                go_wp2_with fail
                go_loopw [18] (fun i wr => ∃ (q : Nat), q ≤ 3 ∧ i = .int .i64 q ∧ Ords wr W0.heap.size vs (3 * 3) ∧ Kp w wr) (fun i _ => 3 - (intOf i).toNat)
                case atStart => exact ⟨0, by omega, rfl, HOR2.out, HK2.out⟩
                case round =>
                  obtain ⟨q, hq, rfl, hor, hk⟩ := hrel
                  by_cases hql : q < 3
                  · have hql' : (q : Int) < 3 := by omega
                    have g0 : (0 : Int) ≤ (j : Int) := by omega
                    have g1 : (0 : Int) ≤ (m : Int) := by omega
                    have g2 : (0 : Int) ≤ (q : Int) := by omega
                    have c1 := hor.cell (r := j * 3 + m) (by omega)
                    have c2 := hor.cell (r := m * 3 + j) (by omega)
                    have c3 := hor.cell (r := m * 3 + q) (by omega)
                    have c4 := hor.cell (r := j * 3 + q) (by omega)
                    obtain ⟨x, hx, -⟩ := HTR.out.at (Below.refl _ _) hlt
                    obtain ⟨y, hy, -⟩ := HTR.out.at (Below.refl _ _) hml
                    obtain ⟨z, hz, -⟩ := HTR.out.at (Below.refl _ _) hql
                    rw [ordAt_mk hx hy hml] at c1
                    rw [ordAt_mk hy hx hlt, ord_neg x y] at c2
                    rw [ordAt_mk hy hz hql] at c3
                    rw [ordAt_mk hx hz hql] at c4
                    have r1 : -1 ≤ x.ord y ∧ x.ord y ≤ 1 := by rcases ord_range x y with h | h | h <;> omega
                    have r3 : -1 ≤ y.ord z ∧ y.ord z ≤ 1 := by rcases ord_range y z with h | h | h <;> omega
                    have r4 : -1 ≤ x.ord z ∧ x.ord z ≤ 1 := by rcases ord_range x z with h | h | h <;> omega
                    have ht := ord_trans x y z
                    clear hx hy hz
                    generalize x.ord y = n1 at *
                    generalize y.ord z = n3 at *
                    generalize x.ord z = n4 at *
                    have HOR3 := Lib.hid hor
                    have HK3 := Lib.hid hk
                    clear hor hk
                    obtain ⟨r1a, r1b⟩ := r1
                    by_cases h1 : n1 ≤ 0
                    · have e1 : decide (n1 ≤ 0) = true := by simpa using h1
                      by_cases h3 : n3 ≤ 0
                      · have e3 : decide (n3 ≤ 0) = true := by simpa using h3
                        have h4 := ht h1 h3
                        have e4 : decide (0 < n4) = false := by simp; omega
                        clear ht h1 h3 r3 r4
                        go_wp2_with fail
                        go_quiet (fail)
                        go_wp2_with fail
                        go_roundw
                        case rel => exact ⟨q + 1, by omega, by first | go_num | simp, HOR3.out.kp (by first | exact kpDN | exact kpD), kk HK3.out (by first | exact kpDN | exact kpD)⟩
                        case measure => simp [intOf]; omega
                      · have e3 : decide (n3 ≤ 0) = false := by simp; omega
                        clear ht h1 h3 r3 r4 c4
                        go_wp2_with fail
                        go_quiet (fail)
                        go_wp2_with fail
                        go_roundw
                        case rel => exact ⟨q + 1, by omega, by first | go_num | simp, HOR3.out.kp (by first | exact kpDN | exact kpD), kk HK3.out (by first | exact kpDN | exact kpD)⟩
                        case measure => simp [intOf]; omega
                    · have e1 : decide (n1 ≤ 0) = false := by simp; omega
                      clear ht h1 r3 r4 c3 c4
                      go_wp2_with fail
                      go_quiet (fail)
                      go_wp2_with fail
                      go_roundw
                      case rel => exact ⟨q + 1, by omega, by first | go_num | simp, HOR3.out.kp (by first | exact kpDN | exact kpD), kk HK3.out (by first | exact kpDN | exact kpD)⟩
                      case measure => simp [intOf]; omega
                  · have hq3 : q = 3 := by omega
                    subst hq3
                    have HOR3 := Lib.hid hor
                    have HK3 := Lib.hid hk
                    clear hor hk
                    go_wp2_with fail
                    go_roundw
                    case rel => exact ⟨m + 1, by omega, by first | go_num | simp, HOR3.out, HK3.out⟩
                    case measure => simp [intOf]; omega
              · have hm3 : m = 3 := by omega
                subst hm3
                go_wp2_with fail
                go_roundw
                case rel => exact ⟨j + 1, by omega, by first | go_num | simp, HOR2.out, HK2.out⟩
                case measure => simp [intOf]; omega
          · have hj3 : j = 3 := by omega
            subst hj3
            go_wp2_with fail
            refine (HE.out _ HK1.out).mono ?_
            rintro e w7 ⟨rfl, hk⟩
            have HK7 := Lib.hid (kk HK1.out hk)
            clear hk
            go_wp2_with fail
            go_ret
            exact ⟨rfl, HK7.out⟩

theorem one_any (a : Option Addr) (cap : Nat) (l : List Int) (a' : Option Addr) (cap' : Nat) (l' : List Int) (b : Bool) (w : World) (hin : Ints w w.heap.size a cap l) (hin' : Ints w w.heap.size a' cap' l') (tb : Tb w w.heap.size) :
    Calls Tryz.prog 7 #[.slice a l.length cap, .slice a' l'.length cap', .bool b] w fun e w' => e = .returned (.bool true) ∧ Kp w w' := by
  cases b
  · exact one_false a cap l a' cap' l' w hin hin' tb
  · exact one_true a cap l a' cap' l' w hin hin' tb

end Go.Proofs.YtbiljalhabnhlaaGreatDoor

/-
  ValueOne: WHAT THE WALKS GIVE, for every arguments that read; THE STATEMENT, AND ITS CARD.
-/
namespace Go.Proofs.YtbiljalhabnhlaaGreatDoor.valueOne
open Go.ChangeShapes Go.WideShapes Go.ChangeAt Go.RowKit Go.Lib

theorem tens {W : World} (h : laidMetH Tryz.prog Rows.valueOneRow.laid W) : Tb W W.heap.size := by
  have h1 : laidMet Tryz.prog Rows.valueOneRow.laid W := h
  have h2 := laid_tail (laid_tail h1)
  refine Lib.tabBelow_of_tabIs ?_
  exact Lib.tabIs_of_head gTab (t := 179) (n := 20) (e := 167) (by kernel_rfl) (by kernel_rfl) (by kernel_rfl) (by kernel_rfl) (by kernel_rfl) h2

set_option maxRecDepth 100000 in
theorem contract (H : Type) (enc : TypeId × Value → H) (W : World) (base : Nat) (args : Array Value) (ds gs : List (DataW H)) (before : List MemPlace)
    (hval : ∀ (j : Nat) t v, Tryz.f7.params[j]? = some t → args[j]? = some v → Value.okWide Tryz.prog W .any base t v)
    (hW : DataW.Whole enc Tryz.prog Tryz.f7.params.toList Rows.valueOneSpec.vars false W args.toList ds gs before) (ht : Tb W W.heap.size) :
    Calls Tryz.prog 7 args W fun e W' => ∃ v, e = .returned v ∧ Rows.valueOneSpec.post enc Tryz.prog Tryz.f7 false true false false W args v W' := by
  have hW' := hW
  obtain ⟨p, q, hA0, hV, rfl, hfz, hnd⟩ := hW
  have hA : DataW.TrodAll enc Tryz.prog W 0 (fun _ => true) true Tryz.f7.params.toList args.toList ds p := hA0
  rw [Tryz.params7] at hA hval
  obtain ⟨v0, vs0, d0, ds0, p0, q0, hargs, rfl, rfl, h0, r0⟩ := trodAll_cons hA
  obtain ⟨v1, vs1, d1, ds1, p1, q1, rfl, rfl, rfl, h1, r1⟩ := trodAll_cons r0
  obtain ⟨v2, vs2, d2, ds2, p2, q2, rfl, rfl, rfl, h2, r2⟩ := trodAll_cons r1
  obtain ⟨rfl, rfl, rfl⟩ := trodAll_nil r2
  obtain rfl : args = #[v0, v1, v2] := by cases args; simp_all
  obtain ⟨rfl, rfl⟩ := trodVars_none hV
  obtain ⟨a0, c0, l0, rfl, hx0⟩ := open_argI (hval 0 48 v0 rfl rfl) h0
  obtain ⟨a1, c1, l1, rfl, hx1⟩ := open_argI (hval 1 48 v1 rfl rfl) h1
  obtain ⟨b2, rfl⟩ := open_argB (hval 2 4 v2 rfl rfl)
  refine (one_any a0 c0 l0 a1 c1 l1 b2 W hx0 hx1 ht).mono fun e W' ⟨he, hk⟩ => ?_
  subst he
  refine ⟨_, rfl, ?_⟩
  have hlt : ∀ p ∈ p0 ++ (p1 ++ (p2 ++ [])) ++ [], p.block < W.heap.size := fun p hp => hW'.lt p hp
  have hT0 : 48 < Tryz.prog.types.size := of_decide_eq_true (by kernel_rfl)
  have hT1 : 4 < Tryz.prog.types.size := of_decide_eq_true (by kernel_rfl)
  refine post_of_kp (pa := p0 ++ (p1 ++ (p2 ++ []))) (pv := []) hW' hk (fun _ _ _ => trodAll_cons_mk (shut_bool Tryz.underlying4 _) trodAll_mk0) (fun sp hsp => ?_) (fun _ _ => rfl) rfl (ok_one (by kernel_rfl) rfl (okWide_bool_mk Tryz.underlying4 _))
  rw [Tryz.params7]
  exact trodAll_cons_mk (trod_kp (DataW.Trod.respare kidsP fullP hT0 h0 (fun p hp => hsp p (by simp [hp]))) hk (fun p hp => hlt p (by simp [hp])))
    (trodAll_cons_mk (trod_kp (DataW.Trod.respare kidsP fullP hT0 h1 (fun p hp => hsp p (by simp [hp]))) hk (fun p hp => hlt p (by simp [hp])))
    (trodAll_cons_mk (trod_kp (DataW.Trod.respare kidsP fullP hT1 h2 (fun p hp => hsp p (by simp [hp]))) hk (fun p hp => hlt p (by simp [hp])))
    (trodAll_mk0)))

theorem own : ownKnob Tryz.prog.godebug = none := by kernel_rfl

def intsOf (k : IntKind) : DataW Unit → Array Value
  | .agg l => (l.map fun d => match d with | .lit (.int _ n) => Value.int k n | _ => Value.int k 0).toArray
  | _ => #[]

/-- THE WITNESS: the settled world with two blocks more (the two errors), the five variables holding what their initialisers lay. -/
noncomputable def laidWorld (os : Os) : World :=
  let N := (World.settled Tryz.prog os).heap.size
  let w0 := World.holding Tryz.prog os ⟨#[.cells #[.string ⟨#[105, 110, 118, 97, 108, 105, 100, 32, 115, 121, 110, 116, 97, 120]⟩] 187 (0, 0), .cells #[.string ⟨#[118, 97, 108, 117, 101, 32, 111, 117, 116, 32, 111, 102, 32, 114, 97, 110, 103, 101]⟩] 187 (0, 0)], #[], []⟩
  let put (h : Array Obj) (g : Nat) (cs : Array Value) : Array Obj := h.modify g fun
    | .cells _ t frozen => .cells cs t frozen
    | o => o
  let h1 := put w0.heap 1 #[.iface 185 (.pointer (some ⟨N, 0, none⟩))]
  let h2 := put h1 2 #[.iface 185 (.pointer (some ⟨N + 1, 0, none⟩))]
  let h3 := put h2 3 (intsOf .u64 Rows.laid_internal_strconv_uint64pow10)
  let h4 := put h3 4 (intsOf .u8 Rows.laid_math_bits_deBruijn32tab)
  let h5 := put h4 5 (intsOf .u8 Rows.laid_math_bits_deBruijn64tab)
  { w0 with heap := h5 }

noncomputable abbrev N0 : Nat := (World.settled Tryz.prog default).heap.size
/-- The witness's arguments. -/
abbrev wArgs : Array Value := #[.slice none 0 0, .slice none 0 0, .bool false]

set_option maxRecDepth 1000000 in
theorem laid_met (os : Os) (args : Array Value) : laidMet Tryz.prog Rows.valueOneRow.laid ((laidWorld os).forCall (fun _ _ => 0) ⟨#[], args, []⟩).memory :=
  (LaidIn.of_run (l := Rows.valueOneRow.laid) [4, 5, 3, 2, N0 + 1, 1, N0] 8 (by kernel_rfl) (by kernel_rfl) (by kernel_rfl) (by kernel_rfl)).met

theorem witness_row (os : Os) {H : Type} (enc : TypeId × Value → H) :
    (OpenSpec.ofChange Rows.valueOneSpec).preRow enc Tryz.prog Tryz.f7 Rows.valueOneRow.domain false Rows.valueOneRow.laid ((laidWorld os).forCall (fun _ _ => 0) ⟨#[], wArgs, []⟩).memory wArgs := by
  have hw : (DataW.whole enc Tryz.prog ((laidWorld os).forCall (fun _ _ => 0) ⟨#[], wArgs, []⟩).memory Tryz.f7.params.toList Rows.valueOneSpec.vars false wArgs.toList 8).map (fun x => (x.1, x.2.1)) =
      some ([.nil, .nil, .lit (.bool false)], []) := by kernel_rfl
  obtain ⟨⟨x1, x2, x3⟩, hx, hx1⟩ := Option.map_eq_some_iff.1 hw
  simp only [Prod.mk.injEq] at hx1
  obtain ⟨rfl, rfl⟩ := hx1
  exact OpenSpec.preRow_of_cond 8 hx (by kernel_rfl) (fun k hk => by cases hk) (by kernel_rfl) (laid_met os _)

set_option maxRecDepth 100000 in
set_option maxHeartbeats 2000000 in
theorem lifted (os : Os) (started : os.Started) (H : Type) (enc : TypeId × Value → H) (F : Stop.Interp) :
    ReturnsInHanded {} Tryz.checked os 7 .any ((OpenSpec.ofChange Rows.valueOneSpec).preRow enc Tryz.prog Tryz.f7 Rows.valueOneRow.domain false Rows.valueOneRow.laid) (((OpenSpec.ofChange Rows.valueOneSpec).at F).post enc Tryz.prog Tryz.f7 false true false false) := by
  refine returnsInHanded_of_row (C := Tryz.checked) (s := OpenSpec.ofChange Rows.valueOneSpec) own started (by kernel_rfl) Tryz.func7
    (witness_row_atRef (enc := enc) (C := Tryz.checked) false (laidWorld os) wArgs rfl (by kernel_rfl) (by kernel_rfl) (by kernel_rfl) (witness_row os enc)) ?_
  intro W base args ds gs before hval hW _ _ _ hL _ _
  exact contract H enc W base args ds gs before hval hW (tens hL)

theorem said : Rows.ValueOneSaid :=
  OpenClaim.holds_of_cond 7 Tryz.f7 rfl rfl rfl rfl rfl rfl rfl ⟨rfl, rfl, rfl, rfl, rfl⟩ rfl rfl rfl rfl rfl (by kernel_rfl) Tryz.func7 (by kernel_rfl)
    (of_decide_eq_true (by kernel_rfl)) (by unfold Func.isWrapper; first | (rw [if_pos (by decide +kernel)]; kernel_rfl) | (rw [if_neg (by decide +kernel)]; exact ⟨rfl, rfl⟩))
    (fun os started H enc _ F => by rw [OpenClaim.pre_eq_preRow]; exact lifted os started H enc F)

/-- No parameter wants a stand-in; the program's own looks are off: what the card asks. -/
theorem plain (f : FuncId) (fn : Func) (hf : Tryz.pinned.checked.prog.funcNamed "deltaworks/deltaworkslaw01.ValueOne" = some f) (hfn : Tryz.pinned.checked.prog.funcs[f]? = some fn) :
    true = Tryz.pinned.checked.prog.looks [] ∧ ∀ (j : Nat) t, fn.params[j]? = some t → Tryz.pinned.checked.prog.wantsStandIn t = false := by
  obtain rfl : f = 7 := Option.some.inj ((show Tryz.prog.funcNamed "deltaworks/deltaworkslaw01.ValueOne" = some 7 by kernel_rfl).symm.trans hf) |>.symm
  obtain rfl : fn = Tryz.f7 := (Option.some.inj (Tryz.func7.symm.trans hfn)).symm
  refine ⟨by kernel_rfl, fun j t ht => ?_⟩
  rw [Tryz.params7] at ht
  obtain rfl | rfl : t = 48 ∨ t = 4 := by simpa using Array.mem_of_getElem? ht
  · exact (show Tryz.prog.wantsStandIn 48 = false by kernel_rfl)
  · exact (show Tryz.prog.wantsStandIn 4 = false by kernel_rfl)

/-- ████ THE CARD ████ -/
theorem card : Rows.ValueOneCardSaid :=
  Claim7.holds_tied_plain_at .later [] _ _ _ _ said (fun _ h => by cases h) (by kernel_rfl) (fun _ h => by cases h) valueOne_row_tie rfl ⟨rfl, rfl⟩ (by kernel_rfl) rfl plain (by kernel_rfl)

end Go.Proofs.YtbiljalhabnhlaaGreatDoor.valueOne
