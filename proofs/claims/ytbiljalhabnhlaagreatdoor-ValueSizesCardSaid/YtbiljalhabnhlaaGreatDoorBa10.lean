/-
  Contracts of the functions of package value, of its specification and of what the statements of layer 1 share (values and types made of numbers, the chapter's examples), each for every argument: used by the proofs of layer 1's statements.
  Part 10 of 10.
-/
import Derived.Test.YtbiljalhabnhlaaGreatDoorBa03
import Derived.Test.YtbiljalhabnhlaaGreatDoorBa07
import Derived.Test.YtbiljalhabnhlaaGreatDoorBa09
import Derived.Laws.OwnMore
/-
  PLAIN MATHEMATICS: THE ORDER OF VALUES IS ONE.
-/
namespace Go.Proofs.YtbiljalhabnhlaaGreatDoor

theorem cmpQ_range (a b : Int) : cmpI a b = -1 ∨ cmpI a b = 0 ∨ cmpI a b = 1 := by unfold cmpI; split; simp; split <;> simp
theorem cmpQ_neg (a b : Int) : cmpI b a = -cmpI a b := by
  unfold cmpI
  by_cases h : a < b
  · simp [h, show ¬ b < a from by omega]
  · by_cases h' : b < a <;> simp [h, h']
theorem cmpQ_zero (a b : Int) : cmpI a b = 0 ↔ a = b := by
  unfold cmpI
  by_cases h : a < b
  · simp [h]; omega
  · by_cases h' : b < a
    · simp [h, h']; omega
    · simp [h, h']; omega
theorem cmpQ_le (a b : Int) : cmpI a b ≤ 0 ↔ a ≤ b := by
  unfold cmpI
  by_cases h : a < b
  · simp [h]; omega
  · by_cases h' : b < a
    · simp [h, h']
    · simp [h, h']; omega
theorem cmpQ_trans {a b c : Int} (h : cmpI a b ≤ 0) (h' : cmpI b c ≤ 0) : cmpI a c ≤ 0 := by
  rw [cmpQ_le] at *; omega

abbrev cb (a b : List UInt8) : Int := Lib.compareBytes a b
theorem cb_range : ∀ (a b : List UInt8), cb a b = -1 ∨ cb a b = 0 ∨ cb a b = 1
  | [], [] => by simp [Lib.compareBytes]
  | [], _ :: _ => by simp [Lib.compareBytes]
  | _ :: _, [] => by simp [Lib.compareBytes]
  | x :: a, y :: b => by
    unfold cb Lib.compareBytes
    split
    · simp
    · split
      · simp
      · exact cb_range a b
theorem cb_cons (x y : UInt8) (a b : List UInt8) : cb (x :: a) (y :: b) = if x < y then -1 else if y < x then 1 else cb a b := rfl
theorem u8_lt (x y : UInt8) : x < y ↔ x.toNat < y.toNat := UInt8.lt_iff_toNat_lt
theorem cb_neg : ∀ (a b : List UInt8), cb b a = -cb a b
  | [], [] => by simp [Lib.compareBytes]
  | [], _ :: _ => by simp [Lib.compareBytes]
  | _ :: _, [] => by simp [Lib.compareBytes]
  | x :: a, y :: b => by
    rw [cb_cons, cb_cons]
    have ih := cb_neg a b
    by_cases h : x < y
    · have : ¬ y < x := by rw [u8_lt] at *; omega
      simp [h, this]
    · by_cases h' : y < x
      · simp [h, h']
      · simp only [h, h', if_false]; exact ih
theorem cb_zero : ∀ (a b : List UInt8), cb a b = 0 ↔ a = b
  | [], [] => by simp [Lib.compareBytes]
  | [], _ :: _ => by simp [Lib.compareBytes]
  | _ :: _, [] => by simp [Lib.compareBytes]
  | x :: a, y :: b => by
    rw [cb_cons]
    have ih := cb_zero a b
    by_cases h : x < y
    · have : x ≠ y := by rintro rfl; rw [u8_lt] at h; omega
      simp [h, this]
    · by_cases h' : y < x
      · have : x ≠ y := by rintro rfl; rw [u8_lt] at h'; omega
        simp [h, h', this]
      · have : x = y := by rw [u8_lt] at *; exact UInt8.toNat_inj.1 (by omega)
        subst this
        simp only [h, if_false, List.cons.injEq, true_and]; exact ih
theorem cb_trans : ∀ (a b c : List UInt8), cb a b ≤ 0 → cb b c ≤ 0 → cb a c ≤ 0
  | [], _, [], _, _ => by simp [Lib.compareBytes]
  | [], _, _ :: _, _, _ => by simp [Lib.compareBytes]
  | _ :: _, [], _, h, _ => by simp [Lib.compareBytes] at h
  | _ :: _, _ :: _, [], _, h => by simp [Lib.compareBytes] at h
  | x :: a, y :: b, z :: c, h, h' => by
    rw [cb_cons] at *
    have ih := cb_trans a b c
    simp only [u8_lt] at *
    by_cases h1 : x.toNat < y.toNat
    · by_cases h2 : y.toNat < z.toNat
      · simp [show x.toNat < z.toNat from by omega]
      · by_cases h3 : z.toNat < y.toNat
        · simp [h2, h3] at h'
        · simp [show x.toNat < z.toNat from by omega]
    · by_cases h1' : y.toNat < x.toNat
      · simp [h1, h1'] at h
      · by_cases h2 : y.toNat < z.toNat
        · simp [show x.toNat < z.toNat from by omega]
        · by_cases h3 : z.toNat < y.toNat
          · simp [h2, h3] at h'
          · simp only [h1, h1', h2, h3, if_false] at h h'
            simp only [show ¬ x.toNat < z.toNat from by omega, show ¬ z.toNat < x.toNat from by omega, if_false]
            exact ih h h'

/-- The first that is not 0. -/
def lex (a b : Int) : Int := if a ≠ 0 then a else b
theorem lex_range {a b : Int} (h : a = -1 ∨ a = 0 ∨ a = 1) (h' : b = -1 ∨ b = 0 ∨ b = 1) : lex a b = -1 ∨ lex a b = 0 ∨ lex a b = 1 := by
  unfold lex; split <;> assumption
theorem lex_neg {a b a' b' : Int} (h : a' = -a) (h' : b' = -b) : lex a' b' = -lex a b := by
  unfold lex; subst h; subst h'
  by_cases h : a = 0
  · subst h; simp
  · have : -a ≠ 0 := by omega
    simp [h]
theorem lex_zero {a b : Int} : lex a b = 0 ↔ a = 0 ∧ b = 0 := by
  unfold lex
  by_cases h : a = 0 <;> simp [h]
/-- Of three in a round (a: x against y, b: y against z, c: z against x): two that don't go up make the third not go down. -/
def Tri (a b c : Int) : Prop := (a ≤ 0 → b ≤ 0 → 0 ≤ c) ∧ (c ≤ 0 → a ≤ 0 → 0 ≤ b) ∧ (b ≤ 0 → c ≤ 0 → 0 ≤ a)
theorem lex_tri {a b c a' b' c' : Int} (h : Tri a b c) (h' : Tri a' b' c') : Tri (lex a a') (lex b b') (lex c c') := by
  obtain ⟨h1, h2, h3⟩ := h
  obtain ⟨k1, k2, k3⟩ := h'
  unfold lex Tri
  by_cases ea : a = 0 <;> by_cases eb : b = 0 <;> by_cases ec : c = 0 <;> simp only [ea, eb, ec, ne_eq, not_true_eq_false, not_false_eq_true, if_true, if_false] <;> refine ⟨?_, ?_, ?_⟩ <;> intros <;> omega
theorem cmpQ_tri (x y z : Int) : Tri (cmpI x y) (cmpI y z) (cmpI z x) := by
  have e1 := cmpQ_neg x z
  have e2 := cmpQ_neg y z
  have e3 := cmpQ_neg x y
  refine ⟨fun h h' => ?_, fun h h' => ?_, fun h h' => ?_⟩
  · have := cmpQ_trans h h'; omega
  · have := cmpQ_trans h h'; omega
  · have := cmpQ_trans h h'; omega
theorem cb_tri (x y z : List UInt8) : Tri (cb x y) (cb y z) (cb z x) := by
  have e1 := cb_neg x z
  have e2 := cb_neg y z
  have e3 := cb_neg x y
  refine ⟨fun h h' => ?_, fun h h' => ?_, fun h h' => ?_⟩
  · have := cb_trans _ _ _ h h'; omega
  · have := cb_trans _ _ _ h h'; omega
  · have := cb_trans _ _ _ h h'; omega

/-- What a node alone says. -/
def own3 (x y : V) : Int := lex (cmpI x.k y.k) (lex (cmpI x.n y.n) (cb x.s.data.toList y.s.data.toList))
theorem ord_lex (x y : V) : x.ord y = lex (own3 x y) (V.ordL x.l y.l) := by
  cases x; cases y
  rw [V.ord]
  rfl
theorem ordL_lex (x y : V) (xs ys : List V) : V.ordL (x :: xs) (y :: ys) = lex (x.ord y) (V.ordL xs ys) := by
  simp only [V.ordL, lex]
theorem own3_range (x y : V) : own3 x y = -1 ∨ own3 x y = 0 ∨ own3 x y = 1 := lex_range (cmpQ_range _ _) (lex_range (cmpQ_range _ _) (cb_range _ _))
theorem own3_neg (x y : V) : own3 y x = -own3 x y := lex_neg (cmpQ_neg _ _) (lex_neg (cmpQ_neg _ _) (cb_neg _ _))
theorem own3_tri (x y z : V) : Tri (own3 x y) (own3 y z) (own3 z x) := lex_tri (cmpQ_tri _ _ _) (lex_tri (cmpQ_tri _ _ _) (cb_tri _ _ _))

mutual
theorem ord_range : ∀ (x y : V), x.ord y = -1 ∨ x.ord y = 0 ∨ x.ord y = 1
  | .mk k n s a c l, y => by rw [ord_lex]; exact lex_range (own3_range _ _) (ordL_range l y.l)
theorem ordL_range : ∀ (l m : List V), V.ordL l m = -1 ∨ V.ordL l m = 0 ∨ V.ordL l m = 1
  | [], [] => by simp [V.ordL]
  | [], _ :: _ => by simp [V.ordL]
  | _ :: _, [] => by simp [V.ordL]
  | x :: xs, y :: ys => by rw [ordL_lex]; exact lex_range (ord_range x y) (ordL_range xs ys)
end
mutual
theorem ord_neg : ∀ (x y : V), y.ord x = -x.ord y
  | .mk k n s a c l, y => by rw [ord_lex, ord_lex]; exact lex_neg (own3_neg _ _) (ordL_neg l y.l)
theorem ordL_neg : ∀ (l m : List V), V.ordL m l = -V.ordL l m
  | [], [] => by simp [V.ordL]
  | [], _ :: _ => by simp [V.ordL]
  | _ :: _, [] => by simp [V.ordL]
  | x :: xs, y :: ys => by rw [ordL_lex, ordL_lex]; exact lex_neg (ord_neg x y) (ordL_neg xs ys)
end
mutual
theorem ord_tri : ∀ (x y z : V), Tri (x.ord y) (y.ord z) (z.ord x)
  | .mk k n s a c l, y, z => by
    rw [ord_lex, ord_lex, ord_lex]
    exact lex_tri (own3_tri _ _ _) (ordL_tri l y.l z.l)
theorem ordL_tri : ∀ (l m q : List V), Tri (V.ordL l m) (V.ordL m q) (V.ordL q l)
  | [], [], [] => by simp [V.ordL, Tri]
  | [], [], _ :: _ => by simp [V.ordL, Tri]
  | [], _ :: _, [] => by simp [V.ordL, Tri]
  | [], y :: ys, z :: zs => by simp [V.ordL, Tri]
  | _ :: _, [], [] => by simp [V.ordL, Tri]
  | _ :: _, [], _ :: _ => by simp [V.ordL, Tri]
  | _ :: _, _ :: _, [] => by simp [V.ordL, Tri]
  | x :: xs, y :: ys, z :: zs => by
    rw [ordL_lex, ordL_lex, ordL_lex]
    exact lex_tri (ord_tri x y z) (ordL_tri xs ys zs)
end
theorem ord_trans (x y z : V) (h : x.ord y ≤ 0) (h' : y.ord z ≤ 0) : x.ord z ≤ 0 := by
  have := (ord_tri x y z).1 h h'
  have := ord_neg x z
  omega

mutual
theorem ord_same : ∀ (x y : V), x.ord y = 0 ↔ x.same y = true
  | .mk k n s a c l, .mk k' n' s' a' c' l' => by
    rw [ord_lex, lex_zero]
    simp only [own3, lex_zero, cmpQ_zero, cb_zero, V.k, V.n, V.s, V.l, V.same, Bool.and_eq_true, decide_eq_true_eq, ordL_same l l']
    rw [and_assoc, and_assoc]
    have : s.data.toList = s'.data.toList ↔ s.toList = s'.toList := by
      rw [ByteArray.toList_eq, ByteArray.toList_eq]
    rw [this]
theorem ordL_same : ∀ (l m : List V), V.ordL l m = 0 ↔ V.sameL l m = true
  | [], [] => by simp [V.ordL, V.sameL]
  | [], _ :: _ => by simp [V.ordL, V.sameL]
  | _ :: _, [] => by simp [V.ordL, V.sameL]
  | x :: xs, y :: ys => by
    rw [ordL_lex, lex_zero, ord_same x y, ordL_same xs ys]
    simp [V.sameL]
end

end Go.Proofs.YtbiljalhabnhlaaGreatDoor

/-
  ValueOne: the statement's function, at any two lists of numbers.
-/
namespace Go.Proofs.YtbiljalhabnhlaaGreatDoor
open Go.RowKit

mutual
theorem V.sh_up : ∀ (x : V) (d : Nat), x.sh d = true → x.sh (d + 1) = true
  | .mk k n s a c l, d, h => by
    cases d with
    | zero => simp [V.sh] at h
    | succ d =>
      simp [V.sh] at h ⊢
      exact ⟨h.1, V.shL_up l d h.2⟩
theorem V.shL_up : ∀ (l : List V) (d : Nat), V.shL l d = true → V.shL l (d + 1) = true
  | [], _, _ => by simp [V.shL]
  | x :: xs, d, h => by
    simp [V.shL] at h ⊢
    exact ⟨V.sh_up x d h.1, V.shL_up xs d h.2⟩
end

theorem Good.valid {t : T} {x : V} (h : Good t x) : x.valid = true := by
  obtain ⟨_, h1, h2⟩ := h
  have := V.sh_up _ _ (V.sh_up _ _ (V.sh_up _ _ h1))
  simp [V.valid, this]; omega

/-- Compare of two of three values. -/
def ordAt (vs : List V) (q : Nat) : Int := (vs.getD (q / 3) (.mk 0 0 ⟨#[]⟩ none 0 [])).ord (vs.getD (q % 3) (.mk 0 0 ⟨#[]⟩ none 0 []))

theorem ordAt_mk {vs : List V} {i k : Nat} {x y : V} (hi : vs[i]? = some x) (hk : vs[k]? = some y) (hk3 : k < 3) : ordAt vs (i * 3 + k) = x.ord y := by
  unfold ordAt
  rw [show (i * 3 + k) / 3 = i from by omega, show (i * 3 + k) % 3 = k from by omega]
  simp [List.getD, hi, hk]

/-- Three valid values in block g, and all that they are made of, below a block. -/
structure Trio (W : World) (g : Nat) (vs : List V) : Prop where
  blk : W.heap[g]? = some (.cells (cellsL vs).toArray 49 (0, 0))
  len : vs.length = 3
  hin : V.InL W W.heap.size vs
  valid : ∀ x ∈ vs, x.valid = true

theorem Trio.at {W w : World} {g : Nat} {vs : List V} (h : Trio W g vs) (hk : Kp W w) {j : Nat} (hj : j < 3) : ∃ x : V, vs[j]? = some x ∧ x.In w w.heap.size ∧ x.valid = true ∧
    w.cell? ⟨g, j * 4, none⟩ = some (.int .i64 x.k) ∧ w.cell? ⟨g, j * 4 + 1, none⟩ = some (.int .i64 x.n) ∧ w.cell? ⟨g, j * 4 + 2, none⟩ = some (.string x.s) ∧ w.cell? ⟨g, j * 4 + 3, none⟩ = some (.slice x.a x.l.length x.cap) := by
  have hl : j < vs.length := by rw [h.len]; exact hj
  obtain ⟨x, hx⟩ : ∃ x, vs[j]? = some x := ⟨vs[j], by simp [hl]⟩
  have hb := (hk.block _ (lt_of_block h.blk)).trans h.blk
  obtain ⟨c0, c1, c2, c3⟩ := cellsL_at vs j x hx
  refine ⟨x, hx, (V.InL_iff.1 h.hin j x hx).keep hk.size hk, h.valid x (List.mem_of_getElem? hx), cellOf hb (by simpa using c0), cellOf hb (by simpa using c1), cellOf hb (by simpa using c2), cellOf hb (by simpa using c3)⟩

/-- The answers of the first q comparisons lie in block ob. -/
def Ords (w : World) (ob : Nat) (vs : List V) (q : Nat) : Prop := ∃ os : Array Value, w.heap[ob]? = some (.cells os 54 (0, 0)) ∧ os.size = 9 ∧ ∀ r, r < q → os[r]? = some (.int .i64 (ordAt vs r))

theorem Ords.step {w w' : World} {ob q : Nat} {vs : List V} {n : Int} (h : Ords w ob vs q) (hk : w'.heap[ob]? = w.heap[ob]?) (hq : q < 9) (hn : ordAt vs q = n) : Ords (w'.setCell ⟨ob, q, none⟩ (.int .i64 n)) ob vs (q + 1) := by
  obtain ⟨os, hb, hs, ho⟩ := h
  refine ⟨os.setIfInBounds q (.int .i64 n), heap_set (hk.trans hb), by simp [hs], fun r hr => ?_⟩
  by_cases e : r = q
  · subst e
    rw [Array.getElem?_setIfInBounds_self_of_lt (by omega), hn]
  · rw [Array.getElem?_setIfInBounds_ne (by omega)]
    exact ho r (by omega)

theorem Ords.cell {w : World} {ob q r : Nat} {vs : List V} (h : Ords w ob vs q) (hr : r < q) : w.cell? ⟨ob, r, none⟩ = some (.int .i64 (ordAt vs r)) := by
  obtain ⟨os, hb, hs, ho⟩ := h
  exact cellOf hb (ho r hr)
theorem Ords.there {w : World} {ob q r : Nat} {vs : List V} (h : Ords w ob vs q) (hr : r < 9) : ∃ u, w.cell? ⟨ob, r, none⟩ = some u ∧ w.frozen? ⟨ob, r, none⟩ = false := by
  obtain ⟨os, hb, hs, ho⟩ := h
  exact ⟨os[r]'(by omega), cellOf hb (by simp), freeOf hb⟩
theorem Ords.kp {w w' : World} {ob q : Nat} {vs : List V} (h : Ords w ob vs q) (hk : Kp w w') : Ords w' ob vs q := by
  obtain ⟨os, hb, hs, ho⟩ := h
  exact ⟨os, (hk.block _ (lt_of_block hb)).trans hb, hs, ho⟩

set_option maxRecDepth 100000 in
set_option maxHeartbeats 8000000 in
theorem one_false (a : Option Addr) (cap : Nat) (l : List Int) (a' : Option Addr) (cap' : Nat) (l' : List Int) (w : World) (hin : Ints w w.heap.size a cap l) (_hin' : Ints w w.heap.size a' cap' l') (tb : Tb w w.heap.size) :
    Calls Tryz.prog 7 #[.slice a l.length cap, .slice a' l'.length cap', .bool false] w fun e w' => e = .returned (.bool true) ∧ Kp w w' := by
  have T1 := three_any a cap l w hin
  have E := fun w1 (h : Kp w w1) => valued_any w1 (tb.keep h h.size)
  have HT1 := Lib.hid T1
  have HE := Lib.hid E
  clear T1 E hin _hin' tb
  go_enter Tryz.func7, Tryz.ntmps7
  go_wp2_with fail
  refine HT1.out.mono ?_
  rintro e w1 ⟨t, x, y, z, rfl, hti, hsh, hrk, hvi, hvf, hgx, hgy, hgz, hk⟩
  obtain ⟨xk, xn, xs, xa, xc, xl⟩ := x
  obtain ⟨yk, yn, ys, ya, yc, yl⟩ := y
  obtain ⟨zk, zn, zs, za, zc, zl⟩ := z
  cases t with
  | mk tk ta tc tl =>
  rw [T.val_mk]
  simp only [cellsL, V.cells4, List.flatMap_cons, List.flatMap_nil, List.cons_append, List.nil_append, List.append_nil, V.k, V.n, V.s, V.a, V.l, V.cap]
  have HVI := Lib.hid hvi
  have HX := Lib.hid hgx.valid
  have HY := Lib.hid hgy.valid
  have HZ := Lib.hid hgz.valid
  have HK := Lib.hid hk
  clear hti hvi hvf hgx hgy hgz hk hsh hrk
  go_wp2_with fail
  have hkW := kk HK.out (kk (ka w1 (.cells #[.int .i64 tk, .slice ta tl.length tc] 27)) (ka _ (.cells #[.int .i64 xk, .int .i64 xn, .string xs, .slice xa xl.length xc, .int .i64 yk, .int .i64 yn, .string ys, .slice ya yl.length yc, .int .i64 zk, .int .i64 zn, .string zs, .slice za zl.length zc] 49)))
  have hka := kk (ka w1 (.cells #[.int .i64 tk, .slice ta tl.length tc] 27)) (ka _ (.cells #[.int .i64 xk, .int .i64 xn, .string xs, .slice xa xl.length xc, .int .i64 yk, .int .i64 yn, .string ys, .slice ya yl.length yc, .int .i64 zk, .int .i64 zn, .string zs, .slice za zl.length zc] 49))
  have htr : Trio ((w1.alloc (.cells #[.int .i64 tk, .slice ta tl.length tc] 27)).alloc (.cells #[.int .i64 xk, .int .i64 xn, .string xs, .slice xa xl.length xc, .int .i64 yk, .int .i64 yn, .string ys, .slice ya yl.length yc, .int .i64 zk, .int .i64 zn, .string zs, .slice za zl.length zc] 49)) (w1.heap.size + 1) [.mk xk xn xs xa xc xl, .mk yk yn ys ya yc yl, .mk zk zn zs za zc zl] :=
    ⟨blockHere (by simp), rfl, HVI.out.keep hka.size hka, fun v hv => by simp at hv; rcases hv with rfl | rfl | rfl; exact HX.out; exact HY.out; exact HZ.out⟩
  generalize [V.mk xk xn xs xa xc xl, V.mk yk yn ys ya yc yl, V.mk zk zn zs za zc zl] = vs at htr
  have hsz : ((w1.alloc (.cells #[.int .i64 tk, .slice ta tl.length tc] 27)).alloc (.cells #[.int .i64 xk, .int .i64 xn, .string xs, .slice xa xl.length xc, .int .i64 yk, .int .i64 yn, .string ys, .slice ya yl.length yc, .int .i64 zk, .int .i64 zn, .string zs, .slice za zl.length zc] 49)).heap.size = w1.heap.size + 1 + 1 := by simp
  clear HVI HX HY HZ HK hka
  generalize (w1.alloc (.cells #[.int .i64 tk, .slice ta tl.length tc] 27)).alloc (.cells #[.int .i64 xk, .int .i64 xn, .string xs, .slice xa xl.length xc, .int .i64 yk, .int .i64 yn, .string ys, .slice ya yl.length yc, .int .i64 zk, .int .i64 zn, .string zs, .slice za zl.length zc] 49) = W0 at *
  generalize w1.heap.size + 1 = g at *
  have hord : Ords (W0.alloc (.cells #[.int .i64 0, .int .i64 0, .int .i64 0, .int .i64 0, .int .i64 0, .int .i64 0, .int .i64 0, .int .i64 0, .int .i64 0] 54)) (g + 1) vs 0 := ⟨_, blockHere (by omega), rfl, fun r hr => by omega⟩
  have HKW := Lib.hid hkW
  have HTR := Lib.hid htr
  have HO := Lib.hid hord
  have HSZ := Lib.hid hsz
  have hgW : g < W0.heap.size := by omega
  have hgW2 : W0.heap.size ≤ g + 1 := by omega
  clear hkW htr hord hsz
  go_loopw [12] (fun i wr => ∃ (j : Nat), j ≤ 3 ∧ i = .int .i64 j ∧ Ords wr (g + 1) vs (j * 3) ∧ Kp W0 wr) (fun i _ => 3 - (intOf i).toNat)
  case atStart => exact ⟨0, by omega, rfl, HO.out, ka _ _⟩
  case round =>
    obtain ⟨j, hj, rfl, hor, hk⟩ := hrel
    obtain ⟨wo, rfl⟩ : ∃ wo : World, wo = wr := ⟨_, rfl⟩
    by_cases hlt : j < 3
    · have hlt' : (j : Int) < 3 := by omega
      have HOR := Lib.hid hor
      have HK := Lib.hid hk
      clear hor hk
      go_wp2_with fail
      go_loopw [13] (fun k wr => ∃ (m : Nat), m ≤ 3 ∧ k = .int .i64 m ∧ Ords wr (g + 1) vs (j * 3 + m) ∧ Kp W0 wr) (fun k _ => 3 - (intOf k).toNat)
      case atStart => exact ⟨0, by omega, rfl, HOR.out, HK.out⟩
      case round =>
        obtain ⟨m, hm, rfl, hor, hk⟩ := hrel
        by_cases hml : m < 3
        · have hml' : (m : Int) < 3 := by omega
          have g0 : (0 : Int) ≤ (j : Int) := by omega
          have g1 : (0 : Int) ≤ (m : Int) := by omega
          obtain ⟨x, hx, hxi, hxv, c0, c1, c2, c3⟩ := HTR.out.at hk hlt
          obtain ⟨y, hy, hyi, hyv, d0, d1, d2, d3⟩ := HTR.out.at hk hml
          have hat := ordAt_mk hx hy hml
          have hrg := ord_range x y
          have hsm := ord_same x y
          have C := fun (w2 : World) (h : Kp wr w2) => compare_prog x y w2 (hxi.keep h.size h) (hyi.keep h.size h)
          have S := fun (w2 : World) (h : Kp wr w2) => sameV x.rank x y w2 (Nat.le_refl _) (hxi.keep h.size h) (hyi.keep h.size h)
          rw [show cmpV x y = .tuple #[.int .i64 (x.ord y), .int .i64 0] from by simp [cmpV, hxv, hyv]] at C
          rw [show x.same y = (x.ord y == 0) from by rw [Bool.eq_iff_iff, beq_iff_eq]; exact hsm.symm] at S
          clear hsm hxv hyv hx hy hxi hyi
          obtain ⟨xk, xn, xs, xa, xc, xl⟩ := x
          obtain ⟨yk, yn, ys, ya, yc, yl⟩ := y
          simp only [V.val_mk, V.k, V.n, V.s, V.a, V.l, V.cap] at C S c0 c1 c2 c3 d0 d1 d2 d3
          generalize (V.mk xk xn xs xa xc xl).ord (V.mk yk yn ys ya yc yl) = n at *
          have L := fun w2 => lies_any n (-1) 1 w2
          rw [show (decide ((-1 : Int) ≤ n) && decide (n ≤ 1)) = true from by rcases hrg with rfl | rfl | rfl <;> rfl] at L
          obtain ⟨u, hu, hfu⟩ := hor.there (r := j * 3 + m) (by omega)
          have HC := Lib.hid C
          have HS := Lib.hid S
          have HL := Lib.hid L
          have HOR2 := Lib.hid hor
          have HK2 := Lib.hid hk
          have HAT := Lib.hid hat
          clear C S L hor hk hat hrg
          go_wp2_with fail
          go_region_held3 (fun w' => w'.cell? ⟨g, j * 4, none⟩ = some (.int .i64 xk) ∧ w'.cell? ⟨g, j * 4 + 1, none⟩ = some (.int .i64 xn) ∧ w'.cell? ⟨g, j * 4 + 2, none⟩ = some (.string xs) ∧ w'.cell? ⟨g, j * 4 + 3, none⟩ = some (.slice xa xl.length xc) ∧
              w'.cell? ⟨g, m * 4, none⟩ = some (.int .i64 yk) ∧ w'.cell? ⟨g, m * 4 + 1, none⟩ = some (.int .i64 yn) ∧ w'.cell? ⟨g, m * 4 + 2, none⟩ = some (.string ys) ∧ w'.cell? ⟨g, m * 4 + 3, none⟩ = some (.slice ya yl.length yc) ∧ Kp wr w')
            (first
              | exact ⟨c0, c1, c2, c3, d0, d1, d2, d3, kpD⟩
              | (go_split_ands; exact ⟨kc hkc ‹_›, kc hkc ‹_›, kc hkc ‹_›, kc hkc ‹_›, kc hkc ‹_›, kc hkc ‹_›, kc hkc ‹_›, kc hkc ‹_›, kk ‹_› hkc⟩))
            (first | (go_at_call 25; refine (HC.out _ (by first | assumption | exact kpD | (go_split_ands; assumption))).mono ?_; rintro e w2 ⟨rfl, hkc⟩))
          go_split_ands
          have hk2 : Kp wr w2 := by assumption
          replace c0 := kc hk2 c0
          replace c1 := kc hk2 c1
          replace c2 := kc hk2 c2
          replace c3 := kc hk2 c3
          replace d0 := kc hk2 d0
          replace d1 := kc hk2 d1
          replace d2 := kc hk2 d2
          replace d3 := kc hk2 d3
          have HKR := Lib.hid hk2
          clear hk2 hu hfu
          go_wp2_with fail
          go_region_held3 (fun w' => w'.cell? ⟨g, j * 4, none⟩ = some (.int .i64 xk) ∧ w'.cell? ⟨g, j * 4 + 1, none⟩ = some (.int .i64 xn) ∧ w'.cell? ⟨g, j * 4 + 2, none⟩ = some (.string xs) ∧ w'.cell? ⟨g, j * 4 + 3, none⟩ = some (.slice xa xl.length xc) ∧
              w'.cell? ⟨g, m * 4, none⟩ = some (.int .i64 yk) ∧ w'.cell? ⟨g, m * 4 + 1, none⟩ = some (.int .i64 yn) ∧ w'.cell? ⟨g, m * 4 + 2, none⟩ = some (.string ys) ∧ w'.cell? ⟨g, m * 4 + 3, none⟩ = some (.slice ya yl.length yc) ∧ Kp w2 w')
            (first
              | exact ⟨c0, c1, c2, c3, d0, d1, d2, d3, kpD⟩
              | (go_split_ands; exact ⟨kc hkc ‹_›, kc hkc ‹_›, kc hkc ‹_›, kc hkc ‹_›, kc hkc ‹_›, kc hkc ‹_›, kc hkc ‹_›, kc hkc ‹_›, kk ‹_› hkc⟩)
              | (go_split_ands; exact ⟨‹_›, ‹_›, ‹_›, ‹_›, ‹_›, ‹_›, ‹_›, ‹_›, ‹_›⟩))
            (first
              | (go_at_call 42; refine (HL.out _).mono ?_; rintro e w3 ⟨rfl, rfl⟩)
              | (go_at_call 23; refine (HS.out _ (kk HKR.out (by first | assumption | exact kpD | (go_split_ands; assumption)))).mono ?_; rintro e w3 ⟨rfl, hkc⟩))
          go_split_ands
          rename_i hk3
          have hor3 := HOR2.out.kp (kk HKR.out hk3)
          obtain ⟨u, hu, hfu⟩ := hor3.there (r := j * 3 + m) (by omega)
          have HOR3 := Lib.hid hor3
          have HK3 := Lib.hid (kk HK2.out (kk HKR.out hk3))
          clear hor3 hk3
          go_wp2_with fail
          go_roundw
          case rel => exact ⟨m + 1, by omega, by first | go_num | simp, HOR3.out.step rfl (by omega) HAT.out, put1_kp HK3.out (by omega)⟩
          case measure => simp [intOf]; omega
        · have hm3 : m = 3 := by omega
          subst hm3
          have HOR2 := Lib.hid hor
          have HK2 := Lib.hid hk
          clear hor hk
          go_wp2_with fail
          go_roundw
          case rel => exact ⟨j + 1, by omega, by first | go_num | simp, by rw [show (j + 1) * 3 = j * 3 + 3 from by omega]; exact HOR2.out, HK2.out⟩
          case measure => simp [intOf]; omega
    · have hj3 : j = 3 := by omega
      subst hj3
      have HOR := Lib.hid hor
      have HK := Lib.hid (kk HKW.out hk)
      clear hor hk HO
      go_wp2_with fail
      go_loopw [16] (fun i wr => ∃ (j : Nat), j ≤ 3 ∧ i = .int .i64 j ∧ Ords wr (g + 1) vs (3 * 3) ∧ Kp w wr) (fun i _ => 3 - (intOf i).toNat)
      case atStart => exact ⟨0, by omega, rfl, HOR.out, HK.out⟩
      case round =>
        obtain ⟨j, hj, rfl, hor, hk⟩ := hrel
        obtain ⟨wp, rfl⟩ : ∃ wp : World, wp = wr := ⟨_, rfl⟩
        have HOR1 := Lib.hid hor
        have HK1 := Lib.hid hk
        clear hor hk
        by_cases hlt : j < 3
        · have hlt' : (j : Int) < 3 := by omega
          go_wp2_with fail
          go_loopw [17] (fun i wr => ∃ (m : Nat), m ≤ 3 ∧ i = .int .i64 m ∧ Ords wr (g + 1) vs (3 * 3) ∧ Kp w wr) (fun i _ => 3 - (intOf i).toNat)
          case atStart => exact ⟨0, by omega, rfl, HOR1.out, HK1.out⟩
          case round =>
            obtain ⟨m, hm, rfl, hor, hk⟩ := hrel
            obtain ⟨wq, rfl⟩ : ∃ wq : World, wq = wr := ⟨_, rfl⟩
            have HOR2 := Lib.hid hor
            have HK2 := Lib.hid hk
            clear hor hk
            by_cases hml : m < 3
            · have hml' : (m : Int) < 3 := by omega
              go_wp2_with fail
              go_loopw [18] (fun i wr => ∃ (q : Nat), q ≤ 3 ∧ i = .int .i64 q ∧ Ords wr (g + 1) vs (3 * 3) ∧ Kp w wr) (fun i _ => 3 - (intOf i).toNat)
              case atStart => exact ⟨0, by omega, rfl, HOR2.out, HK2.out⟩
              case round =>
                obtain ⟨q, hq, rfl, hor, hk⟩ := hrel
                by_cases hql : q < 3
                · have hql' : (q : Int) < 3 := by omega
                  have g0 : (0 : Int) ≤ (j : Int) := by omega
                  have g1 : (0 : Int) ≤ (m : Int) := by omega
                  have g2 : (0 : Int) ≤ (q : Int) := by omega
                  have c1 := hor.cell (r := j * 3 + m) (by omega)
                  have c2 := hor.cell (r := m * 3 + j) (by omega)
                  have c3 := hor.cell (r := m * 3 + q) (by omega)
                  have c4 := hor.cell (r := j * 3 + q) (by omega)
                  obtain ⟨x, hx, -⟩ := HTR.out.at (Below.refl _ _) hlt
                  obtain ⟨y, hy, -⟩ := HTR.out.at (Below.refl _ _) hml
                  obtain ⟨z, hz, -⟩ := HTR.out.at (Below.refl _ _) hql
                  rw [ordAt_mk hx hy hml] at c1
                  rw [ordAt_mk hy hx hlt, ord_neg x y] at c2
                  rw [ordAt_mk hy hz hql] at c3
                  rw [ordAt_mk hx hz hql] at c4
                  have r1 : -1 ≤ x.ord y ∧ x.ord y ≤ 1 := by rcases ord_range x y with h | h | h <;> omega
                  have r3 : -1 ≤ y.ord z ∧ y.ord z ≤ 1 := by rcases ord_range y z with h | h | h <;> omega
                  have r4 : -1 ≤ x.ord z ∧ x.ord z ≤ 1 := by rcases ord_range x z with h | h | h <;> omega
                  have ht := ord_trans x y z
                  clear hx hy hz
                  generalize x.ord y = n1 at *
                  generalize y.ord z = n3 at *
                  generalize x.ord z = n4 at *
                  have HOR3 := Lib.hid hor
                  have HK3 := Lib.hid hk
                  clear hor hk
                  obtain ⟨r1a, r1b⟩ := r1
                  by_cases h1 : n1 ≤ 0
                  · have e1 : decide (n1 ≤ 0) = true := by simpa using h1
                    by_cases h3 : n3 ≤ 0
                    · have e3 : decide (n3 ≤ 0) = true := by simpa using h3
                      have h4 := ht h1 h3
                      have e4 : decide (0 < n4) = false := by simp; omega
                      clear ht h1 h3 r3 r4
                      go_wp2_with fail
                      go_quiet (fail)
                      go_wp2_with fail
                      go_roundw
                      case rel => exact ⟨q + 1, by omega, by first | go_num | simp, HOR3.out.kp (by first | exact kpDN | exact kpD), kk HK3.out (by first | exact kpDN | exact kpD)⟩
                      case measure => simp [intOf]; omega
                    · have e3 : decide (n3 ≤ 0) = false := by simp; omega
                      clear ht h1 h3 r3 r4 c4
                      go_wp2_with fail
                      go_quiet (fail)
                      go_wp2_with fail
                      go_roundw
                      case rel => exact ⟨q + 1, by omega, by first | go_num | simp, HOR3.out.kp (by first | exact kpDN | exact kpD), kk HK3.out (by first | exact kpDN | exact kpD)⟩
                      case measure => simp [intOf]; omega
                  · have e1 : decide (n1 ≤ 0) = false := by simp; omega
                    clear ht h1 r3 r4 c3 c4
                    go_wp2_with fail
                    go_quiet (fail)
                    go_wp2_with fail
                    go_roundw
                    case rel => exact ⟨q + 1, by omega, by first | go_num | simp, HOR3.out.kp (by first | exact kpDN | exact kpD), kk HK3.out (by first | exact kpDN | exact kpD)⟩
                    case measure => simp [intOf]; omega
                · have hq3 : q = 3 := by omega
                  subst hq3
                  have HOR3 := Lib.hid hor
                  have HK3 := Lib.hid hk
                  clear hor hk
                  go_wp2_with fail
                  go_roundw
                  case rel => exact ⟨m + 1, by omega, by first | go_num | simp, HOR3.out, HK3.out⟩
                  case measure => simp [intOf]; omega
            · have hm3 : m = 3 := by omega
              subst hm3
              go_wp2_with fail
              go_roundw
              case rel => exact ⟨j + 1, by omega, by first | go_num | simp, HOR2.out, HK2.out⟩
              case measure => simp [intOf]; omega
        · have hj3 : j = 3 := by omega
          subst hj3
          go_wp2_with fail
          refine (HE.out _ HK1.out).mono ?_
          rintro e w7 ⟨rfl, hk⟩
          have HK7 := Lib.hid (kk HK1.out hk)
          clear hk
          go_wp2_with fail
          go_ret
          exact ⟨rfl, HK7.out⟩

end Go.Proofs.YtbiljalhabnhlaaGreatDoor

/-
  Least, THE PROGRAM's AND THE SPECIFICATION's, AT ANY TYPE.
-/
namespace Go.Proofs.YtbiljalhabnhlaaGreatDoor
open Go.RowKit

/-- What Least makes: the least value, or none. -/
def lstV (t : T) : V := if t.valid then t.lst else .mk 0 0 ⟨#[]⟩ none 0 []

set_option maxRecDepth 100000 in
set_option maxHeartbeats 4000000 in
theorem leastTopP_no (k : Int) (a : Option Addr) (cap : Nat) (l : List T) (w : World) (hin : (T.mk k a cap l).In w w.heap.size) (hv : (T.mk k a cap l).valid = false) :
    Calls Tryz.prog 15 #[.agg #[.int .i64 k, .slice a l.length cap]] w (Makes2 w (lstV (T.mk k a cap l)) 1) := by
  have C := fun (w1 : World) (h : Kp w w1) => typeV k a cap l w1 (hin.keep h.size h)
  rw [badT_arg, hv] at C
  have y0 : lstV (T.mk k a cap l) = .mk 0 0 ⟨#[]⟩ none 0 [] := by simp [lstV, hv]
  rw [y0]
  have HC := Lib.hid C
  clear C hin hv y0
  go_enter Tryz.func15, Tryz.ntmps15
  go_wp2_with fail
  refine (HC.out _ (kk (ka _ _) (ka _ _))).mono ?_
  rintro e w1 ⟨rfl, hk1⟩
  have hz1 := hk1.size
  simp at hz1
  have hblk : w1.heap[w.heap.size + 1]? = some (.cells zero4 24 (0, 0)) := (hk1.block _ (by simp)).trans (blockHere (by simp))
  have hbox : w1.heap[w.heap.size]? = some (.cells #[.int .i64 k, .slice a l.length cap] 27 (0, 0)) := (hk1.block _ (by simp; omega)).trans (blockPast (blockHere rfl))
  have b0 : w1.cell? ⟨w.heap.size, 0, none⟩ = some (.int .i64 k) := cellOf hbox rfl
  have b1 : w1.cell? ⟨w.heap.size, 1, none⟩ = some (.slice a l.length cap) := cellOf hbox rfl
  obtain ⟨c0, c1, c2, c3, f0, f1, f2, f3⟩ := cell4 hblk
  have HB := Lib.hid hblk
  have HK1 := Lib.hid (kk (kk (ka _ _) (ka _ _)) hk1)
  have HZ1 := Lib.hid hz1
  clear hk1 hblk hbox
  go_wp2_with fail
  obtain ⟨e0, e1, e2, e3, -⟩ := cell4 (put4_block (v0 := .int .i64 0) (v1 := .int .i64 0) (v2 := .string ⟨#[]⟩) (v3 := .slice none 0 0) HB.out)
  refine bodyPost_ret (v := .tuple #[.agg #[.int .i64 0, .int .i64 0, .string ⟨#[]⟩, .slice none 0 0], .int .i64 1]) (by simp [results, Tryz.results15, go_sem, e0, e1, e2, e3, argI]) rfl ?_
  exact ⟨.mk 0 0 ⟨#[]⟩ none 0 [], rfl, inLeaf _ _ _ (by unfold I64; omega) (by unfold I64; omega) (by decide), V.foot_leaf _ _ _ _ _, V.same_refl _, put4_kp HK1.out (by omega)⟩

set_option maxRecDepth 100000 in
set_option maxHeartbeats 4000000 in
theorem leastTopP_yes (k : Int) (a : Option Addr) (cap : Nat) (l : List T) (w : World) (hin : (T.mk k a cap l).In w w.heap.size) (hv : (T.mk k a cap l).valid = true) :
    Calls Tryz.prog 15 #[.agg #[.int .i64 k, .slice a l.length cap]] w (Makes2 w (lstV (T.mk k a cap l)) 0) := by
  have C := fun (w1 : World) (h : Kp w w1) => typeV k a cap l w1 (hin.keep h.size h)
  rw [badT_arg, hv] at C
  have y0 : lstV (T.mk k a cap l) = (T.mk k a cap l).lst := by simp [lstV, hv]
  rw [y0]
  have hsh : (T.mk k a cap l).sh 6 = true := by simp [T.valid] at hv; exact hv.1
  have D := fun (w1 : World) (h : Kp w w1) => leastP _ (T.mk k a cap l) 6 w1 (Nat.le_refl _) hsh (hin.keep h.size h)
  dsimp only [T.k, T.a, T.l, T.cap] at D
  generalize (T.mk k a cap l).lst = y at D ⊢
  have HC := Lib.hid C
  have HD := Lib.hid D
  clear C D hin hv y0 hsh
  go_enter Tryz.func15, Tryz.ntmps15
  go_wp2_with fail
  refine (HC.out _ (kk (ka _ _) (ka _ _))).mono ?_
  rintro e w1 ⟨rfl, hk1⟩
  have hz1 := hk1.size
  simp at hz1
  have hblk : w1.heap[w.heap.size + 1]? = some (.cells zero4 24 (0, 0)) := (hk1.block _ (by simp)).trans (blockHere (by simp))
  have hbox : w1.heap[w.heap.size]? = some (.cells #[.int .i64 k, .slice a l.length cap] 27 (0, 0)) := (hk1.block _ (by simp; omega)).trans (blockPast (blockHere rfl))
  have b0 : w1.cell? ⟨w.heap.size, 0, none⟩ = some (.int .i64 k) := cellOf hbox rfl
  have b1 : w1.cell? ⟨w.heap.size, 1, none⟩ = some (.slice a l.length cap) := cellOf hbox rfl
  obtain ⟨c0, c1, c2, c3, f0, f1, f2, f3⟩ := cell4 hblk
  have HB := Lib.hid hblk
  have HK1 := Lib.hid (kk (kk (ka _ _) (ka _ _)) hk1)
  have HZ1 := Lib.hid hz1
  clear hk1 hblk hbox
  go_wp2_with fail
  refine (HD.out _ HK1.out).mono ?_
  rintro e w2 ⟨z, rfl, hzi, hzf, hzs, hk2⟩
  have hblk := (hk2.block _ (lt_of_block HB.out)).trans HB.out
  obtain ⟨d0, d1, d2, d3, g0, g1, g2, g3⟩ := cell4 hblk
  have HB2 := Lib.hid hblk
  have HK2 := Lib.hid (kk HK1.out hk2)
  have hzf2 : z.foot (fun b => w.heap.size + 2 ≤ b) := V.foot.mono (fun b hb => by have := HZ1.out; omega) z hzf
  have HZI := Lib.hid hzi
  have HZF := Lib.hid hzf2
  have HZS := Lib.hid hzs
  clear hk2 hblk hzi hzf hzf2 hzs c0 c1 c2 c3 f0 f1 f2 f3
  cases z with
  | mk zk zn zs za zc zl =>
  simp only [V.val_mk]
  go_wp2_with fail
  obtain ⟨e0, e1, e2, e3, -⟩ := cell4 (put4_block (v0 := .int .i64 zk) (v1 := .int .i64 zn) (v2 := .string zs) (v3 := .slice za zl.length zc) HB2.out)
  refine bodyPost_ret (v := .tuple #[.agg #[.int .i64 zk, .int .i64 zn, .string zs, .slice za zl.length zc], .int .i64 0]) (by simp [results, Tryz.results15, go_sem, e0, e1, e2, e3]) rfl ?_
  have hS : (put4 w2 (w.heap.size + 1) (.int .i64 zk) (.int .i64 zn) (.string zs) (.slice za zl.length zc)).heap.size = w2.heap.size := by simp [World.setCell]
  refine ⟨.mk zk zn zs za zc zl, rfl, ?_, V.foot.mono (fun b hb => by omega) _ HZF.out, HZS.out, put4_kp HK2.out (by omega)⟩
  rw [hS]
  exact V.In.move (Nat.le_refl _) (fun b _ hb => put4_other (by omega)) _ HZI.out HZF.out

theorem leastTopP (k : Int) (a : Option Addr) (cap : Nat) (l : List T) (w : World) (hin : (T.mk k a cap l).In w w.heap.size) :
    Calls Tryz.prog 15 #[.agg #[.int .i64 k, .slice a l.length cap]] w (Makes2 w (lstV (T.mk k a cap l)) (argI (T.mk k a cap l).valid)) := by
  cases hv : (T.mk k a cap l).valid with
  | false => exact leastTopP_no k a cap l w hin hv
  | true => exact leastTopP_yes k a cap l w hin hv

set_option maxRecDepth 100000 in
set_option maxHeartbeats 4000000 in
theorem leastTopR_no (k : Int) (a : Option Addr) (cap : Nat) (l : List T) (w : World) (hin : (T.mk k a cap l).In w w.heap.size) (hv : (T.mk k a cap l).valid = false) :
    Calls Tryz.prog 16 #[.agg #[.int .i64 k, .slice a l.length cap]] w (Makes2 w (lstV (T.mk k a cap l)) 1) := by
  have C := fun (w1 : World) (h : Kp w w1) => validT_ref k a cap l w1 (hin.keep h.size h)
  rw [hv] at C
  have y0 : lstV (T.mk k a cap l) = .mk 0 0 ⟨#[]⟩ none 0 [] := by simp [lstV, hv]
  rw [y0]
  have HC := Lib.hid C
  clear C hin hv y0
  go_enter Tryz.func16, Tryz.ntmps16
  go_wp2_with fail
  refine (HC.out _ (kk (ka _ _) (ka _ _))).mono ?_
  rintro e w1 ⟨rfl, hk1⟩
  have hz1 := hk1.size
  simp at hz1
  have hblk : w1.heap[w.heap.size + 1]? = some (.cells zero4 24 (0, 0)) := (hk1.block _ (by simp)).trans (blockHere (by simp))
  have hbox : w1.heap[w.heap.size]? = some (.cells #[.int .i64 k, .slice a l.length cap] 27 (0, 0)) := (hk1.block _ (by simp; omega)).trans (blockPast (blockHere rfl))
  have b0 : w1.cell? ⟨w.heap.size, 0, none⟩ = some (.int .i64 k) := cellOf hbox rfl
  have b1 : w1.cell? ⟨w.heap.size, 1, none⟩ = some (.slice a l.length cap) := cellOf hbox rfl
  obtain ⟨c0, c1, c2, c3, f0, f1, f2, f3⟩ := cell4 hblk
  have HB := Lib.hid hblk
  have HK1 := Lib.hid (kk (kk (ka _ _) (ka _ _)) hk1)
  have HZ1 := Lib.hid hz1
  clear hk1 hblk hbox
  go_wp2_with fail
  obtain ⟨e0, e1, e2, e3, -⟩ := cell4 (put4_block (v0 := .int .i64 0) (v1 := .int .i64 0) (v2 := .string ⟨#[]⟩) (v3 := .slice none 0 0) HB.out)
  refine bodyPost_ret (v := .tuple #[.agg #[.int .i64 0, .int .i64 0, .string ⟨#[]⟩, .slice none 0 0], .int .i64 1]) (by simp [results, Tryz.results16, go_sem, e0, e1, e2, e3]) rfl ?_
  exact ⟨.mk 0 0 ⟨#[]⟩ none 0 [], rfl, inLeaf _ _ _ (by unfold I64; omega) (by unfold I64; omega) (by decide), V.foot_leaf _ _ _ _ _, V.same_refl _, put4_kp HK1.out (by omega)⟩

set_option maxRecDepth 100000 in
set_option maxHeartbeats 4000000 in
theorem leastTopR_yes (k : Int) (a : Option Addr) (cap : Nat) (l : List T) (w : World) (hin : (T.mk k a cap l).In w w.heap.size) (hv : (T.mk k a cap l).valid = true) :
    Calls Tryz.prog 16 #[.agg #[.int .i64 k, .slice a l.length cap]] w (Makes2 w (lstV (T.mk k a cap l)) 0) := by
  have C := fun (w1 : World) (h : Kp w w1) => validT_ref k a cap l w1 (hin.keep h.size h)
  rw [hv] at C
  have y0 : lstV (T.mk k a cap l) = (T.mk k a cap l).lst := by simp [lstV, hv]
  rw [y0]
  have hsh : (T.mk k a cap l).sh 6 = true := by simp [T.valid] at hv; exact hv.1
  have D := fun (w1 : World) (h : Kp w w1) => leastR _ (T.mk k a cap l) 6 w1 (Nat.le_refl _) hsh (hin.keep h.size h)
  dsimp only [T.k, T.a, T.l, T.cap] at D
  generalize (T.mk k a cap l).lst = y at D ⊢
  have HC := Lib.hid C
  have HD := Lib.hid D
  clear C D hin hv y0 hsh
  go_enter Tryz.func16, Tryz.ntmps16
  go_wp2_with fail
  refine (HC.out _ (kk (ka _ _) (ka _ _))).mono ?_
  rintro e w1 ⟨rfl, hk1⟩
  have hz1 := hk1.size
  simp at hz1
  have hblk : w1.heap[w.heap.size + 1]? = some (.cells zero4 24 (0, 0)) := (hk1.block _ (by simp)).trans (blockHere (by simp))
  have hbox : w1.heap[w.heap.size]? = some (.cells #[.int .i64 k, .slice a l.length cap] 27 (0, 0)) := (hk1.block _ (by simp; omega)).trans (blockPast (blockHere rfl))
  have b0 : w1.cell? ⟨w.heap.size, 0, none⟩ = some (.int .i64 k) := cellOf hbox rfl
  have b1 : w1.cell? ⟨w.heap.size, 1, none⟩ = some (.slice a l.length cap) := cellOf hbox rfl
  obtain ⟨c0, c1, c2, c3, f0, f1, f2, f3⟩ := cell4 hblk
  have HB := Lib.hid hblk
  have HK1 := Lib.hid (kk (kk (ka _ _) (ka _ _)) hk1)
  have HZ1 := Lib.hid hz1
  clear hk1 hblk hbox
  go_wp2_with fail
  refine (HD.out _ HK1.out).mono ?_
  rintro e w2 ⟨z, rfl, hzi, hzf, hzs, hk2⟩
  have hblk := (hk2.block _ (lt_of_block HB.out)).trans HB.out
  obtain ⟨d0, d1, d2, d3, g0, g1, g2, g3⟩ := cell4 hblk
  have HB2 := Lib.hid hblk
  have HK2 := Lib.hid (kk HK1.out hk2)
  have hzf2 : z.foot (fun b => w.heap.size + 2 ≤ b) := V.foot.mono (fun b hb => by have := HZ1.out; omega) z hzf
  have HZI := Lib.hid hzi
  have HZF := Lib.hid hzf2
  have HZS := Lib.hid hzs
  clear hk2 hblk hzi hzf hzf2 hzs c0 c1 c2 c3 f0 f1 f2 f3
  cases z with
  | mk zk zn zs za zc zl =>
  simp only [V.val_mk]
  go_wp2_with fail
  obtain ⟨e0, e1, e2, e3, -⟩ := cell4 (put4_block (v0 := .int .i64 zk) (v1 := .int .i64 zn) (v2 := .string zs) (v3 := .slice za zl.length zc) HB2.out)
  refine bodyPost_ret (v := .tuple #[.agg #[.int .i64 zk, .int .i64 zn, .string zs, .slice za zl.length zc], .int .i64 0]) (by simp [results, Tryz.results16, go_sem, e0, e1, e2, e3]) rfl ?_
  have hS : (put4 w2 (w.heap.size + 1) (.int .i64 zk) (.int .i64 zn) (.string zs) (.slice za zl.length zc)).heap.size = w2.heap.size := by simp [World.setCell]
  refine ⟨.mk zk zn zs za zc zl, rfl, ?_, V.foot.mono (fun b hb => by omega) _ HZF.out, HZS.out, put4_kp HK2.out (by omega)⟩
  rw [hS]
  exact V.In.move (Nat.le_refl _) (fun b _ hb => put4_other (by omega)) _ HZI.out HZF.out

theorem leastTopR (k : Int) (a : Option Addr) (cap : Nat) (l : List T) (w : World) (hin : (T.mk k a cap l).In w w.heap.size) :
    Calls Tryz.prog 16 #[.agg #[.int .i64 k, .slice a l.length cap]] w (Makes2 w (lstV (T.mk k a cap l)) (argI (T.mk k a cap l).valid)) := by
  cases hv : (T.mk k a cap l).valid with
  | false => exact leastTopR_no k a cap l w hin hv
  | true => exact leastTopR_yes k a cap l w hin hv

end Go.Proofs.YtbiljalhabnhlaaGreatDoor

/-
  PLAIN MATHEMATICS: THE LEAST VALUE OF A TYPE IS OF IT, AND NO VALUE OF IT IS AHEAD.
-/
namespace Go.Proofs.YtbiljalhabnhlaaGreatDoor
open Go.RowKit

mutual
theorem same_sh : ∀ (x y : V) (d : Nat), x.same y = true → x.sh d = y.sh d
  | .mk k n s a c l, .mk k' n' s' a' c' l', d, h => by
    simp [V.same] at h
    obtain ⟨rfl, rfl, hs, hl⟩ := h
    have hs2 : s = s' := by
      have : s.data.toList = s'.data.toList := by rw [← ByteArray.toList_eq, ← ByteArray.toList_eq]; exact hs
      exact WideShapes.bytes_inj this
    subst hs2
    have h1 := V.sameL_length l l' hl
    cases d with
    | zero => simp [V.sh]
    | succ d => simp [V.sh, h1, same_shL l l' d hl]
theorem same_shL : ∀ (l m : List V) (d : Nat), V.sameL l m = true → V.shL l d = V.shL m d
  | [], [], _, _ => rfl
  | [], _ :: _, _, h => by simp [V.sameL] at h
  | _ :: _, [], _, h => by simp [V.sameL] at h
  | x :: xs, y :: ys, d, h => by
    simp [V.sameL] at h
    simp [V.shL, same_sh x y d h.1, same_shL xs ys d h.2]
end
mutual
theorem same_rank : ∀ (x y : V), x.same y = true → x.rank = y.rank
  | .mk k n s a c l, .mk k' n' s' a' c' l', h => by
    simp [V.same] at h
    simp [V.rank, same_ranks l l' h.2.2.2]
theorem same_ranks : ∀ (l m : List V), V.sameL l m = true → V.rank.ranks l = V.rank.ranks m
  | [], [], _ => rfl
  | [], _ :: _, h => by simp [V.sameL] at h
  | _ :: _, [], h => by simp [V.sameL] at h
  | x :: xs, y :: ys, h => by
    simp [V.sameL] at h
    simp [V.rank.ranks, same_rank x y h.1, same_ranks xs ys h.2]
end
theorem same_valid {x y : V} (h : x.same y = true) : x.valid = y.valid := by
  unfold V.valid
  rw [same_sh x y 6 h, same_rank x y h]
mutual
theorem same_is : ∀ (x y : V) (t : T), x.same y = true → x.is t = y.is t
  | .mk k n s a c l, .mk k' n' s' a' c' l', t, h => by
    simp [V.same] at h
    obtain ⟨rfl, rfl, hs, hl⟩ := h
    simp [V.is, V.sameL_length l l' hl, same_isL l l' k n t 0 hl]
theorem same_isL : ∀ (l m : List V) (k n : Int) (t : T) (i : Nat), V.sameL l m = true → V.isL k n t l i = V.isL k n t m i
  | [], [], _, _, _, _, _ => rfl
  | [], _ :: _, _, _, _, _, h => by simp [V.sameL] at h
  | _ :: _, [], _, _, _, _, h => by simp [V.sameL] at h
  | x :: xs, y :: ys, k, n, t, i, h => by
    simp [V.sameL] at h
    simp only [V.isL, same_isL xs ys k n t (i + 1) h.2]
    congr 1
    split
    · exact same_is x y _ h.1
    · rfl
end
theorem same_part : ∀ {l m : List V} {j : Nat} {x : V}, V.sameL l m = true → l[j]? = some x → ∃ y, m[j]? = some y ∧ x.same y = true
  | [], [], _, _, _, h => by simp at h
  | [], _ :: _, _, _, h, _ => by simp [V.sameL] at h
  | _ :: _, [], _, _, h, _ => by simp [V.sameL] at h
  | x :: xs, y :: ys, 0, z, h, hz => by
    simp [V.sameL] at h
    simp at hz
    subst hz
    exact ⟨y, rfl, h.1⟩
  | x :: xs, y :: ys, j + 1, z, h, hz => by
    simp [V.sameL] at h
    obtain ⟨y', h1, h2⟩ := same_part (j := j) h.2 (by simpa using hz)
    exact ⟨y', by simpa using h1, h2⟩

theorem lstL_at : ∀ {l : List T} {j : Nat} {u : T}, l[j]? = some u → (T.lstL l)[j]? = some u.lst
  | [], _, _, h => by simp at h
  | x :: xs, 0, u, h => by simp at h; subst h; simp [T.lstL]
  | x :: xs, j + 1, u, h => by simpa [T.lstL] using lstL_at (j := j) (by simpa using h)
theorem lstL_ranks : ∀ (l : List T), (∀ (j : Nat) (u : T), l[j]? = some u → u.lst.rank ≤ u.rank) → V.rank.ranks (T.lstL l) ≤ T.rank.ranks l
  | [], _ => by simp [T.lstL, V.rank.ranks]
  | x :: xs, h => by
    have h1 := h 0 x rfl
    have h2 := lstL_ranks xs (fun j u hu => h (j + 1) u (by simpa using hu))
    simp [T.lstL, V.rank.ranks, T.rank.ranks]; omega

theorem lst0 (a : Option Addr) (c : Nat) (l : List T) : (T.mk 0 a c l).lst = .mk 0 (-2147483648) ⟨#[]⟩ none 0 [] := by simp [T.lst]
theorem lst1 (a : Option Addr) (c : Nat) (l : List T) : (T.mk 1 a c l).lst = .mk 1 0 ⟨#[]⟩ none 0 [] := by simp [T.lst]
theorem lst2 (a : Option Addr) (c : Nat) (l : List T) : (T.mk 2 a c l).lst = .mk 2 0 ⟨#[]⟩ none 0 (T.lstL l) := by simp [T.lst]
theorem lst3 (a : Option Addr) (c : Nat) (u : T) (l : List T) : (T.mk 3 a c (u :: l)).lst = .mk 3 0 ⟨#[]⟩ none 0 [u.lst] := by simp [T.lst, T.lstH]
theorem shLV_at {l : List V} {d j : Nat} {x : V} (h : V.shL l d = true) (hx : l[j]? = some x) : x.sh d = true := by
  induction l generalizing j with
  | nil => simp at hx
  | cons y ys ih =>
    simp [V.shL] at h
    cases j with
    | zero => simp at hx; subst hx; exact h.1
    | succ j => exact ih h.2 (by simpa using hx)

/-- The least value of a type is of it, no deeper and with no more values. -/
theorem lst_of : ∀ (N : Nat) (t : T) (d : Nat), t.rank ≤ N → t.sh d = true → t.lst.is t = true ∧ (∀ d, t.sh d = true → t.lst.sh d = true) ∧ t.lst.rank ≤ t.rank := by
  intro N
  induction N with
  | zero => intro t d h; have := t.rank_pos; omega
  | succ N ih =>
    intro t d hN ht
    cases t with
    | mk k ta tc tl =>
    cases d with
    | zero => simp [T.sh] at ht
    | succ d =>
    simp [T.sh] at ht
    obtain ⟨hf, hp⟩ := ht
    have hrk : (T.mk k ta tc tl).rank = 1 + T.rank.ranks tl := by simp [T.rank]
    have hih : ∀ (j : Nat) (u : T), tl[j]? = some u → u.lst.is u = true ∧ (∀ d, u.sh d = true → u.lst.sh d = true) ∧ u.lst.rank ≤ u.rank := fun j u hu =>
      ih u d (by have := T.ranks_mem hu; omega) (shLT_at hp hu)
    by_cases k0 : k = 0
    · subst k0
      have : tl = [] := by simpa [fitsT] using hf
      subst this
      refine ⟨by simp [T.lst, V.is, okB, kindI, T.k, V.isL], fun d hd => ?_, by simp [T.lst, V.rank, V.rank.ranks, T.rank, T.rank.ranks]⟩
      cases d with
      | zero => simp [T.sh] at hd
      | succ d => simp [T.lst, V.sh, V.shL, fitsB, wordB]
    by_cases k1 : k = 1
    · subst k1
      have : tl = [] := by simpa [fitsT] using hf
      subst this
      refine ⟨by simp [T.lst, V.is, okB, kindI, T.k, V.isL], fun d hd => ?_, by simp [T.lst, V.rank, V.rank.ranks, T.rank, T.rank.ranks]⟩
      cases d with
      | zero => simp [T.sh] at hd
      | succ d =>
        simp [T.lst, V.sh, V.shL, fitsB, textB, charsB]
        decide
    by_cases k2 : k = 2
    · subst k2
      have hpt : Parts tl (T.lstL tl) := by
        intro i x u hx hu
        rw [lstL_at hu] at hx
        cases hx
        exact ⟨(hih i u hu).1, (hih i u hu).2.1⟩
      obtain ⟨h1, h2, h3, -, -⟩ := madeVal_tuple (ta := ta) (a' := none) (tcap := tc) (cap' := 0) (lstL_length tl) hpt (lstL_ranks tl (fun j u hu => (hih j u hu).2.2)) (at_ := 0) (c := 1) (by omega) (by omega)
      rw [lst2]
      exact ⟨h1, h2, h3⟩
    by_cases k3 : k = 3
    · subst k3
      have hl : 0 < tl.length ∧ tl.length ≤ 8 := by simpa [fitsT] using hf
      cases tl with
      | nil => simp at hl
      | cons u us =>
        obtain ⟨h1, h2, h3⟩ := hih 0 u rfl
        obtain ⟨g1, g2, g3, -, -⟩ := madeVal_sum (ta := ta) (qa := none) (tcap := tc) (tl := u :: us) (j := 0) (u := u) (z := u.lst) rfl hl.2 (at_ := 0) (c := 1) ⟨h1, h2, h3, by omega, by omega⟩
        have hS : ∀ c, (V.mk 3 0 ⟨#[]⟩ none c [u.lst]).same (.mk 3 0 ⟨#[]⟩ none 0 [u.lst]) = true := fun c => V.same_node (V.sameL_one (V.same_refl _))
        rw [lst3]
        refine ⟨?_, fun d hd => ?_, ?_⟩
        · have := same_is _ _ (.mk 3 ta tc (u :: us)) (hS 1); exact this ▸ g1
        · have := same_sh _ _ d (hS 1); exact this ▸ g2 d hd
        · have := same_rank _ _ (hS 1); exact this ▸ g3
    · simp [fitsT, k0, k1, k2, k3] at hf

theorem ordL_le : ∀ (l m : List V), l.length = m.length → (∀ (j : Nat) (x y : V), l[j]? = some x → m[j]? = some y → x.ord y ≤ 0) → V.ordL l m ≤ 0
  | [], [], _, _ => by simp [V.ordL]
  | [], _ :: _, h, _ => by simp at h
  | _ :: _, [], h, _ => by simp at h
  | x :: xs, y :: ys, h, hp => by
    have h1 := hp 0 x y rfl rfl
    have h2 := ordL_le xs ys (by simpa using h) (fun j a b ha hb => hp (j + 1) a b (by simpa using ha) (by simpa using hb))
    rw [ordL_lex]
    unfold lex
    split <;> assumption
theorem lex_le {a b : Int} (h : a ≤ 0) (h' : b ≤ 0) : lex a b ≤ 0 := by unfold lex; split <;> assumption
theorem cb_nil_le (l : List UInt8) : cb [] l ≤ 0 := by cases l <;> simp [Lib.compareBytes]

theorem isL_at {k n : Int} {t : T} : ∀ {l : List V} {i j : Nat} {x : V}, V.isL k n t l i = true → l[j]? = some x → ∃ u, t.l[if k = 3 then n.toNat else i + j]? = some u ∧ x.is u = true
  | [], _, _, _, _, h => by simp at h
  | y :: ys, i, 0, x, h, hx => by
    simp at hx
    subst hx
    simp only [V.isL, Bool.and_eq_true] at h
    obtain ⟨h1, -⟩ := h
    split at h1
    · rename_i u hu
      exact ⟨u, hu, h1⟩
    · cases h1
  | y :: ys, i, j + 1, x, h, hx => by
    simp only [V.isL, Bool.and_eq_true] at h
    obtain ⟨u, hu, hxu⟩ := isL_at (i := i + 1) (j := j) h.2 (by simpa using hx)
    exact ⟨u, by rw [← hu]; congr 1; split <;> omega, hxu⟩

/-- No value of a type is ahead of its least one. -/
theorem lst_le : ∀ (N : Nat) (t : T) (d d' : Nat) (z : V), t.rank ≤ N → t.sh d = true → z.is t = true → z.sh d' = true → t.lst.ord z ≤ 0 := by
  intro N
  induction N with
  | zero => intro t d d' z h; have := t.rank_pos; omega
  | succ N ih =>
    intro t d d' z hN ht hz hzs
    cases t with
    | mk k ta tc tl =>
    cases z with
    | mk zk zn zs za zc zl =>
    cases d with
    | zero => simp [T.sh] at ht
    | succ d =>
    cases d' with
    | zero => simp [V.sh] at hzs
    | succ d' =>
    simp [T.sh] at ht
    obtain ⟨hf, hp⟩ := ht
    simp [V.sh] at hzs
    obtain ⟨hzf, hzp⟩ := hzs
    simp only [V.is, Bool.and_eq_true] at hz
    obtain ⟨hok, hil⟩ := hz
    have hrk : (T.mk k ta tc tl).rank = 1 + T.rank.ranks tl := by simp [T.rank]
    have hpart : ∀ (j : Nat) (u : T) (y : V) (i : Nat), tl[j]? = some u → zl[i]? = some y → y.is u = true → u.lst.ord y ≤ 0 := fun j u y i hu hy hyu =>
      ih u d d' y (by have := T.ranks_mem hu; omega) (shLT_at hp hu) hyu (shLV_at hzp hy)
    have hkk : zk = kindI k := by simp only [okB, T.k, Bool.and_eq_true] at hok; exact of_decide_eq_true hok.1
    rw [ord_lex]
    by_cases k0 : k = 0
    · subst k0
      simp [kindI] at hkk
      subst hkk
      simp [fitsB, wordB] at hzf
      obtain ⟨h1, h2, h3, h4⟩ := hzf
      subst h4
      rw [lst0]
      refine lex_le (lex_le (by simp [V.k, cmpI]) (lex_le (by rw [cmpQ_le]; exact h1) (cb_nil_le _))) (by simp [V.ordL, V.l])
    by_cases k1 : k = 1
    · subst k1
      simp [kindI] at hkk
      subst hkk
      simp [fitsB, textB] at hzf
      obtain ⟨h1, h2, -⟩ := hzf
      subst h1 h2
      rw [lst1]
      refine lex_le (lex_le (by simp [V.k, cmpI]) (lex_le (by simp [V.n, cmpI]) (cb_nil_le _))) (by simp [V.ordL, V.l])
    by_cases k2 : k = 2
    · subst k2
      simp [kindI] at hkk
      subst hkk
      have hlen : zl.length = tl.length := by
        have h := hok
        simp [okB, T.k, T.l, kindI] at h
        exact Decidable.not_not.1 (of_decide_eq_false h)
      simp [fitsB, tupleB] at hzf
      obtain ⟨h1, -, -⟩ := hzf
      subst h1
      rw [lst2]
      refine lex_le (lex_le (by simp [V.k, cmpI]) (lex_le (by simp [V.n, cmpI]) (cb_nil_le _))) ?_
      refine ordL_le _ _ (by simp [V.l, lstL_length, hlen]) (fun j x y hx hy => ?_)
      simp only [V.l] at hx hy
      obtain ⟨u, hu, hyu⟩ := isL_at hil hy
      simp [T.l] at hu
      rw [lstL_at hu] at hx
      cases hx
      exact hpart j u y j hu hy hyu
    by_cases k3 : k = 3
    · subst k3
      simp [kindI] at hkk
      subst hkk
      simp [fitsB, taggedB] at hzf
      obtain ⟨h1, -, -, h4⟩ := hzf
      have hl : 0 < tl.length ∧ tl.length ≤ 8 := by simpa [fitsT] using hf
      match zl, h4, tl, hl with
      | [y], _, u :: us, _ =>
      obtain ⟨u', hu', hyu⟩ := isL_at (j := 0) (x := y) hil rfl
      simp [T.l] at hu'
      rw [lst3]
      by_cases hn : zn = 0
      · subst hn
        simp at hu'
        subst hu'
        have hy := hpart 0 u y 0 rfl rfl hyu
        refine lex_le (lex_le (by simp [V.k, cmpI]) (lex_le (by simp [V.n, cmpI]) (cb_nil_le _))) ?_
        refine ordL_le _ _ rfl (fun j a b ha hb => ?_)
        cases j with
        | zero => simp [V.l] at ha hb; subst ha hb; exact hy
        | succ j => simp [V.l] at ha
      · have hneg : own3 (V.mk 3 0 ⟨#[]⟩ none 0 [u.lst]) (V.mk 3 zn zs za zc [y]) = -1 := by
          have hlt : (0 : Int) < zn := by omega
          simp [own3, lex, V.k, V.n, cmpI, hlt]
        simp [hneg, lex]
    · simp [fitsT, k0, k1, k2, k3] at hf

end Go.Proofs.YtbiljalhabnhlaaGreatDoor

/-
  depth: HOW MANY VALUES ARE ONE WITHIN THE OTHER.
-/
namespace Go.Proofs.YtbiljalhabnhlaaGreatDoor
open Go.RowKit

mutual
def V.dep : V → Nat
  | .mk _ _ _ _ _ l => V.depL l + 1
def V.depL : List V → Nat
  | [] => 0
  | x :: xs => max x.dep (V.depL xs)
end

theorem V.depL_snoc (l : List V) (x : V) : V.depL (l ++ [x]) = max (V.depL l) x.dep := by
  induction l with
  | nil => simp [V.depL]
  | cons y ys ih => simp only [List.cons_append, V.depL, ih]; omega
theorem V.depL_take {l : List V} {j : Nat} {x : V} (h : l[j]? = some x) : V.depL (l.take (j + 1)) = max (V.depL (l.take j)) x.dep := by
  rw [List.take_add_one, h]
  exact V.depL_snoc _ _
mutual
theorem V.dep_rank : ∀ (x : V), x.dep ≤ x.rank
  | .mk k n s a c l => by simp [V.dep, V.rank]; have := V.depL_rank l; omega
theorem V.depL_rank : ∀ (l : List V), V.depL l ≤ V.rank.ranks l
  | [] => by simp [V.depL, V.rank.ranks]
  | x :: xs => by simp [V.depL, V.rank.ranks]; have := V.dep_rank x; have := V.depL_rank xs; omega
end
mutual
theorem V.sh_dep : ∀ (x : V) (D d : Nat), x.sh D = true → (x.sh d = true ↔ x.dep ≤ d)
  | .mk k n s a c l, D, d, h => by
    cases D with
    | zero => simp [V.sh] at h
    | succ D =>
    simp [V.sh] at h
    cases d with
    | zero => simp [V.sh, V.dep]
    | succ d =>
      have := V.shL_dep l D d h.2
      simp [V.sh, V.dep, h.1, this]
theorem V.shL_dep : ∀ (l : List V) (D d : Nat), V.shL l D = true → (V.shL l d = true ↔ V.depL l ≤ d)
  | [], _, _, _ => by simp [V.shL, V.depL]
  | x :: xs, D, d, h => by
    simp [V.shL] at h
    have h1 := V.sh_dep x D d h.1
    have h2 := V.shL_dep xs D d h.2
    simp [V.shL, V.depL, h1, h2]
    omega
end

set_option maxRecDepth 100000 in
set_option maxHeartbeats 4000000 in
theorem depth_any : ∀ (N : Nat) (x : V) (w : World), x.rank ≤ N → N ≤ 1000000 → x.In w w.heap.size →
    Calls Tryz.prog 43 #[.agg #[.int .i64 x.k, .int .i64 x.n, .string x.s, .slice x.a x.l.length x.cap]] w fun e w' => e = .returned (.int .i64 (x.dep : Int)) ∧ Kp w w' := by
  intro N
  induction N with
  | zero => intro x w h; have := x.rank_pos; omega
  | succ N ih =>
    intro x w hN hB hin
    obtain ⟨k, n, s, a, cap, l⟩ := x
    have hll := V.lenLe hin
    have hdr := V.depL_rank l
    have hrk : (V.mk k n s a cap l).rank = 1 + V.rank.ranks l := by simp [V.rank]
    have hdl : ∀ j, V.depL (l.take j) ≤ V.depL l := by
      clear hin hll hdr hrk hN
      induction l with
      | nil => intro j; simp
      | cons y ys ih2 =>
        intro j
        cases j with
        | zero => simp [V.depL]
        | succ j => have := ih2 j; simp [V.depL]; omega
    have hfin : ((V.mk k n s a cap l).dep : Int) = (V.depL l : Int) + 1 := by simp [V.dep]
    rw [hfin]
    simp only [V.k, V.n, V.s, V.a, V.l, V.cap]
    have IH := Lib.hid ih
    have HIN := Lib.hid hin
    have hb : (V.depL l : Int) ≤ 1000000 := by omega
    have HDL := Lib.hid hdl
    have HN := Lib.hid (show V.rank.ranks l ≤ N by omega)
    have HBB := Lib.hid (show N ≤ 1000000 by omega)
    clear ih hin hdl hfin hrk hdr hN hB
    go_enter Tryz.func43, Tryz.ntmps43
    go_wp2_with fail
    go_loopw [3, 4] (fun m i wr => ∃ j : Nat, j ≤ l.length ∧ m = .int .i64 (V.depL (l.take j) : Int) ∧ i = .int .i64 j ∧ Kp w wr ∧ wr.heap[w.heap.size]? = some (.cells #[.int .i64 k, .int .i64 n, .string s, .slice a l.length cap] 24 (0, 0))) (fun _ i _ => l.length - (intOf i).toNat)
    case atStart => exact ⟨0, by omega, rfl, rfl, ka _ _, blockHere rfl⟩
    case round =>
      obtain ⟨j, hj, rfl, rfl, hk, hbx⟩ := hrel
      obtain ⟨c0, c1, c2, c3, -⟩ := cell4 hbx
      by_cases hlt : j < l.length
      · obtain ⟨x, hx⟩ : ∃ x, l[j]? = some x := ⟨l[j], by simp [hlt]⟩
        have htk := V.depL_take hx
        have hlt' : (j : Int) < (l.length : Int) := by omega
        have g0 : (0 : Int) ≤ (j : Int) := by omega
        obtain ⟨p0, off, rfl, hp0, m0, m1, m2, m3, hxi⟩ := V.atPart HIN.out hx
        replace m0 := kc hk m0
        replace m1 := kc hk m1
        replace m2 := kc hk m2
        replace m3 := kc hk m3
        have C := IH.out x wr (by have := V.ranks_mem hx; have := HN.out; omega) HBB.out (hxi.keep hk.size hk)
        have hxd := V.dep_rank x
        have hxr := V.ranks_mem hx
        have hNN := HN.out
        have hBB := HBB.out
        have hd1 := HDL.out j
        obtain ⟨xk, xn, xs, xa, xc, xl⟩ := x
        simp only [V.k, V.n, V.s, V.a, V.l, V.cap] at C m0 m1 m2 m3
        generalize hd : (V.mk xk xn xs xa xc xl).dep = dx at *
        have HC := Lib.hid C
        have HK := Lib.hid hk
        have HBX := Lib.hid hbx
        have HTK := Lib.hid htk
        clear C hk hbx htk hx hxi hd
        go_wp2_with fail
        refine HC.out.mono ?_
        rintro e w2 ⟨rfl, hk2⟩
        have HK2 := Lib.hid (kk HK.out hk2)
        have HBX2 := Lib.hid ((hk2.block _ (lt_of_block HBX.out)).trans HBX.out)
        clear hk2 c0 c1 c2 c3 m0 m1 m2 m3
        go_wp2_with fail
        go_roundw
        case rel => exact ⟨j + 1, by omega, by rw [HTK.out]; first | rfl | (congr 1; omega), by first | go_num | simp, HK2.out, HBX2.out⟩
        case measure => simp [intOf]; omega
      · have hjl : j = l.length := by omega
        subst hjl
        rw [List.take_of_length_le (Nat.le_refl _)]
        have HK := Lib.hid hk
        clear hk hbx
        go_wp2_with fail
        go_ret
        exact ⟨rfl, HK.out⟩

end Go.Proofs.YtbiljalhabnhlaaGreatDoor

/-
  A TUPLE IN THE MAKING, of parts that lie elsewhere.
-/
namespace Go.Proofs.YtbiljalhabnhlaaGreatDoor
open Go.RowKit

/-- A tuple in the making in block nb: its parts vs lie below it, none of them in block vb; their row is the call's own. -/
structure Tup2 (w : World) (nb vb : Nat) (sl : Value) (vs : List V) : Prop where
  box : w.heap[nb]? = some (.cells #[.int .i64 2, .int .i64 0, .string ⟨#[]⟩, sl] 24 (0, 0))
  own : w.ownsRow (nb + 1) 24 4 sl vs.length (cellsL vs)
  hin : V.InL w w.heap.size vs
  foot : V.footL (fun b => b < nb ∧ b ≠ vb) vs

theorem Tup2.lt {w : World} {nb vb : Nat} {sl : Value} {vs : List V} (h : Tup2 w nb vb sl vs) : nb < w.heap.size := lt_of_block h.box
theorem Tup2.kp {w w' : World} {nb vb : Nat} {sl : Value} {vs : List V} (h : Tup2 w nb vb sl vs) (k : Kp w w') : Tup2 w' nb vb sl vs :=
  ⟨(k.block _ h.lt).trans h.box, ownsRow_kp h.own k, h.hin.keep k.size k, h.foot⟩

theorem Tup2.step {wr wc w2 : World} {nb vb g cap : Nat} {sl : Value} {vs : List V} {z : V} (h : Tup2 wr nb vb sl vs) (hz : z.In wr wr.heap.size) (hf : z.foot (fun b => b < nb ∧ b ≠ vb))
    (hkc : Kp wr wc) (hown : w2.ownsRow (nb + 1) 24 4 (.slice (some ⟨g, 0, none⟩) (vs.length + 1) cap) (vs.length + 1) (cellsL vs ++ z.cells4)) (hg : wc.grownBy w2 sl.ownBlock) :
    Tup2 (w2.setCell ⟨nb, 3, none⟩ (.slice (some ⟨g, 0, none⟩) (vs.length + 1) cap)) nb vb (.slice (some ⟨g, 0, none⟩) (vs.length + 1) cap) (vs ++ [z]) := by
  have hnb := h.lt
  have hrow := h.own.lt
  have hz2 := hkc.size
  have hz3 : wc.heap.size ≤ w2.heap.size := by obtain ⟨_, _, _, h4, _⟩ := hg; exact h4
  have hz4 : w2.heap.size = (w2.setCell ⟨nb, 3, none⟩ (.slice (some ⟨g, 0, none⟩) (vs.length + 1) cap)).heap.size := by simp [World.setCell]
  have hvr : some nb ≠ sl.ownBlock := fun e => by have := (hrow nb e.symm).1; omega
  have hbox : w2.heap[nb]? = some (.cells #[.int .i64 2, .int .i64 0, .string ⟨#[]⟩, sl] 24 (0, 0)) := (hg.block nb (by omega) hvr).trans ((hkc.block _ hnb).trans h.box)
  have mv : ∀ b, b < wc.heap.size → (b < nb ∧ b ≠ vb) → (w2.setCell ⟨nb, 3, none⟩ (.slice (some ⟨g, 0, none⟩) (vs.length + 1) cap)).heap[b]? = wc.heap[b]? := fun b hb hp =>
    (Below.heap_setCell _ _ _ _ (by show b ≠ nb; omega)).trans (hg.block b hb (fun e => by have := (hrow b e.symm).1; omega))
  refine ⟨?_, ?_, ?_, V.footL_snoc h.foot hf⟩
  · have := heap_setCell_same w2 nb 3 _ _ (.slice (some ⟨g, 0, none⟩) (vs.length + 1) cap) hbox
    simpa using this
  · rw [cellsL_snoc, List.length_append]
    exact ownsRow_set hown (by omega)
  · rw [← hz4]
    exact V.InL_snoc (V.InL.move hz3 mv vs (h.hin.keep hz2 hkc) h.foot) (V.In.move hz3 mv z (hz.keep hz2 hkc) hf)

/-- What has been made is a value; it lies in new memory and in what its parts lie in. -/
theorem Tup2.value {w : World} {nb vb : Nat} {sl : Value} {vs : List V} (hv : vb < nb) (h : Tup2 w nb vb sl vs) : ∃ a cap, sl = .slice a vs.length cap ∧ (V.mk 2 0 ⟨#[]⟩ a cap vs).In w w.heap.size ∧ (V.mk 2 0 ⟨#[]⟩ a cap vs).foot (fun b => b ≠ nb ∧ b ≠ vb) := by
  have hft : V.footL (fun b => b ≠ nb ∧ b ≠ vb) vs := V.footL.mono (fun b hb => ⟨by omega, hb.2⟩) vs h.foot
  rcases h.own.2 with ⟨hs, hn⟩ | ⟨g, cap, cur, hs, hb, hg, hnc, hcm, -, -⟩
  · have : vs = [] := List.length_eq_zero_iff.1 hn
    subst this
    refine ⟨none, 0, hs, ?_, V.foot_leaf _ _ _ _ _⟩
    simp [V.In, V.InL, I64]
    decide
  · refine ⟨some ⟨g, 0, none⟩, cap, hs, ?_, ?_⟩
    · simp only [V.In]
      have hrow := h.own
      rw [hs] at hrow
      exact ⟨by unfold I64; omega, by unfold I64; omega, by decide, hnc, hcm, .inr ⟨g, 0, rfl, lt_of_block hg, At.of_row hrow⟩, h.hin⟩
    · simp only [V.foot]
      exact ⟨.inr ⟨g, 0, rfl, by omega, by omega⟩, hft⟩

/-- A tuple of one part. -/
theorem Tup2.one {w : World} {nb vb q : Nat} {z : V} (hbox : w.heap[nb]? = some (.cells #[.int .i64 2, .int .i64 0, .string ⟨#[]⟩, .slice (some ⟨q, 0, none⟩) 1 1] 24 (0, 0))) (hq : nb < q)
    (hb : w.heap[q]? = some (.cells #[.int .i64 z.k, .int .i64 z.n, .string z.s, .slice z.a z.l.length z.cap] 24 (0, 0))) (hz : z.In w w.heap.size) (hf : z.foot (fun b => b < nb ∧ b ≠ vb)) :
    Tup2 w nb vb (.slice (some ⟨q, 0, none⟩) 1 1) [z] := by
  refine ⟨hbox, ?_, ⟨hz, trivial⟩, ⟨hf, trivial⟩⟩
  refine ⟨by simp [cellsL, V.cells4], .inr ⟨q, 1, _, rfl, by omega, hb, by simp, by unfold maxLen; omega, by simp, by simp [cellsL, V.cells4]⟩⟩

end Go.Proofs.YtbiljalhabnhlaaGreatDoor
