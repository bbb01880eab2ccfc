/- Contracts: differences and powers of signed numbers. Contract: powers of signed numbers. Contract: divisors of signed numbers, and quotients: the numbers' side. Contract: quotient and rest of signed numbers. Contract: powers of signed numbers. -/
import Derived.Test.YtdobcaabebepaaaGreatDoorSgnD
import Derived.Deep.DrawnRows
namespace Go.Proofs.YtdobcaabebepaaaGreatDoor
open Go.RowKit Vd

theorem negative_held {w : World} {m1 m2 : Value} {k1 k2 : Bool} (z : Int) (hk : k2 = decide (z < 0)) (W : World) (hm : MagV W m2 z.natAbs) (hS : PlS w m1 m2 k1 k2 W) :
    Calls Tryz.prog 99 #[.agg #[m2, .bool k2]] W fun e w' => ∃ x, e = .returned x ∧ SgV w' x (-z) ∧ Below W.heap.size W w' ∧ PlS w m1 m2 k1 k2 w' := by
  refine (negative_any _ z W ⟨m2, by rw [hk], hm⟩).mono ?_
  rintro e w' ⟨x, he, hx, hb⟩
  exact ⟨x, he, hx, hb, pls_step hS hb⟩

theorem plus_held {w : World} {m1 m2 : Value} {k1 k2 : Bool} (v1 v2 : Value) (x y : Int) (W : World) (h1 : SgV W v1 x) (h2 : SgV W v2 y) (b1 : wlen B64 x.natAbs ≤ maxW) (b2 : wlen B64 y.natAbs ≤ maxW) (hS : PlS w m1 m2 k1 k2 W) :
    Calls Tryz.prog 94 #[v1, v2] W fun e w' => ∃ (A : Option Addr) (n c : Nat) (k : Bool), e = .returned (.agg #[.slice A n c, .bool k]) ∧ k = decide (x + y < 0) ∧ MagV w' (.slice A n c) (x + y).natAbs ∧ PlS w m1 m2 k1 k2 w' := by
  refine (plus_any v1 v2 x y W h1 h2 b1 b2).mono ?_
  rintro e w' ⟨v, he, ⟨m, hv, hm⟩, hb⟩
  obtain ⟨A, c, rfl, _, _⟩ := hm.ok_len
  exact ⟨A, _, c, _, by rw [he, hv], rfl, hm, pls_step hS hb⟩

end Go.Proofs.YtdobcaabebepaaaGreatDoor

namespace Go.Proofs.YtdobcaabebepaaaGreatDoor
open Go.RowKit Vd

/-- the box stays, and the world grows only above w -/
abbrev PoS (w : World) (m1 : Value) (k1 : Bool) (W : World) : Prop :=
  (BoxS W (w.heap.size + 1) ∧ Below w.heap.size w W) ∧ W.cell? ⟨w.heap.size, 0, none⟩ = some m1 ∧ W.cell? ⟨w.heap.size, 1, none⟩ = some (.bool k1)

theorem pos_step {w W w1 : World} {m1 : Value} {k1 : Bool} (h : PoS w m1 k1 W) (hb : Below W.heap.size W w1) : PoS w m1 k1 w1 := by
  have hlt := h.1.1.lt
  have hc : ∀ b o, b < w.heap.size + 1 → w1.cell? ⟨b, o, none⟩ = W.cell? ⟨b, o, none⟩ := fun b o hbl => hb.cell (p := ⟨b, o, none⟩) (Nat.lt_trans hbl hlt)
  refine ⟨⟨h.1.1.below hb hlt, h.1.2.trans (hb.mono (by omega))⟩, ?_, ?_⟩
  · rw [hc _ _ (by omega)]; exact h.2.1
  · rw [hc _ _ (by omega)]; exact h.2.2
theorem pos_store {w W : World} {m1 : Value} {k1 : Bool} (h : PoS w m1 k1 W) (A : Option Addr) (n c : Nat) (k : Bool) :
    PoS w m1 k1 ((W.setCell ⟨w.heap.size + 1, 0, none⟩ (.slice A n c)).setCell ⟨w.heap.size + 1, 1, none⟩ (.bool k)) := by
  have hc : ∀ b o, b < w.heap.size + 1 → ((W.setCell ⟨w.heap.size + 1, 0, none⟩ (.slice A n c)).setCell ⟨w.heap.size + 1, 1, none⟩ (.bool k)).cell? ⟨b, o, none⟩ = W.cell? ⟨b, o, none⟩ := fun b o hb => by
    rw [World.cell?_setCell_other _ _ _ _ (by intro e; injection e with e; omega), World.cell?_setCell_other _ _ _ _ (by intro e; injection e with e; omega)]
  refine ⟨⟨h.1.1.set A n c k, (h.1.2.setCell (by simp) _).setCell (by simp) _⟩, ?_, ?_⟩
  · rw [hc _ _ (by omega)]; exact h.2.1
  · rw [hc _ _ (by omega)]; exact h.2.2
theorem pos_start (w : World) (m1 : Value) (k1 : Bool) : PoS w m1 k1 ((w.alloc (.cells #[m1, .bool k1] 87)).alloc (.cells #[.slice none 0 0, .bool false] 87)) := by
  have hb := BoxS.alloc (w.alloc (.cells #[m1, .bool k1] 87)) none 0 0 false
  rw [World.size_alloc] at hb
  refine ⟨⟨hb, ((Below.refl _ _).alloc (Nat.le_refl _) _).alloc (by simp) _⟩, ?_, ?_⟩ <;> simp [go_sem]

theorem sgn_pow (x : Int) (n : Nat) : sgn (x.natAbs ^ n) (decide (x < 0) && ((n : Int) % 2 == 1)) = x ^ n := by
  have hp : ((n : Int) % 2 == 1) = decide (n % 2 = 1) := by
    by_cases h : n % 2 = 1
    · rw [decide_eq_true h, beq_iff_eq]; omega
    · rw [decide_eq_false h, beq_eq_false_iff_ne]; omega
  rw [hp]
  by_cases hx : x < 0
  · obtain ⟨a, ha⟩ : ∃ a : Nat, x = -(a : Int) := ⟨x.natAbs, by omega⟩
    subst ha
    rw [Int.natAbs_neg, Int.natAbs_natCast]
    rw [show decide (-(a : Int) < 0) = true by simpa using hx, Bool.true_and]
    have hev : ∀ k : Nat, (-(a : Int)) ^ (2 * k) = (a : Int) ^ (2 * k) := fun k => by
      rw [Int.pow_mul, Int.pow_mul]
      congr 1
      rw [Int.pow_succ, Int.pow_succ, Int.pow_succ, Int.pow_succ]
      simp [Int.neg_mul_neg]
    unfold sgn
    rcases Nat.mod_two_eq_zero_or_one n with h | h
    · obtain ⟨k, rfl⟩ : ∃ k, n = 2 * k := ⟨n / 2, by omega⟩
      rw [if_neg (by simp), hev]; simp
    · obtain ⟨k, rfl⟩ : ∃ k, n = 2 * k + 1 := ⟨n / 2, by omega⟩
      rw [if_pos (by simp), Int.pow_succ, hev, Int.mul_neg, ← Int.pow_succ]; simp
  · obtain ⟨a, ha⟩ : ∃ a : Nat, x = (a : Int) := ⟨x.natAbs, by omega⟩
    subst ha
    unfold sgn
    rw [if_neg (by simp; omega)]; simp

end Go.Proofs.YtdobcaabebepaaaGreatDoor

namespace Go.Proofs.YtdobcaabebepaaaGreatDoor
open Go.RowKit Vd

theorem sgn_false (n : Nat) : sgn n false = (n : Int) := rfl

set_option maxRecDepth 100000 in
set_option maxHeartbeats 1000000 in
theorem divisor_any (v1 v2 : Value) (x y : Int) (w : World) (h1 : SgV w v1 x) (h2 : SgV w v2 y) (b1 : wlen B64 x.natAbs + 1 ≤ maxW) (b2 : wlen B64 y.natAbs + 1 ≤ maxW) :
    Calls Tryz.prog 91 #[v1, v2] w fun e w' => ∃ v, e = .returned v ∧ SgV w' v ((Nat.gcd x.natAbs y.natAbs : Nat) : Int) ∧ Below w.heap.size w w' := by
  obtain ⟨m1, rfl, hm1⟩ := h1
  obtain ⟨m2, rfl, hm2⟩ := h2
  obtain ⟨k1, hk1⟩ : ∃ k, k = decide (x < 0) := ⟨_, rfl⟩
  obtain ⟨k2, hk2⟩ : ∃ k, k = decide (y < 0) := ⟨_, rfl⟩
  rw [← hk1, ← hk2]
  obtain ⟨N, hN⟩ : ∃ n, n = Nat.gcd x.natAbs y.natAbs := ⟨_, rfl⟩
  rw [← hN]
  have hpr : Hid (∀ W, PlS w m1 m2 k1 k2 W → Calls Tryz.prog 124 #[m1, m2] W fun e w' => ∃ v, e = .returned v ∧ MagV w' v N ∧ PlS w m1 m2 k1 k2 w') := Lib.hid (fun W hS => (common_any m1 m2 _ _ W (hm1.below hS.1.2) (hm2.below hS.1.2) b1 b2).mono fun _ _ ⟨v, he, hm, hb⟩ => ⟨v, he, by rw [hN]; exact hm, pls_step hS hb⟩)
  have hsg : Hid (∀ W m, MagV W m N → PlS w m1 m2 k1 k2 W → Calls Tryz.prog 123 #[m, .bool false] W fun e w' => ∃ (A : Option Addr) (n c : Nat) (k : Bool), e = .returned (.agg #[.slice A n c, .bool k]) ∧ k = decide ((N : Int) < 0) ∧ MagV w' (.slice A n c) (N : Int).natAbs ∧ PlS w m1 m2 k1 k2 w') := Lib.hid (fun W m hm hS => (signed_any m N false W hm).mono fun e w' ⟨v, he, ⟨m', hv, hm'⟩, hb⟩ => by
    rw [sgn_false] at hv hm'
    obtain ⟨A, c, rfl, _, _⟩ := hm'.ok_len
    exact ⟨A, _, c, _, by rw [he, hv], rfl, hm', pls_step hS hb⟩)
  have hS0 := pls_start w m1 m2 k1 k2
  clear hN hm1 hm2 b1 b2 hk1 hk2
  go_enter Tryz.func91, Tryz.ntmps91
  go_wp2_with fail
  refine (hpr.out _ hS0).mono ?_
  rintro e w1 ⟨x1, rfl, hx1, hS1⟩
  go_wp2_with fail
  refine (hsg.out _ _ hx1 hS1).mono ?_
  rintro e w2 ⟨A, n, c, k, rfl, hk, hx2, hS2⟩
  obtain ⟨⟨q0, hc0⟩, ⟨q1, hc1⟩, hf0, hf1⟩ := hS2.1.1.facts
  have HX := Lib.hid (And.intro hk hx2)
  clear hk
  go_wp2_with fail
  exact bodyPost_ret (v := .agg #[.slice A n c, .bool k]) (by simp [results, Tryz.results91, go_sem, hc0, hc1]) rfl ⟨_, rfl, ⟨_, by rw [HX.out.1], hS2.1.1.mag HX.out.2 _ _⟩, (pls_store hS2 A n c k).1.2⟩

theorem over_nat (x : Int) (b : Nat) (hb : 0 < b) :
    x / (b : Int) = sgn (if decide (x < 0) && !decide (x.natAbs % b = 0) then x.natAbs / b + 1 else x.natAbs / b) (decide (x < 0)) ∧
    x % (b : Int) = (((if decide (x < 0) && !decide (x.natAbs % b = 0) then b - x.natAbs % b else x.natAbs % b) : Nat) : Int) := by
  have hr := Nat.mod_lt x.natAbs hb
  have hd : (b : Int) * ((x.natAbs / b : Nat) : Int) + ((x.natAbs % b : Nat) : Int) = (x.natAbs : Int) := by
    have := Nat.div_add_mod x.natAbs b
    rw [← Int.natCast_mul, ← Int.natCast_add, this]
  obtain ⟨q, hq⟩ : ∃ q, q = x.natAbs / b := ⟨_, rfl⟩
  obtain ⟨r, hrr⟩ : ∃ r, r = x.natAbs % b := ⟨_, rfl⟩
  rw [← hq, ← hrr] at hd
  rw [← hrr] at hr
  rw [← hq, ← hrr]
  have hb' : (0 : Int) < (b : Int) := by omega
  rw [Int.ediv_emod_unique hb']
  unfold sgn
  by_cases hx : x < 0
  · by_cases h0 : r = 0
    · simp [hx, h0]
      rw [h0] at hd
      rw [Int.mul_neg]
      omega
    · simp [hx, h0]
      rw [Int.mul_neg, Int.mul_add, Int.mul_one]
      omega
  · simp [hx]
    omega

/-- the quotient and the rest of a division whose rest is not negative -/
theorem over_eq (x y : Int) (hy : y ≠ 0) :
    sgn (if decide (x < 0) && !decide (x.natAbs % y.natAbs = 0) then x.natAbs / y.natAbs + 1 else x.natAbs / y.natAbs) (decide (x < 0) != decide (y < 0)) = x / y ∧
    (((if decide (x < 0) && !decide (x.natAbs % y.natAbs = 0) then y.natAbs - x.natAbs % y.natAbs else x.natAbs % y.natAbs) : Nat) : Int) = x % y := by
  have hb : 0 < y.natAbs := Int.natAbs_pos.2 hy
  obtain ⟨h1, h2⟩ := over_nat x y.natAbs hb
  rw [← h2]
  by_cases h : y < 0
  · have e : y = -(y.natAbs : Int) := by omega
    have e1 : x / y = -(x / (y.natAbs : Int)) := by rw [← Int.ediv_neg, ← e]
    have e2 : x % y = x % (y.natAbs : Int) := by rw [show (y.natAbs : Int) = -y by omega, Int.emod_neg]
    rw [e1, e2, h1]
    refine ⟨?_, rfl⟩
    unfold sgn
    by_cases hx : x < 0 <;> simp [hx, h]
  · have e : y = (y.natAbs : Int) := by omega
    have e1 : x / y = x / (y.natAbs : Int) := by rw [← e]
    have e2 : x % y = x % (y.natAbs : Int) := by rw [← e]
    rw [e1, e2, h1]
    refine ⟨?_, rfl⟩
    simp [h]

end Go.Proofs.YtdobcaabebepaaaGreatDoor

namespace Go.Proofs.YtdobcaabebepaaaGreatDoor
open Go.RowKit Vd

theorem BoxS.far {W : World} {b : Nat} (h : BoxS W b) {p : Addr} (hp : b ≠ p.block) (u : Value) : BoxS (W.setCell p u) b := by
  obtain ⟨A, n, c, k, h⟩ := h
  exact ⟨A, n, c, k, (Below.heap_setCell W p u b hp).trans h⟩
theorem SgV.sets {W : World} {b : Nat} {v : Value} {z : Int} (h : SgV W v z) (hb : BoxS W b) (u u' : Value) : SgV ((W.setCell ⟨b, 0, none⟩ u).setCell ⟨b, 1, none⟩ u') v z := by
  obtain ⟨m, e, hm⟩ := h
  exact ⟨m, e, hb.mag hm u u'⟩
theorem SgV.open {w : World} {v : Value} {z : Int} (h : SgV w v z) : ∃ (A : Option Addr) (n c : Nat) (k : Bool), v = .agg #[.slice A n c, .bool k] := by
  obtain ⟨m, rfl, hm⟩ := h
  obtain ⟨A, c, rfl, _, _⟩ := hm.ok_len
  exact ⟨A, _, c, _, rfl⟩

/-- both results' boxes stay, both arguments' boxes are kept, and the world grows only above w -/
structure OvS (w : World) (m1 m2 : Value) (k1 k2 : Bool) (W : World) : Prop where
  b1 : BoxS W (w.heap.size + 1 + 1)
  b2 : BoxS W (w.heap.size + 1 + 1 + 1)
  bel : Below w.heap.size w W
  c1 : W.cell? ⟨w.heap.size, 0, none⟩ = some m1
  c2 : W.cell? ⟨w.heap.size, 1, none⟩ = some (.bool k1)
  c3 : W.cell? ⟨w.heap.size + 1, 0, none⟩ = some m2
  c4 : W.cell? ⟨w.heap.size + 1, 1, none⟩ = some (.bool k2)

theorem ov_step {w W w1 : World} {m1 m2 : Value} {k1 k2 : Bool} (h : OvS w m1 m2 k1 k2 W) (hb : Below W.heap.size W w1) : OvS w m1 m2 k1 k2 w1 := by
  have hlt := h.b2.lt
  have hc : ∀ b o, b < w.heap.size + 1 + 1 → w1.cell? ⟨b, o, none⟩ = W.cell? ⟨b, o, none⟩ := fun b o hbl => hb.cell (p := ⟨b, o, none⟩) (by show b < W.heap.size; omega)
  refine ⟨h.b1.below hb (by omega), h.b2.below hb hlt, h.bel.trans (hb.mono (by omega)), ?_, ?_, ?_, ?_⟩
  · rw [hc _ _ (by omega)]; exact h.c1
  · rw [hc _ _ (by omega)]; exact h.c2
  · rw [hc _ _ (by omega)]; exact h.c3
  · rw [hc _ _ (by omega)]; exact h.c4

theorem ov_start (w : World) (m1 m2 : Value) (k1 k2 : Bool) : OvS w m1 m2 k1 k2 ((((w.alloc (.cells #[m1, .bool k1] 87)).alloc (.cells #[m2, .bool k2] 87)).alloc (.cells #[.slice none 0 0, .bool false] 87)).alloc (.cells #[.slice none 0 0, .bool false] 87)) := by
  have hb := BoxS.alloc ((w.alloc (.cells #[m1, .bool k1] 87)).alloc (.cells #[m2, .bool k2] 87)) none 0 0 false
  have hb2 := BoxS.alloc (((w.alloc (.cells #[m1, .bool k1] 87)).alloc (.cells #[m2, .bool k2] 87)).alloc (.cells #[.slice none 0 0, .bool false] 87)) none 0 0 false
  rw [World.size_alloc, World.size_alloc] at hb
  rw [World.size_alloc, World.size_alloc, World.size_alloc] at hb2
  refine ⟨hb.below (B := w.heap.size + 1 + 1 + 1) ((Below.refl _ _).alloc (by simp) _) (by omega), hb2, ((((Below.refl _ _).alloc (Nat.le_refl _) _).alloc (by simp) _).alloc (by simp; omega) _).alloc (by simp; omega) _, ?_, ?_, ?_, ?_⟩ <;> simp [go_sem]

theorem ov_end {w W : World} {m1 m2 : Value} {k1 k2 : Bool} (h : OvS w m1 m2 k1 k2 W) (u0 u1 u2 u3 : Value) {v : Value} {z : Int} (hv : SgV W v z) :
    SgV ((((W.setCell ⟨w.heap.size + 1 + 1, 0, none⟩ u0).setCell ⟨w.heap.size + 1 + 1, 1, none⟩ u1).setCell ⟨w.heap.size + 1 + 1 + 1, 0, none⟩ u2).setCell ⟨w.heap.size + 1 + 1 + 1, 1, none⟩ u3) v z ∧
    Below w.heap.size w ((((W.setCell ⟨w.heap.size + 1 + 1, 0, none⟩ u0).setCell ⟨w.heap.size + 1 + 1, 1, none⟩ u1).setCell ⟨w.heap.size + 1 + 1 + 1, 0, none⟩ u2).setCell ⟨w.heap.size + 1 + 1 + 1, 1, none⟩ u3) := by
  refine ⟨?_, (((h.bel.setCell (by simp; omega) _).setCell (by simp; omega) _).setCell (by simp; omega) _).setCell (by simp; omega) _⟩
  have h2 : BoxS ((W.setCell ⟨w.heap.size + 1 + 1, 0, none⟩ u0).setCell ⟨w.heap.size + 1 + 1, 1, none⟩ u1) (w.heap.size + 1 + 1 + 1) := (h.b2.far (by simp) _).far (by simp) _
  exact (hv.sets h.b1 _ _).sets h2 _ _

set_option maxRecDepth 100000 in
set_option maxHeartbeats 2000000 in
theorem over_any (v1 v2 : Value) (x y : Int) (w : World) (h1 : SgV w v1 x) (h2 : SgV w v2 y) (b1 : wlen B64 x.natAbs + 2 ≤ maxW) (b2 : wlen B64 y.natAbs + 2 ≤ maxW) (hy : y ≠ 0) :
    Calls Tryz.prog 100 #[v1, v2] w fun e w' => ∃ x1 x2, e = .returned (.tuple #[x1, x2]) ∧ SgV w' x1 (x / y) ∧ SgV w' x2 (x % y) ∧ Below w.heap.size w w' := by
  obtain ⟨m1, rfl, hm1⟩ := h1
  obtain ⟨m2, rfl, hm2⟩ := h2
  have hyp : 0 < y.natAbs := Int.natAbs_pos.2 hy
  obtain ⟨hE1, hE2⟩ := over_eq x y hy
  have hdiv : Hid (∀ W, OvS w m1 m2 (decide (x < 0)) (decide (y < 0)) W → Calls Tryz.prog 129 #[m1, m2] W fun e w' => ∃ (A1 : Option Addr) (n1 c1 : Nat) (A2 : Option Addr) (c2 : Nat), e = .returned (.tuple #[.slice A1 n1 c1, .slice A2 (wlen B64 (x.natAbs % y.natAbs)) c2]) ∧ MagV w' (.slice A1 n1 c1) (x.natAbs / y.natAbs) ∧ MagV w' (.slice A2 (wlen B64 (x.natAbs % y.natAbs)) c2) (x.natAbs % y.natAbs) ∧ OvS w m1 m2 (decide (x < 0)) (decide (y < 0)) w') := Lib.hid (fun W hS => (divide_any m1 m2 _ _ W (hm1.below hS.bel) (hm2.below hS.bel) (by omega) (by omega) hyp).mono fun e w' ⟨q, r, he, hq, hr, hb⟩ => by
    obtain ⟨A1, c1, rfl, _, _⟩ := hq.ok_len
    obtain ⟨A2, c2, rfl, _, _⟩ := hr.ok_len
    exact ⟨A1, _, c1, A2, c2, he, hq, hr, ov_step hS hb⟩)
  have hsg : Hid (∀ W m N b, MagV W m N → OvS w m1 m2 (decide (x < 0)) (decide (y < 0)) W → Calls Tryz.prog 123 #[m, .bool b] W fun e w' => ∃ (A : Option Addr) (n c : Nat) (k : Bool), e = .returned (.agg #[.slice A n c, .bool k]) ∧ SgV w' (.agg #[.slice A n c, .bool k]) (sgn N b) ∧ Below W.heap.size W w' ∧ OvS w m1 m2 (decide (x < 0)) (decide (y < 0)) w') := Lib.hid (fun W m N b hm hS => (signed_any m N b W hm).mono fun e w' ⟨v, he, hv, hb⟩ => by
    obtain ⟨A, n, c, k, rfl⟩ := hv.open
    exact ⟨A, n, c, k, he, hv, hb, ov_step hS hb⟩)
  have hq1 : wlen B64 (x.natAbs / y.natAbs) ≤ wlen B64 x.natAbs := wlen_mono two_le_B (Nat.div_le_self _ _)
  have hr1 : x.natAbs % y.natAbs ≤ y.natAbs := Nat.le_of_lt (Nat.mod_lt _ hyp)
  have hS0 := ov_start w m1 m2 (decide (x < 0)) (decide (y < 0))
  have hdf : Hid (∀ W r, MagV W r (x.natAbs % y.natAbs) → OvS w m1 m2 (decide (x < 0)) (decide (y < 0)) W → Calls Tryz.prog 128 #[m2, r] W fun e w' => ∃ (A : Option Addr) (n c : Nat), e = .returned (.slice A n c) ∧ MagV w' (.slice A n c) (y.natAbs - x.natAbs % y.natAbs) ∧ Below W.heap.size W w' ∧ OvS w m1 m2 (decide (x < 0)) (decide (y < 0)) w') := Lib.hid (fun W r hr hS => (diff_any m2 r _ _ W (hm2.below hS.bel) hr (by omega) hr1).mono fun e w' ⟨v, he, hm, hb⟩ => by
    obtain ⟨A, c, rfl, _, _⟩ := hm.ok_len
    exact ⟨A, _, c, he, hm, hb, ov_step hS hb⟩)
  have hsu : Hid (∀ W q o, MagV W q (x.natAbs / y.natAbs) → MagV W o 1 → OvS w m1 m2 (decide (x < 0)) (decide (y < 0)) W → Calls Tryz.prog 126 #[q, o] W fun e w' => ∃ (A : Option Addr) (n c : Nat), e = .returned (.slice A n c) ∧ MagV w' (.slice A n c) (x.natAbs / y.natAbs + 1) ∧ Below W.heap.size W w' ∧ OvS w m1 m2 (decide (x < 0)) (decide (y < 0)) w') := Lib.hid (fun W q o hq ho hS => (sum_any q o _ _ W hq ho (by omega) (by have := wlen_le_one (b := B64) two_le_B (n := 1) (by decide); omega)).mono fun e w' ⟨v, he, hm, hb⟩ => by
    obtain ⟨A, c, rfl, _, _⟩ := hm.ok_len
    exact ⟨A, _, c, he, hm, hb, ov_step hS hb⟩)
  have hfw : Hid (∀ W, OvS w m1 m2 (decide (x < 0)) (decide (y < 0)) W → Calls Tryz.prog 103 #[.int .u64 1] W fun e w' => ∃ (A : Option Addr) (n c : Nat), e = .returned (.slice A n c) ∧ MagV w' (.slice A n c) 1 ∧ Below W.heap.size W w' ∧ OvS w m1 m2 (decide (x < 0)) (decide (y < 0)) w') := Lib.hid (fun W hS => (fromWord_any 1 (by decide) W).mono fun e w' ⟨v, he, hm, hb⟩ => by
    obtain ⟨A, c, rfl, _, _⟩ := hm.ok_len
    exact ⟨A, _, c, he, hm, hb, ov_step hS hb⟩)
  obtain ⟨k2, hk2⟩ : ∃ k, k = decide (y < 0) := ⟨_, rfl⟩
  have hz := fun A c W => isZero_any A (wlen B64 (x.natAbs % y.natAbs)) c W
  have hw0 := wlen_eq_zero (b := B64) two_le_B (n := x.natAbs % y.natAbs)
  rw [← hk2] at hdiv hsg hS0 hdf hsu hfw hE1 ⊢
  obtain ⟨k1, hk1⟩ : ∃ k, k = decide (x < 0) := ⟨_, rfl⟩
  rw [← hk1] at hdiv hsg hS0 hdf hsu hfw hE1 hE2 ⊢
  obtain ⟨Q, hQ⟩ : ∃ q, q = x.natAbs / y.natAbs := ⟨_, rfl⟩
  obtain ⟨R, hR⟩ : ∃ q, q = x.natAbs % y.natAbs := ⟨_, rfl⟩
  rw [← hQ] at hdiv hsu hE1
  rw [← hR] at hdiv hdf hE1 hE2 hz hw0
  obtain ⟨Y, hY⟩ : ∃ q, q = y.natAbs := ⟨_, rfl⟩
  rw [← hY] at hdf hE2
  clear hm1 hm2 b1 b2 hy hyp hq1 hr1 hQ hR hk2 hk1
  by_cases hk : k1 = true ∧ R ≠ 0
  · obtain ⟨rfl, h0⟩ := hk
    have hd : decide (wlen B64 R = 0) = false := by simp; exact fun e => h0 (hw0.1 e)
    rw [hd] at hz
    have HE : Hid ((∀ b, b = (true != k2) → sgn (Q + 1) b = x / y) ∧ sgn (Y - R) false = x % y) := Lib.hid ⟨fun b hb => by rw [hb, ← hE1]; simp [h0], by rw [← hE2]; simp [h0, sgn]⟩
    clear hE1 hE2 hd h0 hw0 hY
    go_enter Tryz.func100, Tryz.ntmps100
    go_wp2_with fail
    refine (hdiv.out _ hS0).mono ?_
    rintro e w1 ⟨A1, n1, c1, A2, c2, rfl, hq, hr, hS1⟩
    have e2 := hS1.c2
    go_wp2_with (go_at_call 53; refine (hz _ _ _).mono ?_; rintro e w1 ⟨rfl, rfl⟩)
    refine (hfw.out _ hS1).mono ?_
    rintro e w1a ⟨A5, n5, c5, rfl, hone, hb1a, hS1a⟩
    go_wp2_with fail
    refine (hsu.out _ _ _ (hq.below hb1a) hone hS1a).mono ?_
    rintro e w1b ⟨A6, n6, c6, rfl, hq', hb1b, hS1b⟩
    have e3 := hS1b.c3
    go_wp2_with fail
    refine (hdf.out _ _ ((hr.below hb1a).below hb1b) hS1b).mono ?_
    rintro e w1c ⟨A7, n7, c7, rfl, hr', hb1c, hS1c⟩
    have e2' := hS1c.c2
    have e4 := hS1c.c4
    go_wp2_with fail
    refine (hsg.out _ _ _ _ (hq'.below hb1c) hS1c).mono ?_
    rintro e w2 ⟨A3, n3, c3, k3, rfl, hv3, hb3, hS2⟩
    go_wp2_with fail
    refine (hsg.out _ _ _ _ (hr'.below hb3) hS2).mono ?_
    rintro e w3 ⟨A4, n4, c4, k4, rfl, hv4, hb4, hS3⟩
    have hv3' := hv3.below hb4
    obtain ⟨⟨q0, hc0⟩, ⟨q1, hc1⟩, hf0, hf1⟩ := hS3.b1.facts
    obtain ⟨⟨q2, hc2⟩, ⟨q3, hc3⟩, hf2, hf3⟩ := hS3.b2.facts
    go_wp2_with fail
    refine bodyPost_ret (v := .tuple #[.agg #[.slice A3 n3 c3, .bool k3], .agg #[.slice A4 n4 c4, .bool k4]]) (by simp [results, Tryz.results100, go_sem, hc0, hc1, hc2, hc3]) rfl ⟨_, _, rfl, ?_, ?_, ?_⟩
    · rw [← HE.out.1 (!k2) (by cases k2 <;> rfl)]; exact (ov_end hS3 _ _ _ _ hv3').1
    · rw [← HE.out.2]; exact (ov_end hS3 _ _ _ _ hv4).1
    · exact (ov_end hS3 _ _ _ _ hv4).2
  · have HE : Hid ((∀ b, b = (k1 != k2) → sgn Q b = x / y) ∧ sgn R false = x % y) := Lib.hid (by
      have hc : (k1 && !decide (R = 0)) = false := by
        cases k1
        · rfl
        · have : R = 0 := Classical.byContradiction fun h => hk ⟨rfl, h⟩
          simp [this]
      rw [hc] at hE1 hE2
      exact ⟨fun b hb => by rw [hb, ← hE1]; rfl, by rw [← hE2]; rfl⟩)
    have hd : k1 = false ∨ (k1 = true ∧ decide (wlen B64 R = 0) = true) := by
      cases k1
      · exact Or.inl rfl
      · have : R = 0 := Classical.byContradiction fun h => hk ⟨rfl, h⟩
        exact Or.inr ⟨rfl, by simp; exact hw0.2 this⟩
    clear hE1 hE2 hw0 hY hk hdf hsu hfw
    rcases hd with rfl | ⟨rfl, hd⟩
    case' inr => rw [hd] at hz; clear hd
    all_goals
      go_enter Tryz.func100, Tryz.ntmps100
      go_wp2_with fail
      refine (hdiv.out _ hS0).mono ?_
      rintro e w1 ⟨A1, n1, c1, A2, c2, rfl, hq, hr, hS1⟩
      have e2 := hS1.c2
      have e4 := hS1.c4
      go_wp2_with (go_at_call 53; refine (hz _ _ _).mono ?_; rintro e w1 ⟨rfl, rfl⟩)
      refine (hsg.out _ _ _ _ hq hS1).mono ?_
      rintro e w2 ⟨A3, n3, c3, k3, rfl, hv3, hb3, hS2⟩
      go_wp2_with fail
      refine (hsg.out _ _ _ _ (hr.below hb3) hS2).mono ?_
      rintro e w3 ⟨A4, n4, c4, k4, rfl, hv4, hb4, hS3⟩
      have hv3' := hv3.below hb4
      obtain ⟨⟨q0, hc0⟩, ⟨q1, hc1⟩, hf0, hf1⟩ := hS3.b1.facts
      obtain ⟨⟨q2, hc2⟩, ⟨q3, hc3⟩, hf2, hf3⟩ := hS3.b2.facts
      go_wp2_with fail
      refine bodyPost_ret (v := .tuple #[.agg #[.slice A3 n3 c3, .bool k3], .agg #[.slice A4 n4 c4, .bool k4]]) (by simp [results, Tryz.results100, go_sem, hc0, hc1, hc2, hc3]) rfl ⟨_, _, rfl, ?_, ?_, ?_⟩
      · first
          | (rw [← HE.out.1 (!k2) (by cases k2 <;> rfl)]; exact (ov_end hS3 _ _ _ _ hv3').1)
          | (rw [← HE.out.1 k2 (by cases k2 <;> rfl)]; exact (ov_end hS3 _ _ _ _ hv3').1)
      · rw [← HE.out.2]; exact (ov_end hS3 _ _ _ _ hv4).1
      · exact (ov_end hS3 _ _ _ _ hv4).2

end Go.Proofs.YtdobcaabebepaaaGreatDoor

namespace Go.Proofs.YtdobcaabebepaaaGreatDoor
open Go.RowKit Vd
attribute [local go_sem ↓] Go.wp_at_zero Go.wp_at_succ

set_option maxRecDepth 100000 in
set_option maxHeartbeats 1000000 in
theorem toPower_any (v1 : Value) (x : Int) (n : Nat) (w : World) (h1 : SgV w v1 x) (hb : wlen B64 x.natAbs ≤ maxW) (hn : n * wlen B64 x.natAbs + 1 ≤ maxW) (hn2 : n ≤ 1000000) :
    Calls Tryz.prog 108 #[v1, .int .i64 (n : Int)] w fun e w' => ∃ v, e = .returned v ∧ SgV w' v (x ^ n) ∧ Below w.heap.size w w' := by
  obtain ⟨m1, rfl, hm1⟩ := h1
  have hE := sgn_pow x n
  obtain ⟨k1, hk1⟩ : ∃ k, k = decide (x < 0) := ⟨_, rfl⟩
  rw [← hk1] at hE ⊢
  obtain ⟨N, hN⟩ : ∃ N, N = x.natAbs ^ n := ⟨_, rfl⟩
  rw [← hN] at hE
  obtain ⟨od, hod⟩ : ∃ b, ((n : Int) % 2 == 1) = b := ⟨_, rfl⟩
  have hn' : (n : Int) ≤ 1000000 := by omega

  rw [hod] at hE
  have hpw : Hid (∀ W, PoS w m1 k1 W → Calls Tryz.prog 144 #[m1, .int .i64 (n : Int)] W fun e w' => ∃ v, e = .returned v ∧ MagV w' v N ∧ PoS w m1 k1 w') := Lib.hid (fun W hS => (power_any m1 _ n W (hm1.below hS.1.2) hb hn hn2).mono fun _ _ ⟨v, he, hm, hb⟩ => ⟨v, he, by rw [hN]; exact hm, pos_step hS hb⟩)
  have hsg : Hid (∀ W m b, b = (k1 && od) → MagV W m N → PoS w m1 k1 W → Calls Tryz.prog 123 #[m, .bool b] W fun e w' => ∃ (A : Option Addr) (l c : Nat) (k : Bool), e = .returned (.agg #[.slice A l c, .bool k]) ∧ k = decide (x ^ n < 0) ∧ MagV w' (.slice A l c) (x ^ n).natAbs ∧ PoS w m1 k1 w') := Lib.hid (fun W m b hb hm hS => (signed_any m N b W hm).mono fun e w' ⟨v, he, ⟨m', hv, hm'⟩, hbl⟩ => by
    rw [hb, hE] at hv hm'
    obtain ⟨A, c, rfl, _, _⟩ := hm'.ok_len
    exact ⟨A, _, c, _, by rw [he, hv], rfl, hm', pos_step hS hbl⟩)
  have hS0 := pos_start w m1 k1
  have hT : Hid (((n : Int).tmod 2 == 1) = od) := Lib.hid (by rw [Int.tmod_eq_emod_of_nonneg (by omega)]; exact hod)
  clear hE hN hm1 hb hn hn2 hk1
  cases k1
  · obtain ⟨⟨hb0, hbl0⟩, hc10, hc20⟩ := hS0
    have hS0 := pos_start w m1 false
    go_enter Tryz.func108, Tryz.ntmps108
    go_wp2_with fail
    have hSd : PoS w m1 false (World.drew ((w.alloc (.cells #[m1, .bool false] 87)).alloc (.cells #[.slice none 0 0, .bool false] 87))) := ⟨⟨hS0.1.1, hS0.1.2.drew⟩, hS0.2⟩
    refine wp_region_noPanic ?_
    refine wp_region_held_drew (S := PoS w m1 false) (by kernel_rfl) hSd (fun hHeld => ?_)
    refine wpAnyH_take (i := 0) (v := ?_) rfl (by kernel_rfl) (by kernel_rfl) (by kernel_rfl) (fun _ _ _ h => h) (Or.inl ⟨by rfl, ?_⟩) (by assumption) ?_
    rotate_left
    · intro W hSw; have e1 := hSw.2.1; have e2 := hSw.2.2; go_simp; try with_reducible rfl
    try simp only [Act.put, List.setIfInBounds_toArray]
    refine wpAnyH_take (i := 1) (v := ?_) rfl (by kernel_rfl) (by kernel_rfl) (by kernel_rfl) (fun _ _ _ h => h) (Or.inl ⟨by rfl, ?_⟩) (by assumption) ?_
    rotate_left
    · intro W hSw; have e1 := hSw.2.1; have e2 := hSw.2.2; go_simp; try with_reducible rfl
    try simp only [Act.put]
    refine wpAnyH_take (i := 2) (v := ?_) rfl (by kernel_rfl) (by kernel_rfl) (by kernel_rfl) (fun _ _ _ h => h) (Or.inl ⟨by rfl, ?_⟩) (by assumption) ?_
    rotate_left
    · intro W hSw; have e1 := hSw.2.1; have e2 := hSw.2.2; go_simp; try with_reducible rfl
    try simp only [Act.put]
    refine wpAnyH_take (i := 4) (v := ?_) rfl (by kernel_rfl) (by kernel_rfl) (by kernel_rfl) (fun _ _ _ h => h) (Or.inl ⟨by rfl, ?_⟩) (by assumption) ?_
    rotate_left
    · intro W hSw; have e1 := hSw.2.1; have e2 := hSw.2.2; go_simp; try with_reducible rfl
    try simp only [Act.put]
    refine wpAnyH_take (i := 5) (v := ?_) rfl (by kernel_rfl) (by kernel_rfl) (by kernel_rfl) (fun _ _ _ h => h) (Or.inl ⟨by rfl, ?_⟩) (by assumption) ?_
    rotate_left
    · intro W hSw; have e1 := hSw.2.1; have e2 := hSw.2.2; go_simp; try with_reducible rfl
    try simp only [Act.put]
    refine wpAnyH_ready (rs := [3]) (by kernel_rfl) (by simp) ?_
    refine AllReadyH.cons rfl (fun K hK => ?_) AllReadyH.nil
    go_simp
    refine (hpw.out _ hHeld).mono ?_
    rintro e w1 ⟨x1, rfl, hx1, hS1⟩
    refine hK.out _ _ hS1 (fun hHeld => ?_)
    clear hK K
    try simp only [Act.put, List.setIfInBounds_toArray, List.set_cons_zero, List.set_cons_succ]
    refine wpAnyH_take (i := 6) (v := ?_) rfl (by kernel_rfl) (by kernel_rfl) (by kernel_rfl) (fun _ _ _ h => h) (Or.inl ⟨by rfl, ?_⟩) (by assumption) ?_
    rotate_left
    · intro W hSw; have e1 := hSw.2.1; have e2 := hSw.2.2; go_simp; try with_reducible rfl
    try simp only [Act.put, List.setIfInBounds_toArray]
    refine wpAnyH_take (i := 7) (v := undef) rfl (by kernel_rfl) (by kernel_rfl) (by kernel_rfl) (fun _ _ _ h => h) (Or.inr ⟨by rfl, rfl⟩) (by assumption) ?_
    try simp only [Act.put]
    refine wpAnyH_take (i := 8) (v := undef) rfl (by kernel_rfl) (by kernel_rfl) (by kernel_rfl) (fun _ _ _ h => h) (Or.inr ⟨by rfl, rfl⟩) (by assumption) ?_
    try simp only [Act.put]
    refine wpAnyH_take (i := 9) (v := undef) rfl (by kernel_rfl) (by kernel_rfl) (by kernel_rfl) (fun _ _ _ h => h) (Or.inr ⟨by rfl, rfl⟩) (by assumption) ?_
    try simp only [Act.put]
    refine wpAnyH_take (i := 10) (v := ?_) rfl (by kernel_rfl) (by kernel_rfl) (by kernel_rfl) (fun _ _ _ h => h) (Or.inl ⟨by rfl, ?_⟩) (by assumption) ?_
    rotate_left
    · intro W hSw; have e1 := hSw.2.1; have e2 := hSw.2.2; go_simp; try with_reducible rfl
    try simp only [Act.put]
    refine wpAnyH_ready (rs := [11]) (by kernel_rfl) (by simp) ?_
    refine AllReadyH.cons rfl (fun K hK => ?_) AllReadyH.nil
    go_simp
    refine (hsg.out _ _ _ (by rfl) hx1 hS1).mono ?_
    rintro e w2 ⟨A, l, c, k, rfl, hk, hx2, hS2⟩
    obtain ⟨⟨q0, hc0⟩, ⟨q1, hc1⟩, hf0, hf1⟩ := hS2.1.1.facts
    have HX := Lib.hid (And.intro hk hx2)
    clear hk
    refine hK.out _ _ hS2 (fun hHeld => ?_)
    clear hK K
    try simp only [Act.put, List.setIfInBounds_toArray, List.set_cons_zero, List.set_cons_succ]
    refine wpAnyH_ready (rs := [12]) (by kernel_rfl) (by simp) ?_
    refine AllReadyH.cons rfl (fun K hK => ?_) AllReadyH.nil
    go_simp
    have hS3 := pos_store hS2 A l c k
    refine hK.out _ _ hS3 (fun hHeld => ?_)
    clear hK K
    try simp only [Act.put, List.setIfInBounds_toArray, List.set_cons_zero, List.set_cons_succ]
    refine wpAnyH_done (by kernel_rfl) ?_ _
    refine NoPanic.normal ?_
    go_wp2
    exact bodyPost_ret (v := .agg #[.slice A l c, .bool k]) (by simp [results, Tryz.results108, go_sem, hc0, hc1]) rfl ⟨_, rfl, ⟨_, by rw [HX.out.1], hS2.1.1.mag HX.out.2 _ _⟩, (pos_store hS2 A l c k).1.2⟩
  · go_enter Tryz.func108, Tryz.ntmps108
    go_wp2_with fail
    go_region_held3 (fun W => (BoxS W (w.heap.size + 1) ∧ Below w.heap.size w W) ∧ W.cell? ⟨w.heap.size, 0, none⟩ = some m1 ∧ W.cell? ⟨w.heap.size, 1, none⟩ = some (.bool true)) (first | with_reducible assumption | exact ⟨⟨hS0.1.1, hS0.1.2.drew⟩, hS0.2⟩ | (refine pos_store ?_ _ _ _ _; with_reducible assumption))
      (first
        | (go_at_call 144; refine (hpw.out _ ?_).mono ?_; with_reducible assumption; rintro e w1 ⟨x1, rfl, hx1, hS1⟩)
        | (go_at_call 123; refine (hsg.out _ _ _ ?_ ?_ ?_).mono ?_; (first | rfl | exact hT.out); with_reducible assumption; with_reducible assumption; rintro e w2 ⟨A, l, c, k, rfl, hk, hx2, hS2⟩; obtain ⟨⟨q0, hc0⟩, ⟨q1, hc1⟩, hf0, hf1⟩ := hS2.1.1.facts; have HX := Lib.hid (And.intro hk hx2); clear hk))
    go_wp2
    exact bodyPost_ret (v := .agg #[.slice A l c, .bool k]) (by simp [results, Tryz.results108, go_sem, hc0, hc1]) rfl ⟨_, rfl, ⟨_, by rw [HX.out.1], hS2.1.1.mag HX.out.2 _ _⟩, (pos_store hS2 A l c k).1.2⟩

end Go.Proofs.YtdobcaabebepaaaGreatDoor
