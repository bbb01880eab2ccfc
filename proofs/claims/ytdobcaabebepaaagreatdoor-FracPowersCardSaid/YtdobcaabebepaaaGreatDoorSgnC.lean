/- Contracts: products and sums of signed numbers. -/
import Derived.Test.YtdobcaabebepaaaGreatDoorSgnB
namespace Go.Proofs.YtdobcaabebepaaaGreatDoor
open Go.RowKit Vd

/-- both boxes stay, and the world grows only above w -/
abbrev PlS (w : World) (m1 m2 : Value) (k1 k2 : Bool) (W : World) : Prop :=
  (BoxS W (w.heap.size + 1 + 1) ∧ Below w.heap.size w W) ∧ W.cell? ⟨w.heap.size, 0, none⟩ = some m1 ∧ W.cell? ⟨w.heap.size, 1, none⟩ = some (.bool k1) ∧ W.cell? ⟨w.heap.size + 1, 0, none⟩ = some m2 ∧ W.cell? ⟨w.heap.size + 1, 1, none⟩ = some (.bool k2)

theorem pls_step {w W w1 : World} {m1 m2 : Value} {k1 k2 : Bool} (h : PlS w m1 m2 k1 k2 W) (hb : Below W.heap.size W w1) : PlS w m1 m2 k1 k2 w1 := by
  have hlt := h.1.1.lt
  have hc : ∀ b o, b < w.heap.size + 1 + 1 → w1.cell? ⟨b, o, none⟩ = W.cell? ⟨b, o, none⟩ := fun b o hbl => hb.cell (p := ⟨b, o, none⟩) (Nat.lt_trans hbl hlt)
  refine ⟨⟨h.1.1.below hb hlt, h.1.2.trans (hb.mono (by omega))⟩, ?_, ?_, ?_, ?_⟩
  · rw [hc _ _ (by omega)]; exact h.2.1
  · rw [hc _ _ (by omega)]; exact h.2.2.1
  · rw [hc _ _ (by omega)]; exact h.2.2.2.1
  · rw [hc _ _ (by omega)]; exact h.2.2.2.2

theorem BoxS.set {W : World} {b : Nat} (h : BoxS W b) (A : Option Addr) (n c : Nat) (k : Bool) : BoxS ((W.setCell ⟨b, 0, none⟩ (.slice A n c)).setCell ⟨b, 1, none⟩ (.bool k)) b := by
  obtain ⟨A', n', c', k', h⟩ := h
  exact ⟨A, n, c, k, by simp [World.setCell, Array.getElem?_modify, h]⟩

theorem pls_store {w W : World} {m1 m2 : Value} {k1 k2 : Bool} (h : PlS w m1 m2 k1 k2 W) (A : Option Addr) (n c : Nat) (k : Bool) :
    PlS w m1 m2 k1 k2 ((W.setCell ⟨w.heap.size + 1 + 1, 0, none⟩ (.slice A n c)).setCell ⟨w.heap.size + 1 + 1, 1, none⟩ (.bool k)) := by
  have hc : ∀ b o, b < w.heap.size + 1 + 1 → ((W.setCell ⟨w.heap.size + 1 + 1, 0, none⟩ (.slice A n c)).setCell ⟨w.heap.size + 1 + 1, 1, none⟩ (.bool k)).cell? ⟨b, o, none⟩ = W.cell? ⟨b, o, none⟩ := fun b o hb => by
    rw [World.cell?_setCell_other _ _ _ _ (by intro e; injection e with e; omega), World.cell?_setCell_other _ _ _ _ (by intro e; injection e with e; omega)]
  refine ⟨⟨h.1.1.set A n c k, (h.1.2.setCell (by simp; omega) _).setCell (by simp; omega) _⟩, ?_, ?_, ?_, ?_⟩
  · rw [hc _ _ (by omega)]; exact h.2.1
  · rw [hc _ _ (by omega)]; exact h.2.2.1
  · rw [hc _ _ (by omega)]; exact h.2.2.2.1
  · rw [hc _ _ (by omega)]; exact h.2.2.2.2

theorem pls_start (w : World) (m1 m2 : Value) (k1 k2 : Bool) : PlS w m1 m2 k1 k2 (((w.alloc (.cells #[m1, .bool k1] 87)).alloc (.cells #[m2, .bool k2] 87)).alloc (.cells #[.slice none 0 0, .bool false] 87)) := by
  have hb := BoxS.alloc ((w.alloc (.cells #[m1, .bool k1] 87)).alloc (.cells #[m2, .bool k2] 87)) none 0 0 false
  rw [World.size_alloc, World.size_alloc] at hb
  refine ⟨⟨hb, (((Below.refl _ _).alloc (Nat.le_refl _) _).alloc (by simp) _).alloc (by simp; omega) _⟩, ?_, ?_, ?_, ?_⟩ <;> simp [go_sem]

theorem sgn_mul (x y : Int) : sgn (x.natAbs * y.natAbs) (decide (x < 0) != decide (y < 0)) = x * y := by
  have hx := sgn_self x
  have hy := sgn_self y
  unfold sgn at *
  by_cases h1 : x < 0
  · by_cases h2 : y < 0
    · simp [h1, h2] at hx hy ⊢; rw [← hx, ← hy, Int.neg_mul_neg]; simp
    · simp [h1, h2] at hx hy ⊢; rw [← hx, ← hy, Int.neg_mul]; simp
  · by_cases h2 : y < 0
    · simp [h1, h2] at hx hy ⊢; rw [← hx, ← hy, Int.mul_neg]; simp
    · simp [h1, h2] at hx hy ⊢; rw [← hx, ← hy]; simp

set_option maxRecDepth 100000 in
set_option maxHeartbeats 1000000 in
theorem times_any (v1 v2 : Value) (x y : Int) (w : World) (h1 : SgV w v1 x) (h2 : SgV w v2 y) (b1 : wlen B64 x.natAbs ≤ maxW) (b2 : wlen B64 y.natAbs ≤ maxW) :
    Calls Tryz.prog 93 #[v1, v2] w fun e w' => ∃ v, e = .returned v ∧ SgV w' v (x * y) ∧ Below w.heap.size w w' := by
  obtain ⟨m1, rfl, hm1⟩ := h1
  obtain ⟨m2, rfl, hm2⟩ := h2
  obtain ⟨k1, hk1⟩ : ∃ k, k = decide (x < 0) := ⟨_, rfl⟩
  obtain ⟨k2, hk2⟩ : ∃ k, k = decide (y < 0) := ⟨_, rfl⟩
  have hE := sgn_mul x y
  rw [← hk1, ← hk2] at hE ⊢
  obtain ⟨N, hN⟩ : ∃ n, n = x.natAbs * y.natAbs := ⟨_, rfl⟩
  rw [← hN] at hE
  have hpr : Hid (∀ W, PlS w m1 m2 k1 k2 W → Calls Tryz.prog 125 #[m1, m2] W fun e w' => ∃ v, e = .returned v ∧ MagV w' v N ∧ PlS w m1 m2 k1 k2 w') := Lib.hid (fun W hS => (product_any m1 m2 _ _ W (hm1.below hS.1.2) (hm2.below hS.1.2) b1 b2).mono fun _ _ ⟨v, he, hm, hb⟩ => ⟨v, he, by rw [hN]; exact hm, pls_step hS hb⟩)
  have hsg : Hid (∀ W m, MagV W m N → PlS w m1 m2 k1 k2 W → Calls Tryz.prog 123 #[m, .bool (k1 != k2)] W fun e w' => ∃ (A : Option Addr) (n c : Nat) (k : Bool), e = .returned (.agg #[.slice A n c, .bool k]) ∧ k = decide (sgn N (k1 != k2) < 0) ∧ MagV w' (.slice A n c) (sgn N (k1 != k2)).natAbs ∧ PlS w m1 m2 k1 k2 w') := Lib.hid (fun W m hm hS => (signed_any m N (k1 != k2) W hm).mono fun e w' ⟨v, he, ⟨m', hv, hm'⟩, hb⟩ => by
    obtain ⟨A, c, rfl, _, _⟩ := hm'.ok_len
    exact ⟨A, _, c, _, by rw [he, hv], rfl, hm', pls_step hS hb⟩)
  have HE := Lib.hid hE
  have hS0 := pls_start w m1 m2 k1 k2
  clear hE hN hm1 hm2 b1 b2 hk1 hk2
  go_enter Tryz.func93, Tryz.ntmps93
  go_wp2
  go_region_held3 (fun W => (BoxS W (w.heap.size + 1 + 1) ∧ Below w.heap.size w W) ∧ W.cell? ⟨w.heap.size, 0, none⟩ = some m1 ∧ W.cell? ⟨w.heap.size, 1, none⟩ = some (.bool k1) ∧ W.cell? ⟨w.heap.size + 1, 0, none⟩ = some m2 ∧ W.cell? ⟨w.heap.size + 1, 1, none⟩ = some (.bool k2)) (first | with_reducible assumption | exact ⟨⟨hS0.1.1, hS0.1.2.drew⟩, hS0.2⟩ | (refine pls_store ?_ _ _ _ _; with_reducible assumption))
    (first
      | (go_at_call 125; refine (hpr.out _ ?_).mono ?_; with_reducible assumption; rintro e w1 ⟨x1, rfl, hx1, hS1⟩)
      | (go_at_call 123; refine (hsg.out _ _ ?_ ?_).mono ?_; with_reducible assumption; with_reducible assumption; rintro e w2 ⟨A, n, c, k, rfl, hk, hx2, hS2⟩; obtain ⟨⟨q0, hc0⟩, ⟨q1, hc1⟩, hf0, hf1⟩ := hS2.1.1.facts; have HX := Lib.hid (And.intro hk hx2); clear hk))
  go_wp2
  exact bodyPost_ret (v := .agg #[.slice A n c, .bool k]) (by simp [results, Tryz.results93, go_sem, hc0, hc1]) rfl ⟨_, rfl, by
    have hk := HX.out.1
    have hm := HX.out.2
    rw [HE.out] at hk hm
    exact ⟨_, by rw [hk], hS2.1.1.mag hm _ _⟩, (pls_store hS2 A n c k).1.2⟩

end Go.Proofs.YtdobcaabebepaaaGreatDoor
