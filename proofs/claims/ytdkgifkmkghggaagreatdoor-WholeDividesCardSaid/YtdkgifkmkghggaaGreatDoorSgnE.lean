/- Contracts: differences and powers of signed numbers. -/
import Derived.Test.YtdkgifkmkghggaaGreatDoorSgnD
namespace Go.Proofs.YtdkgifkmkghggaaGreatDoor
open Go.RowKit Vd

theorem negative_held {w : World} {m1 m2 : Value} {k1 k2 : Bool} (z : Int) (hk : k2 = decide (z < 0)) (W : World) (hm : MagV W m2 z.natAbs) (hS : PlS w m1 m2 k1 k2 W) :
    Calls Tryz.prog 61 #[.agg #[m2, .bool k2]] W fun e w' => ∃ x, e = .returned x ∧ SgV w' x (-z) ∧ Below W.heap.size W w' ∧ PlS w m1 m2 k1 k2 w' := by
  refine (negative_any _ z W ⟨m2, by rw [hk], hm⟩).mono ?_
  rintro e w' ⟨x, he, hx, hb⟩
  exact ⟨x, he, hx, hb, pls_step hS hb⟩

theorem plus_held {w : World} {m1 m2 : Value} {k1 k2 : Bool} (v1 v2 : Value) (x y : Int) (W : World) (h1 : SgV W v1 x) (h2 : SgV W v2 y) (b1 : wlen B64 x.natAbs ≤ maxW) (b2 : wlen B64 y.natAbs ≤ maxW) (hS : PlS w m1 m2 k1 k2 W) :
    Calls Tryz.prog 114 #[v1, v2] W fun e w' => ∃ (A : Option Addr) (n c : Nat) (k : Bool), e = .returned (.agg #[.slice A n c, .bool k]) ∧ k = decide (x + y < 0) ∧ MagV w' (.slice A n c) (x + y).natAbs ∧ PlS w m1 m2 k1 k2 w' := by
  refine (plus_any v1 v2 x y W h1 h2 b1 b2).mono ?_
  rintro e w' ⟨v, he, ⟨m, hv, hm⟩, hb⟩
  obtain ⟨A, c, rfl, _, _⟩ := hm.ok_len
  exact ⟨A, _, c, _, by rw [he, hv], rfl, hm, pls_step hS hb⟩

set_option maxRecDepth 100000 in
set_option maxHeartbeats 1000000 in
theorem minus_any (v1 v2 : Value) (x y : Int) (w : World) (h1 : SgV w v1 x) (h2 : SgV w v2 y) (b1 : wlen B64 x.natAbs ≤ maxW) (b2 : wlen B64 y.natAbs ≤ maxW) :
    Calls Tryz.prog 115 #[v1, v2] w fun e w' => ∃ v, e = .returned v ∧ SgV w' v (x - y) ∧ Below w.heap.size w w' := by
  obtain ⟨m1, rfl, hm1⟩ := h1
  obtain ⟨m2, rfl, hm2⟩ := h2
  obtain ⟨k1, hk1⟩ : ∃ k, k = decide (x < 0) := ⟨_, rfl⟩
  obtain ⟨k2, hk2⟩ : ∃ k, k = decide (y < 0) := ⟨_, rfl⟩
  rw [← hk1, ← hk2]
  have b2' : wlen B64 (-y).natAbs ≤ maxW := by rw [Int.natAbs_neg]; exact b2
  have hng : Hid (∀ W, PlS w m1 m2 k1 k2 W → Calls Tryz.prog 61 #[.agg #[m2, .bool k2]] W fun e w' => ∃ x, e = .returned x ∧ SgV w' x (-y) ∧ Below W.heap.size W w' ∧ PlS w m1 m2 k1 k2 w') := Lib.hid (fun W hS => negative_held y hk2 W (hm2.below hS.1.2) hS)
  have hpl : Hid (∀ W v2, SgV W v2 (-y) → PlS w m1 m2 k1 k2 W → Calls Tryz.prog 114 #[.agg #[m1, .bool k1], v2] W fun e w' => ∃ (A : Option Addr) (n c : Nat) (k : Bool), e = .returned (.agg #[.slice A n c, .bool k]) ∧ k = decide (x + -y < 0) ∧ MagV w' (.slice A n c) (x + -y).natAbs ∧ PlS w m1 m2 k1 k2 w') := Lib.hid (fun W v2 h2 hS => plus_held _ v2 x (-y) W ⟨m1, by rw [hk1], hm1.below hS.1.2⟩ h2 b1 b2' hS)
  have hS0 := pls_start w m1 m2 k1 k2
  clear hm1 hm2 b1 b2 b2' hk1 hk2
  go_enter Tryz.func115, Tryz.ntmps115
  go_wp2_with fail
  go_region_held3 (fun W => (BoxS W (w.heap.size + 1 + 1) ∧ Below w.heap.size w W) ∧ W.cell? ⟨w.heap.size, 0, none⟩ = some m1 ∧ W.cell? ⟨w.heap.size, 1, none⟩ = some (.bool k1) ∧ W.cell? ⟨w.heap.size + 1, 0, none⟩ = some m2 ∧ W.cell? ⟨w.heap.size + 1, 1, none⟩ = some (.bool k2)) (first | with_reducible assumption | exact ⟨⟨hS0.1.1, hS0.1.2.drew⟩, hS0.2⟩ | (refine pls_store ?_ _ _ _ _; with_reducible assumption))
    (first
      | (go_at_call 61; refine (hng.out _ ?_).mono ?_; with_reducible assumption; rintro e w1 ⟨x1, rfl, hx1, hbn, hS1⟩)
      | (go_at_call 114; refine (hpl.out _ _ ?_ ?_).mono ?_; with_reducible assumption; with_reducible assumption; rintro e w2 ⟨A, n, c, k, rfl, hk, hx2, hS2⟩; obtain ⟨⟨q0, hc0⟩, ⟨q1, hc1⟩, hf0, hf1⟩ := hS2.1.1.facts; have HX := Lib.hid (And.intro hk hx2); clear hk))
  go_wp2
  exact bodyPost_ret (v := .agg #[.slice A n c, .bool k]) (by simp [results, Tryz.results115, go_sem, hc0, hc1]) rfl ⟨_, rfl, by
    have hk := HX.out.1
    have hm := HX.out.2
    rw [Int.sub_eq_add_neg]
    exact ⟨_, by rw [hk], hS2.1.1.mag hm _ _⟩, (pls_store hS2 A n c k).1.2⟩

end Go.Proofs.YtdkgifkmkghggaaGreatDoor
