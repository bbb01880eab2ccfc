/- Contracts: sums of signed numbers. -/
import Derived.Test.YtdobcaabebepaaaGreatDoorSgnC
namespace Go.Proofs.YtdobcaabebepaaaGreatDoor
open Go.RowKit Vd

theorem pls_drewN {w W : World} {m1 m2 : Value} {k1 k2 : Bool} (h : PlS w m1 m2 k1 k2 W) (d : Nat) : PlS w m1 m2 k1 k2 (W.drewN d) :=
  ⟨⟨h.1.1, below_drewN h.1.2 d⟩, h.2⟩

theorem signed_held {w : World} {m1 m2 : Value} {k1 k2 : Bool} (N : Nat) (b : Bool) (W : World) (m : Value) (hm : MagV W m N) (hS : PlS w m1 m2 k1 k2 W) :
    Calls Tryz.prog 123 #[m, .bool b] W fun e w' => ∃ (A : Option Addr) (n c : Nat) (k : Bool), e = .returned (.agg #[.slice A n c, .bool k]) ∧ k = decide (sgn N b < 0) ∧ MagV w' (.slice A n c) (sgn N b).natAbs ∧ PlS w m1 m2 k1 k2 w' :=
  (signed_any m N b W hm).mono fun e w' ⟨v, he, ⟨m', hv, hm'⟩, hb⟩ => by
    obtain ⟨A, c, rfl, _, _⟩ := hm'.ok_len
    exact ⟨A, _, c, _, by rw [he, hv], rfl, hm', pls_step hS hb⟩

set_option maxRecDepth 100000 in
set_option maxHeartbeats 1000000 in
theorem plus_tt (m1 m2 : Value) (a b : Nat) (z : Int) (w : World) (hm1 : MagV w m1 a) (hm2 : MagV w m2 b) (b1 : wlen B64 a ≤ maxW) (b2 : wlen B64 b ≤ maxW) (hz : sgn (a + b) true = z) :
    Calls Tryz.prog 94 #[.agg #[m1, .bool true], .agg #[m2, .bool true]] w fun e w' => ∃ v, e = .returned v ∧ SgV w' v z ∧ Below w.heap.size w w' := by
  have hpr : Hid (∀ W, PlS w m1 m2 true true W → Calls Tryz.prog 126 #[m1, m2] W fun e w' => ∃ v, e = .returned v ∧ MagV w' v (a + b) ∧ PlS w m1 m2 true true w') := Lib.hid (fun W hS => (sum_any m1 m2 _ _ W (hm1.below hS.1.2) (hm2.below hS.1.2) b1 b2).mono fun _ _ ⟨v, he, hm, hb⟩ => ⟨v, he, hm, pls_step hS hb⟩)
  have HE := Lib.hid hz
  have hS0 := pls_start w m1 m2 true true
  clear hz hm1 hm2 b1 b2
  go_enter Tryz.func94, Tryz.ntmps94
  go_wp2_with fail
  have hS1 := hS0
  go_region_held3 (fun W => (BoxS W (w.heap.size + 1 + 1) ∧ Below w.heap.size w W) ∧ W.cell? ⟨w.heap.size, 0, none⟩ = some m1 ∧ W.cell? ⟨w.heap.size, 1, none⟩ = some (.bool true) ∧ W.cell? ⟨w.heap.size + 1, 0, none⟩ = some m2 ∧ W.cell? ⟨w.heap.size + 1, 1, none⟩ = some (.bool true)) (first | with_reducible assumption | exact ⟨⟨hS1.1.1, hS1.1.2.drew⟩, hS1.2⟩ | (refine pls_store ?_ _ _ _ _; with_reducible assumption))
    (first
      | (go_at_call 126; refine (hpr.out _ ?_).mono ?_; with_reducible assumption; rintro e w1 ⟨x1, rfl, hx1, hS1⟩)
      | (go_at_call 123; refine (signed_held (w := w) (m1 := m1) (m2 := m2) (k1 := true) (k2 := true) (a + b) true _ _ ?_ ?_).mono ?_; with_reducible assumption; with_reducible assumption; rintro e w2 ⟨A, n, c, k, rfl, hk, hx2, hS2⟩; obtain ⟨⟨q0, hc0⟩, ⟨q1, hc1⟩, hf0, hf1⟩ := hS2.1.1.facts; have HX := Lib.hid (And.intro hk hx2); clear hk))
  go_wp2
  exact bodyPost_ret (v := .agg #[.slice A n c, .bool k]) (by simp [results, Tryz.results94, go_sem, hc0, hc1]) rfl ⟨_, rfl, by
    have hk := HX.out.1
    have hm := HX.out.2
    rw [HE.out] at hk hm
    exact ⟨_, by rw [hk], hS2.1.1.mag hm _ _⟩, (pls_store hS2 A n c k).1.2⟩

set_option maxRecDepth 100000 in
set_option maxHeartbeats 1000000 in
theorem plus_ff (m1 m2 : Value) (a b : Nat) (z : Int) (w : World) (hm1 : MagV w m1 a) (hm2 : MagV w m2 b) (b1 : wlen B64 a ≤ maxW) (b2 : wlen B64 b ≤ maxW) (hz : sgn (a + b) false = z) :
    Calls Tryz.prog 94 #[.agg #[m1, .bool false], .agg #[m2, .bool false]] w fun e w' => ∃ v, e = .returned v ∧ SgV w' v z ∧ Below w.heap.size w w' := by
  have hpr : Hid (∀ W, PlS w m1 m2 false false W → Calls Tryz.prog 126 #[m1, m2] W fun e w' => ∃ v, e = .returned v ∧ MagV w' v (a + b) ∧ PlS w m1 m2 false false w') := Lib.hid (fun W hS => (sum_any m1 m2 _ _ W (hm1.below hS.1.2) (hm2.below hS.1.2) b1 b2).mono fun _ _ ⟨v, he, hm, hb⟩ => ⟨v, he, hm, pls_step hS hb⟩)
  have HE := Lib.hid hz
  have hS0 := pls_start w m1 m2 false false
  clear hz hm1 hm2 b1 b2
  go_enter Tryz.func94, Tryz.ntmps94
  go_wp2_with fail
  have hS1 := hS0
  go_region_held3 (fun W => (BoxS W (w.heap.size + 1 + 1) ∧ Below w.heap.size w W) ∧ W.cell? ⟨w.heap.size, 0, none⟩ = some m1 ∧ W.cell? ⟨w.heap.size, 1, none⟩ = some (.bool false) ∧ W.cell? ⟨w.heap.size + 1, 0, none⟩ = some m2 ∧ W.cell? ⟨w.heap.size + 1, 1, none⟩ = some (.bool false)) (first | with_reducible assumption | exact ⟨⟨hS1.1.1, hS1.1.2.drew⟩, hS1.2⟩ | (refine pls_store ?_ _ _ _ _; with_reducible assumption))
    (first
      | (go_at_call 126; refine (hpr.out _ ?_).mono ?_; with_reducible assumption; rintro e w1 ⟨x1, rfl, hx1, hS1⟩)
      | (go_at_call 123; refine (signed_held (w := w) (m1 := m1) (m2 := m2) (k1 := false) (k2 := false) (a + b) false _ _ ?_ ?_).mono ?_; with_reducible assumption; with_reducible assumption; rintro e w2 ⟨A, n, c, k, rfl, hk, hx2, hS2⟩; obtain ⟨⟨q0, hc0⟩, ⟨q1, hc1⟩, hf0, hf1⟩ := hS2.1.1.facts; have HX := Lib.hid (And.intro hk hx2); clear hk))
  go_wp2
  exact bodyPost_ret (v := .agg #[.slice A n c, .bool k]) (by simp [results, Tryz.results94, go_sem, hc0, hc1]) rfl ⟨_, rfl, by
    have hk := HX.out.1
    have hm := HX.out.2
    rw [HE.out] at hk hm
    exact ⟨_, by rw [hk], hS2.1.1.mag hm _ _⟩, (pls_store hS2 A n c k).1.2⟩

set_option maxRecDepth 100000 in
set_option maxHeartbeats 1000000 in
theorem plus_tf_lt (m1 m2 : Value) (a b : Nat) (z : Int) (w : World) (hm1 : MagV w m1 a) (hm2 : MagV w m2 b) (_b1 : wlen B64 a ≤ maxW) (b2 : wlen B64 b ≤ maxW) (hc : a < b) (hz : sgn (b - a) false = z) :
    Calls Tryz.prog 94 #[.agg #[m1, .bool true], .agg #[m2, .bool false]] w fun e w' => ∃ v, e = .returned v ∧ SgV w' v z ∧ Below w.heap.size w w' := by
  have hpr : Hid (∀ W, PlS w m1 m2 true false W → Calls Tryz.prog 128 #[m2, m1] W fun e w' => ∃ v, e = .returned v ∧ MagV w' v (b - a) ∧ PlS w m1 m2 true false w') := Lib.hid (fun W hS => (diff_any m2 m1 _ _ W (hm2.below hS.1.2) (hm1.below hS.1.2) b2 (Nat.le_of_lt hc)).mono fun _ _ ⟨v, he, hm, hb⟩ => ⟨v, he, hm, pls_step hS hb⟩)
  have HE := Lib.hid hz
  have hcm := fun W (hS : PlS w m1 m2 true false W) => compare_any m1 m2 a b W (hm1.below hS.1.2) (hm2.below hS.1.2) b2
  have hcl : (cmpN a b < 0) = True := by unfold cmpN; simp; split <;> (try split) <;> (try simp) <;> omega
  obtain ⟨cv, hcv⟩ : ∃ c, c = cmpN a b := ⟨_, rfl⟩
  rw [← hcv] at hcl
  simp only [← hcv] at hcm
  have hcm' := (hcm _ (pls_start w m1 m2 true false)).mono (R' := fun e w' => e = .returned (.int .i64 cv) ∧ PlS w m1 m2 true false w') fun e w' ⟨he, d, hw⟩ => ⟨he, by rw [hw]; exact pls_drewN (pls_start w m1 m2 true false) d⟩
  have hcn : cv < 0 := by rw [hcl]; trivial
  clear hcm hcl hcv
  have hS0 := pls_start w m1 m2 true false
  clear hz hm1 hm2 _b1 b2 hc
  go_enter Tryz.func94, Tryz.ntmps94
  go_wp2_with fail
  refine hcm'.mono ?_
  rintro e w0 ⟨rfl, hS1⟩
  go_wp2_with fail
  go_region_held3 (fun W => (BoxS W (w.heap.size + 1 + 1) ∧ Below w.heap.size w W) ∧ W.cell? ⟨w.heap.size, 0, none⟩ = some m1 ∧ W.cell? ⟨w.heap.size, 1, none⟩ = some (.bool true) ∧ W.cell? ⟨w.heap.size + 1, 0, none⟩ = some m2 ∧ W.cell? ⟨w.heap.size + 1, 1, none⟩ = some (.bool false)) (first | with_reducible assumption | exact ⟨⟨hS1.1.1, hS1.1.2.drew⟩, hS1.2⟩ | (refine pls_store ?_ _ _ _ _; with_reducible assumption))
    (first
      | (go_at_call 128; refine (hpr.out _ ?_).mono ?_; with_reducible assumption; rintro e w1 ⟨x1, rfl, hx1, hS1⟩)
      | (go_at_call 123; refine (signed_held (w := w) (m1 := m1) (m2 := m2) (k1 := true) (k2 := false) (b - a) false _ _ ?_ ?_).mono ?_; with_reducible assumption; with_reducible assumption; rintro e w2 ⟨A, n, c, k, rfl, hk, hx2, hS2⟩; obtain ⟨⟨q0, hc0⟩, ⟨q1, hc1⟩, hf0, hf1⟩ := hS2.1.1.facts; have HX := Lib.hid (And.intro hk hx2); clear hk))
  go_wp2
  exact bodyPost_ret (v := .agg #[.slice A n c, .bool k]) (by simp [results, Tryz.results94, go_sem, hc0, hc1]) rfl ⟨_, rfl, by
    have hk := HX.out.1
    have hm := HX.out.2
    rw [HE.out] at hk hm
    exact ⟨_, by rw [hk], hS2.1.1.mag hm _ _⟩, (pls_store hS2 A n c k).1.2⟩

set_option maxRecDepth 100000 in
set_option maxHeartbeats 1000000 in
theorem plus_tf_ge (m1 m2 : Value) (a b : Nat) (z : Int) (w : World) (hm1 : MagV w m1 a) (hm2 : MagV w m2 b) (b1 : wlen B64 a ≤ maxW) (b2 : wlen B64 b ≤ maxW) (hc : b ≤ a) (hz : sgn (a - b) true = z) :
    Calls Tryz.prog 94 #[.agg #[m1, .bool true], .agg #[m2, .bool false]] w fun e w' => ∃ v, e = .returned v ∧ SgV w' v z ∧ Below w.heap.size w w' := by
  have hpr : Hid (∀ W, PlS w m1 m2 true false W → Calls Tryz.prog 128 #[m1, m2] W fun e w' => ∃ v, e = .returned v ∧ MagV w' v (a - b) ∧ PlS w m1 m2 true false w') := Lib.hid (fun W hS => (diff_any m1 m2 _ _ W (hm1.below hS.1.2) (hm2.below hS.1.2) b1 hc).mono fun _ _ ⟨v, he, hm, hb⟩ => ⟨v, he, hm, pls_step hS hb⟩)
  have HE := Lib.hid hz
  have hcm := fun W (hS : PlS w m1 m2 true false W) => compare_any m1 m2 a b W (hm1.below hS.1.2) (hm2.below hS.1.2) b2
  have hcl : (cmpN a b < 0) = False := by unfold cmpN; simp; split <;> (try split) <;> (try simp) <;> omega
  obtain ⟨cv, hcv⟩ : ∃ c, c = cmpN a b := ⟨_, rfl⟩
  rw [← hcv] at hcl
  simp only [← hcv] at hcm
  have hcm' := (hcm _ (pls_start w m1 m2 true false)).mono (R' := fun e w' => e = .returned (.int .i64 cv) ∧ PlS w m1 m2 true false w') fun e w' ⟨he, d, hw⟩ => ⟨he, by rw [hw]; exact pls_drewN (pls_start w m1 m2 true false) d⟩
  have hcn : ¬ cv < 0 := by rw [hcl]; trivial
  clear hcm hcl hcv
  have hS0 := pls_start w m1 m2 true false
  clear hz hm1 hm2 b1 b2 hc
  go_enter Tryz.func94, Tryz.ntmps94
  go_wp2_with fail
  refine hcm'.mono ?_
  rintro e w0 ⟨rfl, hS1⟩
  go_wp2_with fail
  go_region_held3 (fun W => (BoxS W (w.heap.size + 1 + 1) ∧ Below w.heap.size w W) ∧ W.cell? ⟨w.heap.size, 0, none⟩ = some m1 ∧ W.cell? ⟨w.heap.size, 1, none⟩ = some (.bool true) ∧ W.cell? ⟨w.heap.size + 1, 0, none⟩ = some m2 ∧ W.cell? ⟨w.heap.size + 1, 1, none⟩ = some (.bool false)) (first | with_reducible assumption | exact ⟨⟨hS1.1.1, hS1.1.2.drew⟩, hS1.2⟩ | (refine pls_store ?_ _ _ _ _; with_reducible assumption))
    (first
      | (go_at_call 128; refine (hpr.out _ ?_).mono ?_; with_reducible assumption; rintro e w1 ⟨x1, rfl, hx1, hS1⟩)
      | (go_at_call 123; refine (signed_held (w := w) (m1 := m1) (m2 := m2) (k1 := true) (k2 := false) (a - b) true _ _ ?_ ?_).mono ?_; with_reducible assumption; with_reducible assumption; rintro e w2 ⟨A, n, c, k, rfl, hk, hx2, hS2⟩; obtain ⟨⟨q0, hc0⟩, ⟨q1, hc1⟩, hf0, hf1⟩ := hS2.1.1.facts; have HX := Lib.hid (And.intro hk hx2); clear hk))
  go_wp2
  exact bodyPost_ret (v := .agg #[.slice A n c, .bool k]) (by simp [results, Tryz.results94, go_sem, hc0, hc1]) rfl ⟨_, rfl, by
    have hk := HX.out.1
    have hm := HX.out.2
    rw [HE.out] at hk hm
    exact ⟨_, by rw [hk], hS2.1.1.mag hm _ _⟩, (pls_store hS2 A n c k).1.2⟩

set_option maxRecDepth 100000 in
set_option maxHeartbeats 1000000 in
theorem plus_ft_lt (m1 m2 : Value) (a b : Nat) (z : Int) (w : World) (hm1 : MagV w m1 a) (hm2 : MagV w m2 b) (_b1 : wlen B64 a ≤ maxW) (b2 : wlen B64 b ≤ maxW) (hc : a < b) (hz : sgn (b - a) true = z) :
    Calls Tryz.prog 94 #[.agg #[m1, .bool false], .agg #[m2, .bool true]] w fun e w' => ∃ v, e = .returned v ∧ SgV w' v z ∧ Below w.heap.size w w' := by
  have hpr : Hid (∀ W, PlS w m1 m2 false true W → Calls Tryz.prog 128 #[m2, m1] W fun e w' => ∃ v, e = .returned v ∧ MagV w' v (b - a) ∧ PlS w m1 m2 false true w') := Lib.hid (fun W hS => (diff_any m2 m1 _ _ W (hm2.below hS.1.2) (hm1.below hS.1.2) b2 (Nat.le_of_lt hc)).mono fun _ _ ⟨v, he, hm, hb⟩ => ⟨v, he, hm, pls_step hS hb⟩)
  have HE := Lib.hid hz
  have hcm := fun W (hS : PlS w m1 m2 false true W) => compare_any m1 m2 a b W (hm1.below hS.1.2) (hm2.below hS.1.2) b2
  have hcl : (cmpN a b < 0) = True := by unfold cmpN; simp; split <;> (try split) <;> (try simp) <;> omega
  obtain ⟨cv, hcv⟩ : ∃ c, c = cmpN a b := ⟨_, rfl⟩
  rw [← hcv] at hcl
  simp only [← hcv] at hcm
  have hcm' := (hcm _ (pls_start w m1 m2 false true)).mono (R' := fun e w' => e = .returned (.int .i64 cv) ∧ PlS w m1 m2 false true w') fun e w' ⟨he, d, hw⟩ => ⟨he, by rw [hw]; exact pls_drewN (pls_start w m1 m2 false true) d⟩
  have hcn : cv < 0 := by rw [hcl]; trivial
  clear hcm hcl hcv
  have hS0 := pls_start w m1 m2 false true
  clear hz hm1 hm2 _b1 b2 hc
  go_enter Tryz.func94, Tryz.ntmps94
  go_wp2_with fail
  refine hcm'.mono ?_
  rintro e w0 ⟨rfl, hS1⟩
  go_wp2_with fail
  go_region_held3 (fun W => (BoxS W (w.heap.size + 1 + 1) ∧ Below w.heap.size w W) ∧ W.cell? ⟨w.heap.size, 0, none⟩ = some m1 ∧ W.cell? ⟨w.heap.size, 1, none⟩ = some (.bool false) ∧ W.cell? ⟨w.heap.size + 1, 0, none⟩ = some m2 ∧ W.cell? ⟨w.heap.size + 1, 1, none⟩ = some (.bool true)) (first | with_reducible assumption | exact ⟨⟨hS1.1.1, hS1.1.2.drew⟩, hS1.2⟩ | (refine pls_store ?_ _ _ _ _; with_reducible assumption))
    (first
      | (go_at_call 128; refine (hpr.out _ ?_).mono ?_; with_reducible assumption; rintro e w1 ⟨x1, rfl, hx1, hS1⟩)
      | (go_at_call 123; refine (signed_held (w := w) (m1 := m1) (m2 := m2) (k1 := false) (k2 := true) (b - a) true _ _ ?_ ?_).mono ?_; with_reducible assumption; with_reducible assumption; rintro e w2 ⟨A, n, c, k, rfl, hk, hx2, hS2⟩; obtain ⟨⟨q0, hc0⟩, ⟨q1, hc1⟩, hf0, hf1⟩ := hS2.1.1.facts; have HX := Lib.hid (And.intro hk hx2); clear hk))
  go_wp2
  exact bodyPost_ret (v := .agg #[.slice A n c, .bool k]) (by simp [results, Tryz.results94, go_sem, hc0, hc1]) rfl ⟨_, rfl, by
    have hk := HX.out.1
    have hm := HX.out.2
    rw [HE.out] at hk hm
    exact ⟨_, by rw [hk], hS2.1.1.mag hm _ _⟩, (pls_store hS2 A n c k).1.2⟩

set_option maxRecDepth 100000 in
set_option maxHeartbeats 1000000 in
theorem plus_ft_ge (m1 m2 : Value) (a b : Nat) (z : Int) (w : World) (hm1 : MagV w m1 a) (hm2 : MagV w m2 b) (b1 : wlen B64 a ≤ maxW) (b2 : wlen B64 b ≤ maxW) (hc : b ≤ a) (hz : sgn (a - b) false = z) :
    Calls Tryz.prog 94 #[.agg #[m1, .bool false], .agg #[m2, .bool true]] w fun e w' => ∃ v, e = .returned v ∧ SgV w' v z ∧ Below w.heap.size w w' := by
  have hpr : Hid (∀ W, PlS w m1 m2 false true W → Calls Tryz.prog 128 #[m1, m2] W fun e w' => ∃ v, e = .returned v ∧ MagV w' v (a - b) ∧ PlS w m1 m2 false true w') := Lib.hid (fun W hS => (diff_any m1 m2 _ _ W (hm1.below hS.1.2) (hm2.below hS.1.2) b1 hc).mono fun _ _ ⟨v, he, hm, hb⟩ => ⟨v, he, hm, pls_step hS hb⟩)
  have HE := Lib.hid hz
  have hcm := fun W (hS : PlS w m1 m2 false true W) => compare_any m1 m2 a b W (hm1.below hS.1.2) (hm2.below hS.1.2) b2
  have hcl : (cmpN a b < 0) = False := by unfold cmpN; simp; split <;> (try split) <;> (try simp) <;> omega
  obtain ⟨cv, hcv⟩ : ∃ c, c = cmpN a b := ⟨_, rfl⟩
  rw [← hcv] at hcl
  simp only [← hcv] at hcm
  have hcm' := (hcm _ (pls_start w m1 m2 false true)).mono (R' := fun e w' => e = .returned (.int .i64 cv) ∧ PlS w m1 m2 false true w') fun e w' ⟨he, d, hw⟩ => ⟨he, by rw [hw]; exact pls_drewN (pls_start w m1 m2 false true) d⟩
  have hcn : ¬ cv < 0 := by rw [hcl]; trivial
  clear hcm hcl hcv
  have hS0 := pls_start w m1 m2 false true
  clear hz hm1 hm2 b1 b2 hc
  go_enter Tryz.func94, Tryz.ntmps94
  go_wp2_with fail
  refine hcm'.mono ?_
  rintro e w0 ⟨rfl, hS1⟩
  go_wp2_with fail
  go_region_held3 (fun W => (BoxS W (w.heap.size + 1 + 1) ∧ Below w.heap.size w W) ∧ W.cell? ⟨w.heap.size, 0, none⟩ = some m1 ∧ W.cell? ⟨w.heap.size, 1, none⟩ = some (.bool false) ∧ W.cell? ⟨w.heap.size + 1, 0, none⟩ = some m2 ∧ W.cell? ⟨w.heap.size + 1, 1, none⟩ = some (.bool true)) (first | with_reducible assumption | exact ⟨⟨hS1.1.1, hS1.1.2.drew⟩, hS1.2⟩ | (refine pls_store ?_ _ _ _ _; with_reducible assumption))
    (first
      | (go_at_call 128; refine (hpr.out _ ?_).mono ?_; with_reducible assumption; rintro e w1 ⟨x1, rfl, hx1, hS1⟩)
      | (go_at_call 123; refine (signed_held (w := w) (m1 := m1) (m2 := m2) (k1 := false) (k2 := true) (a - b) false _ _ ?_ ?_).mono ?_; with_reducible assumption; with_reducible assumption; rintro e w2 ⟨A, n, c, k, rfl, hk, hx2, hS2⟩; obtain ⟨⟨q0, hc0⟩, ⟨q1, hc1⟩, hf0, hf1⟩ := hS2.1.1.facts; have HX := Lib.hid (And.intro hk hx2); clear hk))
  go_wp2
  exact bodyPost_ret (v := .agg #[.slice A n c, .bool k]) (by simp [results, Tryz.results94, go_sem, hc0, hc1]) rfl ⟨_, rfl, by
    have hk := HX.out.1
    have hm := HX.out.2
    rw [HE.out] at hk hm
    exact ⟨_, by rw [hk], hS2.1.1.mag hm _ _⟩, (pls_store hS2 A n c k).1.2⟩

theorem plus_any (v1 v2 : Value) (x y : Int) (w : World) (h1 : SgV w v1 x) (h2 : SgV w v2 y) (b1 : wlen B64 x.natAbs ≤ maxW) (b2 : wlen B64 y.natAbs ≤ maxW) :
    Calls Tryz.prog 94 #[v1, v2] w fun e w' => ∃ v, e = .returned v ∧ SgV w' v (x + y) ∧ Below w.heap.size w w' := by
  obtain ⟨m1, rfl, hm1⟩ := h1
  obtain ⟨m2, rfl, hm2⟩ := h2
  by_cases hx : x < 0
  · rw [show decide (x < 0) = true by simpa using hx]
    by_cases hy : y < 0
    · rw [show decide (y < 0) = true by simpa using hy]
      exact plus_tt m1 m2 _ _ _ w hm1 hm2 b1 b2 (by unfold sgn; simp; omega)
    · rw [show decide (y < 0) = false by simpa using hy]
      rcases Nat.lt_or_ge x.natAbs y.natAbs with h | h
      · exact plus_tf_lt m1 m2 _ _ _ w hm1 hm2 b1 b2 h (by unfold sgn; simp; omega)
      · exact plus_tf_ge m1 m2 _ _ _ w hm1 hm2 b1 b2 h (by unfold sgn; simp; omega)
  · rw [show decide (x < 0) = false by simpa using hx]
    by_cases hy : y < 0
    · rw [show decide (y < 0) = true by simpa using hy]
      rcases Nat.lt_or_ge x.natAbs y.natAbs with h | h
      · exact plus_ft_lt m1 m2 _ _ _ w hm1 hm2 b1 b2 h (by unfold sgn; simp; omega)
      · exact plus_ft_ge m1 m2 _ _ _ w hm1 hm2 b1 b2 h (by unfold sgn; simp; omega)
    · rw [show decide (y < 0) = false by simpa using hy]
      exact plus_ff m1 m2 _ _ _ w hm1 hm2 b1 b2 (by unfold sgn; simp; omega)

end Go.Proofs.YtdobcaabebepaaaGreatDoor
