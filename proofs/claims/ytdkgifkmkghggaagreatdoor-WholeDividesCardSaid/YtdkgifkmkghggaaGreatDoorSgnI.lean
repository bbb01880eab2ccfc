/- Contract: powers of signed numbers. -/
import Derived.Test.YtdkgifkmkghggaaGreatDoorSgnH
import Derived.Deep.DrawnRows
namespace Go.Proofs.YtdkgifkmkghggaaGreatDoor
open Go.RowKit Vd
attribute [local go_sem ↓] Go.wp_at_zero Go.wp_at_succ

set_option maxRecDepth 100000 in
set_option maxHeartbeats 1000000 in
theorem toPower_any (v1 : Value) (x : Int) (n : Nat) (w : World) (h1 : SgV w v1 x) (hb : wlen B64 x.natAbs ≤ maxW) (hn : n * wlen B64 x.natAbs + 1 ≤ maxW) (hn2 : n ≤ 1000000) :
    Calls Tryz.prog 71 #[v1, .int .i64 (n : Int)] w fun e w' => ∃ v, e = .returned v ∧ SgV w' v (x ^ n) ∧ Below w.heap.size w w' := by
  obtain ⟨m1, rfl, hm1⟩ := h1
  have hE := sgn_pow x n
  obtain ⟨k1, hk1⟩ : ∃ k, k = decide (x < 0) := ⟨_, rfl⟩
  rw [← hk1] at hE ⊢
  obtain ⟨N, hN⟩ : ∃ N, N = x.natAbs ^ n := ⟨_, rfl⟩
  rw [← hN] at hE
  obtain ⟨od, hod⟩ : ∃ b, ((n : Int) % 2 == 1) = b := ⟨_, rfl⟩
  have hn' : (n : Int) ≤ 1000000 := by omega

  rw [hod] at hE
  have hpw : Hid (∀ W, PoS w m1 k1 W → Calls Tryz.prog 100 #[m1, .int .i64 (n : Int)] W fun e w' => ∃ v, e = .returned v ∧ MagV w' v N ∧ PoS w m1 k1 w') := Lib.hid (fun W hS => (power_any m1 _ n W (hm1.below hS.1.2) hb hn hn2).mono fun _ _ ⟨v, he, hm, hb⟩ => ⟨v, he, by rw [hN]; exact hm, pos_step hS hb⟩)
  have hsg : Hid (∀ W m b, b = (k1 && od) → MagV W m N → PoS w m1 k1 W → Calls Tryz.prog 89 #[m, .bool b] W fun e w' => ∃ (A : Option Addr) (l c : Nat) (k : Bool), e = .returned (.agg #[.slice A l c, .bool k]) ∧ k = decide (x ^ n < 0) ∧ MagV w' (.slice A l c) (x ^ n).natAbs ∧ PoS w m1 k1 w') := Lib.hid (fun W m b hb hm hS => (signed_any m N b W hm).mono fun e w' ⟨v, he, ⟨m', hv, hm'⟩, hbl⟩ => by
    rw [hb, hE] at hv hm'
    obtain ⟨A, c, rfl, _, _⟩ := hm'.ok_len
    exact ⟨A, _, c, _, by rw [he, hv], rfl, hm', pos_step hS hbl⟩)
  have hS0 := pos_start w m1 k1
  have hT : Hid (((n : Int).tmod 2 == 1) = od) := Lib.hid (by rw [Int.tmod_eq_emod_of_nonneg (by omega)]; exact hod)
  clear hE hN hm1 hb hn hn2 hk1
  cases k1
  · obtain ⟨⟨hb0, hbl0⟩, hc10, hc20⟩ := hS0
    have hS0 := pos_start w m1 false
    go_enter Tryz.func71, Tryz.ntmps71
    go_wp2_with fail
    have hSd : PoS w m1 false (World.drew ((w.alloc (.cells #[m1, .bool false] 80)).alloc (.cells #[.slice none 0 0, .bool false] 80))) := ⟨⟨hS0.1.1, hS0.1.2.drew⟩, hS0.2⟩
    refine wp_region_noPanic ?_
    refine wp_region_held_drew (S := PoS w m1 false) (by kernel_rfl) hSd (fun hHeld => ?_)
    refine wpAnyH_take (i := 0) (v := ?_) rfl (by kernel_rfl) (by kernel_rfl) (by kernel_rfl) (fun _ _ _ h => h) (Or.inl ⟨by rfl, ?_⟩) (by assumption) ?_
    rotate_left
    · intro W hSw; have e1 := hSw.2.1; have e2 := hSw.2.2; go_simp; try with_reducible rfl
    try simp only [Act.put, List.setIfInBounds_toArray, List.set_cons_zero, List.set_cons_succ]
    refine wpAnyH_take (i := 1) (v := ?_) rfl (by kernel_rfl) (by kernel_rfl) (by kernel_rfl) (fun _ _ _ h => h) (Or.inl ⟨by rfl, ?_⟩) (by assumption) ?_
    rotate_left
    · intro W hSw; have e1 := hSw.2.1; have e2 := hSw.2.2; go_simp; try with_reducible rfl
    try simp only [Act.put, List.setIfInBounds_toArray, List.set_cons_zero, List.set_cons_succ]
    refine wpAnyH_take (i := 2) (v := ?_) rfl (by kernel_rfl) (by kernel_rfl) (by kernel_rfl) (fun _ _ _ h => h) (Or.inl ⟨by rfl, ?_⟩) (by assumption) ?_
    rotate_left
    · intro W hSw; have e1 := hSw.2.1; have e2 := hSw.2.2; go_simp; try with_reducible rfl
    try simp only [Act.put, List.setIfInBounds_toArray, List.set_cons_zero, List.set_cons_succ]
    refine wpAnyH_take (i := 4) (v := ?_) rfl (by kernel_rfl) (by kernel_rfl) (by kernel_rfl) (fun _ _ _ h => h) (Or.inl ⟨by rfl, ?_⟩) (by assumption) ?_
    rotate_left
    · intro W hSw; have e1 := hSw.2.1; have e2 := hSw.2.2; go_simp; try with_reducible rfl
    try simp only [Act.put, List.setIfInBounds_toArray, List.set_cons_zero, List.set_cons_succ]
    refine wpAnyH_take (i := 5) (v := ?_) rfl (by kernel_rfl) (by kernel_rfl) (by kernel_rfl) (fun _ _ _ h => h) (Or.inl ⟨by rfl, ?_⟩) (by assumption) ?_
    rotate_left
    · intro W hSw; have e1 := hSw.2.1; have e2 := hSw.2.2; go_simp; try with_reducible rfl
    try simp only [Act.put, List.setIfInBounds_toArray, List.set_cons_zero, List.set_cons_succ]
    refine wpAnyH_ready (rs := [3]) (by kernel_rfl) (by simp) ?_
    refine AllReadyH.cons rfl (fun K hK => ?_) AllReadyH.nil
    go_simp
    refine (hpw.out _ hHeld).mono ?_
    rintro e w1 ⟨x1, rfl, hx1, hS1⟩
    refine hK.out _ _ hS1 (fun hHeld => ?_)
    clear hK K
    try simp only [Act.put, List.setIfInBounds_toArray, List.set_cons_zero, List.set_cons_succ]
    refine wpAnyH_take (i := 6) (v := ?_) rfl (by kernel_rfl) (by kernel_rfl) (by kernel_rfl) (fun _ _ _ h => h) (Or.inl ⟨by rfl, ?_⟩) (by assumption) ?_
    rotate_left
    · intro W hSw; have e1 := hSw.2.1; have e2 := hSw.2.2; go_simp; try with_reducible rfl
    try simp only [Act.put, List.setIfInBounds_toArray, List.set_cons_zero, List.set_cons_succ]
    refine wpAnyH_take (i := 7) (v := undef) rfl (by kernel_rfl) (by kernel_rfl) (by kernel_rfl) (fun _ _ _ h => h) (Or.inr ⟨by rfl, rfl⟩) (by assumption) ?_
    try simp only [Act.put, List.setIfInBounds_toArray, List.set_cons_zero, List.set_cons_succ]
    refine wpAnyH_take (i := 8) (v := undef) rfl (by kernel_rfl) (by kernel_rfl) (by kernel_rfl) (fun _ _ _ h => h) (Or.inr ⟨by rfl, rfl⟩) (by assumption) ?_
    try simp only [Act.put, List.setIfInBounds_toArray, List.set_cons_zero, List.set_cons_succ]
    refine wpAnyH_take (i := 9) (v := undef) rfl (by kernel_rfl) (by kernel_rfl) (by kernel_rfl) (fun _ _ _ h => h) (Or.inr ⟨by rfl, rfl⟩) (by assumption) ?_
    try simp only [Act.put, List.setIfInBounds_toArray, List.set_cons_zero, List.set_cons_succ]
    refine wpAnyH_take (i := 10) (v := ?_) rfl (by kernel_rfl) (by kernel_rfl) (by kernel_rfl) (fun _ _ _ h => h) (Or.inl ⟨by rfl, ?_⟩) (by assumption) ?_
    rotate_left
    · intro W hSw; have e1 := hSw.2.1; have e2 := hSw.2.2; go_simp; try with_reducible rfl
    try simp only [Act.put, List.setIfInBounds_toArray, List.set_cons_zero, List.set_cons_succ]
    refine wpAnyH_ready (rs := [11]) (by kernel_rfl) (by simp) ?_
    refine AllReadyH.cons rfl (fun K hK => ?_) AllReadyH.nil
    go_simp
    refine (hsg.out _ _ _ (by rfl) hx1 hS1).mono ?_
    rintro e w2 ⟨A, l, c, k, rfl, hk, hx2, hS2⟩
    obtain ⟨⟨q0, hc0⟩, ⟨q1, hc1⟩, hf0, hf1⟩ := hS2.1.1.facts
    have HX := Lib.hid (And.intro hk hx2)
    clear hk
    refine hK.out _ _ hS2 (fun hHeld => ?_)
    clear hK K
    try simp only [Act.put, List.setIfInBounds_toArray, List.set_cons_zero, List.set_cons_succ]
    refine wpAnyH_ready (rs := [12]) (by kernel_rfl) (by simp) ?_
    refine AllReadyH.cons rfl (fun K hK => ?_) AllReadyH.nil
    go_simp
    have hS3 := pos_store hS2 A l c k
    refine hK.out _ _ hS3 (fun hHeld => ?_)
    clear hK K
    try simp only [Act.put, List.setIfInBounds_toArray, List.set_cons_zero, List.set_cons_succ]
    refine wpAnyH_done (by kernel_rfl) ?_ _
    refine NoPanic.normal ?_
    go_wp2
    exact bodyPost_ret (v := .agg #[.slice A l c, .bool k]) (by simp [results, Tryz.results71, go_sem, hc0, hc1]) rfl ⟨_, rfl, ⟨_, by rw [HX.out.1], hS2.1.1.mag HX.out.2 _ _⟩, (pos_store hS2 A l c k).1.2⟩
  · go_enter Tryz.func71, Tryz.ntmps71
    go_wp2_with fail
    go_region_held3 (fun W => (BoxS W (w.heap.size + 1) ∧ Below w.heap.size w W) ∧ W.cell? ⟨w.heap.size, 0, none⟩ = some m1 ∧ W.cell? ⟨w.heap.size, 1, none⟩ = some (.bool true)) (first | with_reducible assumption | exact ⟨⟨hS0.1.1, hS0.1.2.drew⟩, hS0.2⟩ | (refine pos_store ?_ _ _ _ _; with_reducible assumption))
      (first
        | (go_at_call 100; refine (hpw.out _ ?_).mono ?_; with_reducible assumption; rintro e w1 ⟨x1, rfl, hx1, hS1⟩)
        | (go_at_call 89; refine (hsg.out _ _ _ ?_ ?_ ?_).mono ?_; (first | rfl | exact hT.out); with_reducible assumption; with_reducible assumption; rintro e w2 ⟨A, l, c, k, rfl, hk, hx2, hS2⟩; obtain ⟨⟨q0, hc0⟩, ⟨q1, hc1⟩, hf0, hf1⟩ := hS2.1.1.facts; have HX := Lib.hid (And.intro hk hx2); clear hk))
    go_wp2
    exact bodyPost_ret (v := .agg #[.slice A l c, .bool k]) (by simp [results, Tryz.results71, go_sem, hc0, hc1]) rfl ⟨_, rfl, ⟨_, by rw [HX.out.1], hS2.1.1.mag HX.out.2 _ _⟩, (pos_store hS2 A l c k).1.2⟩

end Go.Proofs.YtdkgifkmkghggaaGreatDoor
