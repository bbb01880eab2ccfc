/- Contracts: package frac: the negative, absolute values, powers and floors of fractions. -/
import Derived.Test.YtfkdcgjphnoioaaGreatDoorFraD
namespace Go.Proofs.YtfkdcgjphnoioaaGreatDoor
open Go.RowKit Vd
attribute [local go_sem ↓] Go.wp_at_zero Go.wp_at_succ

abbrev UnS (w : World) (A1 : Option Addr) (n1 c1 : Nat) (k1 : Bool) (A2 : Option Addr) (n2 c2 : Nat) (k2 : Bool) (W : World) : Prop := (Below w.heap.size w W ∧ BoxR W (w.heap.size + 1)) ∧ W.cell? ⟨w.heap.size, 0, none⟩ = some (.slice A1 n1 c1) ∧ W.cell? ⟨w.heap.size, 1, none⟩ = some (.bool k1) ∧ W.cell? ⟨w.heap.size, 2, none⟩ = some (.slice A2 n2 c2) ∧ W.cell? ⟨w.heap.size, 3, none⟩ = some (.bool k2)
theorem unS_step {w : World} {A1 : Option Addr} {n1 c1 : Nat} {k1 : Bool} {A2 : Option Addr} {n2 c2 : Nat} {k2 : Bool} {W W' : World} (h : UnS w A1 n1 c1 k1 A2 n2 c2 k2 W) (hb : Below W.heap.size W W') : UnS w A1 n1 c1 k1 A2 n2 c2 k2 W' := by
  obtain ⟨⟨hb0, hB⟩, e0, e1, e2, e3⟩ := h
  exact ⟨⟨belowt hb0 hb0.size hb, hB.call hb⟩, keepc hb e0, keepc hb e1, keepc hb e2, keepc hb e3⟩
theorem unS_drew {w : World} {A1 : Option Addr} {n1 c1 : Nat} {k1 : Bool} {A2 : Option Addr} {n2 c2 : Nat} {k2 : Bool} {W : World} (h : UnS w A1 n1 c1 k1 A2 n2 c2 k2 W) : UnS w A1 n1 c1 k1 A2 n2 c2 k2 W.drew := by
  obtain ⟨⟨hb0, hB⟩, e0, e1, e2, e3⟩ := h
  exact ⟨⟨hb0.drew, hB⟩, e0, e1, e2, e3⟩
theorem unS_store {w : World} {A1 : Option Addr} {n1 c1 : Nat} {k1 : Bool} {A2 : Option Addr} {n2 c2 : Nat} {k2 : Bool} {W : World} (h : UnS w A1 n1 c1 k1 A2 n2 c2 k2 W) (Ax : Option Addr) (nx cx : Nat) (kx : Bool) (Ay : Option Addr) (ny cy : Nat) (ky : Bool) : UnS w A1 n1 c1 k1 A2 n2 c2 k2 (sto4 W (w.heap.size + 1) (.slice Ax nx cx) (.bool kx) (.slice Ay ny cy) (.bool ky)) := by
  obtain ⟨⟨hb0, hB⟩, e0, e1, e2, e3⟩ := h
  exact ⟨⟨below_set4 hb0 (by omega), hB.set4 _ _ _ _ _ _ _ _⟩, (cell_set4 (by omega)).trans e0, (cell_set4 (by omega)).trans e1, (cell_set4 (by omega)).trans e2, (cell_set4 (by omega)).trans e3⟩
theorem unS_start (w : World) (A1 : Option Addr) (n1 c1 : Nat) (k1 : Bool) (A2 : Option Addr) (n2 c2 : Nat) (k2 : Bool) : UnS w A1 n1 c1 k1 A2 n2 c2 k2 ((w.alloc (.cells #[.slice A1 n1 c1, .bool k1, .slice A2 n2 c2, .bool k2] 89)).alloc (.cells #[.slice none 0 0, .bool false, .slice none 0 0, .bool false] 89)) := by
  have r0 : Fr ((w.alloc (.cells #[.slice A1 n1 c1, .bool k1, .slice A2 n2 c2, .bool k2] 89)).alloc (.cells #[.slice none 0 0, .bool false, .slice none 0 0, .bool false] 89)) w.heap.size #[.slice A1 n1 c1, .bool k1, .slice A2 n2 c2, .bool k2] 89 := (Fr.new rfl).old
  obtain ⟨a0, a1, a2, a3, _⟩ := r0.cells4
  exact ⟨⟨((Below.refl _ _).alloc (Nat.le_refl _) _).alloc (by simp) _, Fr.boxR (Fr.new (by simp))⟩, a0, a1, a2, a3⟩

set_option maxRecDepth 100000 in
set_option maxHeartbeats 2000000 in
theorem raneg_any (v1 : Value) (x : Rat) (w : World) (h1 : RaV w v1 x) :
    Calls Tryz.prog 89 #[v1] w fun e w' => ∃ v, e = .returned v ∧ RaV w' v (-x) ∧ Below w.heap.size w w' := by
  obtain ⟨A1, n1, c1, k1, A2, n2, c2, k2, rfl, hv1, hv2⟩ := h1.open
  have HN : Hid (∀ W, UnS w A1 n1 c1 k1 A2 n2 c2 k2 W → Calls Tryz.prog 113 #[.agg #[.slice A1 n1 c1, .bool k1]] W fun e w' => ∃ (A : Option Addr) (n c : Nat) (k : Bool), e = .returned (.agg #[.slice A n c, .bool k]) ∧ SgV w' (.agg #[.slice A n c, .bool k]) (-x.num) ∧ Below W.heap.size W w' ∧ UnS w A1 n1 c1 k1 A2 n2 c2 k2 w') := Lib.hid (fun W hS => by
    refine (negative_any _ _ W (hv1.below hS.1.1)).mono ?_
    rintro e w' ⟨v, he, hv, hb⟩
    obtain ⟨A, n, c, k, rfl⟩ := hv.open
    exact ⟨A, n, c, k, he, hv, hb, unS_step hS hb⟩)
  have hS0 := unS_start w A1 n1 c1 k1 A2 n2 c2 k2
  have hrb := ra_built
  have HV := Lib.hid hv2
  clear h1 hv1 hv2
  go_enter Tryz.func89, Tryz.ntmps89
  go_wp2_with fail
  have hS1 := unS_drew hS0
  clear hS0
  go_region_held3 (fun W => (Below w.heap.size w W ∧ BoxR W (w.heap.size + 1)) ∧ W.cell? ⟨w.heap.size, 0, none⟩ = some (.slice A1 n1 c1) ∧ W.cell? ⟨w.heap.size, 1, none⟩ = some (.bool k1) ∧ W.cell? ⟨w.heap.size, 2, none⟩ = some (.slice A2 n2 c2) ∧ W.cell? ⟨w.heap.size, 3, none⟩ = some (.bool k2)) (first | with_reducible assumption | exact ⟨⟨hS1.1.1, hS1.1.2⟩, hS1.2⟩ | (refine unS_store ?_ _ _ _ _ _ _ _ _; with_reducible assumption))
    (first
      | (go_at_call 113; with_reducible refine (HN.out _ ?_).mono ?_; with_reducible assumption; rintro e w5 ⟨A5, n5, c5, k5, rfl, hq5, hb5, hS5⟩; obtain ⟨⟨q0, y0⟩, ⟨q1, y1⟩, ⟨q2, y2⟩, ⟨q3, y3⟩, y4, y5, y6, y7⟩ := hS5.1.2.facts))
  go_wp2_with fail
  exact bodyPost_ret (v := .agg #[.slice A5 n5 c5, .bool k5, .slice A2 n2 c2, .bool k2]) (by simp [results, Tryz.results89, go_sem, y0, y1, y2, y3]) rfl ⟨_, rfl, RaV.fin (q := -x) hS5.1.2 hq5 (HV.out.below hS5.1.1), below_set4 hS5.1.1 (by omega)⟩

set_option maxRecDepth 100000 in
set_option maxHeartbeats 2000000 in
theorem rapow_any (v1 : Value) (x : Rat) (n K : Nat) (w : World) (h1 : RaV w v1 x) (hx : Fz x K) (hn : n ≤ 1000000) (hK : n * K + 1 ≤ maxW) (hK2 : K ≤ maxW) :
    Calls Tryz.prog 104 #[v1, .int .i64 (n : Int)] w fun e w' => ∃ v, e = .returned v ∧ RaV w' v (x ^ n) ∧ Below w.heap.size w w' := by
  obtain ⟨A1, n1, c1, k1, A2, n2, c2, k2, rfl, hv1, hv2⟩ := h1.open
  have HP1 : Hid (∀ W, UnS w A1 n1 c1 k1 A2 n2 c2 k2 W → Calls Tryz.prog 138 #[.agg #[.slice A1 n1 c1, .bool k1], .int .i64 (n : Int)] W fun e w' => ∃ (A : Option Addr) (l c : Nat) (k : Bool), e = .returned (.agg #[.slice A l c, .bool k]) ∧ SgV w' (.agg #[.slice A l c, .bool k]) (x.num ^ n) ∧ Below W.heap.size W w' ∧ UnS w A1 n1 c1 k1 A2 n2 c2 k2 w') := Lib.hid (fun W hS => by
    refine (toPower_any _ _ n W (hv1.below hS.1.1) (Nat.le_trans hx.1 hK2) (Nat.le_trans (Nat.add_le_add_right (Nat.mul_le_mul_left n hx.1) 1) hK) hn).mono ?_
    rintro e w' ⟨v, he, hv, hb⟩
    obtain ⟨A, l, c, k, rfl⟩ := hv.open
    exact ⟨A, l, c, k, he, hv, hb, unS_step hS hb⟩)
  have HP2 : Hid (∀ W, UnS w A1 n1 c1 k1 A2 n2 c2 k2 W → Calls Tryz.prog 138 #[.agg #[.slice A2 n2 c2, .bool k2], .int .i64 (n : Int)] W fun e w' => ∃ (A : Option Addr) (l c : Nat) (k : Bool), e = .returned (.agg #[.slice A l c, .bool k]) ∧ SgV w' (.agg #[.slice A l c, .bool k]) ((x.den : Int) ^ n) ∧ Below W.heap.size W w' ∧ UnS w A1 n1 c1 k1 A2 n2 c2 k2 w') := Lib.hid (fun W hS => by
    refine (toPower_any _ _ n W (hv2.below hS.1.1) (Nat.le_trans (fz_den hx) hK2) (Nat.le_trans (Nat.add_le_add_right (Nat.mul_le_mul_left n (fz_den hx)) 1) hK) hn).mono ?_
    rintro e w' ⟨v, he, hv, hb⟩
    obtain ⟨A, l, c, k, rfl⟩ := hv.open
    exact ⟨A, l, c, k, he, hv, hb, unS_step hS hb⟩)
  have hS0 := unS_start w A1 n1 c1 k1 A2 n2 c2 k2
  have hrb := ra_built
  obtain ⟨N, hN⟩ : ∃ N : Int, N = (n : Int) := ⟨_, rfl⟩
  simp only [← hN] at HP1 HP2 ⊢
  clear h1 hv1 hv2 hx hn hK hK2 hN
  go_enter Tryz.func104, Tryz.ntmps104
  go_wp2_with fail
  have hS1 := unS_drew hS0
  clear hS0
  go_region_held3 (fun W => (Below w.heap.size w W ∧ BoxR W (w.heap.size + 1)) ∧ W.cell? ⟨w.heap.size, 0, none⟩ = some (.slice A1 n1 c1) ∧ W.cell? ⟨w.heap.size, 1, none⟩ = some (.bool k1) ∧ W.cell? ⟨w.heap.size, 2, none⟩ = some (.slice A2 n2 c2) ∧ W.cell? ⟨w.heap.size, 3, none⟩ = some (.bool k2)) (first | with_reducible assumption | exact ⟨⟨hS1.1.1, hS1.1.2⟩, hS1.2⟩ | (refine unS_store ?_ _ _ _ _ _ _ _ _; with_reducible assumption))
    (first
      | (go_at_call 138; with_reducible refine (HP1.out _ ?_).mono ?_; with_reducible assumption; rintro e w5 ⟨A5, n5, c5, k5, rfl, hq5, hb5, hS5⟩)
      | (go_at_call 138; with_reducible refine (HP2.out _ ?_).mono ?_; with_reducible assumption; rintro e w6 ⟨A6, n6, c6, k6, rfl, hq6, hb6, hS6⟩; obtain ⟨⟨q0, y0⟩, ⟨q1, y1⟩, ⟨q2, y2⟩, ⟨q3, y3⟩, y4, y5, y6, y7⟩ := hS6.1.2.facts))
  go_wp2_with fail
  have hd : ((x ^ n : Rat).den : Int) = (x.den : Int) ^ n := by rw [Rat.den_pow]; exact Int.natCast_pow _ _
  exact bodyPost_ret (v := .agg #[.slice A5 n5 c5, .bool k5, .slice A6 n6 c6, .bool k6]) (by simp [results, Tryz.results104, go_sem, y0, y1, y2, y3]) rfl ⟨_, rfl, RaV.fin (q := x ^ n) hS6.1.2 (hq5.below hb6) (by rw [hd]; exact hq6), below_set4 hS6.1.1 (by omega)⟩

theorem rat_abs_neg {x : Rat} (h : x.num < 0) : -x = mkRat (x.num.natAbs : Int) x.den := by
  refine Rat.ext ?_ ?_
  · rw [(mkRat_coprime x.den_pos (by simpa using x.reduced)).1]; show -x.num = _; omega
  · rw [(mkRat_coprime x.den_pos (by simpa using x.reduced)).2]; rfl
theorem rat_abs_pos {x : Rat} (h : ¬ x.num < 0) : x = mkRat (x.num.natAbs : Int) x.den := by
  refine Rat.ext ?_ ?_
  · rw [(mkRat_coprime x.den_pos (by simpa using x.reduced)).1]; omega
  · rw [(mkRat_coprime x.den_pos (by simpa using x.reduced)).2]

set_option maxRecDepth 100000 in
set_option maxHeartbeats 2000000 in
theorem raabs_any (v1 : Value) (x : Rat) (w : World) (h1 : RaV w v1 x) :
    Calls Tryz.prog 91 #[v1] w fun e w' => ∃ v, e = .returned v ∧ RaV w' v (mkRat (x.num.natAbs : Int) x.den) ∧ Below w.heap.size w w' := by
  obtain ⟨A1, n1, c1, k1, A2, n2, c2, k2, rfl, hv1, hv2⟩ := h1.open
  have hS0 := unS_start w A1 n1 c1 k1 A2 n2 c2 k2
  have hk := Lib.hid hv1.neg
  have hN := raneg_any (.agg #[.slice A1 n1 c1, .bool k1, .slice A2 n2 c2, .bool k2]) x ((w.alloc (.cells #[.slice A1 n1 c1, .bool k1, .slice A2 n2 c2, .bool k2] 89)).alloc (.cells #[.slice none 0 0, .bool false, .slice none 0 0, .bool false] 89)) (h1.below hS0.1.1)
  have HV := Lib.hid (And.intro hv1 hv2)
  by_cases hx : x.num < 0
  · obtain rfl : k1 = true := by rw [hk.out]; simpa using hx
    rw [rat_abs_neg hx] at hN
    clear h1 hv1 hv2 hk hx HV
    go_enter Tryz.func91, Tryz.ntmps91
    go_wp2_with fail
    refine hN.mono ?_
    rintro e w5 ⟨v5, rfl, hq5, hb5⟩
    obtain ⟨A5, n5, c5, k5, A6, n6, c6, k6, rfl, hv5, hv6⟩ := hq5.open
    have hS5 := unS_step hS0 hb5
    obtain ⟨⟨q0, y0⟩, ⟨q1, y1⟩, ⟨q2, y2⟩, ⟨q3, y3⟩, y4, y5, y6, y7⟩ := hS5.1.2.facts
    clear hN hS0 hb5
    go_wp2_with fail
    exact bodyPost_ret (v := .agg #[.slice A5 n5 c5, .bool k5, .slice A6 n6 c6, .bool k6]) (by simp [results, Tryz.results91, go_sem, y0, y1, y2, y3]) rfl ⟨_, rfl, RaV.fin hS5.1.2 hv5 hv6, below_set4 hS5.1.1 (by omega)⟩
  · obtain rfl : k1 = false := by rw [hk.out]; simpa using hx
    have hE := Lib.hid (rat_abs_pos hx)
    clear h1 hv1 hv2 hk hx hN
    go_enter Tryz.func91, Tryz.ntmps91
    go_wp2_with fail
    have hS5 := hS0
    exact bodyPost_ret (v := .agg #[.slice A1 n1 c1, .bool false, .slice A2 n2 c2, .bool k2]) (by simp [results, Tryz.results91, go_sem]) rfl ⟨_, rfl, by
      rw [← hE.out]
      refine RaV.below (w := w) ⟨_, _, _, _, _, _, _, _, rfl, HV.out.1, HV.out.2⟩ ?_
      first | exact ((Below.refl _ _).alloc (Nat.le_refl _) _).alloc (by simp) _ | exact below_set4 hS5.1.1 (by omega), by first | exact ((Below.refl _ _).alloc (Nat.le_refl _) _).alloc (by simp) _ | exact below_set4 hS5.1.1 (by omega)⟩

end Go.Proofs.YtfkdcgjphnoioaaGreatDoor
