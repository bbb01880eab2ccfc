/- Contracts: package whole: Div, Pow, Root. -/
import Derived.Test.YtdclloledfjfjaaGreatDoorWhoD
namespace Go.Proofs.YtdclloledfjfjaaGreatDoor
open Go.RowKit Vd

theorem small_of_le {x z : Int} (h : small x) (hz : z.natAbs ≤ x.natAbs) : small z := Nat.lt_of_le_of_lt hz h
theorem outV_small {z : Int} (h : small z) : outV z = .tuple #[.string ⟨(wr z).toArray⟩, .int .i64 0] := by unfold outV; rw [if_pos h]

theorem div_small {x y : Int} (hx : small x) (hy : y ≠ 0) : small (x / y) := by
  refine small_of_le hx ?_
  have hb : 0 < y.natAbs := Int.natAbs_pos.2 hy
  rw [← (over_eq x y hy).1, sgn_abs]
  split
  · rename_i h
    simp only [Bool.and_eq_true, Bool.not_eq_true', decide_eq_true_eq, decide_eq_false_iff_not] at h
    have hd := Nat.div_add_mod x.natAbs y.natAbs
    have h1 : x.natAbs / y.natAbs ≤ y.natAbs * (x.natAbs / y.natAbs) := Nat.le_mul_of_pos_left _ hb
    omega
  · exact Nat.div_le_self _ _
theorem mod_small {x y : Int} (hy2 : small y) (hy : y ≠ 0) : small (x % y) := by
  refine small_of_le hy2 ?_
  have h1 := Int.emod_nonneg x hy
  have h2 := Int.emod_lt x hy
  omega

set_option maxRecDepth 100000 in
set_option maxHeartbeats 2000000 in
theorem wdiv_some (l1 l2 : List UInt8) (x y : Int) (w : World) (h1 : rd l1 = some x) (h2 : rd l2 = some y) (hy : y ≠ 0) :
    Calls Tryz.prog 66 #[.string ⟨l1.toArray⟩, .string ⟨l2.toArray⟩] w fun e w' => e = .returned (.tuple #[.string ⟨(wr (x / y)).toArray⟩, .string ⟨(wr (x % y)).toArray⟩, .int .i64 0]) ∧ Below w.heap.size w w' := by
  have hr := fun W => wboth_some l1 l2 x y W h1 h2
  have b1 := rd_wlen h1
  have b2 := rd_wlen h2
  have s1 := div_small (rd_some h1).2 hy
  have s2 := mod_small (x := x) (rd_some h2).2 hy
  have hw1 := fun v W (hv : SgV W v (x / y)) => wwrite_any v (x / y) W hv (by have := small_wlen s1; omega)
  have hw2 := fun v W (hv : SgV W v (x % y)) => wwrite_any v (x % y) W hv (by have := small_wlen s2; omega)
  rw [outV_small s1] at hw1
  rw [outV_small s2] at hw2
  have hz := fun A c W => isZero_any A (wlen B64 y.natAbs) c W
  have hk : decide (wlen B64 y.natAbs = 0) = false := by
    simp; intro h; exact hy (by have := (wlen_eq_zero (b := B64) two_le_B).1 h; omega)
  rw [hk] at hz
  have ho := fun v1 v2 W (hv1 : SgV W v1 x) (hv2 : SgV W v2 y) => over_any v1 v2 x y W hv1 hv2 (by unfold maxW; omega) (by unfold maxW; omega) hy
  have H := Lib.hid (And.intro hw1 (And.intro hw2 ho))
  obtain ⟨L, hL⟩ : ∃ L, L = wlen B64 y.natAbs := ⟨_, rfl⟩
  rw [← hL] at hz
  have HL := Lib.hid hL
  clear h1 h2 b1 b2 s1 s2 hw1 hw2 ho hk hy hL
  go_enter Tryz.func66, Tryz.ntmps66
  go_wp2_with fail
  refine (hr _).mono ?_
  rintro e w1 ⟨A1, n1, c1, k1, A2, n2, c2, k2, rfl, hv1, hv2, hb⟩
  have hl1 : Below w1.heap.size w1 ((w1.alloc (.cells #[.slice A1 n1 c1, .bool k1] 105)).alloc (.cells #[.slice A2 n2 c2, .bool k2] 105)) := ((Below.refl _ _).alloc (Nat.le_refl _) _).alloc (by simp) _
  have hn2 : n2 = L := by
    obtain ⟨m, e, A, c, e2, _⟩ := hv2
    rw [HL.out]
    injection e with e
    simp at e
    rw [← e.1] at e2
    injection e2
  subst hn2
  have hov := H.out.2.2 _ _ _ (hv1.below hl1) (hv2.below hl1)
  clear hr hv1 hv2
  go_wp2_with (go_at_call 99; refine (hz _ _ _).mono ?_; rintro e w1 ⟨rfl, rfl⟩)
  refine hov.mono ?_
  rintro e w2 ⟨x1, x2, rfl, hq, hm, hb2⟩
  obtain ⟨A3, n3, c3, k3, rfl⟩ := hq.open
  obtain ⟨A4, n4, c4, k4, rfl⟩ := hm.open
  have hl2 : Below w2.heap.size w2 ((w2.alloc (.cells #[.slice A3 n3 c3, .bool k3] 105)).alloc (.cells #[.slice A4 n4 c4, .bool k4] 105)) := ((Below.refl _ _).alloc (Nat.le_refl _) _).alloc (by simp) _
  have hB2 : Hid (Below w.heap.size w ((w2.alloc (.cells #[.slice A3 n3 c3, .bool k3] 105)).alloc (.cells #[.slice A4 n4 c4, .bool k4] 105))) := Lib.hid (hb.trans ((hl1.trans ((hb2.mono hl1.size).trans (hl2.mono (by have := hl1.size; have := hb2.size; omega)))).mono hb.size))
  have hq' := hq.below hl2
  have hm' := hm.below hl2
  have hd0 : World.cell? ((w2.alloc (.cells #[.slice A3 n3 c3, .bool k3] 105)).alloc (.cells #[.slice A4 n4 c4, .bool k4] 105)) ⟨w2.heap.size + 1, 0, none⟩ = some (.slice A4 n4 c4) := by simp [go_sem]
  have hd1 : World.cell? ((w2.alloc (.cells #[.slice A3 n3 c3, .bool k3] 105)).alloc (.cells #[.slice A4 n4 c4, .bool k4] 105)) ⟨w2.heap.size + 1, 1, none⟩ = some (.bool k4) := by simp [go_sem]
  have hlt2 : w2.heap.size + 1 < ((w2.alloc (.cells #[.slice A3 n3 c3, .bool k3] 105)).alloc (.cells #[.slice A4 n4 c4, .bool k4] 105)).heap.size := by simp
  have HD := Lib.hid (And.intro hd0 (And.intro hd1 hlt2))
  clear hov hq hm hd0 hd1 hlt2 hl1 hl2 hb hb2
  go_wp2_with fail
  refine (H.out.1 _ _ hq').mono ?_
  rintro e w3 ⟨rfl, hb3⟩
  have hm3 := hm'.below hb3
  have he0 : w3.cell? ⟨w2.heap.size + 1, 0, none⟩ = some (.slice A4 n4 c4) := by rw [hb3.cell (p := ⟨w2.heap.size + 1, 0, none⟩) HD.out.2.2]; exact HD.out.1
  have he1 : w3.cell? ⟨w2.heap.size + 1, 1, none⟩ = some (.bool k4) := by rw [hb3.cell (p := ⟨w2.heap.size + 1, 1, none⟩) HD.out.2.2]; exact HD.out.2.1
  have hB3 : Hid (Below w.heap.size w w3) := Lib.hid (hB2.out.trans (hb3.mono hB2.out.size))
  clear hb3
  go_wp2_with fail
  refine (H.out.2.1 _ _ hm3).mono ?_
  rintro e w4 ⟨rfl, hb4⟩
  go_wp2_with fail
  exact bodyPost_ret (v := .tuple #[.string ⟨(wr (x / y)).toArray⟩, .string ⟨(wr (x % y)).toArray⟩, .int .i64 0]) (by simp [results, Tryz.results66, go_sem]) rfl ⟨rfl, hB3.out.trans (hb4.mono hB3.out.size)⟩

set_option maxRecDepth 100000 in
set_option maxHeartbeats 2000000 in
theorem wdiv_zero (l1 l2 : List UInt8) (x : Int) (w : World) (h1 : rd l1 = some x) (h2 : rd l2 = some 0) :
    Calls Tryz.prog 66 #[.string ⟨l1.toArray⟩, .string ⟨l2.toArray⟩] w fun e w' => e = .returned (.tuple #[.string ⟨#[]⟩, .string ⟨#[]⟩, .int .i64 7]) ∧ Below w.heap.size w w' := by
  have hr := fun W => wboth_some l1 l2 x 0 W h1 h2
  have hz := fun A c W => isZero_any A 0 c W
  rw [show decide (0 = 0) = true from rfl] at hz
  clear h1 h2
  go_enter Tryz.func66, Tryz.ntmps66
  go_wp2_with fail
  refine (hr _).mono ?_
  rintro e w1 ⟨A1, n1, c1, k1, A2, n2, c2, k2, rfl, hv1, hv2, hb⟩
  have hl1 : Below w1.heap.size w1 ((w1.alloc (.cells #[.slice A1 n1 c1, .bool k1] 105)).alloc (.cells #[.slice A2 n2 c2, .bool k2] 105)) := ((Below.refl _ _).alloc (Nat.le_refl _) _).alloc (by simp) _
  have hn2 : n2 = 0 := by
    obtain ⟨m, e, A, c, e2, _⟩ := hv2
    injection e with e
    simp at e
    rw [← e.1] at e2
    injection e2 with _ e3
    rw [e3]
    exact wlen_zero
  subst hn2
  clear hr hv1 hv2
  go_wp2_with (go_at_call 99; refine (hz _ _ _).mono ?_; rintro e w1 ⟨rfl, rfl⟩)
  exact bodyPost_ret (v := .tuple #[.string ⟨#[]⟩, .string ⟨#[]⟩, .int .i64 7]) (by simp [results, Tryz.results66, go_sem]) rfl ⟨rfl, hb.trans (hl1.mono hb.size)⟩

set_option maxRecDepth 100000 in
set_option maxHeartbeats 2000000 in
theorem wdiv_none (l1 l2 : List UInt8) (w : World) (h : rd l1 = none ∨ rd l2 = none) :
    Calls Tryz.prog 66 #[.string ⟨l1.toArray⟩, .string ⟨l2.toArray⟩] w fun e w' => e = .returned (.tuple #[.string ⟨#[]⟩, .string ⟨#[]⟩, .int .i64 10]) ∧ Below w.heap.size w w' := by
  have hr := fun W => wboth_none l1 l2 W h
  clear h
  go_enter Tryz.func66, Tryz.ntmps66
  go_wp2_with fail
  refine (hr _).mono ?_
  rintro e w1 ⟨rfl, hb⟩
  clear hr
  go_wp2_with fail
  exact bodyPost_ret (v := .tuple #[.string ⟨#[]⟩, .string ⟨#[]⟩, .int .i64 10]) (by simp [results, Tryz.results66, go_sem]) rfl ⟨rfl, (hb.alloc hb.size _).alloc (by simp; have := hb.size; omega) _⟩

end Go.Proofs.YtdclloledfjfjaaGreatDoor
