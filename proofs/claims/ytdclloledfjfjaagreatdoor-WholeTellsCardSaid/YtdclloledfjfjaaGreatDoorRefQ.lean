/- Contracts of the reference: Raised, Check, Sign, Cmp, Of, Pow. -/
import Derived.Test.YtdclloledfjfjaaGreatDoorRefN
namespace Go.Proofs.YtdclloledfjfjaaGreatDoor
open Go.RowKit Vd
attribute [local go_sem ↓] Go.wp_at_zero Go.wp_at_succ

theorem w4_pow {x : Int} {k : Nat} (hx : wlen B4 x.natAbs ≤ 1000) (hk : k ≤ 1000) : wlen B4 (x ^ k).natAbs ≤ 1000000000 := by
  rw [Int.natAbs_pow]
  have h1 := wlen_pow (b := B4) two_le_B4 x.natAbs k
  have h2 : k * wlen B4 x.natAbs ≤ 1000 * 1000 := Nat.mul_le_mul hk hx
  omega
theorem w4_pow40 {x : Int} {k : Nat} (hx : wlen B4 x.natAbs ≤ 600) (hk : k ≤ 40) : wlen B4 (x ^ k).natAbs ≤ 1000000 := by
  rw [Int.natAbs_pow]
  have h1 := wlen_pow (b := B4) two_le_B4 x.natAbs k
  have h2 : k * wlen B4 x.natAbs ≤ 40 * 600 := Nat.mul_le_mul hk hx
  omega
theorem cmpZ_zero (z : Int) : cmpZ z 0 = signZ z := by unfold cmpZ signZ; split <;> split <;> omega

set_option maxRecDepth 100000 in
set_option maxHeartbeats 1000000 in
theorem raisedZ_any (v : Value) (x : Int) (n : Nat) (w : World) (h : PlV w v x) (hx : wlen B4 x.natAbs ≤ 1000) (hn : n ≤ 1000) :
    Calls Tryz.prog 142 #[v, .int .i64 (n : Int)] w fun e w' => ∃ v, e = .returned v ∧ PlV w' v (x ^ n) ∧ Below w.heap.size w w' := by
  obtain ⟨A0, l0, c0, k0, rfl⟩ := h.open
  have hn' : (n : Int) ≤ 1000 := by omega
  have hin := fun W => integer_any 1 W (by decide)
  rw [show ((1 : Nat) : Int) = 1 from rfl] at hin
  have HT : Hid (∀ k W v, k ≤ 1000 → Below w.heap.size w W → PlV W v (x ^ k) → Calls Tryz.prog 141 #[v, .agg #[.bool k0, .slice A0 l0 c0]] W fun e w' => ∃ v', e = .returned v' ∧ PlV w' v' (x ^ (k + 1)) ∧ Below W.heap.size W w') := Lib.hid (fun k W v hk hb hv => by
    refine (times4_any v _ _ _ W hv (h.below hb) (w4_pow hx hk) (by omega)).mono ?_
    rintro e w' ⟨v', he, hp, hb⟩
    refine ⟨v', he, ?_, hb⟩
    rw [Int.pow_succ]; exact hp)
  clear h hx
  go_enter Tryz.func142, Tryz.ntmps142
  go_wp2_with fail
  refine (hin _).mono ?_
  rintro e w1 ⟨v, rfl, hv, hb1⟩
  obtain ⟨A1, l1, c1, k1, rfl⟩ := hv.open
  go_wp2_with fail
  have hx0 := BoxP.alloc (w.alloc (.cells #[.bool k0, .slice A0 l0 c0] 92)) none 0 0 false
  rw [World.size_alloc] at hx0
  have hlt1 : w.heap.size + 1 < w1.heap.size := by have := hb1.size; simp at this; omega
  have hbw : Below w.heap.size w w1 := (((Below.refl _ _).alloc (Nat.le_refl _) _).alloc (by simp) _).trans (hb1.mono (by simp; omega))
  have hR0 : RaR w w1.heap.size k0 (.slice A0 l0 c0) (x ^ 0) (w1.alloc (.cells #[.bool k1, .slice A1 l1 c1] 92)) A1 l1 c1 k1 := by
    have hba : Below w1.heap.size w1 (w1.alloc (.cells #[.bool k1, .slice A1 l1 c1] 92)) := (Below.refl _ _).alloc (Nat.le_refl _) _
    refine ⟨heap_alloc_new w1 _, by rw [Int.pow_zero]; exact hv.below hba, ?_, ?_, (hx0.below hb1 (by simp)).below hba hlt1, hbw.trans (hba.mono hbw.size), hlt1⟩
    · rw [hba.cell (by show w.heap.size < w1.heap.size; omega), hb1.cell (by simp; omega)]; simp [go_sem]
    · rw [hba.cell (by show w.heap.size < w1.heap.size; omega), hb1.cell (by simp; omega)]; simp [go_sem]
  obtain ⟨g, hg⟩ : ∃ g, g = w1.heap.size := ⟨_, rfl⟩
  rw [← hg] at hR0
  simp only [← hg]
  clear hv hx0 hlt1 hbw hb1 hin
  go_loopg [6] n (fun r iv W => ∃ (k : Nat) (A : Option Addr) (l c : Nat) (b : Bool), r = n - k ∧ iv = .int .i64 (k : Int) ∧ k ≤ n ∧ RaR w g k0 (.slice A0 l0 c0) (x ^ k) W A l c b)
  case atStart => exact ⟨0, _, _, _, _, rfl, rfl, Nat.zero_le _, hR0⟩
  case round =>
    clear hR0 hg
    obtain ⟨k, A, l, c, b, rfl, rfl, hk, hR⟩ := hrel
    obtain ⟨hc0, hc1⟩ := hR.cells
    by_cases ha : k < n
    · have hka : (k : Int) < (n : Int) := by omega
      have ha0 := hR.a0
      have ha1 := hR.a1
      have ht := HT.out k wr _ (by omega) hR.bel hR.val
      have HR := Lib.hid (And.intro hR (And.intro ha hk))
      clear hR ha hk
      go_wp2_with fail
      refine ht.mono ?_
      rintro e w2 ⟨v2, rfl, hv2, hb2⟩
      obtain ⟨A2, l2, c2, k2, rfl⟩ := hv2.open
      have hbx := HR.out.1.box.below hb2 HR.out.1.box.lt
      obtain ⟨⟨q0, hd0⟩, ⟨q1, hd1⟩, hf0, hf1⟩ := hbx.facts
      have hst := HR.out.1.step hb2 hv2
      clear ht hv2 hb2 hbx
      go_wp2_with fail
      go_roundg (n - (k + 1))
      case measure => have := HR.out.2.1; omega
      case rel => exact ⟨k + 1, A2, l2, c2, k2, rfl, by go_num, by have := HR.out.2.1; omega, hst⟩
    · have hkn : k = n := by omega
      subst hkn
      have hka : ¬ (k : Int) < (k : Int) := by omega
      obtain ⟨⟨q0, hd0⟩, ⟨q1, hd1⟩, hf0, hf1⟩ := hR.bx.facts
      have HR := Lib.hid hR
      clear hR ha hk
      go_wp2_with fail
      exact bodyPost_ret (v := .agg #[.bool b, .slice A l c]) (by simp [results, Tryz.results142, go_sem, hd0, hd1]) rfl ⟨_, rfl, HR.out.val.sets HR.out.bx _ _, (HR.out.bel.setCell (by simp) _).setCell (by simp) _⟩


set_option maxRecDepth 100000 in
set_option maxHeartbeats 1000000 in
theorem rcheck_any (l : List UInt8) (w : World) (b : l.length ≤ 1000000) :
    Calls Tryz.prog 21 #[.string ⟨l.toArray⟩] w fun e w' => e = .returned (.int .i64 (if okB l then 0 else 10)) ∧ Below w.heap.size w w' := by
  have hr := fun W => right_any l b W
  cases h : okB l
  · rw [h] at hr
    clear h
    go_enter Tryz.func21, Tryz.ntmps21
    go_wp2_with fail
    refine (hr _).mono ?_
    rintro e w1 ⟨rfl, rfl⟩
    go_wp2_with fail
    go_ret
    exact ⟨rfl, Below.refl _ _⟩
  · rw [h] at hr
    clear h
    go_enter Tryz.func21, Tryz.ntmps21
    go_wp2_with fail
    refine (hr _).mono ?_
    rintro e w1 ⟨rfl, rfl⟩
    go_wp2_with fail
    go_ret
    exact ⟨rfl, Below.refl _ _⟩

set_option maxRecDepth 100000 in
set_option maxHeartbeats 1000000 in
theorem rof_any (n : Int) (w : World) (h0 : -9223372036854775808 ≤ n) (h1 : n ≤ 9223372036854775807) :
    Calls Tryz.prog 12 #[.int .i64 n] w fun e w' => e = .returned (.string ⟨(wr n).toArray⟩) ∧ Below w.heap.size w w' := by
  have hi := fun W => integerZ_any n W h0 h1
  have hlow : n.natAbs < 10 ^ 20 := by omega
  have hs : small n := Nat.lt_of_lt_of_le hlow (Nat.pow_le_pow_right (by omega) (by rw [maxDigits_eq]; omega))
  have ho := fun W v hv => out4_any v n W hv (by
    have h2 : n.natAbs < 10 ^ (4 * 5) := hlow
    exact Nat.le_trans (lt_wlen4 h2) (by omega))
  simp only [outV_small hs] at ho
  obtain ⟨t, ht⟩ : ∃ t, t = wr n := ⟨_, rfl⟩
  simp only [← ht] at ho
  rw [← ht]
  have HO := Lib.hid ho
  clear hs hlow ho ht h0 h1
  go_enter Tryz.func12, Tryz.ntmps12
  go_wp2_with fail
  refine (hi _).mono ?_
  rintro e w1 ⟨v, rfl, hv, hb⟩
  obtain ⟨A, n1, c, k, rfl⟩ := hv.open
  have ho := HO.out _ _ hv
  have HB := Lib.hid hb
  clear hi hv hb
  go_wp2_with fail
  refine ho.mono ?_
  rintro e w2 ⟨rfl, hb2⟩
  go_wp2_with fail
  go_ret
  exact ⟨rfl, below_tr HB.out hb2⟩

set_option maxRecDepth 100000 in
set_option maxHeartbeats 1000000 in
theorem rsign_some (l : List UInt8) (x : Int) (w : World) (h : rd l = some x) :
    Calls Tryz.prog 17 #[.string ⟨l.toArray⟩] w fun e w' => e = .returned (.tuple #[.int .i64 (signZ x), .int .i64 0]) ∧ Below w.heap.size w w' := by
  have hr := fun W => right_any l (rd_len h) W
  rw [rd_okB h] at hr
  have hi := fun W => in_any l x W h
  have hz := fun W => integer_any 0 W (by omega)
  rw [show ((0 : Nat) : Int) = 0 from rfl] at hz
  have d1 := w4_one (rd_low h)
  have HO : Hid (∀ W v1 v2, PlV W v1 x → PlV W v2 0 → Calls Tryz.prog 81 #[v1, v2] W fun e w' => e = .returned (.int .i64 (signZ x)) ∧ Below W.heap.size W w') := Lib.hid (fun W v1 v2 h1 h2 => by
    have := orderZ4_any v1 v2 x 0 W h1 h2 (by omega) (by rw [show (0 : Int).natAbs = 0 from rfl, wlen_zero]; omega)
    rwa [cmpZ_zero] at this)
  obtain ⟨S, hS⟩ : ∃ S, S = signZ x := ⟨_, rfl⟩
  rw [← hS] at HO ⊢
  clear h d1 hS
  go_enter Tryz.func17, Tryz.ntmps17
  go_wp2_with fail
  refine (hr _).mono ?_
  rintro e w1 ⟨rfl, rfl⟩
  clear hr
  go_wp2_with fail
  refine (hi _).mono ?_
  rintro e w2 ⟨v1, rfl, hv1, hb2⟩
  obtain ⟨A1, n1, c1, k1, rfl⟩ := hv1.open
  go_wp2_with fail
  refine (hz _).mono ?_
  rintro e w3 ⟨v2, rfl, hv2, hb3⟩
  obtain ⟨A2, n2, c2, k2, rfl⟩ := hv2.open
  have ho := HO.out _ _ _ (hv1.below hb3) hv2
  have HB := Lib.hid (below_tr hb2 hb3)
  clear hi hz hv1 hv2 hb2 hb3
  go_wp2_with fail
  refine ho.mono ?_
  rintro e w4 ⟨rfl, hb4⟩
  go_wp2_with fail
  go_ret2
  exact ⟨rfl, below_tr HB.out hb4⟩

set_option maxRecDepth 100000 in
set_option maxHeartbeats 1000000 in
theorem rcmp_some (l1 l2 : List UInt8) (x y : Int) (w : World) (h1 : rd l1 = some x) (h2 : rd l2 = some y) :
    Calls Tryz.prog 19 #[.string ⟨l1.toArray⟩, .string ⟨l2.toArray⟩] w fun e w' => e = .returned (.tuple #[.int .i64 (cmpZ x y), .int .i64 0]) ∧ Below w.heap.size w w' := by
  have hr1 := fun W => right_any l1 (rd_len h1) W
  have hr2 := fun W => right_any l2 (rd_len h2) W
  rw [rd_okB h1] at hr1
  rw [rd_okB h2] at hr2
  have hi1 := fun W => in_any l1 x W h1
  have hi2 := fun W => in_any l2 y W h2
  have d1 := w4_one (rd_low h1)
  have d2 := w4_one (rd_low h2)
  have HO : Hid (∀ W v1 v2, PlV W v1 x → PlV W v2 y → Calls Tryz.prog 81 #[v1, v2] W fun e w' => e = .returned (.int .i64 (cmpZ x y)) ∧ Below W.heap.size W w') := Lib.hid (fun W v1 v2 h1 h2 => orderZ4_any v1 v2 x y W h1 h2 (by omega) (by omega))
  obtain ⟨S, hS⟩ : ∃ S, S = cmpZ x y := ⟨_, rfl⟩
  rw [← hS] at HO ⊢
  clear h1 h2 d1 d2 hS
  go_enter Tryz.func19, Tryz.ntmps19
  go_wp2_with fail
  refine (hr1 _).mono ?_
  rintro e w1 ⟨rfl, rfl⟩
  go_wp2_with fail
  refine (hr2 _).mono ?_
  rintro e w1 ⟨rfl, rfl⟩
  clear hr1 hr2
  go_wp2_with fail
  refine (hi1 _).mono ?_
  rintro e w2 ⟨v1, rfl, hv1, hb2⟩
  obtain ⟨A1, n1, c1, k1, rfl⟩ := hv1.open
  go_wp2_with fail
  refine (hi2 _).mono ?_
  rintro e w3 ⟨v2, rfl, hv2, hb3⟩
  obtain ⟨A2, n2, c2, k2, rfl⟩ := hv2.open
  have ho := HO.out _ _ _ (hv1.below hb3) hv2
  have HB := Lib.hid (below_tr hb2 hb3)
  clear hi1 hi2 hv1 hv2 hb2 hb3
  go_wp2_with fail
  refine ho.mono ?_
  rintro e w4 ⟨rfl, hb4⟩
  go_wp2_with fail
  go_ret2
  exact ⟨rfl, below_tr HB.out hb4⟩

set_option maxRecDepth 100000 in
set_option maxHeartbeats 1000000 in
theorem rsign_none (l : List UInt8) (w : World) (b : l.length ≤ 1000000) (h : rd l = none) :
    Calls Tryz.prog 17 #[.string ⟨l.toArray⟩] w fun e w' => e = .returned (.tuple #[.int .i64 0, .int .i64 10]) ∧ Below w.heap.size w w' := by
  have hr := fun W => right_any l b W
  rw [rd_noB h] at hr
  clear h b
  go_enter Tryz.func17, Tryz.ntmps17
  go_wp2_with fail
  refine (hr _).mono ?_
  rintro e w1 ⟨rfl, rfl⟩
  clear hr
  go_wp2_with fail
  go_ret2
  exact ⟨rfl, Below.refl _ _⟩

set_option maxRecDepth 100000 in
set_option maxHeartbeats 1000000 in
theorem rcmp_none (l1 l2 : List UInt8) (w : World) (b1 : l1.length ≤ 1000000) (b2 : l2.length ≤ 1000000) (h : rd l1 = none ∨ rd l2 = none) :
    Calls Tryz.prog 19 #[.string ⟨l1.toArray⟩, .string ⟨l2.toArray⟩] w fun e w' => e = .returned (.tuple #[.int .i64 0, .int .i64 10]) ∧ Below w.heap.size w w' := by
  have hr1 := fun W => right_any l1 b1 W
  have hr2 := fun W => right_any l2 b2 W
  cases h1 : rd l1 with
  | none =>
    rw [rd_noB h1] at hr1
    clear h h1 b1 b2 hr2
    go_enter Tryz.func19, Tryz.ntmps19
    go_wp2_with fail
    refine (hr1 _).mono ?_
    rintro e w1 ⟨rfl, rfl⟩
    clear hr1
    go_wp2_with fail
    go_ret2
    exact ⟨rfl, Below.refl _ _⟩
  | some z =>
    rw [rd_okB h1] at hr1
    rw [rd_noB (h.resolve_left (by rw [h1]; intro e; cases e))] at hr2
    clear h h1 b1 b2
    go_enter Tryz.func19, Tryz.ntmps19
    go_wp2_with fail
    refine (hr1 _).mono ?_
    rintro e w1 ⟨rfl, rfl⟩
    go_wp2_with fail
    refine (hr2 _).mono ?_
    rintro e w1 ⟨rfl, rfl⟩
    clear hr1 hr2
    go_wp2_with fail
    go_ret2
    exact ⟨rfl, Below.refl _ _⟩

end Go.Proofs.YtdclloledfjfjaaGreatDoor
