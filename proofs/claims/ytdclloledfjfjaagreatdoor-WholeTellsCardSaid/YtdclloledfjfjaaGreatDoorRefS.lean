/- Contracts of the reference: Integral, Int. -/
import Derived.Test.YtdclloledfjfjaaGreatDoorRefQ
import Derived.Deep.RegionHeld3
import Derived.Deep.DrawnRows
namespace Go.Proofs.YtdclloledfjfjaaGreatDoor
open Go.RowKit Vd
attribute [local go_sem ↓] Go.wp_at_zero Go.wp_at_succ

abbrev IgS (w : World) (k : Bool) (A : Option Addr) (n c : Nat) (W : World) : Prop :=
  Below w.heap.size w W ∧ W.cell? ⟨w.heap.size, 0, none⟩ = some (.bool k) ∧ W.cell? ⟨w.heap.size, 1, none⟩ = some (.slice A n c)
theorem igs_step {w W W' : World} {k : Bool} {A : Option Addr} {n c : Nat} (h : IgS w k A n c W) (hb : Below W.heap.size W W') : IgS w k A n c W' :=
  ⟨h.1.trans (hb.mono h.1.size), (hb.cell (World.block_lt_of_cell? W _ h.2.1)).trans h.2.1, (hb.cell (World.block_lt_of_cell? W _ h.2.2)).trans h.2.2⟩
theorem igs_start (w : World) (k : Bool) (A : Option Addr) (n c : Nat) : IgS w k A n c (w.alloc (.cells #[.bool k, .slice A n c] 92)) := by
  refine ⟨(Below.refl _ _).alloc (Nat.le_refl _) _, ?_, ?_⟩ <;> simp [go_sem]

theorem plv_sl {W : World} {A : Option Addr} {n c : Nat} {k : Bool} {z : Int} (h : PlV W (.agg #[.bool k, .slice A n c]) z) : k = decide (z < 0) ∧ n = wlen B4 z.natAbs ∧ Sl W I8 A n (ws B4 z.natAbs) := by
  obtain ⟨m, e, A', c', rfl, _, _, s⟩ := h
  simp at e
  obtain ⟨rfl, rfl, rfl, rfl⟩ := e
  exact ⟨rfl, rfl, s⟩
theorem w4_int {z : Int} (h0 : -9223372036854775808 ≤ z) (h1 : z ≤ 9223372036854775807) : wlen B4 z.natAbs ≤ 5 := (wlen_le_iff two_le_B4 _ _).2 (by show z.natAbs < 10000 ^ 5; omega)

set_option maxRecDepth 100000 in
set_option maxHeartbeats 1000000 in
theorem integral_ok (A : Option Addr) (n c : Nat) (k : Bool) (z : Int) (w : World) (h : PlV w (.agg #[.bool k, .slice A n c]) z) (h0 : -9223372036854775808 ≤ z) (h1 : z ≤ 9223372036854775807) :
    Calls Tryz.prog 77 #[.agg #[.bool k, .slice A n c]] w fun e w' => e = .returned (.tuple #[.int .i64 z, .int .i64 0]) ∧ Below w.heap.size w w' := by
  have hn := (order4z_cells h).2
  have hw := w4_int h0 h1
  obtain ⟨d1, hd1⟩ : ∃ d, d = cmpZ z (-9223372036854775808) := ⟨_, rfl⟩
  obtain ⟨d2, hd2⟩ : ∃ d, d = cmpZ z 9223372036854775807 := ⟨_, rfl⟩
  have c1 : d1 = 0 ∨ d1 = 1 := by rw [hd1]; unfold cmpZ; split <;> (try split) <;> omega
  have c2 : d2 = 0 ∨ d2 = -1 := by rw [hd2]; unfold cmpZ; split <;> (try split) <;> omega
  have hS0 := igs_start w k A n c
  have HI : Hid (∀ W (z : Int), (z = -9223372036854775808 ∨ z = 9223372036854775807) → IgS w k A n c W → Calls Tryz.prog 73 #[.int .i64 z] W fun e w' => ∃ (A' : Option Addr) (n' c' : Nat) (k' : Bool), e = .returned (.agg #[.bool k', .slice A' n' c']) ∧ PlV w' (.agg #[.bool k', .slice A' n' c']) z ∧ IgS w k A n c w') := Lib.hid (fun W z hz hS => by
    refine (integerZ_any z W (by omega) (by omega)).mono ?_
    rintro e w' ⟨v, he, hv, hb⟩
    obtain ⟨A', n', c', k', rfl⟩ := hv.open
    exact ⟨A', n', c', k', he, hv, igs_step hS hb⟩)
  have HO : Hid (∀ W v (y d : Int), (y = -9223372036854775808 ∧ d = d1 ∨ y = 9223372036854775807 ∧ d = d2) → PlV W v y → IgS w k A n c W → Calls Tryz.prog 81 #[.agg #[.bool k, .slice A n c], v] W fun e w' => e = .returned (.int .i64 d) ∧ IgS w k A n c w') := Lib.hid (fun W v y d hy hv hS => by
    have hyw : wlen B4 y.natAbs ≤ 5 := w4_int (by omega) (by omega)
    refine (orderZ4_any _ v z y W (h.below hS.1) hv (by omega) (by omega)).mono ?_
    rintro e w' ⟨he, hb⟩
    refine ⟨?_, igs_step hS hb⟩
    rcases hy with ⟨rfl, rfl⟩ | ⟨rfl, rfl⟩
    · rw [he, hd1]
    · rw [he, hd2])
  have HO1 : Hid (∀ W v, PlV W v (-9223372036854775808) → IgS w k A n c W → Calls Tryz.prog 81 #[.agg #[.bool k, .slice A n c], v] W fun e w' => e = .returned (.int .i64 d1) ∧ IgS w k A n c w') := Lib.hid fun W v => HO.out W v _ _ (Or.inl ⟨rfl, rfl⟩)
  have HO2 : Hid (∀ W v, PlV W v 9223372036854775807 → IgS w k A n c W → Calls Tryz.prog 81 #[.agg #[.bool k, .slice A n c], v] W fun e w' => e = .returned (.int .i64 d2) ∧ IgS w k A n c w') := Lib.hid fun W v => HO.out W v _ _ (Or.inr ⟨rfl, rfl⟩)
  clear HO
  have HB := Lib.hid (And.intro h (And.intro hn (And.intro hw (And.intro h0 h1))))
  clear h hn hw hd1 hd2 h0 h1
  rcases c1 with rfl | rfl <;> rcases c2 with rfl | rfl
  all_goals
    go_enter Tryz.func77, Tryz.ntmps77
    go_wp2_with fail
    go_region_held3 (fun W => Below w.heap.size w W ∧ W.cell? ⟨w.heap.size, 0, none⟩ = some (.bool k) ∧ W.cell? ⟨w.heap.size, 1, none⟩ = some (.slice A n c)) (first | with_reducible assumption | exact ⟨hS0.1.drew, hS0.2⟩)
      (first
        | (go_at_call 73; refine (HI.out _ _ ?_ ?_).mono ?_; (first | exact Or.inl rfl | exact Or.inr rfl); with_reducible assumption; rintro e w2 ⟨A2, n2, e2, k2, rfl, hv2, hS2⟩)
        | (go_at_call 81; with_reducible refine (HO1.out _ _ ?_ ?_).mono ?_; with_reducible assumption; with_reducible assumption; rintro e w3 ⟨rfl, hS3⟩)
        | (go_at_call 81; with_reducible refine (HO2.out _ _ ?_ ?_).mono ?_; with_reducible assumption; with_reducible assumption; rintro e w3 ⟨rfl, hS3⟩))
    obtain ⟨h, hn, hw, h0, h1⟩ := HB.out
    obtain ⟨hk, -, hsl⟩ := plv_sl (h.below hS3.1)
    have e0 : IntKind.i64.wrap ((n : Int) - 1) = (n : Int) - 1 := by rw [IntKind.wrap_i64]; omega
    have hx0 := hS3.2.1
    have hx1 := hS3.2.2
    have HS := Lib.hid (And.intro hS3.1 (And.intro hsl (And.intro hk (And.intro hw (And.intro hn (And.intro h0 h1))))))
    clear h hn hw h0 h1 hS0 hS3 hsl hk HB HI HO1 HO2
    go_wp2_with fail
    go_loopg [4, 5] n (fun u nv iv W => ∃ (r : Nat) (m x : Int), u = r ∧ nv = .int .i64 m ∧ iv = .int .i64 x ∧ r ≤ n ∧ x = (r : Int) - 1 ∧ m = -((val B4 ((ws B4 z.natAbs).drop r) : Nat) : Int) ∧ W = w3)
    case atStart => exact ⟨n, 0, (n : Int) - 1, rfl, rfl, rfl, Nat.le_refl _, rfl, by rw [List.drop_eq_nil_of_le (by have := HS.out.2.1.len; omega)]; rfl, rfl⟩
    case round =>
      obtain ⟨r, m, x, hu, rfl, rfl, hr, hx, hm, rfl⟩ := hrel
      obtain ⟨hbel, hsl, hk, hw, hn, h0, h1⟩ := HS.out
      have hzs : val B4 (ws B4 z.natAbs) = z.natAbs := val_ws two_le_B4 _
      cases r with
      | zero =>
        have hx' : ¬ (0 : Int) ≤ x := by omega
        rw [List.drop_zero, hzs] at hm
        by_cases hz : z < 0
        · obtain rfl : k = true := by rw [hk]; simpa using hz
          obtain rfl : m = z := by omega
          clear hu hsl hk hw h0 h1 hm hx hr hn hzs
          go_wp2_with fail
          go_ret2
          exact ⟨rfl, hbel⟩
        · obtain rfl : k = false := by rw [hk]; simpa using hz
          have e1 : IntKind.i64.wrap (-m) = z := by rw [IntKind.wrap_i64]; omega
          clear hu hsl hk hw h0 h1 hm hx hr hn hzs
          go_wp2_with fail
          go_ret2
          exact ⟨rfl, hbel⟩
      | succ t =>
        obtain rfl : x = (t : Int) := by omega
        have hxt : (0 : Int) ≤ (t : Int) := by omega
        obtain ⟨g, o, rfl, hg, hcell⟩ := hsl.at_ (by omega)
        have hct := hcell t (by omega)
        have hstep := val_drop_step (b := B4) (xs := ws B4 z.natAbs) (k := t) (by rw [hsl.len]; omega)
        have htd := val_take_drop (b := B4) (ws B4 z.natAbs) t (by rw [hsl.len]; omega)
        rw [hzs] at htd
        obtain ⟨V, hV⟩ : ∃ V, V = val B4 ((ws B4 z.natAbs).drop (t + 1)) := ⟨_, rfl⟩
        obtain ⟨V', hV'⟩ : ∃ V, V = val B4 ((ws B4 z.natAbs).drop t) := ⟨_, rfl⟩
        obtain ⟨d, hd⟩ : ∃ d, d = nth (ws B4 z.natAbs) t := ⟨_, rfl⟩
        rw [← hV] at hm hstep
        rw [← hV'] at hstep htd
        rw [← hd] at hstep hct
        have hV'le : V' ≤ z.natAbs := by
          rw [htd]
          have : 1 * V' ≤ B4 ^ t * V' := Nat.mul_le_mul_right _ (Nat.pow_pos (by decide))
          omega
        have hst : V' = d + 10000 * V := hstep
        obtain ⟨p, hp⟩ : ∃ p : Int, p = m * 10000 := ⟨_, rfl⟩
        have e1 : IntKind.i64.wrap (m * 10000) = p := by rw [IntKind.wrap_i64]; omega
        have e2 : IntKind.i64.wrap (p - (d : Int)) = -(V' : Int) := by rw [IntKind.wrap_i64]; omega
        have e3 : IntKind.i64.wrap ((t : Int) - 1) = (t : Int) - 1 := by rw [IntKind.wrap_i64]; omega
        have ht1 : (t : Int) < (n : Int) := by omega
        have HR := Lib.hid (And.intro hr (And.intro hV' hu))
        unfold I8 at hct
        clear hu hsl hk hw h0 h1 hm hr hn hcell hstep htd hV hV' hd hV'le hst hp hzs hx
        go_wp2_with fail
        go_roundg t
        case measure => have := HR.out.2.2; omega
        case rel => exact ⟨t, -(V' : Int), (t : Int) - 1, rfl, rfl, rfl, by have := HR.out.1; omega, rfl, by rw [HR.out.2.1], rfl⟩

set_option maxRecDepth 100000 in
set_option maxHeartbeats 1000000 in
theorem integral_high (A : Option Addr) (n c : Nat) (k : Bool) (z : Int) (w : World) (h : PlV w (.agg #[.bool k, .slice A n c]) z) (h0 : 9223372036854775807 < z) (h1 : wlen B4 z.natAbs ≤ 1000000) :
    Calls Tryz.prog 77 #[.agg #[.bool k, .slice A n c]] w fun e w' => e = .returned (.tuple #[.int .i64 0, .int .i64 6]) ∧ Below w.heap.size w w' := by
  have hn := (order4z_cells h).2
  obtain ⟨d1, hd1⟩ : ∃ d, d = cmpZ z (-9223372036854775808) := ⟨_, rfl⟩
  obtain ⟨d2, hd2⟩ : ∃ d, d = cmpZ z 9223372036854775807 := ⟨_, rfl⟩
  have c1 : d1 = 1 := by rw [hd1]; unfold cmpZ; split <;> (try split) <;> omega
  have c2 : d2 = 1 := by rw [hd2]; unfold cmpZ; split <;> (try split) <;> omega
  have hS0 := igs_start w k A n c
  have HI : Hid (∀ W (z : Int), (z = -9223372036854775808 ∨ z = 9223372036854775807) → IgS w k A n c W → Calls Tryz.prog 73 #[.int .i64 z] W fun e w' => ∃ (A' : Option Addr) (n' c' : Nat) (k' : Bool), e = .returned (.agg #[.bool k', .slice A' n' c']) ∧ PlV w' (.agg #[.bool k', .slice A' n' c']) z ∧ IgS w k A n c w') := Lib.hid (fun W z hz hS => by
    refine (integerZ_any z W (by omega) (by omega)).mono ?_
    rintro e w' ⟨v, he, hv, hb⟩
    obtain ⟨A', n', c', k', rfl⟩ := hv.open
    exact ⟨A', n', c', k', he, hv, igs_step hS hb⟩)
  have HO : Hid (∀ W v (y d : Int), (y = -9223372036854775808 ∧ d = d1 ∨ y = 9223372036854775807 ∧ d = d2) → PlV W v y → IgS w k A n c W → Calls Tryz.prog 81 #[.agg #[.bool k, .slice A n c], v] W fun e w' => e = .returned (.int .i64 d) ∧ IgS w k A n c w') := Lib.hid (fun W v y d hy hv hS => by
    have hyw : wlen B4 y.natAbs ≤ 5 := w4_int (by omega) (by omega)
    refine (orderZ4_any _ v z y W (h.below hS.1) hv (by omega) (by omega)).mono ?_
    rintro e w' ⟨he, hb⟩
    refine ⟨?_, igs_step hS hb⟩
    rcases hy with ⟨rfl, rfl⟩ | ⟨rfl, rfl⟩
    · rw [he, hd1]
    · rw [he, hd2])
  have HO1 : Hid (∀ W v, PlV W v (-9223372036854775808) → IgS w k A n c W → Calls Tryz.prog 81 #[.agg #[.bool k, .slice A n c], v] W fun e w' => e = .returned (.int .i64 d1) ∧ IgS w k A n c w') := Lib.hid fun W v => HO.out W v _ _ (Or.inl ⟨rfl, rfl⟩)
  have HO2 : Hid (∀ W v, PlV W v 9223372036854775807 → IgS w k A n c W → Calls Tryz.prog 81 #[.agg #[.bool k, .slice A n c], v] W fun e w' => e = .returned (.int .i64 d2) ∧ IgS w k A n c w') := Lib.hid fun W v => HO.out W v _ _ (Or.inr ⟨rfl, rfl⟩)
  clear HO
  clear h hn hd1 hd2 h0 h1
  subst c1 c2
  all_goals
    go_enter Tryz.func77, Tryz.ntmps77
    go_wp2_with fail
    go_region_held3 (fun W => Below w.heap.size w W ∧ W.cell? ⟨w.heap.size, 0, none⟩ = some (.bool k) ∧ W.cell? ⟨w.heap.size, 1, none⟩ = some (.slice A n c)) (first | with_reducible assumption | exact ⟨hS0.1.drew, hS0.2⟩)
      (first
        | (go_at_call 73; refine (HI.out _ _ ?_ ?_).mono ?_; (first | exact Or.inl rfl | exact Or.inr rfl); with_reducible assumption; rintro e w2 ⟨A2, n2, e2, k2, rfl, hv2, hS2⟩)
        | (go_at_call 81; with_reducible refine (HO1.out _ _ ?_ ?_).mono ?_; with_reducible assumption; with_reducible assumption; rintro e w3 ⟨rfl, hS3⟩)
        | (go_at_call 81; with_reducible refine (HO2.out _ _ ?_ ?_).mono ?_; with_reducible assumption; with_reducible assumption; rintro e w3 ⟨rfl, hS3⟩))
    have hbel := hS3.1
    clear hS0 hS3 HI HO1 HO2
    go_wp2_with fail
    go_ret2
    exact ⟨rfl, hbel⟩

set_option maxRecDepth 100000 in
set_option maxHeartbeats 1000000 in
theorem integral_low (A : Option Addr) (n c : Nat) (k : Bool) (z : Int) (w : World) (h : PlV w (.agg #[.bool k, .slice A n c]) z) (h0 : z < -9223372036854775808) (h1 : wlen B4 z.natAbs ≤ 1000000) :
    Calls Tryz.prog 77 #[.agg #[.bool k, .slice A n c]] w fun e w' => e = .returned (.tuple #[.int .i64 0, .int .i64 6]) ∧ Below w.heap.size w w' := by
  have hS0 := igs_start w k A n c
  have HI : Hid (∀ W, IgS w k A n c W → Calls Tryz.prog 73 #[.int .i64 (-9223372036854775808)] W fun e w' => ∃ (A' : Option Addr) (n' c' : Nat) (k' : Bool), e = .returned (.agg #[.bool k', .slice A' n' c']) ∧ PlV w' (.agg #[.bool k', .slice A' n' c']) (-9223372036854775808) ∧ IgS w k A n c w') := Lib.hid (fun W hS => by
    refine (integerZ_any _ W (by omega) (by omega)).mono ?_
    rintro e w' ⟨v, he, hv, hb⟩
    obtain ⟨A', n', c', k', rfl⟩ := hv.open
    exact ⟨A', n', c', k', he, hv, igs_step hS hb⟩)
  have HO : Hid (∀ W v, PlV W v (-9223372036854775808) → IgS w k A n c W → Calls Tryz.prog 81 #[.agg #[.bool k, .slice A n c], v] W fun e w' => e = .returned (.int .i64 (-1)) ∧ IgS w k A n c w') := Lib.hid (fun W v hv hS => by
    have hyw : wlen B4 (-9223372036854775808 : Int).natAbs ≤ 5 := w4_int (by omega) (by omega)
    refine (orderZ4_any _ v z _ W (h.below hS.1) hv (by omega) (by omega)).mono ?_
    rintro e w' ⟨he, hb⟩
    refine ⟨?_, igs_step hS hb⟩
    rw [he, show cmpZ z (-9223372036854775808) = -1 by unfold cmpZ; rw [if_pos h0]])
  have hSd : IgS w k A n c (w.alloc (.cells #[.bool k, .slice A n c] 92)).drew := ⟨hS0.1.drew, hS0.2⟩
  have hx0 := hS0.2.1
  have hx1 := hS0.2.2
  clear h h0 h1
  go_enter Tryz.func77, Tryz.ntmps77
  go_wp2_with fail
  go_region_with (first
    | (go_at_call 73; with_reducible refine (HI.out _ ?_).mono ?_; with_reducible assumption; rintro e w2 ⟨A2, n2, e2, k2, rfl, hv2, hS2⟩; have hy0 := hS2.2.1; have hy1 := hS2.2.2)
    | (go_at_call 81; with_reducible refine (HO.out _ _ ?_ ?_).mono ?_; with_reducible assumption; with_reducible assumption; rintro e w3 ⟨rfl, hS3⟩))
  all_goals
    have hbel := hS3.1
    clear hS0 hSd hS3 HI HO
    go_wp2_with fail
    go_ret2
    exact ⟨rfl, hbel⟩

theorem integral_some (v : Value) (z : Int) (w : World) (h : PlV w v z) (h0 : -9223372036854775808 ≤ z) (h1 : z ≤ 9223372036854775807) :
    Calls Tryz.prog 77 #[v] w fun e w' => e = .returned (.tuple #[.int .i64 z, .int .i64 0]) ∧ Below w.heap.size w w' := by
  obtain ⟨A, n, c, k, rfl⟩ := h.open
  exact integral_ok A n c k z w h h0 h1
theorem integral_none (v : Value) (z : Int) (w : World) (h : PlV w v z) (h0 : ¬ (-9223372036854775808 ≤ z ∧ z ≤ 9223372036854775807)) (h1 : wlen B4 z.natAbs ≤ 1000000) :
    Calls Tryz.prog 77 #[v] w fun e w' => e = .returned (.tuple #[.int .i64 0, .int .i64 6]) ∧ Below w.heap.size w w' := by
  obtain ⟨A, n, c, k, rfl⟩ := h.open
  by_cases h2 : z < -9223372036854775808
  · exact integral_low A n c k z w h h2 h1
  · exact integral_high A n c k z w h (by omega) h1

set_option maxRecDepth 100000 in
set_option maxHeartbeats 1000000 in
theorem rint_of (l : List UInt8) (z k1 k2 : Int) (w : World) (h : rd l = some z) (hI : ∀ W v, PlV W v z → Calls Tryz.prog 77 #[v] W fun e w' => e = .returned (.tuple #[.int .i64 k1, .int .i64 k2]) ∧ Below W.heap.size W w') :
    Calls Tryz.prog 15 #[.string ⟨l.toArray⟩] w fun e w' => e = .returned (.tuple #[.int .i64 k1, .int .i64 k2]) ∧ Below w.heap.size w w' := by
  have hr := fun W => right_any l (rd_len h) W
  rw [rd_okB h] at hr
  have hi := fun W => in_any l z W h
  have HI := Lib.hid hI
  clear h hI
  go_enter Tryz.func15, Tryz.ntmps15
  go_wp2_with fail
  refine (hr _).mono ?_
  rintro e w1 ⟨rfl, rfl⟩
  clear hr
  go_wp2_with fail
  refine (hi _).mono ?_
  rintro e w2 ⟨v1, rfl, hv1, hb2⟩
  obtain ⟨A1, n1, c1, k1, rfl⟩ := hv1.open
  have ho := HI.out _ _ hv1
  have HB := Lib.hid hb2
  clear hi hv1 hb2
  go_wp2_with fail
  refine ho.mono ?_
  rintro e w3 ⟨rfl, hb3⟩
  go_wp2_with fail
  go_ret2
  exact ⟨rfl, below_tr HB.out hb3⟩

theorem rint_some (l : List UInt8) (z : Int) (w : World) (h : rd l = some z) (h0 : -9223372036854775808 ≤ z) (h1 : z ≤ 9223372036854775807) :
    Calls Tryz.prog 15 #[.string ⟨l.toArray⟩] w fun e w' => e = .returned (.tuple #[.int .i64 z, .int .i64 0]) ∧ Below w.heap.size w w' :=
  rint_of l z z 0 w h fun W v hv => integral_some v z W hv h0 h1
theorem rint_big (l : List UInt8) (z : Int) (w : World) (h : rd l = some z) (h0 : ¬ (-9223372036854775808 ≤ z ∧ z ≤ 9223372036854775807)) :
    Calls Tryz.prog 15 #[.string ⟨l.toArray⟩] w fun e w' => e = .returned (.tuple #[.int .i64 0, .int .i64 6]) ∧ Below w.heap.size w w' :=
  rint_of l z 0 6 w h fun W v hv => integral_none v z W hv h0 (by have := w4_one (rd_low h); omega)

set_option maxRecDepth 100000 in
set_option maxHeartbeats 1000000 in
theorem rint_none (l : List UInt8) (w : World) (b : l.length ≤ 1000000) (h : rd l = none) :
    Calls Tryz.prog 15 #[.string ⟨l.toArray⟩] w fun e w' => e = .returned (.tuple #[.int .i64 0, .int .i64 10]) ∧ Below w.heap.size w w' := by
  have hr := fun W => right_any l b W
  rw [rd_noB h] at hr
  clear h b
  go_enter Tryz.func15, Tryz.ntmps15
  go_wp2_with fail
  refine (hr _).mono ?_
  rintro e w1 ⟨rfl, rfl⟩
  clear hr
  go_wp2_with fail
  go_ret2
  exact ⟨rfl, Below.refl _ _⟩

end Go.Proofs.YtdclloledfjfjaaGreatDoor
