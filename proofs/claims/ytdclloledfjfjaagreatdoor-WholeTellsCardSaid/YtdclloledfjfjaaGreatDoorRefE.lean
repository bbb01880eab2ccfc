/- Contracts of the reference: Plus of numbers that are not negative, Times, Raised. -/
import Derived.Test.YtdclloledfjfjaaGreatDoorRefD
import Derived.Test.YtdclloledfjfjaaGreatDoorSgnC
import Derived.Deep.RegionHeld3
import Derived.Deep.DrawnRows
namespace Go.Proofs.YtdclloledfjfjaaGreatDoor
open Go.RowKit Vd
attribute [local go_sem ↓] Go.wp_at_zero Go.wp_at_succ

/-- both arguments' boxes are kept, the result's box stays, and the world grows only above w -/
abbrev PlB (w : World) (m1 m2 : Value) (k1 k2 : Bool) (W : World) : Prop :=
  (BoxP W (w.heap.size + 1 + 1) ∧ Below w.heap.size w W) ∧ W.cell? ⟨w.heap.size, 0, none⟩ = some (.bool k1) ∧ W.cell? ⟨w.heap.size, 1, none⟩ = some m1 ∧ W.cell? ⟨w.heap.size + 1, 0, none⟩ = some (.bool k2) ∧ W.cell? ⟨w.heap.size + 1, 1, none⟩ = some m2

theorem plb_step {w W w1 : World} {m1 m2 : Value} {k1 k2 : Bool} (h : PlB w m1 m2 k1 k2 W) (hb : Below W.heap.size W w1) : PlB w m1 m2 k1 k2 w1 := by
  have hlt := h.1.1.lt
  have hc : ∀ b o, b < w.heap.size + 1 + 1 → w1.cell? ⟨b, o, none⟩ = W.cell? ⟨b, o, none⟩ := fun b o hbl => hb.cell (p := ⟨b, o, none⟩) (Nat.lt_trans hbl hlt)
  refine ⟨⟨h.1.1.below hb hlt, h.1.2.trans (hb.mono (by omega))⟩, ?_, ?_, ?_, ?_⟩
  · rw [hc _ _ (by omega)]; exact h.2.1
  · rw [hc _ _ (by omega)]; exact h.2.2.1
  · rw [hc _ _ (by omega)]; exact h.2.2.2.1
  · rw [hc _ _ (by omega)]; exact h.2.2.2.2
theorem plb_store {w W : World} {m1 m2 : Value} {k1 k2 : Bool} (h : PlB w m1 m2 k1 k2 W) (A : Option Addr) (n c : Nat) (k : Bool) :
    PlB w m1 m2 k1 k2 ((W.setCell ⟨w.heap.size + 1 + 1, 0, none⟩ (.bool k)).setCell ⟨w.heap.size + 1 + 1, 1, none⟩ (.slice A n c)) := by
  have hc : ∀ b o, b < w.heap.size + 1 + 1 → ((W.setCell ⟨w.heap.size + 1 + 1, 0, none⟩ (.bool k)).setCell ⟨w.heap.size + 1 + 1, 1, none⟩ (.slice A n c)).cell? ⟨b, o, none⟩ = W.cell? ⟨b, o, none⟩ := fun b o hb => by
    rw [World.cell?_setCell_other _ _ _ _ (by intro e; injection e with e; omega), World.cell?_setCell_other _ _ _ _ (by intro e; injection e with e; omega)]
  refine ⟨⟨h.1.1.set A n c k, (h.1.2.setCell (by simp; omega) _).setCell (by simp; omega) _⟩, ?_, ?_, ?_, ?_⟩
  · rw [hc _ _ (by omega)]; exact h.2.1
  · rw [hc _ _ (by omega)]; exact h.2.2.1
  · rw [hc _ _ (by omega)]; exact h.2.2.2.1
  · rw [hc _ _ (by omega)]; exact h.2.2.2.2
theorem plb_start (w : World) (m1 m2 : Value) (k1 k2 : Bool) : PlB w m1 m2 k1 k2 (((w.alloc (.cells #[.bool k1, m1] 92)).alloc (.cells #[.bool k2, m2] 92)).alloc (.cells #[.bool false, .slice none 0 0] 92)) := by
  have hb := BoxP.alloc ((w.alloc (.cells #[.bool k1, m1] 92)).alloc (.cells #[.bool k2, m2] 92)) none 0 0 false
  rw [World.size_alloc, World.size_alloc] at hb
  refine ⟨⟨hb, (((Below.refl _ _).alloc (Nat.le_refl _) _).alloc (by simp) _).alloc (by simp; omega) _⟩, ?_, ?_, ?_, ?_⟩ <;> simp [go_sem]

theorem DigV.sl {w : World} {v : Value} {n : Nat} (h : DigV w v n) : ∃ A c, v = .slice A (wlen B4 n) c ∧ wlen B4 n ≤ c ∧ c ≤ 9223372036854775807 ∧ Sl w I8 A (wlen B4 n) (ws B4 n) := h

theorem product4_any (m1 m2 : Value) (a b : Nat) (w : World) (h1 : DigV w m1 a) (h2 : DigV w m2 b) (b1 : wlen B4 a ≤ 1000000000) (b2 : wlen B4 b ≤ 1000000000) :
    Calls Tryz.prog 186 #[m1, m2] w fun e w' => ∃ A n c, e = .returned (.slice A n c) ∧ DigV w' (.slice A n c) (a * b) ∧ Below w.heap.size w w' := by
  obtain ⟨A1, c1, rfl, _, _, s1⟩ := h1
  obtain ⟨A2, c2, rfl, _, _, s2⟩ := h2
  refine (product4_core A1 A2 _ _ c1 c2 _ _ w s1 s2 (ok_ws _) (Or.inl (ok_ws _)) b1 b2).mono ?_
  rintro e w' ⟨A, n, c, he, hd, hb⟩
  rw [val_ws two_le_B4, val_ws two_le_B4] at hd
  exact ⟨A, n, c, he, hd, hb⟩

/-- digits of a number, some of which may be 0 at the end -/
def DigL (w : World) (v : Value) (n : Nat) : Prop := ∃ A k c zs, v = .slice A k c ∧ Sl w I8 A k zs ∧ Ok B4 zs ∧ Vd.val B4 zs = n ∧ k ≤ c ∧ c ≤ 9223372036854775807
theorem DigV.l {w : World} {v : Value} {n : Nat} (h : DigV w v n) : DigL w v n := by
  obtain ⟨A, c, rfl, h1, h2, s⟩ := h
  exact ⟨A, _, c, _, rfl, s, ok_ws _, val_ws two_le_B4 _, h1, h2⟩
theorem DigL.below {w w' : World} {v : Value} {n : Nat} (h : DigL w v n) (hb : Below w.heap.size w w') : DigL w' v n := by
  obtain ⟨A, k, c, zs, e, s, o, hv, h1, h2⟩ := h
  exact ⟨A, k, c, zs, e, s.below hb, o, hv, h1, h2⟩

theorem sum4_any (m1 m2 : Value) (a b : Nat) (w : World) (h1 : DigV w m1 a) (h2 : DigV w m2 b) (b1 : wlen B4 a ≤ 1000000000) (b2 : wlen B4 b ≤ 1000000000) :
    Calls Tryz.prog 183 #[m1, m2] w fun e w' => ∃ A n c, e = .returned (.slice A n c) ∧ DigL w' (.slice A n c) (a + b) ∧ Below w.heap.size w w' := by
  obtain ⟨A1, c1, rfl, _, _, s1⟩ := h1
  obtain ⟨A2, c2, rfl, _, _, s2⟩ := h2
  refine (sum4_core A1 A2 _ _ c1 c2 _ _ w s1 s2 (ok_ws _) (ok_ws _) b1 b2).mono ?_
  rintro e w' ⟨A, n, c, he, zs, hs, ho, hv, hn, hc, hb⟩
  rw [val_ws two_le_B4, val_ws two_le_B4] at hv
  exact ⟨A, n, c, he, ⟨A, n, c, zs, rfl, hs, ho, hv, hn, hc⟩, hb⟩

theorem made4_any (b : Bool) (v : Value) (n : Nat) (w : World) (h : DigL w v n) :
    Calls Tryz.prog 139 #[.bool b, v] w fun e w' => ∃ (A : Option Addr) (l c : Nat) (k : Bool), e = .returned (.agg #[.bool k, .slice A l c]) ∧ PlV w' (.agg #[.bool k, .slice A l c]) (sgn n b) ∧ Below w.heap.size w w' := by
  obtain ⟨A, k, c, zs, rfl, s, o, hv, h1, h2⟩ := h
  refine (made_any b A k c zs w s o h1 h2).mono ?_
  rintro e w' ⟨v, he, hp, hb⟩
  rw [hv] at hp
  obtain ⟨A', l, c', k', rfl⟩ := hp.open
  exact ⟨A', l, c', k', he, hp, hb⟩

set_option maxRecDepth 100000 in
set_option maxHeartbeats 1000000 in
theorem times4_any (v1 v2 : Value) (x y : Int) (w : World) (h1 : PlV w v1 x) (h2 : PlV w v2 y) (b1 : wlen B4 x.natAbs ≤ 1000000000) (b2 : wlen B4 y.natAbs ≤ 1000000000) :
    Calls Tryz.prog 141 #[v1, v2] w fun e w' => ∃ v, e = .returned v ∧ PlV w' v (x * y) ∧ Below w.heap.size w w' := by
  obtain ⟨m1, rfl, hm1⟩ := h1
  obtain ⟨m2, rfl, hm2⟩ := h2
  obtain ⟨k1, hk1⟩ : ∃ k, k = decide (x < 0) := ⟨_, rfl⟩
  obtain ⟨k2, hk2⟩ : ∃ k, k = decide (y < 0) := ⟨_, rfl⟩
  have hE := sgn_mul x y
  rw [← hk1, ← hk2] at hE ⊢
  have hpr : Hid (∀ W, PlB w m1 m2 k1 k2 W → Calls Tryz.prog 186 #[m1, m2] W fun e w' => ∃ (A : Option Addr) (n c : Nat), e = .returned (.slice A n c) ∧ DigL w' (.slice A n c) (x.natAbs * y.natAbs) ∧ PlB w m1 m2 k1 k2 w') := Lib.hid (fun W hS => (product4_any m1 m2 _ _ W (hm1.below hS.1.2) (hm2.below hS.1.2) b1 b2).mono fun _ _ ⟨A, n, c, he, hm, hb⟩ => ⟨A, n, c, he, hm.l, plb_step hS hb⟩)
  have hsg : Hid (∀ W m, DigL W m (x.natAbs * y.natAbs) → PlB w m1 m2 k1 k2 W → Calls Tryz.prog 139 #[.bool (k1 != k2), m] W fun e w' => ∃ (A : Option Addr) (n c : Nat) (k : Bool), e = .returned (.agg #[.bool k, .slice A n c]) ∧ PlV w' (.agg #[.bool k, .slice A n c]) (x * y) ∧ PlB w m1 m2 k1 k2 w') := Lib.hid (fun W m hm hS => (made4_any (k1 != k2) m _ W hm).mono fun e w' ⟨A, n, c, k, he, hp, hb⟩ => by
    rw [hE] at hp
    exact ⟨A, n, c, k, he, hp, plb_step hS hb⟩)
  have hS0 := plb_start w m1 m2 k1 k2
  clear hE hm1 hm2 b1 b2 hk1 hk2
  go_enter Tryz.func141, Tryz.ntmps141
  go_wp2
  go_region_held3 (fun W => (BoxP W (w.heap.size + 1 + 1) ∧ Below w.heap.size w W) ∧ W.cell? ⟨w.heap.size, 0, none⟩ = some (.bool k1) ∧ W.cell? ⟨w.heap.size, 1, none⟩ = some m1 ∧ W.cell? ⟨w.heap.size + 1, 0, none⟩ = some (.bool k2) ∧ W.cell? ⟨w.heap.size + 1, 1, none⟩ = some m2) (first | with_reducible assumption | exact ⟨⟨hS0.1.1, hS0.1.2.drew⟩, hS0.2⟩ | (refine plb_store ?_ _ _ _ _; with_reducible assumption))
    (first
      | (go_at_call 186; refine (hpr.out _ ?_).mono ?_; with_reducible assumption; rintro e w1 ⟨A1, n1, c1, rfl, hx1, hS1⟩)
      | (go_at_call 139; refine (hsg.out _ _ ?_ ?_).mono ?_; with_reducible assumption; with_reducible assumption; rintro e w2 ⟨A, n, c, k, rfl, hp, hS2⟩; obtain ⟨⟨q0, hc0⟩, ⟨q1, hc1⟩, hf0, hf1⟩ := hS2.1.1.facts))
  go_wp2
  exact bodyPost_ret (v := .agg #[.bool k, .slice A n c]) (by simp [results, Tryz.results141, go_sem, hc0, hc1]) rfl ⟨_, rfl, hp.sets hS2.1.1 _ _, (plb_store hS2 A n c k).1.2⟩

set_option maxRecDepth 100000 in
set_option maxHeartbeats 1000000 in
theorem plus4_nat (v1 v2 : Value) (a b : Nat) (w : World) (h1 : PlV w v1 (a : Int)) (h2 : PlV w v2 (b : Int)) (b1 : wlen B4 a ≤ 1000000000) (b2 : wlen B4 b ≤ 1000000000) :
    Calls Tryz.prog 140 #[v1, v2] w fun e w' => ∃ v, e = .returned v ∧ PlV w' v ((a + b : Nat) : Int) ∧ Below w.heap.size w w' := by
  obtain ⟨m1, rfl, hm1⟩ := h1
  obtain ⟨m2, rfl, hm2⟩ := h2
  rw [Int.natAbs_natCast] at hm1 hm2
  rw [show decide ((a : Int) < 0) = false by simp, show decide ((b : Int) < 0) = false by simp]
  have hpr : Hid (∀ W, PlB w m1 m2 false false W → Calls Tryz.prog 183 #[m1, m2] W fun e w' => ∃ (A : Option Addr) (n c : Nat), e = .returned (.slice A n c) ∧ DigL w' (.slice A n c) (a + b) ∧ PlB w m1 m2 false false w') := Lib.hid (fun W hS => (sum4_any m1 m2 _ _ W (hm1.below hS.1.2) (hm2.below hS.1.2) b1 b2).mono fun _ _ ⟨A, n, c, he, hm, hb⟩ => ⟨A, n, c, he, hm, plb_step hS hb⟩)
  have hsg : Hid (∀ W m, DigL W m (a + b) → PlB w m1 m2 false false W → Calls Tryz.prog 139 #[.bool false, m] W fun e w' => ∃ (A : Option Addr) (n c : Nat) (k : Bool), e = .returned (.agg #[.bool k, .slice A n c]) ∧ PlV w' (.agg #[.bool k, .slice A n c]) ((a + b : Nat) : Int) ∧ PlB w m1 m2 false false w') := Lib.hid (fun W m hm hS => (made4_any false m _ W hm).mono fun e w' ⟨A, n, c, k, he, hp, hb⟩ => ⟨A, n, c, k, he, hp, plb_step hS hb⟩)
  have hS0 := plb_start w m1 m2 false false
  obtain ⟨Z, hZ⟩ : ∃ Z : Int, Z = ((a + b : Nat) : Int) := ⟨_, rfl⟩
  rw [← hZ] at hsg ⊢
  clear hm1 hm2 b1 b2 hZ
  go_enter Tryz.func140, Tryz.ntmps140
  go_wp2
  go_region_held3 (fun W => (BoxP W (w.heap.size + 1 + 1) ∧ Below w.heap.size w W) ∧ W.cell? ⟨w.heap.size, 0, none⟩ = some (.bool false) ∧ W.cell? ⟨w.heap.size, 1, none⟩ = some m1 ∧ W.cell? ⟨w.heap.size + 1, 0, none⟩ = some (.bool false) ∧ W.cell? ⟨w.heap.size + 1, 1, none⟩ = some m2) (first | with_reducible assumption | exact ⟨⟨hS0.1.1, hS0.1.2.drew⟩, hS0.2⟩ | (refine plb_store ?_ _ _ _ _; with_reducible assumption))
    (first
      | (go_at_call 183; refine (hpr.out _ ?_).mono ?_; with_reducible assumption; rintro e w1 ⟨A1, n1, c1, rfl, hx1, hS1⟩)
      | (go_at_call 139; refine (hsg.out _ _ ?_ ?_).mono ?_; with_reducible assumption; with_reducible assumption; rintro e w2 ⟨A, n, c, k, rfl, hp, hS2⟩; obtain ⟨⟨q0, hc0⟩, ⟨q1, hc1⟩, hf0, hf1⟩ := hS2.1.1.facts))
  go_wp2
  exact bodyPost_ret (v := .agg #[.bool k, .slice A n c]) (by simp [results, Tryz.results140, go_sem, hc0, hc1]) rfl ⟨_, rfl, hp.sets hS2.1.1 _ _, (plb_store hS2 A n c k).1.2⟩

theorem wlen4_pow {x k : Nat} (h : wlen B4 x ≤ 100) (hk : k ≤ 1000) : wlen B4 (x ^ k) ≤ 1000000000 := by
  have h1 := wlen_pow (b := B4) two_le_B4 x k
  have h2 : k * wlen B4 x ≤ 1000 * 100 := Nat.mul_le_mul hk h
  omega

/-- what the loop of 'Raised' keeps -/
structure RaR (w : World) (g : Nat) (k0 : Bool) (s0 : Value) (z : Int) (W : World) (A : Option Addr) (l c : Nat) (b : Bool) : Prop where
  blk : W.heap[g]? = some (.cells #[.bool b, .slice A l c] 92 (0, 0))
  val : PlV W (.agg #[.bool b, .slice A l c]) z
  a0 : W.cell? ⟨w.heap.size, 0, none⟩ = some (.bool k0)
  a1 : W.cell? ⟨w.heap.size, 1, none⟩ = some s0
  bx : BoxP W (w.heap.size + 1)
  bel : Below w.heap.size w W
  ord : w.heap.size + 1 < g
theorem RaR.box {w : World} {g : Nat} {k0 : Bool} {s0 : Value} {z : Int} {W : World} {A : Option Addr} {l c : Nat} {b : Bool} (h : RaR w g k0 s0 z W A l c b) : BoxP W g := ⟨A, l, c, b, h.blk⟩
theorem RaR.cells {w : World} {g : Nat} {k0 : Bool} {s0 : Value} {z : Int} {W : World} {A : Option Addr} {l c : Nat} {b : Bool} (h : RaR w g k0 s0 z W A l c b) : W.cell? ⟨g, 0, none⟩ = some (.bool b) ∧ W.cell? ⟨g, 1, none⟩ = some (.slice A l c) := by
  constructor
  · rw [cell_of_row W g 0 _ _ (0, 0) h.blk]; rfl
  · rw [cell_of_row W g 1 _ _ (0, 0) h.blk]; rfl
theorem RaR.step {w : World} {g : Nat} {k0 : Bool} {s0 : Value} {z z' : Int} {W W2 : World} {A A' : Option Addr} {l c l' c' : Nat} {b b' : Bool} (h : RaR w g k0 s0 z W A l c b) (hb : Below W.heap.size W W2) (hv : PlV W2 (.agg #[.bool b', .slice A' l' c']) z') :
    RaR w g k0 s0 z' ((W2.setCell ⟨g, 0, none⟩ (.bool b')).setCell ⟨g, 1, none⟩ (.slice A' l' c')) A' l' c' b' := by
  have hlt := h.box.lt
  have hord := h.ord
  have hbx := h.box.below hb hlt
  refine ⟨?_, hv.sets hbx _ _, ?_, ?_, ((h.bx.below hb (by omega)).far (by simp; omega) _).far (by simp; omega) _, ((h.bel.trans (hb.mono h.bel.size)).setCell (by simp; omega) _).setCell (by simp; omega) _, h.ord⟩
  · have := (hb.block g hlt).trans h.blk
    simp [World.setCell, Array.getElem?_modify, this]
  · rw [World.cell?_setCell_other _ _ _ _ (by intro e; injection e with e; omega), World.cell?_setCell_other _ _ _ _ (by intro e; injection e with e; omega), hb.cell (World.block_lt_of_cell? W _ h.a0)]
    exact h.a0
  · rw [World.cell?_setCell_other _ _ _ _ (by intro e; injection e with e; omega), World.cell?_setCell_other _ _ _ _ (by intro e; injection e with e; omega), hb.cell (World.block_lt_of_cell? W _ h.a1)]
    exact h.a1

set_option maxRecDepth 100000 in
set_option maxHeartbeats 1000000 in
theorem raised4_any (v : Value) (x n : Nat) (w : World) (h : PlV w v (x : Int)) (hx : wlen B4 x ≤ 100) (hn : n ≤ 1000) :
    Calls Tryz.prog 142 #[v, .int .i64 (n : Int)] w fun e w' => ∃ v, e = .returned v ∧ PlV w' v ((x ^ n : Nat) : Int) ∧ Below w.heap.size w w' := by
  obtain ⟨A0, l0, c0, k0, rfl⟩ := h.open
  have hn' : (n : Int) ≤ 1000 := by omega
  have hin := fun W => integer_any 1 W (by decide)
  rw [show ((1 : Nat) : Int) = 1 from rfl] at hin
  have HT : Hid (∀ k W v, k ≤ 1000 → Below w.heap.size w W → PlV W v ((x ^ k : Nat) : Int) → Calls Tryz.prog 141 #[v, .agg #[.bool k0, .slice A0 l0 c0]] W fun e w' => ∃ v', e = .returned v' ∧ PlV w' v' ((x ^ (k + 1) : Nat) : Int) ∧ Below W.heap.size W w') := Lib.hid (fun k W v hk hb hv => by
    refine (times4_any v _ _ _ W hv (h.below hb) (by rw [Int.natAbs_natCast]; exact wlen4_pow hx hk) (by rw [Int.natAbs_natCast]; omega)).mono ?_
    rintro e w' ⟨v', he, hp, hb⟩
    refine ⟨v', he, ?_, hb⟩
    rw [Nat.pow_succ, Int.natCast_mul]; exact hp)
  clear h hx
  go_enter Tryz.func142, Tryz.ntmps142
  go_wp2_with fail
  refine (hin _).mono ?_
  rintro e w1 ⟨v, rfl, hv, hb1⟩
  obtain ⟨A1, l1, c1, k1, rfl⟩ := hv.open
  go_wp2_with fail
  have hx0 := BoxP.alloc (w.alloc (.cells #[.bool k0, .slice A0 l0 c0] 92)) none 0 0 false
  rw [World.size_alloc] at hx0
  have hlt1 : w.heap.size + 1 < w1.heap.size := by have := hb1.size; simp at this; omega
  have hbw : Below w.heap.size w w1 := (((Below.refl _ _).alloc (Nat.le_refl _) _).alloc (by simp) _).trans (hb1.mono (by simp; omega))
  have hR0 : RaR w w1.heap.size k0 (.slice A0 l0 c0) ((x ^ 0 : Nat) : Int) (w1.alloc (.cells #[.bool k1, .slice A1 l1 c1] 92)) A1 l1 c1 k1 := by
    have hba : Below w1.heap.size w1 (w1.alloc (.cells #[.bool k1, .slice A1 l1 c1] 92)) := (Below.refl _ _).alloc (Nat.le_refl _) _
    refine ⟨heap_alloc_new w1 _, by rw [Nat.pow_zero]; exact hv.below hba, ?_, ?_, (hx0.below hb1 (by simp)).below hba hlt1, hbw.trans (hba.mono hbw.size), hlt1⟩
    · rw [hba.cell (by show w.heap.size < w1.heap.size; omega), hb1.cell (by simp; omega)]; simp [go_sem]
    · rw [hba.cell (by show w.heap.size < w1.heap.size; omega), hb1.cell (by simp; omega)]; simp [go_sem]
  obtain ⟨g, hg⟩ : ∃ g, g = w1.heap.size := ⟨_, rfl⟩
  rw [← hg] at hR0
  simp only [← hg]
  clear hv hx0 hlt1 hbw hb1 hin
  go_loopg [6] n (fun r iv W => ∃ (k : Nat) (A : Option Addr) (l c : Nat) (b : Bool), r = n - k ∧ iv = .int .i64 (k : Int) ∧ k ≤ n ∧ RaR w g k0 (.slice A0 l0 c0) ((x ^ k : Nat) : Int) W A l c b)
  case atStart => exact ⟨0, _, _, _, _, rfl, rfl, Nat.zero_le _, hR0⟩
  case round =>
    clear hR0 hg
    obtain ⟨k, A, l, c, b, rfl, rfl, hk, hR⟩ := hrel
    obtain ⟨hc0, hc1⟩ := hR.cells
    by_cases ha : k < n
    · have hka : (k : Int) < (n : Int) := by omega
      have ha0 := hR.a0
      have ha1 := hR.a1
      have ht := HT.out k wr _ (by omega) hR.bel hR.val
      have HR := Lib.hid (And.intro hR (And.intro ha hk))
      clear hR ha hk
      go_wp2_with fail
      refine ht.mono ?_
      rintro e w2 ⟨v2, rfl, hv2, hb2⟩
      obtain ⟨A2, l2, c2, k2, rfl⟩ := hv2.open
      have hbx := HR.out.1.box.below hb2 HR.out.1.box.lt
      obtain ⟨⟨q0, hd0⟩, ⟨q1, hd1⟩, hf0, hf1⟩ := hbx.facts
      have hst := HR.out.1.step hb2 hv2
      clear ht hv2 hb2 hbx
      go_wp2_with fail
      go_roundg (n - (k + 1))
      case measure => have := HR.out.2.1; omega
      case rel => exact ⟨k + 1, A2, l2, c2, k2, rfl, by go_num, by have := HR.out.2.1; omega, hst⟩
    · have hkn : k = n := by omega
      subst hkn
      have hka : ¬ (k : Int) < (k : Int) := by omega
      obtain ⟨⟨q0, hd0⟩, ⟨q1, hd1⟩, hf0, hf1⟩ := hR.bx.facts
      have HR := Lib.hid hR
      clear hR ha hk
      go_wp2_with fail
      exact bodyPost_ret (v := .agg #[.bool b, .slice A l c]) (by simp [results, Tryz.results142, go_sem, hd0, hd1]) rfl ⟨_, rfl, HR.out.val.sets HR.out.bx _ _, (HR.out.bel.setCell (by simp) _).setCell (by simp) _⟩

end Go.Proofs.YtdclloledfjfjaaGreatDoor
