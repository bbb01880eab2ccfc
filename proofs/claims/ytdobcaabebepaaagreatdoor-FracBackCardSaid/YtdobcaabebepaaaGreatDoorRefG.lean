/- Contracts of the reference: Out. Contract of the reference: the number of a draft. -/
import Derived.Test.YtdobcaabebepaaaGreatDoorRefA
import Derived.Test.YtdobcaabebepaaaGreatDoorWhoA
import Derived.Test.YtdobcaabebepaaaGreatDoorWhoF
namespace Go.Proofs.YtdobcaabebepaaaGreatDoor
open Go.RowKit Vd

theorem B4_pow (k : Nat) : B4 ^ k = 10 ^ (4 * k) := by rw [Nat.pow_mul]; rfl

theorem dlen_of_wlen4 {n k : Nat} (h : wlen B4 n ≤ k) : dlen n ≤ 4 * k + 1 := by
  rw [dlen_le_iff _ _ (by omega)]
  refine Nat.lt_of_lt_of_le (lt_pow_wlen two_le_B4 n) ?_
  rw [B4_pow]
  exact Nat.pow_le_pow_right (by omega) (by omega)

set_option maxRecDepth 100000 in
set_option maxHeartbeats 1000000 in
theorem out4_any (v : Value) (z : Int) (w : World) (h : PlV w v z) (hb : wlen B4 z.natAbs ≤ 1000000) :
    Calls Tryz.prog 87 #[v] w fun e w' => e = .returned (outV z) ∧ Below w.heap.size w w' := by
  have htx := fun W (hbl : Below w.heap.size w W) => text4_any v z W (h.below hbl) hb
  obtain ⟨m, rfl, A, c, rfl, hlc, hc, hsl⟩ := h
  obtain ⟨b, hbz⟩ : ∃ b, b = decide (z < 0) := ⟨_, rfl⟩
  rw [← hbz] at htx ⊢
  have hbW : Below w.heap.size w (w.alloc (.cells #[.bool b, .slice A (wlen B4 z.natAbs) c] 73)) := (Below.refl _ _).alloc (Nat.le_refl _) _
  have htx := htx _ hbW
  have hlen : (wr z).length = if b then dlen z.natAbs + 1 else dlen z.natAbs := by
    unfold wr
    rw [hbz]
    by_cases hz : z < 0
    · simp [hz, digs_length]
    · simp [hz, digs_length]
  have hsm := small_iff z
  have hdl := dlen_of_wlen4 hb
  obtain ⟨L, hL⟩ : ∃ L, L = wlen B4 z.natAbs := ⟨_, rfl⟩
  obtain ⟨D, hD⟩ : ∃ D, D = dlen z.natAbs := ⟨_, rfl⟩
  obtain ⟨t, ht⟩ : ∃ t, t = wr z := ⟨_, rfl⟩
  rw [← hL] at htx hbW ⊢
  rw [← hD] at hlen hsm hdl
  rw [← ht] at htx hlen
  have HB := Lib.hid (And.intro hbW hlen)
  by_cases hs : small z
  · have hD6 := hsm.1 hs
    have HE : Hid (outV z = .tuple #[.string ⟨t.toArray⟩, .int .i64 0]) := Lib.hid (by unfold outV; rw [if_pos hs, ht])
    clear hs hsm hL hD ht hsl hlc hc hb hbW hbz
    cases b
    · rw [if_neg (by simp)] at hlen
      have k1 : ¬ (600 : Int) < (t.length : Int) := by omega
      have k2 : ¬ 600 < t.length := by omega
      clear hlen hD6 hdl
      go_enter Tryz.func87, Tryz.ntmps87
      go_wp2_with fail
      refine htx.mono ?_
      rintro e w1 ⟨rfl, hb1⟩
      have hd0 : w1.cell? ⟨w.heap.size, 0, none⟩ = some (.bool false) := by rw [hb1.cell (by simp)]; simp [go_sem]
      have HB1 := Lib.hid (HB.out.1.trans (hb1.mono HB.out.1.size))
      clear hb1 htx
      go_wp2_with fail
      go_ret2
      exact ⟨by rw [HE.out]; rfl, HB1.out⟩
    · rw [if_pos rfl] at hlen
      have k1 : IntKind.i64.wrap ((t.length : Int) - 1) = (t.length : Int) - 1 := by rw [IntKind.wrap_i64]; omega
      have k2 : ¬ (600 : Int) < (t.length : Int) - 1 := by omega
      have k3 : (0 : Int) ≤ (t.length : Int) := by omega
      have k4 : (t.length : Int) ≤ 5000000 := by omega
      clear hlen hD6 hdl
      go_enter Tryz.func87, Tryz.ntmps87
      go_wp2_with fail
      refine htx.mono ?_
      rintro e w1 ⟨rfl, hb1⟩
      have hd0 : w1.cell? ⟨w.heap.size, 0, none⟩ = some (.bool true) := by rw [hb1.cell (by simp)]; simp [go_sem]
      have HB1 := Lib.hid (HB.out.1.trans (hb1.mono HB.out.1.size))
      clear hb1 htx
      go_wp2_with fail
      go_ret2
      exact ⟨by rw [HE.out]; rfl, HB1.out⟩
  · have hD6 : ¬ D ≤ 600 := fun e => hs (hsm.2 e)
    have HE : Hid (outV z = .tuple #[.string ⟨#[]⟩, .int .i64 6]) := Lib.hid (by unfold outV; rw [if_neg hs])
    clear hs hsm hL hD ht hsl hlc hc hb hbW hbz
    cases b
    · rw [if_neg (by simp)] at hlen
      have k1 : (600 : Int) < (t.length : Int) := by omega
      have k2 : 600 < t.length := by omega
      clear hlen hD6 hdl
      go_enter Tryz.func87, Tryz.ntmps87
      go_wp2_with fail
      refine htx.mono ?_
      rintro e w1 ⟨rfl, hb1⟩
      have hd0 : w1.cell? ⟨w.heap.size, 0, none⟩ = some (.bool false) := by rw [hb1.cell (by simp)]; simp [go_sem]
      have HB1 := Lib.hid (HB.out.1.trans (hb1.mono HB.out.1.size))
      clear hb1 htx
      go_wp2_with fail
      go_ret2
      exact ⟨by rw [HE.out]; rfl, HB1.out⟩
    · rw [if_pos rfl] at hlen
      have k1 : IntKind.i64.wrap ((t.length : Int) - 1) = (t.length : Int) - 1 := by rw [IntKind.wrap_i64]; omega
      have k2 : (600 : Int) < (t.length : Int) - 1 := by omega
      have k3 : (0 : Int) ≤ (t.length : Int) := by omega
      have k4 : (t.length : Int) ≤ 5000000 := by omega
      clear hlen hD6 hdl
      go_enter Tryz.func87, Tryz.ntmps87
      go_wp2_with fail
      refine htx.mono ?_
      rintro e w1 ⟨rfl, hb1⟩
      have hd0 : w1.cell? ⟨w.heap.size, 0, none⟩ = some (.bool true) := by rw [hb1.cell (by simp)]; simp [go_sem]
      have HB1 := Lib.hid (HB.out.1.trans (hb1.mono HB.out.1.size))
      clear hb1 htx
      go_wp2_with fail
      go_ret2
      exact ⟨by rw [HE.out]; rfl, HB1.out⟩

end Go.Proofs.YtdobcaabebepaaaGreatDoor

namespace Go.Proofs.YtdobcaabebepaaaGreatDoor
open Go.RowKit Vd
attribute [local go_sem ↓] Go.wp_at_zero Go.wp_at_succ

/-- a 16-bit number in memory -/
def U16 (x : Nat) : Value := .int .u16 (x : Int)

theorem BoxP.setEq {W : World} {b : Nat} (h : BoxP W b) (A : Option Addr) (n c : Nat) (k : Bool) : ((W.setCell ⟨b, 0, none⟩ (.bool k)).setCell ⟨b, 1, none⟩ (.slice A n c)).heap[b]? = some (.cells #[.bool k, .slice A n c] 73 (0, 0)) := by
  obtain ⟨A', n', c', k', h⟩ := h
  simp [World.setCell, Array.getElem?_modify, h]

/-- what a region of the draft keeps: its fields, one more cell, the box of the number, all that was there -/
abbrev DrS (W0 : World) (h g : Nat) (p : Addr) (b s z x : Value) (W : World) : Prop :=
  (BoxP W g ∧ Below W0.heap.size W0 W) ∧ W.cell? ⟨h, 0, none⟩ = some b ∧ W.cell? ⟨h, 1, none⟩ = some s ∧ W.cell? ⟨h, 2, none⟩ = some z ∧ W.cell? p = some x
/-- the box's number -/
def DrT (wr : World) (g : Nat) (k : Bool) (s : Value) (W : World) : Prop := Below wr.heap.size wr W ∧ W.cell? ⟨g, 0, none⟩ = some (.bool k) ∧ W.cell? ⟨g, 1, none⟩ = some s
/-- what the draft's loop keeps -/
structure DrR (w : World) (g : Nat) (b : Bool) (A0 : Option Addr) (n0 c0 z0 : Nat) (V : Nat) (W : World) (A : Option Addr) (l c : Nat) (k : Bool) : Prop where
  blk : W.heap[g]? = some (.cells #[.bool k, .slice A l c] 73 (0, 0))
  val : PlV W (.agg #[.bool k, .slice A l c]) (V : Int)
  f0 : W.cell? ⟨w.heap.size, 0, none⟩ = some (.bool b)
  f1 : W.cell? ⟨w.heap.size, 1, none⟩ = some (.slice A0 n0 c0)
  f2 : W.cell? ⟨w.heap.size, 2, none⟩ = some (.int .u16 (z0 : Int))
  bel : Below w.heap.size w W
  ord : w.heap.size < g

theorem DrR.box {w : World} {g : Nat} {b : Bool} {A0 : Option Addr} {n0 c0 z0 V : Nat} {W : World} {A : Option Addr} {l c : Nat} {k : Bool} (h : DrR w g b A0 n0 c0 z0 V W A l c k) : BoxP W g := ⟨A, l, c, k, h.blk⟩
theorem DrR.t {w : World} {g : Nat} {b : Bool} {A0 : Option Addr} {n0 c0 z0 V : Nat} {W : World} {A : Option Addr} {l c : Nat} {k : Bool} (h : DrR w g b A0 n0 c0 z0 V W A l c k) : DrT W g k (.slice A l c) W.drew := by
  refine ⟨(Below.refl _ _).drew, ?_, ?_⟩
  · show W.cell? _ = _; rw [cell_of_row W g 0 _ _ (0, 0) h.blk]; rfl
  · show W.cell? _ = _; rw [cell_of_row W g 1 _ _ (0, 0) h.blk]; rfl
theorem DrR.s {w : World} {g : Nat} {b : Bool} {A0 : Option Addr} {n0 c0 z0 V : Nat} {W : World} {A : Option Addr} {l c : Nat} {k : Bool} (h : DrR w g b A0 n0 c0 z0 V W A l c k) {p : Addr} {x : Value} (hx : W.cell? p = some x) : DrS w w.heap.size g p (.bool b) (.slice A0 n0 c0) (.int .u16 (z0 : Int)) x W.drew :=
  ⟨⟨h.box, h.bel.drew⟩, h.f0, h.f1, h.f2, hx⟩
theorem DrR.next {w : World} {g : Nat} {b : Bool} {A0 : Option Addr} {n0 c0 z0 V V' : Nat} {W W2 : World} {A A' : Option Addr} {l c l' c' : Nat} {k k' : Bool} (h : DrR w g b A0 n0 c0 z0 V W A l c k) {p : Addr} {x : Value}
    (hS : DrS w w.heap.size g p (.bool b) (.slice A0 n0 c0) (.int .u16 (z0 : Int)) x W2) (hv : PlV W2 (.agg #[.bool k', .slice A' l' c']) (V' : Int)) :
    DrR w g b A0 n0 c0 z0 V' ((W2.setCell ⟨g, 0, none⟩ (.bool k')).setCell ⟨g, 1, none⟩ (.slice A' l' c')) A' l' c' k' := by
  have hord := h.ord
  refine ⟨hS.1.1.setEq _ _ _ _, hv.sets hS.1.1 _ _, ?_, ?_, ?_, (hS.1.2.setCell (by simp; omega) _).setCell (by simp; omega) _, h.ord⟩
  · rw [World.cell?_setCell_other _ _ _ _ (by intro e; injection e with e; omega), World.cell?_setCell_other _ _ _ _ (by intro e; injection e with e; omega)]; exact hS.2.1
  · rw [World.cell?_setCell_other _ _ _ _ (by intro e; injection e with e; omega), World.cell?_setCell_other _ _ _ _ (by intro e; injection e with e; omega)]; exact hS.2.2.1
  · rw [World.cell?_setCell_other _ _ _ _ (by intro e; injection e with e; omega), World.cell?_setCell_other _ _ _ _ (by intro e; injection e with e; omega)]; exact hS.2.2.2.1

end Go.Proofs.YtdobcaabebepaaaGreatDoor
