/- Contracts: package frac: differences of fractions; a fraction read and written. -/
import Derived.Test.YtfkdcgjphnoioaaGreatDoorFraF
namespace Go.Proofs.YtfkdcgjphnoioaaGreatDoor
open Go.RowKit Vd
attribute [local go_sem ↓] Go.wp_at_zero Go.wp_at_succ

theorem Fz.neg {x : Rat} {K : Nat} (h : Fz x K) : Fz (-x) K := ⟨by rw [show (-x).num = -x.num from rfl, Int.natAbs_neg]; exact h.1, h.2⟩

set_option maxRecDepth 100000 in
set_option maxHeartbeats 2000000 in
theorem raminus_any (v1 v2 : Value) (x y : Rat) (K L : Nat) (w : World) (h1 : RaV w v1 x) (h2 : RaV w v2 y) (hx : Fz x K) (hy : Fz y L) (hK : K + L + 8 ≤ maxW) :
    Calls Tryz.prog 81 #[v1, v2] w fun e w' => ∃ v, e = .returned v ∧ RaV w' v (x - y) ∧ Below w.heap.size w w' := by
  obtain ⟨A1, n1, c1, k1, A2, n2, c2, k2, rfl, hv1, hv2⟩ := h1.open
  obtain ⟨A3, n3, c3, k3, A4, n4, c4, k4, rfl, hv3, hv4⟩ := h2.open
  have HN : Hid (∀ W, BiS w A1 n1 c1 k1 A2 n2 c2 k2 A3 n3 c3 k3 A4 n4 c4 k4 W → Calls Tryz.prog 89 #[.agg #[.slice A3 n3 c3, .bool k3, .slice A4 n4 c4, .bool k4]] W fun e w' => ∃ (A : Option Addr) (n c : Nat) (k : Bool) (A' : Option Addr) (n' c' : Nat) (k' : Bool), e = .returned (.agg #[.slice A n c, .bool k, .slice A' n' c', .bool k']) ∧ RaV w' (.agg #[.slice A n c, .bool k, .slice A' n' c', .bool k']) (-y) ∧ BiS w A1 n1 c1 k1 A2 n2 c2 k2 A3 n3 c3 k3 A4 n4 c4 k4 w') := Lib.hid (fun W hS => by
    refine (raneg_any _ y W (h2.below hS.1.1)).mono ?_
    rintro e w' ⟨v, he, hv, hb⟩
    obtain ⟨A, n, c, k, A', n', c', k', rfl, _, _⟩ := hv.open
    exact ⟨A, n, c, k, A', n', c', k', he, hv, biS_step hS hb⟩)
  have HP : Hid (∀ W v, RaV W v (-y) → BiS w A1 n1 c1 k1 A2 n2 c2 k2 A3 n3 c3 k3 A4 n4 c4 k4 W → Calls Tryz.prog 80 #[.agg #[.slice A1 n1 c1, .bool k1, .slice A2 n2 c2, .bool k2], v] W fun e w' => ∃ (A : Option Addr) (n c : Nat) (k : Bool) (A' : Option Addr) (n' c' : Nat) (k' : Bool), e = .returned (.agg #[.slice A n c, .bool k, .slice A' n' c', .bool k']) ∧ SgV w' (.agg #[.slice A n c, .bool k]) (x - y).num ∧ SgV w' (.agg #[.slice A' n' c', .bool k']) ((x - y).den : Int) ∧ BiS w A1 n1 c1 k1 A2 n2 c2 k2 A3 n3 c3 k3 A4 n4 c4 k4 w') := Lib.hid (fun W v hv hS => by
    refine (raplus_any _ v x (-y) K L W (h1.below hS.1.1) hv hx hy.neg hK).mono ?_
    rintro e w' ⟨r, he, ⟨A, n, c, k, A', n', c', k', rfl, g1, g2⟩, hb⟩
    rw [subQ_eq] at g1 g2
    exact ⟨A, n, c, k, A', n', c', k', he, g1, g2, biS_step hS hb⟩)
  have hS0 := biS_start w A1 n1 c1 k1 A2 n2 c2 k2 A3 n3 c3 k3 A4 n4 c4 k4
  clear h1 h2 hx hy hK hv1 hv2 hv3 hv4
  go_enter Tryz.func81, Tryz.ntmps81
  go_wp2_with fail
  have hS1 := biS_drew hS0
  clear hS0
  go_region_held3 (fun W => (Below w.heap.size w W ∧ BoxR W (w.heap.size + 1 + 1)) ∧ W.cell? ⟨w.heap.size, 0, none⟩ = some (.slice A1 n1 c1) ∧ W.cell? ⟨w.heap.size, 1, none⟩ = some (.bool k1) ∧ W.cell? ⟨w.heap.size, 2, none⟩ = some (.slice A2 n2 c2) ∧ W.cell? ⟨w.heap.size, 3, none⟩ = some (.bool k2) ∧ W.cell? ⟨w.heap.size + 1, 0, none⟩ = some (.slice A3 n3 c3) ∧ W.cell? ⟨w.heap.size + 1, 1, none⟩ = some (.bool k3) ∧ W.cell? ⟨w.heap.size + 1, 2, none⟩ = some (.slice A4 n4 c4) ∧ W.cell? ⟨w.heap.size + 1, 3, none⟩ = some (.bool k4)) (first | with_reducible assumption | exact ⟨⟨hS1.1.1, hS1.1.2⟩, hS1.2⟩ | (refine biS_store ?_ _ _ _ _ _ _ _ _; with_reducible assumption))
    (first
      | (go_at_call 89; with_reducible refine (HN.out _ ?_).mono ?_; with_reducible assumption; rintro e w5 ⟨A5, n5, c5, k5, A6, n6, c6, k6, rfl, hr5, hS5⟩)
      | (go_at_call 80; with_reducible refine (HP.out _ _ ?_ ?_).mono ?_; with_reducible assumption; with_reducible assumption; rintro e w7 ⟨A7, n7, c7, k7, A8, n8, c8, k8, rfl, hq7, hq8, hS7⟩; obtain ⟨⟨q0, y0⟩, ⟨q1, y1⟩, ⟨q2, y2⟩, ⟨q3, y3⟩, y4, y5, y6, y7⟩ := hS7.1.2.facts))
  go_wp2_with fail
  exact bodyPost_ret (v := .agg #[.slice A7 n7 c7, .bool k7, .slice A8 n8 c8, .bool k8]) (by simp [results, Tryz.results81, go_sem, y0, y1, y2, y3]) rfl ⟨_, rfl, RaV.fin hS7.1.2 hq7 hq8, below_set4 hS7.1.1 (by omega)⟩

set_option maxRecDepth 100000 in
set_option maxHeartbeats 1000000 in
theorem fwriteW_any (v : Value) (z : Int) (w : World) (hv : SgV w v z) (hb : wlen B64 z.natAbs ≤ 1000000) :
    Calls Tryz.prog 97 #[v] w fun e w' => e = .returned (outV z) ∧ Below w.heap.size w w' := by
  obtain ⟨A, n, c, k, rfl⟩ := hv.open
  have ht := fun W (hb2 : Below w.heap.size w W) => text_any _ z 600 W (hv.below hb2) hb (by omega) (by omega)
  rw [show ((600 : Nat) : Int) = 600 from rfl] at ht
  have hbW : Below w.heap.size w (w.alloc (.cells #[.slice A n c, .bool k] 87)) := (Below.refl _ _).alloc (Nat.le_refl _) _
  have ht := ht _ hbW
  by_cases hs : small z
  · have HE : Hid (outV z = .tuple #[.string ⟨(wr z).toArray⟩, .int .i64 0]) := Lib.hid (by unfold outV; rw [if_pos hs])
    rw [show textV z 600 = .tuple #[.string ⟨(wr z).toArray⟩, .bool true] by unfold textV; rw [if_pos ((small_iff z).1 hs)]] at ht
    clear hs hv hb
    go_enter Tryz.func97, Tryz.ntmps97
    go_wp2_with fail
    refine ht.mono ?_
    rintro e w1 ⟨rfl, hb1⟩
    go_wp2_with fail
    go_ret2
    exact ⟨by rw [HE.out]; rfl, hbW.trans (hb1.mono hbW.size)⟩
  · have HE : Hid (outV z = .tuple #[.string ⟨#[]⟩, .int .i64 6]) := Lib.hid (by unfold outV; rw [if_neg hs])
    rw [show textV z 600 = .tuple #[.string ⟨#[]⟩, .bool false] by unfold textV; rw [if_neg (fun h => hs ((small_iff z).2 h))]] at ht
    clear hs hv hb
    go_enter Tryz.func97, Tryz.ntmps97
    go_wp2_with fail
    refine ht.mono ?_
    rintro e w1 ⟨rfl, hb1⟩
    go_wp2_with fail
    go_ret2
    exact ⟨by rw [HE.out]; rfl, hbW.trans (hb1.mono hbW.size)⟩

/-- what the text of a number within 600 digits is -/
theorem textV_tuple (z : Int) : (small z ∧ textV z 600 = .tuple #[.string ⟨(wr z).toArray⟩, .bool true]) ∨ (¬ small z ∧ textV z 600 = .tuple #[.string ⟨#[]⟩, .bool false]) := by
  by_cases h : small z
  · exact Or.inl ⟨h, by unfold textV; rw [if_pos ((small_iff z).1 h)]⟩
  · exact Or.inr ⟨h, by unfold textV; rw [if_neg (fun k => h ((small_iff z).2 k))]⟩
/-- what 'Frac' answers -/
def outB (q : Rat) : Value := if smallF q then .tuple #[frV q, .bool true] else .tuple #[frNone, .bool false]

set_option maxRecDepth 100000 in
set_option maxHeartbeats 2000000 in
theorem rafrac_any (v : Value) (x : Rat) (w : World) (h1 : RaV w v x) (hx : Fz x 1000000) :
    Calls Tryz.prog 111 #[v] w fun e w' => e = .returned (outB x) ∧ Below w.heap.size w w' := by
  obtain ⟨A1, n1, c1, k1, A2, n2, c2, k2, rfl, hv1, hv2⟩ := h1.open
  obtain ⟨W0, hW0⟩ : ∃ W0, W0 = (w.alloc (.cells #[.slice A1 n1 c1, .bool k1, .slice A2 n2 c2, .bool k2] 89)).alloc (.cells #[.string ⟨#[]⟩, .string ⟨#[]⟩] 24) := ⟨_, rfl⟩
  have hbW : Below w.heap.size w W0 := by rw [hW0]; exact ((Below.refl _ _).alloc (Nat.le_refl _) _).alloc (by simp) _
  have hE0 : Fr W0 w.heap.size #[.slice A1 n1 c1, .bool k1, .slice A2 n2 c2, .bool k2] 89 := by rw [hW0]; exact (Fr.new rfl).old
  have hE1 : Fr W0 (w.heap.size + 1) #[.string ⟨#[]⟩, .string ⟨#[]⟩] 24 := by rw [hW0]; exact Fr.new (by simp)
  have hc1 := text_any _ x.num 600 W0 (hv1.below hbW) hx.1 (by omega) (by omega)
  have hc2 := fun W (hb : Below W0.heap.size W0 W) => text_any _ (x.den : Int) 600 W ((hv2.below hbW).below hb) (fz_den hx) (by omega) (by omega)
  rw [show ((600 : Nat) : Int) = 600 from rfl] at hc1
  rw [show ((600 : Nat) : Int) = 600 from rfl] at hc2
  have hf0 := fr_built0
  have hf1 := fr_built
  rcases textV_tuple x.num with ⟨hs1, e1⟩ | ⟨hs1, e1⟩ <;> rcases textV_tuple (x.den : Int) with ⟨hs2, e2⟩ | ⟨hs2, e2⟩
  · rw [e1] at hc1
    simp only [e2] at hc2
    have HO : Hid (outB x = .tuple #[frV x, .bool true]) := Lib.hid (by unfold outB; rw [if_pos ⟨hs1, hs2⟩])
    obtain ⟨s1, hs1'⟩ : ∃ s, s = wr x.num := ⟨_, rfl⟩
    obtain ⟨s2, hs2'⟩ : ∃ s, s = wr (x.den : Int) := ⟨_, rfl⟩
    simp only [← hs1'] at hc1
    simp only [← hs2'] at hc2
    have HB := Lib.hid (And.intro hbW (And.intro hE0 (And.intro hE1 (And.intro hs1' hs2'))))
    rw [hW0] at hc1
    clear h1 hv1 hv2 hx hbW hE0 hE1 hs1 hs2 e1 e2 hs1' hs2'
    go_enter Tryz.func111, Tryz.ntmps111
    go_wp2_with fail
    refine hc1.mono ?_
    rw [← hW0]
    rintro e w1 ⟨rfl, hb1⟩
    have hc2' := hc2 w1 hb1
    obtain ⟨a0, a1, a2, a3, -⟩ := (HB.out.2.1.call hb1).cells4
    have HB1 := Lib.hid hb1
    clear hc1 hc2 hb1 hW0
    go_wp2_with fail
    refine hc2'.mono ?_
    rintro e w2 ⟨rfl, hb2⟩
    have hF := (HB.out.2.2.1.call HB1.out).call hb2
    obtain ⟨p0, p1, z0, z1⟩ := hF.cells2
    have hbel := belowt (belowt HB.out.1 HB.out.1.size HB1.out) (by have := HB.out.1.size; have := HB1.out.size; omega) hb2
    clear hc2' a0 a1 a2 a3 hb2
    go_wp2_with fail
    exact bodyPost_ret (v := .tuple #[.agg #[.string ⟨s1.toArray⟩, .string ⟨s2.toArray⟩], .bool true]) (by simp [results, Tryz.results111, go_sem, p0, p1]) rfl ⟨by rw [HO.out]; unfold frV; rw [HB.out.2.2.2.1, HB.out.2.2.2.2], (hbel.setCell (by simp) _).setCell (by simp) _⟩
  · rw [e1] at hc1
    simp only [e2] at hc2
    have HO : Hid (outB x = .tuple #[frNone, .bool false]) := Lib.hid (by unfold outB; rw [if_neg (fun h => hs2 h.2)])
    obtain ⟨s1, hs1'⟩ : ∃ s, s = wr x.num := ⟨_, rfl⟩
    obtain ⟨s2, hs2'⟩ : ∃ s, s = ([] : List UInt8) := ⟨_, rfl⟩
    simp only [← hs1'] at hc1
    have HB := Lib.hid (And.intro hbW (And.intro hE0 (And.intro hE1 (And.intro hs1' hs2'))))
    rw [hW0] at hc1
    clear h1 hv1 hv2 hx hbW hE0 hE1 hs1 hs2 e1 e2 hs1' hs2'
    go_enter Tryz.func111, Tryz.ntmps111
    go_wp2_with fail
    refine hc1.mono ?_
    rw [← hW0]
    rintro e w1 ⟨rfl, hb1⟩
    have hc2' := hc2 w1 hb1
    obtain ⟨a0, a1, a2, a3, -⟩ := (HB.out.2.1.call hb1).cells4
    have HB1 := Lib.hid hb1
    clear hc1 hc2 hb1 hW0
    go_wp2_with fail
    refine hc2'.mono ?_
    rintro e w2 ⟨rfl, hb2⟩
    have hF := (HB.out.2.2.1.call HB1.out).call hb2
    obtain ⟨p0, p1, z0, z1⟩ := hF.cells2
    have hbel := belowt (belowt HB.out.1 HB.out.1.size HB1.out) (by have := HB.out.1.size; have := HB1.out.size; omega) hb2
    clear hc2' a0 a1 a2 a3 hb2
    go_wp2_with fail
    exact bodyPost_ret (v := .tuple #[.agg #[.string ⟨#[]⟩, .string ⟨#[]⟩], .bool false]) (by simp [results, Tryz.results111, go_sem, p0, p1]) rfl ⟨by rw [HO.out]; rfl, (hbel.setCell (by simp) _).setCell (by simp) _⟩
  · rw [e1] at hc1
    simp only [e2] at hc2
    have HO : Hid (outB x = .tuple #[frNone, .bool false]) := Lib.hid (by unfold outB; rw [if_neg (fun h => hs1 h.1)])
    obtain ⟨s1, hs1'⟩ : ∃ s, s = ([] : List UInt8) := ⟨_, rfl⟩
    obtain ⟨s2, hs2'⟩ : ∃ s, s = wr (x.den : Int) := ⟨_, rfl⟩
    simp only [← hs2'] at hc2
    have HB := Lib.hid (And.intro hbW (And.intro hE0 (And.intro hE1 (And.intro hs1' hs2'))))
    rw [hW0] at hc1
    clear h1 hv1 hv2 hx hbW hE0 hE1 hs1 hs2 e1 e2 hs1' hs2'
    go_enter Tryz.func111, Tryz.ntmps111
    go_wp2_with fail
    refine hc1.mono ?_
    rw [← hW0]
    rintro e w1 ⟨rfl, hb1⟩
    have hc2' := hc2 w1 hb1
    obtain ⟨a0, a1, a2, a3, -⟩ := (HB.out.2.1.call hb1).cells4
    have HB1 := Lib.hid hb1
    clear hc1 hc2 hb1 hW0
    go_wp2_with fail
    refine hc2'.mono ?_
    rintro e w2 ⟨rfl, hb2⟩
    have hF := (HB.out.2.2.1.call HB1.out).call hb2
    obtain ⟨p0, p1, z0, z1⟩ := hF.cells2
    have hbel := belowt (belowt HB.out.1 HB.out.1.size HB1.out) (by have := HB.out.1.size; have := HB1.out.size; omega) hb2
    clear hc2' a0 a1 a2 a3 hb2
    go_wp2_with fail
    exact bodyPost_ret (v := .tuple #[.agg #[.string ⟨#[]⟩, .string ⟨#[]⟩], .bool false]) (by simp [results, Tryz.results111, go_sem, p0, p1]) rfl ⟨by rw [HO.out]; rfl, (hbel.setCell (by simp) _).setCell (by simp) _⟩
  · rw [e1] at hc1
    simp only [e2] at hc2
    have HO : Hid (outB x = .tuple #[frNone, .bool false]) := Lib.hid (by unfold outB; rw [if_neg (fun h => hs1 h.1)])
    obtain ⟨s1, hs1'⟩ : ∃ s, s = ([] : List UInt8) := ⟨_, rfl⟩
    obtain ⟨s2, hs2'⟩ : ∃ s, s = ([] : List UInt8) := ⟨_, rfl⟩
    have HB := Lib.hid (And.intro hbW (And.intro hE0 (And.intro hE1 (And.intro hs1' hs2'))))
    rw [hW0] at hc1
    clear h1 hv1 hv2 hx hbW hE0 hE1 hs1 hs2 e1 e2 hs1' hs2'
    go_enter Tryz.func111, Tryz.ntmps111
    go_wp2_with fail
    refine hc1.mono ?_
    rw [← hW0]
    rintro e w1 ⟨rfl, hb1⟩
    have hc2' := hc2 w1 hb1
    obtain ⟨a0, a1, a2, a3, -⟩ := (HB.out.2.1.call hb1).cells4
    have HB1 := Lib.hid hb1
    clear hc1 hc2 hb1 hW0
    go_wp2_with fail
    refine hc2'.mono ?_
    rintro e w2 ⟨rfl, hb2⟩
    have hF := (HB.out.2.2.1.call HB1.out).call hb2
    obtain ⟨p0, p1, z0, z1⟩ := hF.cells2
    have hbel := belowt (belowt HB.out.1 HB.out.1.size HB1.out) (by have := HB.out.1.size; have := HB1.out.size; omega) hb2
    clear hc2' a0 a1 a2 a3 hb2
    go_wp2_with fail
    exact bodyPost_ret (v := .tuple #[.agg #[.string ⟨#[]⟩, .string ⟨#[]⟩], .bool false]) (by simp [results, Tryz.results111, go_sem, p0, p1]) rfl ⟨by rw [HO.out]; rfl, (hbel.setCell (by simp) _).setCell (by simp) _⟩

set_option maxRecDepth 100000 in
set_option maxHeartbeats 2000000 in
theorem fwrite_any (v : Value) (x : Rat) (w : World) (h1 : RaV w v x) (hx : Fz x 1000000) :
    Calls Tryz.prog 57 #[v] w fun e w' => e = .returned (outF x) ∧ Below w.heap.size w w' := by
  obtain ⟨A1, n1, c1, k1, A2, n2, c2, k2, rfl, hv1, hv2⟩ := h1.open
  obtain ⟨W0, hW0⟩ : ∃ W0, W0 = (w.alloc (.cells #[.slice A1 n1 c1, .bool k1, .slice A2 n2 c2, .bool k2] 89)).alloc (.cells #[.string ⟨#[]⟩, .string ⟨#[]⟩] 24) := ⟨_, rfl⟩
  have hbW : Below w.heap.size w W0 := by rw [hW0]; exact ((Below.refl _ _).alloc (Nat.le_refl _) _).alloc (by simp) _
  have hE1 : Fr W0 (w.heap.size + 1) #[.string ⟨#[]⟩, .string ⟨#[]⟩] 24 := by rw [hW0]; exact Fr.new (by simp)
  have hc := rafrac_any _ x W0 (h1.below hbW) hx
  have hf0 := fr_built0
  have HB := Lib.hid (And.intro hbW hE1)
  rw [hW0] at hc
  by_cases hs : smallF x
  · have HO : Hid (outF x = .tuple #[frV x, .int .i64 0]) := Lib.hid (by unfold outF; rw [if_pos hs])
    rw [show outB x = .tuple #[frV x, .bool true] by unfold outB; rw [if_pos hs]] at hc
    unfold frV at hc
    obtain ⟨s1, hs1⟩ : ∃ s, s = wr x.num := ⟨_, rfl⟩
    obtain ⟨s2, hs2⟩ : ∃ s, s = wr (x.den : Int) := ⟨_, rfl⟩
    simp only [← hs1, ← hs2] at hc
    have HS := Lib.hid (And.intro hs1 hs2)
    clear h1 hv1 hv2 hx hbW hE1 hs hs1 hs2
    go_enter Tryz.func57, Tryz.ntmps57
    go_wp2_with fail
    refine hc.mono ?_
    rw [← hW0]
    rintro e w1 ⟨rfl, hb1⟩
    have hF := HB.out.2.call hb1
    obtain ⟨p0, p1, z0, z1⟩ := hF.cells2a
    have hbel := belowt HB.out.1 HB.out.1.size hb1
    have HB1 := Lib.hid hbel
    clear hc hb1 hW0 hF hbel
    go_wp2_with fail
    exact bodyPost_ret (v := .tuple #[.agg #[.string ⟨s1.toArray⟩, .string ⟨s2.toArray⟩], .int .i64 0]) (by simp [results, Tryz.results57, go_sem, p0, p1]) rfl ⟨by rw [HO.out]; unfold frV; rw [HS.out.1, HS.out.2], ((HB1.out.alloc HB1.out.size _).setCell (by simp) _).setCell (by simp) _⟩
  · have HO : Hid (outF x = .tuple #[frNone, .int .i64 6]) := Lib.hid (by unfold outF; rw [if_neg hs])
    rw [show outB x = .tuple #[frNone, .bool false] by unfold outB; rw [if_neg hs]] at hc
    unfold frNone at hc
    clear h1 hv1 hv2 hx hbW hE1 hs
    go_enter Tryz.func57, Tryz.ntmps57
    go_wp2_with fail
    refine hc.mono ?_
    rw [← hW0]
    rintro e w1 ⟨rfl, hb1⟩
    have hF := HB.out.2.call hb1
    obtain ⟨p0, p1, z0, z1⟩ := hF.cells2a
    have hbel := belowt HB.out.1 HB.out.1.size hb1
    have HB1 := Lib.hid hbel
    clear hc hb1 hW0 hF hbel
    go_wp2_with fail
    exact bodyPost_ret (v := .tuple #[.agg #[.string ⟨#[]⟩, .string ⟨#[]⟩], .int .i64 6]) (by simp [results, Tryz.results57, go_sem, p0, p1]) rfl ⟨by rw [HO.out]; rfl, ((HB1.out.alloc HB1.out.size _).setCell (by simp) _).setCell (by simp) _⟩

end Go.Proofs.YtfkdcgjphnoioaaGreatDoor
