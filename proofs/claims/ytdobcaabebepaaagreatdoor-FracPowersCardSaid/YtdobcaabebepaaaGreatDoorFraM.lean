/- Contracts: package frac: apply, Neg, Abs, Sign. -/
import Derived.Test.YtdobcaabebepaaaGreatDoorFraL
namespace Go.Proofs.YtdobcaabebepaaaGreatDoor
open Go.RowKit Vd
attribute [local go_sem ↓] Go.wp_at_zero Go.wp_at_succ

theorem Fz.abs {x : Rat} {K : Nat} (h : Fz x K) : Fz (mkRat (x.num.natAbs : Int) x.den) K := by
  have hm := mkRat_coprime (n := (x.num.natAbs : Int)) x.den_pos (by simpa using x.reduced)
  exact ⟨by rw [hm.1, Int.natAbs_natCast]; exact h.1, by rw [hm.2]; exact h.2⟩

set_option maxRecDepth 100000 in
set_option maxHeartbeats 1000000 in
theorem appNeg_some (a1 a2 : List UInt8) (x : Rat) (w : World) (ha : rdF a1 a2 = some x) :
    Calls Tryz.prog 61 #[.agg #[.string ⟨a1.toArray⟩, .string ⟨a2.toArray⟩], .func (.func 62) #[] #[]] w fun e w' => ∃ v, e = .returned (.tuple #[v, .int .i64 0]) ∧ RaV w' v (-x) ∧ Below w.heap.size w w' := by
  have hbW : Below w.heap.size w ((w.alloc (.cells #[.string ⟨a1.toArray⟩, .string ⟨a2.toArray⟩] 31)).alloc (.cells #[.slice none 0 0, .bool false, .slice none 0 0, .bool false] 89)) := ((Below.refl _ _).alloc (Nat.le_refl _) _).alloc (by simp) _
  have hE1 : BoxR ((w.alloc (.cells #[.string ⟨a1.toArray⟩, .string ⟨a2.toArray⟩] 31)).alloc (.cells #[.slice none 0 0, .bool false, .slice none 0 0, .bool false] 89)) (w.heap.size + 1) := Fr.boxR (Fr.new (by simp))
  have hc := fread_some a1 a2 x ((w.alloc (.cells #[.string ⟨a1.toArray⟩, .string ⟨a2.toArray⟩] 31)).alloc (.cells #[.slice none 0 0, .bool false, .slice none 0 0, .bool false] 89)) ha
  have HB := Lib.hid (And.intro hbW hE1)
  clear ha hbW hE1
  go_enter Tryz.func61, Tryz.ntmps61
  go_wp2_with fail
  refine hc.mono ?_
  rintro e w1 ⟨v, rfl, hv, hb1⟩
  obtain ⟨A1, n1, c1, k1, A2, n2, c2, k2, rfl, _, _⟩ := hv.open
  have hop := raneg_any _ x _ (hv.below (w' := w1.alloc (.cells #[.slice A1 n1 c1, .bool k1, .slice A2 n2 c2, .bool k2] 89)) ((Below.refl _ _).alloc (Nat.le_refl _) _))
  have HB1 := Lib.hid hb1
  clear hc hb1 hv
  go_wp2_with fail
  refine hop.mono ?_
  rintro e w2 ⟨r, rfl, hr, hb2⟩
  obtain ⟨A3, n3, c3, k3, A4, n4, c4, k4, rfl, g1, g2⟩ := hr.open
  have hB2 := (HB.out.2.call HB1.out).old.call hb2
  obtain ⟨⟨q0, y0⟩, ⟨q1, y1⟩, ⟨q2, y2⟩, ⟨q3, y3⟩, y4, y5, y6, y7⟩ := hB2.facts
  have hbel := belowt ((belowt HB.out.1 HB.out.1.size HB1.out).alloc (by have := HB.out.1.size; have := HB1.out.size; omega) (.cells #[.slice A1 n1 c1, .bool k1, .slice A2 n2 c2, .bool k2] 89)) (by have := HB.out.1.size; have := HB1.out.size; simp; omega) hb2
  have HZ := Lib.hid (And.intro hB2 (And.intro g1 (And.intro g2 hbel)))
  clear hop hb2 hr hB2 g1 g2 hbel
  go_wp2_with fail
  exact bodyPost_ret (v := .tuple #[.agg #[.slice A3 n3 c3, .bool k3, .slice A4 n4 c4, .bool k4], .int .i64 0]) (by simp [results, Tryz.results61, go_sem, y0, y1, y2, y3]) rfl ⟨_, rfl, RaV.fin HZ.out.1 HZ.out.2.1 HZ.out.2.2.1, below_set4 HZ.out.2.2.2 (by omega)⟩

set_option maxRecDepth 100000 in
set_option maxHeartbeats 1000000 in
theorem appNeg_none (a1 a2 : List UInt8) (w : World) (ha : rdF a1 a2 = none) :
    Calls Tryz.prog 61 #[.agg #[.string ⟨a1.toArray⟩, .string ⟨a2.toArray⟩], .func (.func 62) #[] #[]] w fun e w' => e = .returned (.tuple #[raNone, .int .i64 20]) ∧ Below w.heap.size w w' := by
  have hbW : Below w.heap.size w ((w.alloc (.cells #[.string ⟨a1.toArray⟩, .string ⟨a2.toArray⟩] 31)).alloc (.cells #[.slice none 0 0, .bool false, .slice none 0 0, .bool false] 89)) := ((Below.refl _ _).alloc (Nat.le_refl _) _).alloc (by simp) _
  have hE1 : Fr ((w.alloc (.cells #[.string ⟨a1.toArray⟩, .string ⟨a2.toArray⟩] 31)).alloc (.cells #[.slice none 0 0, .bool false, .slice none 0 0, .bool false] 89)) (w.heap.size + 1) #[.slice none 0 0, .bool false, .slice none 0 0, .bool false] 89 := Fr.new (by simp)
  have hc := fread_none a1 a2 ((w.alloc (.cells #[.string ⟨a1.toArray⟩, .string ⟨a2.toArray⟩] 31)).alloc (.cells #[.slice none 0 0, .bool false, .slice none 0 0, .bool false] 89)) ha
  unfold raNone at hc ⊢
  have HB := Lib.hid (And.intro hbW hE1)
  clear ha hbW hE1
  go_enter Tryz.func61, Tryz.ntmps61
  go_wp2_with fail
  refine hc.mono ?_
  rintro e w1 ⟨rfl, hb1⟩
  have hB2 := HB.out.2.call hb1
  obtain ⟨p0, p1, p2, p3, z0, z1, z2, z3⟩ := hB2.cells4a
  have hbel := (belowt HB.out.1 HB.out.1.size hb1).alloc (by have := HB.out.1.size; have := hb1.size; omega) (.cells #[.slice none 0 0, .bool false, .slice none 0 0, .bool false] 89)
  have HZ := Lib.hid hbel
  clear hc hb1 hB2 hbel
  go_wp2_with fail
  exact bodyPost_ret (v := .tuple #[.agg #[.slice none 0 0, .bool false, .slice none 0 0, .bool false], .int .i64 20]) (by simp [results, Tryz.results61, go_sem, p0, p1, p2, p3]) rfl ⟨rfl, below_set4 HZ.out (by omega)⟩

set_option maxRecDepth 100000 in
set_option maxHeartbeats 1000000 in
theorem appAbs_some (a1 a2 : List UInt8) (x : Rat) (w : World) (ha : rdF a1 a2 = some x) :
    Calls Tryz.prog 61 #[.agg #[.string ⟨a1.toArray⟩, .string ⟨a2.toArray⟩], .func (.func 63) #[] #[]] w fun e w' => ∃ v, e = .returned (.tuple #[v, .int .i64 0]) ∧ RaV w' v (mkRat (x.num.natAbs : Int) x.den) ∧ Below w.heap.size w w' := by
  have hbW : Below w.heap.size w ((w.alloc (.cells #[.string ⟨a1.toArray⟩, .string ⟨a2.toArray⟩] 31)).alloc (.cells #[.slice none 0 0, .bool false, .slice none 0 0, .bool false] 89)) := ((Below.refl _ _).alloc (Nat.le_refl _) _).alloc (by simp) _
  have hE1 : BoxR ((w.alloc (.cells #[.string ⟨a1.toArray⟩, .string ⟨a2.toArray⟩] 31)).alloc (.cells #[.slice none 0 0, .bool false, .slice none 0 0, .bool false] 89)) (w.heap.size + 1) := Fr.boxR (Fr.new (by simp))
  have hc := fread_some a1 a2 x ((w.alloc (.cells #[.string ⟨a1.toArray⟩, .string ⟨a2.toArray⟩] 31)).alloc (.cells #[.slice none 0 0, .bool false, .slice none 0 0, .bool false] 89)) ha
  have HB := Lib.hid (And.intro hbW hE1)
  clear ha hbW hE1
  go_enter Tryz.func61, Tryz.ntmps61
  go_wp2_with fail
  refine hc.mono ?_
  rintro e w1 ⟨v, rfl, hv, hb1⟩
  obtain ⟨A1, n1, c1, k1, A2, n2, c2, k2, rfl, _, _⟩ := hv.open
  have hop := raabs_any _ x _ (hv.below (w' := w1.alloc (.cells #[.slice A1 n1 c1, .bool k1, .slice A2 n2 c2, .bool k2] 89)) ((Below.refl _ _).alloc (Nat.le_refl _) _))
  have HB1 := Lib.hid hb1
  clear hc hb1 hv
  go_wp2_with fail
  refine hop.mono ?_
  rintro e w2 ⟨r, rfl, hr, hb2⟩
  obtain ⟨A3, n3, c3, k3, A4, n4, c4, k4, rfl, g1, g2⟩ := hr.open
  have hB2 := (HB.out.2.call HB1.out).old.call hb2
  obtain ⟨⟨q0, y0⟩, ⟨q1, y1⟩, ⟨q2, y2⟩, ⟨q3, y3⟩, y4, y5, y6, y7⟩ := hB2.facts
  have hbel := belowt ((belowt HB.out.1 HB.out.1.size HB1.out).alloc (by have := HB.out.1.size; have := HB1.out.size; omega) (.cells #[.slice A1 n1 c1, .bool k1, .slice A2 n2 c2, .bool k2] 89)) (by have := HB.out.1.size; have := HB1.out.size; simp; omega) hb2
  have HZ := Lib.hid (And.intro hB2 (And.intro g1 (And.intro g2 hbel)))
  clear hop hb2 hr hB2 g1 g2 hbel
  go_wp2_with fail
  exact bodyPost_ret (v := .tuple #[.agg #[.slice A3 n3 c3, .bool k3, .slice A4 n4 c4, .bool k4], .int .i64 0]) (by simp [results, Tryz.results61, go_sem, y0, y1, y2, y3]) rfl ⟨_, rfl, RaV.fin HZ.out.1 HZ.out.2.1 HZ.out.2.2.1, below_set4 HZ.out.2.2.2 (by omega)⟩

set_option maxRecDepth 100000 in
set_option maxHeartbeats 1000000 in
theorem appAbs_none (a1 a2 : List UInt8) (w : World) (ha : rdF a1 a2 = none) :
    Calls Tryz.prog 61 #[.agg #[.string ⟨a1.toArray⟩, .string ⟨a2.toArray⟩], .func (.func 63) #[] #[]] w fun e w' => e = .returned (.tuple #[raNone, .int .i64 20]) ∧ Below w.heap.size w w' := by
  have hbW : Below w.heap.size w ((w.alloc (.cells #[.string ⟨a1.toArray⟩, .string ⟨a2.toArray⟩] 31)).alloc (.cells #[.slice none 0 0, .bool false, .slice none 0 0, .bool false] 89)) := ((Below.refl _ _).alloc (Nat.le_refl _) _).alloc (by simp) _
  have hE1 : Fr ((w.alloc (.cells #[.string ⟨a1.toArray⟩, .string ⟨a2.toArray⟩] 31)).alloc (.cells #[.slice none 0 0, .bool false, .slice none 0 0, .bool false] 89)) (w.heap.size + 1) #[.slice none 0 0, .bool false, .slice none 0 0, .bool false] 89 := Fr.new (by simp)
  have hc := fread_none a1 a2 ((w.alloc (.cells #[.string ⟨a1.toArray⟩, .string ⟨a2.toArray⟩] 31)).alloc (.cells #[.slice none 0 0, .bool false, .slice none 0 0, .bool false] 89)) ha
  unfold raNone at hc ⊢
  have HB := Lib.hid (And.intro hbW hE1)
  clear ha hbW hE1
  go_enter Tryz.func61, Tryz.ntmps61
  go_wp2_with fail
  refine hc.mono ?_
  rintro e w1 ⟨rfl, hb1⟩
  have hB2 := HB.out.2.call hb1
  obtain ⟨p0, p1, p2, p3, z0, z1, z2, z3⟩ := hB2.cells4a
  have hbel := (belowt HB.out.1 HB.out.1.size hb1).alloc (by have := HB.out.1.size; have := hb1.size; omega) (.cells #[.slice none 0 0, .bool false, .slice none 0 0, .bool false] 89)
  have HZ := Lib.hid hbel
  clear hc hb1 hB2 hbel
  go_wp2_with fail
  exact bodyPost_ret (v := .tuple #[.agg #[.slice none 0 0, .bool false, .slice none 0 0, .bool false], .int .i64 20]) (by simp [results, Tryz.results61, go_sem, p0, p1, p2, p3]) rfl ⟨rfl, below_set4 HZ.out (by omega)⟩

set_option maxRecDepth 100000 in
set_option maxHeartbeats 1000000 in
theorem fneg_some (a1 a2 : List UInt8) (x : Rat) (w : World) (ha : rdF a1 a2 = some x) :
    Calls Tryz.prog 22 #[.agg #[.string ⟨a1.toArray⟩, .string ⟨a2.toArray⟩]] w fun e w' => e = .returned (outF (-x)) ∧ Below w.heap.size w w' := by
  have hbW : Below w.heap.size w ((w.alloc (.cells #[.string ⟨a1.toArray⟩, .string ⟨a2.toArray⟩] 31)).alloc (.cells #[.string ⟨#[]⟩, .string ⟨#[]⟩] 31)) := ((Below.refl _ _).alloc (Nat.le_refl _) _).alloc (by simp) _
  have hE1 : Fr ((w.alloc (.cells #[.string ⟨a1.toArray⟩, .string ⟨a2.toArray⟩] 31)).alloc (.cells #[.string ⟨#[]⟩, .string ⟨#[]⟩] 31)) (w.heap.size + 1) #[.string ⟨#[]⟩, .string ⟨#[]⟩] 31 := Fr.new (by simp)
  have hc := appNeg_some a1 a2 x ((w.alloc (.cells #[.string ⟨a1.toArray⟩, .string ⟨a2.toArray⟩] 31)).alloc (.cells #[.string ⟨#[]⟩, .string ⟨#[]⟩] 31)) ha
  have HF := Lib.hid ((rdF_fz ha).neg.mono (show 32 ≤ 1000000 by omega))
  obtain ⟨s, t, k, hsk⟩ := outF_open (-x)
  have HS := Lib.hid hsk
  rw [hsk]
  have HB := Lib.hid (And.intro hbW hE1)
  clear ha hbW hE1 hsk
  go_enter Tryz.func22, Tryz.ntmps22
  go_wp2_with fail
  refine hc.mono ?_
  rintro e w1 ⟨v, rfl, hv, hb1⟩
  have hfi := finish_some v _ w1 hv HF.out
  rw [HS.out] at hfi
  obtain ⟨A1, n1, c1, k1, A2, n2, c2, k2, rfl, _, _⟩ := hv.open
  have HB1 := Lib.hid hb1
  clear hc hb1 hv
  go_wp2_with fail
  refine hfi.mono ?_
  rintro e w2 ⟨rfl, hb2⟩
  obtain ⟨p0, p1, z0, z1⟩ := ((HB.out.2.call HB1.out).call hb2).cells2
  have hbel := belowt (belowt HB.out.1 HB.out.1.size HB1.out) (by have := HB.out.1.size; have := HB1.out.size; omega) hb2
  clear hfi hb2
  go_wp2_with fail
  exact bodyPost_ret (v := .tuple #[.agg #[.string s, .string t], .int .i64 k]) (by simp [results, Tryz.results22, go_sem, p0, p1]) rfl ⟨rfl, (hbel.setCell (by simp) _).setCell (by simp) _⟩

set_option maxRecDepth 100000 in
set_option maxHeartbeats 1000000 in
theorem fneg_none (a1 a2 : List UInt8) (w : World) (h : rdF a1 a2 = none) :
    Calls Tryz.prog 22 #[.agg #[.string ⟨a1.toArray⟩, .string ⟨a2.toArray⟩]] w fun e w' => e = .returned (noF 20) ∧ Below w.heap.size w w' := by
  have hbW : Below w.heap.size w ((w.alloc (.cells #[.string ⟨a1.toArray⟩, .string ⟨a2.toArray⟩] 31)).alloc (.cells #[.string ⟨#[]⟩, .string ⟨#[]⟩] 31)) := ((Below.refl _ _).alloc (Nat.le_refl _) _).alloc (by simp) _
  have hE1 : Fr ((w.alloc (.cells #[.string ⟨a1.toArray⟩, .string ⟨a2.toArray⟩] 31)).alloc (.cells #[.string ⟨#[]⟩, .string ⟨#[]⟩] 31)) (w.heap.size + 1) #[.string ⟨#[]⟩, .string ⟨#[]⟩] 31 := Fr.new (by simp)
  have hc := appNeg_none a1 a2 ((w.alloc (.cells #[.string ⟨a1.toArray⟩, .string ⟨a2.toArray⟩] 31)).alloc (.cells #[.string ⟨#[]⟩, .string ⟨#[]⟩] 31)) h
  have HB := Lib.hid (And.intro hbW hE1)
  clear h hbW hE1
  go_enter Tryz.func22, Tryz.ntmps22
  go_wp2_with fail
  refine hc.mono ?_
  rintro e w1 ⟨rfl, hb1⟩
  have hfi := finish_none w1
  unfold raNone at hfi ⊢
  have HB1 := Lib.hid hb1
  clear hc hb1
  go_wp2_with fail
  refine hfi.mono ?_
  rintro e w2 ⟨rfl, hb2⟩
  obtain ⟨p0, p1, z0, z1⟩ := ((HB.out.2.call HB1.out).call hb2).cells2
  have hbel := belowt (belowt HB.out.1 HB.out.1.size HB1.out) (by have := HB.out.1.size; have := HB1.out.size; omega) hb2
  clear hfi hb2
  go_wp2_with fail
  exact bodyPost_ret (v := noF 20) (by simp [results, Tryz.results22, go_sem, p0, p1]) rfl ⟨rfl, (hbel.setCell (by simp) _).setCell (by simp) _⟩

set_option maxRecDepth 100000 in
set_option maxHeartbeats 1000000 in
theorem fabs_some (a1 a2 : List UInt8) (x : Rat) (w : World) (ha : rdF a1 a2 = some x) :
    Calls Tryz.prog 23 #[.agg #[.string ⟨a1.toArray⟩, .string ⟨a2.toArray⟩]] w fun e w' => e = .returned (outF (mkRat (x.num.natAbs : Int) x.den)) ∧ Below w.heap.size w w' := by
  have hbW : Below w.heap.size w ((w.alloc (.cells #[.string ⟨a1.toArray⟩, .string ⟨a2.toArray⟩] 31)).alloc (.cells #[.string ⟨#[]⟩, .string ⟨#[]⟩] 31)) := ((Below.refl _ _).alloc (Nat.le_refl _) _).alloc (by simp) _
  have hE1 : Fr ((w.alloc (.cells #[.string ⟨a1.toArray⟩, .string ⟨a2.toArray⟩] 31)).alloc (.cells #[.string ⟨#[]⟩, .string ⟨#[]⟩] 31)) (w.heap.size + 1) #[.string ⟨#[]⟩, .string ⟨#[]⟩] 31 := Fr.new (by simp)
  have hc := appAbs_some a1 a2 x ((w.alloc (.cells #[.string ⟨a1.toArray⟩, .string ⟨a2.toArray⟩] 31)).alloc (.cells #[.string ⟨#[]⟩, .string ⟨#[]⟩] 31)) ha
  have HF := Lib.hid ((rdF_fz ha).abs.mono (show 32 ≤ 1000000 by omega))
  obtain ⟨s, t, k, hsk⟩ := outF_open (mkRat (x.num.natAbs : Int) x.den)
  have HS := Lib.hid hsk
  rw [hsk]
  have HB := Lib.hid (And.intro hbW hE1)
  clear ha hbW hE1 hsk
  go_enter Tryz.func23, Tryz.ntmps23
  go_wp2_with fail
  refine hc.mono ?_
  rintro e w1 ⟨v, rfl, hv, hb1⟩
  have hfi := finish_some v _ w1 hv HF.out
  rw [HS.out] at hfi
  obtain ⟨A1, n1, c1, k1, A2, n2, c2, k2, rfl, _, _⟩ := hv.open
  have HB1 := Lib.hid hb1
  clear hc hb1 hv
  go_wp2_with fail
  refine hfi.mono ?_
  rintro e w2 ⟨rfl, hb2⟩
  obtain ⟨p0, p1, z0, z1⟩ := ((HB.out.2.call HB1.out).call hb2).cells2
  have hbel := belowt (belowt HB.out.1 HB.out.1.size HB1.out) (by have := HB.out.1.size; have := HB1.out.size; omega) hb2
  clear hfi hb2
  go_wp2_with fail
  exact bodyPost_ret (v := .tuple #[.agg #[.string s, .string t], .int .i64 k]) (by simp [results, Tryz.results23, go_sem, p0, p1]) rfl ⟨rfl, (hbel.setCell (by simp) _).setCell (by simp) _⟩

set_option maxRecDepth 100000 in
set_option maxHeartbeats 1000000 in
theorem fabs_none (a1 a2 : List UInt8) (w : World) (h : rdF a1 a2 = none) :
    Calls Tryz.prog 23 #[.agg #[.string ⟨a1.toArray⟩, .string ⟨a2.toArray⟩]] w fun e w' => e = .returned (noF 20) ∧ Below w.heap.size w w' := by
  have hbW : Below w.heap.size w ((w.alloc (.cells #[.string ⟨a1.toArray⟩, .string ⟨a2.toArray⟩] 31)).alloc (.cells #[.string ⟨#[]⟩, .string ⟨#[]⟩] 31)) := ((Below.refl _ _).alloc (Nat.le_refl _) _).alloc (by simp) _
  have hE1 : Fr ((w.alloc (.cells #[.string ⟨a1.toArray⟩, .string ⟨a2.toArray⟩] 31)).alloc (.cells #[.string ⟨#[]⟩, .string ⟨#[]⟩] 31)) (w.heap.size + 1) #[.string ⟨#[]⟩, .string ⟨#[]⟩] 31 := Fr.new (by simp)
  have hc := appAbs_none a1 a2 ((w.alloc (.cells #[.string ⟨a1.toArray⟩, .string ⟨a2.toArray⟩] 31)).alloc (.cells #[.string ⟨#[]⟩, .string ⟨#[]⟩] 31)) h
  have HB := Lib.hid (And.intro hbW hE1)
  clear h hbW hE1
  go_enter Tryz.func23, Tryz.ntmps23
  go_wp2_with fail
  refine hc.mono ?_
  rintro e w1 ⟨rfl, hb1⟩
  have hfi := finish_none w1
  unfold raNone at hfi ⊢
  have HB1 := Lib.hid hb1
  clear hc hb1
  go_wp2_with fail
  refine hfi.mono ?_
  rintro e w2 ⟨rfl, hb2⟩
  obtain ⟨p0, p1, z0, z1⟩ := ((HB.out.2.call HB1.out).call hb2).cells2
  have hbel := belowt (belowt HB.out.1 HB.out.1.size HB1.out) (by have := HB.out.1.size; have := HB1.out.size; omega) hb2
  clear hfi hb2
  go_wp2_with fail
  exact bodyPost_ret (v := noF 20) (by simp [results, Tryz.results23, go_sem, p0, p1]) rfl ⟨rfl, (hbel.setCell (by simp) _).setCell (by simp) _⟩

theorem meth_sign (n : Nat) (A1 : Option Addr) (n1 c1 : Nat) (k1 : Bool) (A2 : Option Addr) (n2 c2 : Nat) (k2 : Bool) (W : World) : Sem.run Tryz.prog (method (n + 4) 89 (.agg #[.slice A1 n1 c1, .bool k1, .slice A2 n2 c2, .bool k2]) "Sign") W = .ok (60, .agg #[.slice A1 n1 c1, .bool k1]) W := by kernel_rfl
set_option maxRecDepth 100000 in
set_option maxHeartbeats 1000000 in
theorem appSign_some (a1 a2 : List UInt8) (x : Rat) (w : World) (ha : rdF a1 a2 = some x) :
    Calls Tryz.prog 59 #[.agg #[.string ⟨a1.toArray⟩, .string ⟨a2.toArray⟩], .func (.methodOf 89 "Sign") #[] #[]] w fun e w' => e = .returned (.tuple #[.int .i64 (signZ x.num), .int .i64 0]) ∧ Below w.heap.size w w' := by
  have hbW : Below w.heap.size w (w.alloc (.cells #[.string ⟨a1.toArray⟩, .string ⟨a2.toArray⟩] 31)) := (Below.refl _ _).alloc (Nat.le_refl _) _
  have hc := fread_some a1 a2 x (w.alloc (.cells #[.string ⟨a1.toArray⟩, .string ⟨a2.toArray⟩] 31)) ha
  obtain ⟨s, hs⟩ : ∃ s, s = signZ x.num := ⟨_, rfl⟩
  rw [← hs]
  have HS := Lib.hid hs
  clear hs
  have HB := Lib.hid hbW
  clear ha hbW
  go_enter Tryz.func59, Tryz.ntmps59
  go_wp2_with fail
  refine hc.mono ?_
  rintro e w1 ⟨v, rfl, hv, hb1⟩
  obtain ⟨A1, n1, c1, k1, A2, n2, c2, k2, rfl, g1, g2⟩ := hv.open
  have hop := sign_any _ _ _ (g1.below (w' := w1.alloc (.cells #[.slice A1 n1 c1, .bool k1, .slice A2 n2 c2, .bool k2] 89)) ((Below.refl _ _).alloc (Nat.le_refl _) _))
  have hm := meth_sign 404
  rw [← HS.out] at hop
  have HB1 := Lib.hid hb1
  clear hc hb1 hv g1 g2
  go_wp2_with fail
  refine hop.mono ?_
  rintro e w2 ⟨rfl, hb2⟩
  have hbel := belowt ((belowt HB.out HB.out.size HB1.out).alloc (by have := HB.out.size; have := HB1.out.size; omega) (.cells #[.slice A1 n1 c1, .bool k1, .slice A2 n2 c2, .bool k2] 89)) (by have := HB.out.size; have := HB1.out.size; simp; omega) hb2
  clear hop hb2
  go_wp2_with fail
  go_ret2
  exact ⟨rfl, hbel⟩

end Go.Proofs.YtdobcaabebepaaaGreatDoor
