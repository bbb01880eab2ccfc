/- Contracts: package frac: Sign, Floor, Pow. -/
import Derived.Test.YtdobcaabebepaaaGreatDoorFraM
namespace Go.Proofs.YtdobcaabebepaaaGreatDoor
open Go.RowKit Vd
attribute [local go_sem ↓] Go.wp_at_zero Go.wp_at_succ

theorem mkfM (t : TypeId) (s : String) (w : World) : (Instr.makeFunc (.methodOf t s) #[] #[]).run Tryz.prog w = .ok (.func (.methodOf t s) #[] #[]) w := rfl

set_option maxRecDepth 100000 in
set_option maxHeartbeats 1000000 in
theorem appSign_none (a1 a2 : List UInt8) (w : World) (ha : rdF a1 a2 = none) :
    Calls Tryz.prog 59 #[.agg #[.string ⟨a1.toArray⟩, .string ⟨a2.toArray⟩], .func (.methodOf 89 "Sign") #[] #[]] w fun e w' => e = .returned (.tuple #[.int .i64 0, .int .i64 20]) ∧ Below w.heap.size w w' := by
  have hbW : Below w.heap.size w (w.alloc (.cells #[.string ⟨a1.toArray⟩, .string ⟨a2.toArray⟩] 31)) := (Below.refl _ _).alloc (Nat.le_refl _) _
  have hc := fread_none a1 a2 (w.alloc (.cells #[.string ⟨a1.toArray⟩, .string ⟨a2.toArray⟩] 31)) ha
  unfold raNone at hc
  have HB := Lib.hid hbW
  clear ha hbW
  go_enter Tryz.func59, Tryz.ntmps59
  go_wp2_with fail
  refine hc.mono ?_
  rintro e w1 ⟨rfl, hb1⟩
  have hbel := belowt HB.out HB.out.size hb1
  have HZ := Lib.hid (hbel.alloc hbel.size (.cells #[.slice none 0 0, .bool false, .slice none 0 0, .bool false] 89))
  clear hc hb1 hbel
  go_wp2_with fail
  go_ret2
  exact ⟨rfl, HZ.out⟩

set_option maxRecDepth 100000 in
set_option maxHeartbeats 1000000 in
theorem fsign_some (a1 a2 : List UInt8) (x : Rat) (w : World) (ha : rdF a1 a2 = some x) :
    Calls Tryz.prog 19 #[.agg #[.string ⟨a1.toArray⟩, .string ⟨a2.toArray⟩]] w fun e w' => e = .returned (.tuple #[.int .i64 (signZ x.num), .int .i64 0]) ∧ Below w.heap.size w w' := by
  have hbW : Below w.heap.size w (w.alloc (.cells #[.string ⟨a1.toArray⟩, .string ⟨a2.toArray⟩] 31)) := (Below.refl _ _).alloc (Nat.le_refl _) _
  have hc := appSign_some a1 a2 x (w.alloc (.cells #[.string ⟨a1.toArray⟩, .string ⟨a2.toArray⟩] 31)) ha
  have hmf := mkfM
  obtain ⟨s, hs⟩ : ∃ s, s = signZ x.num := ⟨_, rfl⟩
  rw [← hs] at hc ⊢
  clear hs
  have HB := Lib.hid hbW
  clear ha hbW
  go_enter Tryz.func19, Tryz.ntmps19
  go_wp2_with fail
  refine hc.mono ?_
  rintro e w1 ⟨rfl, hb1⟩
  have hbel := Lib.hid (belowt HB.out HB.out.size hb1)
  clear hc hb1
  go_wp2_with fail
  go_ret2
  exact ⟨rfl, hbel.out⟩

set_option maxRecDepth 100000 in
set_option maxHeartbeats 1000000 in
theorem fsign_none (a1 a2 : List UInt8) (w : World) (ha : rdF a1 a2 = none) :
    Calls Tryz.prog 19 #[.agg #[.string ⟨a1.toArray⟩, .string ⟨a2.toArray⟩]] w fun e w' => e = .returned (.tuple #[.int .i64 0, .int .i64 20]) ∧ Below w.heap.size w w' := by
  have hbW : Below w.heap.size w (w.alloc (.cells #[.string ⟨a1.toArray⟩, .string ⟨a2.toArray⟩] 31)) := (Below.refl _ _).alloc (Nat.le_refl _) _
  have hc := appSign_none a1 a2 (w.alloc (.cells #[.string ⟨a1.toArray⟩, .string ⟨a2.toArray⟩] 31)) ha
  have hmf := mkfM
  have HB := Lib.hid hbW
  clear ha hbW
  go_enter Tryz.func19, Tryz.ntmps19
  go_wp2_with fail
  refine hc.mono ?_
  rintro e w1 ⟨rfl, hb1⟩
  have hbel := Lib.hid (belowt HB.out HB.out.size hb1)
  clear hc hb1
  go_wp2_with fail
  go_ret2
  exact ⟨rfl, hbel.out⟩

set_option maxRecDepth 100000 in
set_option maxHeartbeats 1000000 in
theorem rafloor_any (v1 : Value) (x : Rat) (K : Nat) (w : World) (h1 : RaV w v1 x) (hx : Fz x K) (hK : K + 2 ≤ maxW) :
    Calls Tryz.prog 65 #[v1] w fun e w' => ∃ (A : Option Addr) (n c : Nat) (k : Bool), e = .returned (.agg #[.slice A n c, .bool k]) ∧ SgV w' (.agg #[.slice A n c, .bool k]) (x.num / (x.den : Int)) ∧ Below w.heap.size w w' := by
  obtain ⟨A1, n1, c1, k1, A2, n2, c2, k2, rfl, hv1, hv2⟩ := h1.open
  have hbW : Below w.heap.size w ((w.alloc (.cells #[.slice A1 n1 c1, .bool k1, .slice A2 n2 c2, .bool k2] 89)).alloc (.cells #[.slice none 0 0, .bool false] 87)) := ((Below.refl _ _).alloc (Nat.le_refl _) _).alloc (by simp) _
  have hE1 : BoxT ((w.alloc (.cells #[.slice A1 n1 c1, .bool k1, .slice A2 n2 c2, .bool k2] 89)).alloc (.cells #[.slice none 0 0, .bool false] 87)) (w.heap.size + 1) := (Fr.new (by simp)).boxT
  have ho := over_any _ _ x.num (x.den : Int) ((w.alloc (.cells #[.slice A1 n1 c1, .bool k1, .slice A2 n2 c2, .bool k2] 89)).alloc (.cells #[.slice none 0 0, .bool false] 87)) (hv1.below hbW) (hv2.below hbW) (Nat.le_trans (Nat.add_le_add_right hx.1 2) hK) (Nat.le_trans (Nat.add_le_add_right (fz_den hx) 2) hK) (by have := x.den_pos; omega)
  have HB := Lib.hid (And.intro hbW hE1)
  clear h1 hv1 hv2 hx hK hbW hE1
  go_enter Tryz.func65, Tryz.ntmps65
  go_wp2_with fail
  refine ho.mono ?_
  rintro e w1 ⟨x1, x2, rfl, hq, hr, hb⟩
  obtain ⟨A, n, c, k, rfl⟩ := hq.open
  obtain ⟨A', n', c', k', rfl⟩ := hr.open
  have hB1 := HB.out.2.call hb
  have hB1' := hB1
  obtain ⟨_, _, _, _, hF1⟩ := hB1'
  obtain ⟨c0, c1, z0, z1⟩ := hF1.cells2b
  have HV := Lib.hid (And.intro hq (And.intro hb hB1))
  clear hq hr hb ho hB1 hF1
  go_wp2_with fail
  obtain ⟨hq, hb, hB1⟩ := HV.out
  have hb1 := HB.out.1.trans (hb.mono HB.out.1.size)
  exact bodyPost_ret (v := .agg #[.slice A n c, .bool k]) (by simp [results, Tryz.results65, go_sem, c0, c1]) rfl ⟨A, n, c, k, rfl, hB1.old.old.sg _ _ _ _ hq.old.old, (((hb1.alloc hb1.size _).alloc (by simp; have := hb1.size; omega) _).setCell (by simp) _).setCell (by simp) _⟩

set_option maxRecDepth 100000 in
set_option maxHeartbeats 1000000 in
theorem appFloor_some (a1 a2 : List UInt8) (x : Rat) (w : World) (ha : rdF a1 a2 = some x) :
    Calls Tryz.prog 64 #[.agg #[.string ⟨a1.toArray⟩, .string ⟨a2.toArray⟩], .func (.func 65) #[] #[]] w fun e w' => ∃ (A : Option Addr) (n c : Nat) (k : Bool), e = .returned (.tuple #[.agg #[.slice A n c, .bool k], .int .i64 0]) ∧ SgV w' (.agg #[.slice A n c, .bool k]) (x.num / (x.den : Int)) ∧ Below w.heap.size w w' := by
  have hbW : Below w.heap.size w ((w.alloc (.cells #[.string ⟨a1.toArray⟩, .string ⟨a2.toArray⟩] 31)).alloc (.cells #[.slice none 0 0, .bool false] 87)) := ((Below.refl _ _).alloc (Nat.le_refl _) _).alloc (by simp) _
  have hE1 : BoxT ((w.alloc (.cells #[.string ⟨a1.toArray⟩, .string ⟨a2.toArray⟩] 31)).alloc (.cells #[.slice none 0 0, .bool false] 87)) (w.heap.size + 1) := (Fr.new (by simp)).boxT
  have hc := fread_some a1 a2 x ((w.alloc (.cells #[.string ⟨a1.toArray⟩, .string ⟨a2.toArray⟩] 31)).alloc (.cells #[.slice none 0 0, .bool false] 87)) ha
  have HB := Lib.hid (And.intro hbW (And.intro hE1 (rdF_fz ha)))
  clear ha hbW hE1
  go_enter Tryz.func64, Tryz.ntmps64
  go_wp2_with fail
  refine hc.mono ?_
  rintro e w1 ⟨v, rfl, hv, hb1⟩
  obtain ⟨A1, n1, c1, k1, A2, n2, c2, k2, rfl, _, _⟩ := hv.open
  have hop := rafloor_any _ x 32 _ (hv.below (w' := w1.alloc (.cells #[.slice A1 n1 c1, .bool k1, .slice A2 n2 c2, .bool k2] 89)) ((Below.refl _ _).alloc (Nat.le_refl _) _)) HB.out.2.2 (by unfold maxW; omega)
  have HB1 := Lib.hid hb1
  clear hc hb1 hv
  go_wp2_with fail
  refine hop.mono ?_
  rintro e w2 ⟨A3, n3, c3, k3, rfl, hr, hb2⟩
  have hB2 := (HB.out.2.1.call HB1.out).old.call hb2
  obtain ⟨⟨q0, y0⟩, ⟨q1, y1⟩, y2, y3⟩ := hB2.facts
  have hbel := belowt ((belowt HB.out.1 HB.out.1.size HB1.out).alloc (by have := HB.out.1.size; have := HB1.out.size; omega) (.cells #[.slice A1 n1 c1, .bool k1, .slice A2 n2 c2, .bool k2] 89)) (by have := HB.out.1.size; have := HB1.out.size; simp; omega) hb2
  have HZ := Lib.hid (And.intro hB2 (And.intro hr hbel))
  clear hop hb2 hr hB2 hbel
  go_wp2_with fail
  exact bodyPost_ret (v := .tuple #[.agg #[.slice A3 n3 c3, .bool k3], .int .i64 0]) (by simp [results, Tryz.results64, go_sem, y0, y1]) rfl ⟨_, _, _, _, rfl, HZ.out.1.sg _ _ _ _ HZ.out.2.1, below_set2 HZ.out.2.2 (by omega)⟩

set_option maxRecDepth 100000 in
set_option maxHeartbeats 1000000 in
theorem appFloor_none (a1 a2 : List UInt8) (w : World) (ha : rdF a1 a2 = none) :
    Calls Tryz.prog 64 #[.agg #[.string ⟨a1.toArray⟩, .string ⟨a2.toArray⟩], .func (.func 65) #[] #[]] w fun e w' => e = .returned (.tuple #[.agg #[.slice none 0 0, .bool false], .int .i64 20]) ∧ Below w.heap.size w w' := by
  have hbW : Below w.heap.size w ((w.alloc (.cells #[.string ⟨a1.toArray⟩, .string ⟨a2.toArray⟩] 31)).alloc (.cells #[.slice none 0 0, .bool false] 87)) := ((Below.refl _ _).alloc (Nat.le_refl _) _).alloc (by simp) _
  have hE1 : Fr ((w.alloc (.cells #[.string ⟨a1.toArray⟩, .string ⟨a2.toArray⟩] 31)).alloc (.cells #[.slice none 0 0, .bool false] 87)) (w.heap.size + 1) #[.slice none 0 0, .bool false] 87 := Fr.new (by simp)
  have hc := fread_none a1 a2 ((w.alloc (.cells #[.string ⟨a1.toArray⟩, .string ⟨a2.toArray⟩] 31)).alloc (.cells #[.slice none 0 0, .bool false] 87)) ha
  unfold raNone at hc
  have HB := Lib.hid (And.intro hbW hE1)
  clear ha hbW hE1
  go_enter Tryz.func64, Tryz.ntmps64
  go_wp2_with fail
  refine hc.mono ?_
  rintro e w1 ⟨rfl, hb1⟩
  have hB2 := HB.out.2.call hb1
  obtain ⟨p0, p1, z0, z1⟩ := hB2.cells2a
  have hbel := (belowt HB.out.1 HB.out.1.size hb1).alloc (by have := HB.out.1.size; have := hb1.size; omega) (.cells #[.slice none 0 0, .bool false, .slice none 0 0, .bool false] 89)
  have HZ := Lib.hid hbel
  clear hc hb1 hB2 hbel
  go_wp2_with fail
  exact bodyPost_ret (v := .tuple #[.agg #[.slice none 0 0, .bool false], .int .i64 20]) (by simp [results, Tryz.results64, go_sem, p0, p1]) rfl ⟨rfl, below_set2 HZ.out (by omega)⟩

set_option maxRecDepth 100000 in
set_option maxHeartbeats 1000000 in
theorem ffloor_some (a1 a2 : List UInt8) (x : Rat) (w : World) (ha : rdF a1 a2 = some x) :
    Calls Tryz.prog 26 #[.agg #[.string ⟨a1.toArray⟩, .string ⟨a2.toArray⟩]] w fun e w' => e = .returned (outV x.floor) ∧ Below w.heap.size w w' := by
  have hbW : Below w.heap.size w (w.alloc (.cells #[.string ⟨a1.toArray⟩, .string ⟨a2.toArray⟩] 31)) := (Below.refl _ _).alloc (Nat.le_refl _) _
  have hc := appFloor_some a1 a2 x (w.alloc (.cells #[.string ⟨a1.toArray⟩, .string ⟨a2.toArray⟩] 31)) ha
  have hle : wlen B64 (x.num / (x.den : Int)).natAbs ≤ 1000000 := by
    have h1 := (rd_some (rdF_some ha).1).2
    exact Nat.le_trans (small_wlen (div_small h1 (by have := x.den_pos; omega))) (by omega)
  obtain ⟨s, k, hsk⟩ := outV_open (x.num / (x.den : Int))
  rw [Rat.floor_def, hsk]
  have HB := Lib.hid (And.intro hbW (And.intro hle hsk))
  clear ha hbW hle hsk
  go_enter Tryz.func26, Tryz.ntmps26
  go_wp2_with fail
  refine hc.mono ?_
  rintro e w1 ⟨A1, n1, c1, k1, rfl, hv, hb1⟩
  have hw := fwriteW_any _ _ _ (hv.below (w' := w1.alloc (.cells #[.slice A1 n1 c1, .bool k1] 87)) ((Below.refl _ _).alloc (Nat.le_refl _) _)) HB.out.2.1
  rw [HB.out.2.2] at hw
  have HB1 := Lib.hid hb1
  clear hc hb1 hv
  go_wp2_with fail
  refine hw.mono ?_
  rintro e w2 ⟨rfl, hb2⟩
  have hbel := belowt ((belowt HB.out.1 HB.out.1.size HB1.out).alloc (by have := HB.out.1.size; have := HB1.out.size; omega) (.cells #[.slice A1 n1 c1, .bool k1] 87)) (by have := HB.out.1.size; have := HB1.out.size; simp; omega) hb2
  have HZ := Lib.hid hbel
  clear hw hb2 hbel
  go_wp2_with fail
  go_ret2
  exact ⟨rfl, HZ.out⟩

set_option maxRecDepth 100000 in
set_option maxHeartbeats 1000000 in
theorem ffloor_none (a1 a2 : List UInt8) (w : World) (ha : rdF a1 a2 = none) :
    Calls Tryz.prog 26 #[.agg #[.string ⟨a1.toArray⟩, .string ⟨a2.toArray⟩]] w fun e w' => e = .returned (.tuple #[.string ⟨#[]⟩, .int .i64 20]) ∧ Below w.heap.size w w' := by
  have hbW : Below w.heap.size w (w.alloc (.cells #[.string ⟨a1.toArray⟩, .string ⟨a2.toArray⟩] 31)) := (Below.refl _ _).alloc (Nat.le_refl _) _
  have hc := appFloor_none a1 a2 (w.alloc (.cells #[.string ⟨a1.toArray⟩, .string ⟨a2.toArray⟩] 31)) ha
  have HB := Lib.hid hbW
  clear ha hbW
  go_enter Tryz.func26, Tryz.ntmps26
  go_wp2_with fail
  refine hc.mono ?_
  rintro e w1 ⟨rfl, hb1⟩
  have hbel := belowt HB.out HB.out.size hb1
  have HZ := Lib.hid (hbel.alloc hbel.size (.cells #[.slice none 0 0, .bool false] 87))
  clear hc hb1 hbel
  go_wp2_with fail
  go_ret2
  exact ⟨rfl, HZ.out⟩

end Go.Proofs.YtdobcaabebepaaaGreatDoor
