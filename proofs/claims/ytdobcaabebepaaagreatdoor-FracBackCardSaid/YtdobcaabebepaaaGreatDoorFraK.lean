/- Contracts: package frac: finish, Add, Sub, Mul, Cmp. -/
import Derived.Test.YtdobcaabebepaaaGreatDoorFraJ
namespace Go.Proofs.YtdobcaabebepaaaGreatDoor
open Go.RowKit Vd
attribute [local go_sem ↓] Go.wp_at_zero Go.wp_at_succ

theorem Fz.add {x y : Rat} {K L : Nat} (hx : Fz x K) (hy : Fz y L) : Fz (x + y) (K + L + 1) := by
  rw [Rat.add_def', ← Rat.divInt_ofNat]
  refine Fz.divInt (by have := x.den_pos; have := y.den_pos; have := Nat.mul_pos x.den_pos y.den_pos; omega) ?_ ?_
  · refine Nat.le_trans (wlen_addZ _ _) ?_
    have h1 := Nat.le_trans (wlen_mulZ x.num (y.den : Int)) (Nat.add_le_add hx.1 (fz_den hy))
    have h2 := Nat.le_trans (wlen_mulZ y.num (x.den : Int)) (Nat.add_le_add hy.1 (fz_den hx))
    omega
  · rw [Int.natAbs_natCast]
    have := Nat.le_trans (wlen_mul two_le_B x.den y.den) (Nat.add_le_add hx.2 hy.2)
    omega
theorem Fz.sub {x y : Rat} {K L : Nat} (hx : Fz x K) (hy : Fz y L) : Fz (x - y) (K + L + 1) := by
  rw [Rat.sub_eq_add_neg]; exact hx.add hy.neg
theorem Fz.mul {x y : Rat} {K L : Nat} (hx : Fz x K) (hy : Fz y L) : Fz (x * y) (K + L + 1) := by
  rw [← mul_divInt]
  refine Fz.divInt (Int.mul_ne_zero (by have := x.den_pos; omega) (by have := y.den_pos; omega)) ?_ ?_
  · have := Nat.le_trans (wlen_mulZ x.num y.num) (Nat.add_le_add hx.1 hy.1); omega
  · have := Nat.le_trans (wlen_mulZ (x.den : Int) (y.den : Int)) (Nat.add_le_add (fz_den hx) (fz_den hy)); omega
theorem outF_open (q : Rat) : ∃ (s t : ByteArray) (k : Int), outF q = .tuple #[.agg #[.string s, .string t], .int .i64 k] := by
  unfold outF frV frNone; split <;> exact ⟨_, _, _, rfl⟩
/-- no fraction, and why -/
abbrev noF (k : Int) : Value := .tuple #[.agg #[.string ⟨#[]⟩, .string ⟨#[]⟩], .int .i64 k]

set_option maxRecDepth 100000 in
set_option maxHeartbeats 1000000 in
theorem finish_some (v : Value) (x : Rat) (w : World) (h1 : RaV w v x) (hx : Fz x 1000000) :
    Calls Tryz.prog 46 #[v, .int .i64 0] w fun e w' => e = .returned (outF x) ∧ Below w.heap.size w w' := by
  obtain ⟨A1, n1, c1, k1, A2, n2, c2, k2, rfl, _, _⟩ := h1.open
  obtain ⟨W0, hW0⟩ : ∃ W0, W0 = (w.alloc (.cells #[.slice A1 n1 c1, .bool k1, .slice A2 n2 c2, .bool k2] 89)).alloc (.cells #[.string ⟨#[]⟩, .string ⟨#[]⟩] 31) := ⟨_, rfl⟩
  have hbW : Below w.heap.size w W0 := by rw [hW0]; exact ((Below.refl _ _).alloc (Nat.le_refl _) _).alloc (by simp) _
  have hE1 : Fr W0 (w.heap.size + 1) #[.string ⟨#[]⟩, .string ⟨#[]⟩] 31 := by rw [hW0]; exact Fr.new (by simp)
  have hw := fwrite_any _ x W0 (h1.below hbW) hx
  obtain ⟨s, t, k, hsk⟩ := outF_open x
  rw [hsk] at hw ⊢
  rw [hW0] at hw
  have HB := Lib.hid (And.intro hbW hE1)
  clear h1 hx hbW hE1 hsk
  go_enter Tryz.func46, Tryz.ntmps46
  go_wp2_with fail
  refine hw.mono ?_
  rw [← hW0]
  rintro e w1 ⟨rfl, hb1⟩
  obtain ⟨p0, p1, z0, z1⟩ := (HB.out.2.call hb1).cells2
  have hbel := belowt HB.out.1 HB.out.1.size hb1
  clear hw hb1 hW0
  go_wp2_with fail
  exact bodyPost_ret (v := .tuple #[.agg #[.string s, .string t], .int .i64 k]) (by simp [results, Tryz.results46, go_sem, p0, p1]) rfl ⟨rfl, (hbel.setCell (by simp) _).setCell (by simp) _⟩

set_option maxRecDepth 100000 in
set_option maxHeartbeats 1000000 in
theorem finish_none (w : World) :
    Calls Tryz.prog 46 #[raNone, .int .i64 20] w fun e w' => e = .returned (noF 20) ∧ Below w.heap.size w w' := by
  have hf0 := fr_built0
  unfold raNone
  go_enter Tryz.func46, Tryz.ntmps46
  go_wp2_with fail
  exact bodyPost_ret (v := noF 20) (by simp [results, Tryz.results46, go_sem]) rfl ⟨rfl, by first | exact ((Below.refl _ _).alloc (Nat.le_refl _) _).alloc (by simp) _ | exact ((((Below.refl _ _).alloc (Nat.le_refl _) _).alloc (by simp) _).setCell (by simp) _).setCell (by simp) _⟩

set_option maxRecDepth 100000 in
set_option maxHeartbeats 1000000 in
theorem fadd_some (a1 a2 b1 b2 : List UInt8) (x y : Rat) (w : World) (ha : rdF a1 a2 = some x) (hb : rdF b1 b2 = some y) :
    Calls Tryz.prog 12 #[.agg #[.string ⟨a1.toArray⟩, .string ⟨a2.toArray⟩], .agg #[.string ⟨b1.toArray⟩, .string ⟨b2.toArray⟩]] w fun e w' => e = .returned (outF (x + y)) ∧ Below w.heap.size w w' := by
  have hbW : Below w.heap.size w (((w.alloc (.cells #[.string ⟨a1.toArray⟩, .string ⟨a2.toArray⟩] 31)).alloc (.cells #[.string ⟨b1.toArray⟩, .string ⟨b2.toArray⟩] 31)).alloc (.cells #[.string ⟨#[]⟩, .string ⟨#[]⟩] 31)) := (((Below.refl _ _).alloc (Nat.le_refl _) _).alloc (by simp) _).alloc (by simp; omega) _
  have hE1 : Fr (((w.alloc (.cells #[.string ⟨a1.toArray⟩, .string ⟨a2.toArray⟩] 31)).alloc (.cells #[.string ⟨b1.toArray⟩, .string ⟨b2.toArray⟩] 31)).alloc (.cells #[.string ⟨#[]⟩, .string ⟨#[]⟩] 31)) (w.heap.size + 1 + 1) #[.string ⟨#[]⟩, .string ⟨#[]⟩] 31 := Fr.new (by simp)
  have hc := combPlus_some a1 a2 b1 b2 x y (((w.alloc (.cells #[.string ⟨a1.toArray⟩, .string ⟨a2.toArray⟩] 31)).alloc (.cells #[.string ⟨b1.toArray⟩, .string ⟨b2.toArray⟩] 31)).alloc (.cells #[.string ⟨#[]⟩, .string ⟨#[]⟩] 31)) ha hb
  have HF := Lib.hid (((rdF_fz ha).add (rdF_fz hb)).mono (show 32 + 32 + 1 ≤ 1000000 by omega))
  obtain ⟨s, t, k, hsk⟩ := outF_open (x + y)
  have HS := Lib.hid hsk
  rw [hsk]
  have HB := Lib.hid (And.intro hbW hE1)
  clear ha hb hbW hE1 hsk
  go_enter Tryz.func12, Tryz.ntmps12
  go_wp2_with fail
  refine hc.mono ?_
  rintro e w1 ⟨v, rfl, hv, hb1⟩
  have hfi := finish_some v _ w1 hv HF.out
  rw [HS.out] at hfi
  obtain ⟨A1, n1, c1, k1, A2, n2, c2, k2, rfl, _, _⟩ := hv.open
  have HB1 := Lib.hid hb1
  clear hc hb1 hv
  go_wp2_with fail
  refine hfi.mono ?_
  rintro e w2 ⟨rfl, hb2⟩
  obtain ⟨p0, p1, z0, z1⟩ := ((HB.out.2.call HB1.out).call hb2).cells2
  have hbel := belowt (belowt HB.out.1 HB.out.1.size HB1.out) (by have := HB.out.1.size; have := HB1.out.size; omega) hb2
  clear hfi hb2
  go_wp2_with fail
  exact bodyPost_ret (v := .tuple #[.agg #[.string s, .string t], .int .i64 k]) (by simp [results, Tryz.results12, go_sem, p0, p1]) rfl ⟨rfl, (hbel.setCell (by simp; omega) _).setCell (by simp; omega) _⟩

set_option maxRecDepth 100000 in
set_option maxHeartbeats 1000000 in
theorem fadd_none (a1 a2 b1 b2 : List UInt8) (w : World) (h : rdF a1 a2 = none ∨ rdF b1 b2 = none) :
    Calls Tryz.prog 12 #[.agg #[.string ⟨a1.toArray⟩, .string ⟨a2.toArray⟩], .agg #[.string ⟨b1.toArray⟩, .string ⟨b2.toArray⟩]] w fun e w' => e = .returned (noF 20) ∧ Below w.heap.size w w' := by
  have hbW : Below w.heap.size w (((w.alloc (.cells #[.string ⟨a1.toArray⟩, .string ⟨a2.toArray⟩] 31)).alloc (.cells #[.string ⟨b1.toArray⟩, .string ⟨b2.toArray⟩] 31)).alloc (.cells #[.string ⟨#[]⟩, .string ⟨#[]⟩] 31)) := (((Below.refl _ _).alloc (Nat.le_refl _) _).alloc (by simp) _).alloc (by simp; omega) _
  have hE1 : Fr (((w.alloc (.cells #[.string ⟨a1.toArray⟩, .string ⟨a2.toArray⟩] 31)).alloc (.cells #[.string ⟨b1.toArray⟩, .string ⟨b2.toArray⟩] 31)).alloc (.cells #[.string ⟨#[]⟩, .string ⟨#[]⟩] 31)) (w.heap.size + 1 + 1) #[.string ⟨#[]⟩, .string ⟨#[]⟩] 31 := Fr.new (by simp)
  have hc := combPlus_none a1 a2 b1 b2 (((w.alloc (.cells #[.string ⟨a1.toArray⟩, .string ⟨a2.toArray⟩] 31)).alloc (.cells #[.string ⟨b1.toArray⟩, .string ⟨b2.toArray⟩] 31)).alloc (.cells #[.string ⟨#[]⟩, .string ⟨#[]⟩] 31)) h
  have HB := Lib.hid (And.intro hbW hE1)
  clear h hbW hE1
  go_enter Tryz.func12, Tryz.ntmps12
  go_wp2_with fail
  refine hc.mono ?_
  rintro e w1 ⟨rfl, hb1⟩
  have hfi := finish_none w1
  unfold raNone at hfi ⊢
  have HB1 := Lib.hid hb1
  clear hc hb1
  go_wp2_with fail
  refine hfi.mono ?_
  rintro e w2 ⟨rfl, hb2⟩
  obtain ⟨p0, p1, z0, z1⟩ := ((HB.out.2.call HB1.out).call hb2).cells2
  have hbel := belowt (belowt HB.out.1 HB.out.1.size HB1.out) (by have := HB.out.1.size; have := HB1.out.size; omega) hb2
  clear hfi hb2
  go_wp2_with fail
  exact bodyPost_ret (v := noF 20) (by simp [results, Tryz.results12, go_sem, p0, p1]) rfl ⟨rfl, (hbel.setCell (by simp; omega) _).setCell (by simp; omega) _⟩

set_option maxRecDepth 100000 in
set_option maxHeartbeats 1000000 in
theorem fsub_some (a1 a2 b1 b2 : List UInt8) (x y : Rat) (w : World) (ha : rdF a1 a2 = some x) (hb : rdF b1 b2 = some y) :
    Calls Tryz.prog 13 #[.agg #[.string ⟨a1.toArray⟩, .string ⟨a2.toArray⟩], .agg #[.string ⟨b1.toArray⟩, .string ⟨b2.toArray⟩]] w fun e w' => e = .returned (outF (x - y)) ∧ Below w.heap.size w w' := by
  have hbW : Below w.heap.size w (((w.alloc (.cells #[.string ⟨a1.toArray⟩, .string ⟨a2.toArray⟩] 31)).alloc (.cells #[.string ⟨b1.toArray⟩, .string ⟨b2.toArray⟩] 31)).alloc (.cells #[.string ⟨#[]⟩, .string ⟨#[]⟩] 31)) := (((Below.refl _ _).alloc (Nat.le_refl _) _).alloc (by simp) _).alloc (by simp; omega) _
  have hE1 : Fr (((w.alloc (.cells #[.string ⟨a1.toArray⟩, .string ⟨a2.toArray⟩] 31)).alloc (.cells #[.string ⟨b1.toArray⟩, .string ⟨b2.toArray⟩] 31)).alloc (.cells #[.string ⟨#[]⟩, .string ⟨#[]⟩] 31)) (w.heap.size + 1 + 1) #[.string ⟨#[]⟩, .string ⟨#[]⟩] 31 := Fr.new (by simp)
  have hc := combMinus_some a1 a2 b1 b2 x y (((w.alloc (.cells #[.string ⟨a1.toArray⟩, .string ⟨a2.toArray⟩] 31)).alloc (.cells #[.string ⟨b1.toArray⟩, .string ⟨b2.toArray⟩] 31)).alloc (.cells #[.string ⟨#[]⟩, .string ⟨#[]⟩] 31)) ha hb
  have HF := Lib.hid (((rdF_fz ha).sub (rdF_fz hb)).mono (show 32 + 32 + 1 ≤ 1000000 by omega))
  obtain ⟨s, t, k, hsk⟩ := outF_open (x - y)
  have HS := Lib.hid hsk
  rw [hsk]
  have HB := Lib.hid (And.intro hbW hE1)
  clear ha hb hbW hE1 hsk
  go_enter Tryz.func13, Tryz.ntmps13
  go_wp2_with fail
  refine hc.mono ?_
  rintro e w1 ⟨v, rfl, hv, hb1⟩
  have hfi := finish_some v _ w1 hv HF.out
  rw [HS.out] at hfi
  obtain ⟨A1, n1, c1, k1, A2, n2, c2, k2, rfl, _, _⟩ := hv.open
  have HB1 := Lib.hid hb1
  clear hc hb1 hv
  go_wp2_with fail
  refine hfi.mono ?_
  rintro e w2 ⟨rfl, hb2⟩
  obtain ⟨p0, p1, z0, z1⟩ := ((HB.out.2.call HB1.out).call hb2).cells2
  have hbel := belowt (belowt HB.out.1 HB.out.1.size HB1.out) (by have := HB.out.1.size; have := HB1.out.size; omega) hb2
  clear hfi hb2
  go_wp2_with fail
  exact bodyPost_ret (v := .tuple #[.agg #[.string s, .string t], .int .i64 k]) (by simp [results, Tryz.results13, go_sem, p0, p1]) rfl ⟨rfl, (hbel.setCell (by simp; omega) _).setCell (by simp; omega) _⟩

set_option maxRecDepth 100000 in
set_option maxHeartbeats 1000000 in
theorem fsub_none (a1 a2 b1 b2 : List UInt8) (w : World) (h : rdF a1 a2 = none ∨ rdF b1 b2 = none) :
    Calls Tryz.prog 13 #[.agg #[.string ⟨a1.toArray⟩, .string ⟨a2.toArray⟩], .agg #[.string ⟨b1.toArray⟩, .string ⟨b2.toArray⟩]] w fun e w' => e = .returned (noF 20) ∧ Below w.heap.size w w' := by
  have hbW : Below w.heap.size w (((w.alloc (.cells #[.string ⟨a1.toArray⟩, .string ⟨a2.toArray⟩] 31)).alloc (.cells #[.string ⟨b1.toArray⟩, .string ⟨b2.toArray⟩] 31)).alloc (.cells #[.string ⟨#[]⟩, .string ⟨#[]⟩] 31)) := (((Below.refl _ _).alloc (Nat.le_refl _) _).alloc (by simp) _).alloc (by simp; omega) _
  have hE1 : Fr (((w.alloc (.cells #[.string ⟨a1.toArray⟩, .string ⟨a2.toArray⟩] 31)).alloc (.cells #[.string ⟨b1.toArray⟩, .string ⟨b2.toArray⟩] 31)).alloc (.cells #[.string ⟨#[]⟩, .string ⟨#[]⟩] 31)) (w.heap.size + 1 + 1) #[.string ⟨#[]⟩, .string ⟨#[]⟩] 31 := Fr.new (by simp)
  have hc := combMinus_none a1 a2 b1 b2 (((w.alloc (.cells #[.string ⟨a1.toArray⟩, .string ⟨a2.toArray⟩] 31)).alloc (.cells #[.string ⟨b1.toArray⟩, .string ⟨b2.toArray⟩] 31)).alloc (.cells #[.string ⟨#[]⟩, .string ⟨#[]⟩] 31)) h
  have HB := Lib.hid (And.intro hbW hE1)
  clear h hbW hE1
  go_enter Tryz.func13, Tryz.ntmps13
  go_wp2_with fail
  refine hc.mono ?_
  rintro e w1 ⟨rfl, hb1⟩
  have hfi := finish_none w1
  unfold raNone at hfi ⊢
  have HB1 := Lib.hid hb1
  clear hc hb1
  go_wp2_with fail
  refine hfi.mono ?_
  rintro e w2 ⟨rfl, hb2⟩
  obtain ⟨p0, p1, z0, z1⟩ := ((HB.out.2.call HB1.out).call hb2).cells2
  have hbel := belowt (belowt HB.out.1 HB.out.1.size HB1.out) (by have := HB.out.1.size; have := HB1.out.size; omega) hb2
  clear hfi hb2
  go_wp2_with fail
  exact bodyPost_ret (v := noF 20) (by simp [results, Tryz.results13, go_sem, p0, p1]) rfl ⟨rfl, (hbel.setCell (by simp; omega) _).setCell (by simp; omega) _⟩

set_option maxRecDepth 100000 in
set_option maxHeartbeats 1000000 in
theorem fmul_some (a1 a2 b1 b2 : List UInt8) (x y : Rat) (w : World) (ha : rdF a1 a2 = some x) (hb : rdF b1 b2 = some y) :
    Calls Tryz.prog 15 #[.agg #[.string ⟨a1.toArray⟩, .string ⟨a2.toArray⟩], .agg #[.string ⟨b1.toArray⟩, .string ⟨b2.toArray⟩]] w fun e w' => e = .returned (outF (x * y)) ∧ Below w.heap.size w w' := by
  have hbW : Below w.heap.size w (((w.alloc (.cells #[.string ⟨a1.toArray⟩, .string ⟨a2.toArray⟩] 31)).alloc (.cells #[.string ⟨b1.toArray⟩, .string ⟨b2.toArray⟩] 31)).alloc (.cells #[.string ⟨#[]⟩, .string ⟨#[]⟩] 31)) := (((Below.refl _ _).alloc (Nat.le_refl _) _).alloc (by simp) _).alloc (by simp; omega) _
  have hE1 : Fr (((w.alloc (.cells #[.string ⟨a1.toArray⟩, .string ⟨a2.toArray⟩] 31)).alloc (.cells #[.string ⟨b1.toArray⟩, .string ⟨b2.toArray⟩] 31)).alloc (.cells #[.string ⟨#[]⟩, .string ⟨#[]⟩] 31)) (w.heap.size + 1 + 1) #[.string ⟨#[]⟩, .string ⟨#[]⟩] 31 := Fr.new (by simp)
  have hc := combTimes_some a1 a2 b1 b2 x y (((w.alloc (.cells #[.string ⟨a1.toArray⟩, .string ⟨a2.toArray⟩] 31)).alloc (.cells #[.string ⟨b1.toArray⟩, .string ⟨b2.toArray⟩] 31)).alloc (.cells #[.string ⟨#[]⟩, .string ⟨#[]⟩] 31)) ha hb
  have HF := Lib.hid (((rdF_fz ha).mul (rdF_fz hb)).mono (show 32 + 32 + 1 ≤ 1000000 by omega))
  obtain ⟨s, t, k, hsk⟩ := outF_open (x * y)
  have HS := Lib.hid hsk
  rw [hsk]
  have HB := Lib.hid (And.intro hbW hE1)
  clear ha hb hbW hE1 hsk
  go_enter Tryz.func15, Tryz.ntmps15
  go_wp2_with fail
  refine hc.mono ?_
  rintro e w1 ⟨v, rfl, hv, hb1⟩
  have hfi := finish_some v _ w1 hv HF.out
  rw [HS.out] at hfi
  obtain ⟨A1, n1, c1, k1, A2, n2, c2, k2, rfl, _, _⟩ := hv.open
  have HB1 := Lib.hid hb1
  clear hc hb1 hv
  go_wp2_with fail
  refine hfi.mono ?_
  rintro e w2 ⟨rfl, hb2⟩
  obtain ⟨p0, p1, z0, z1⟩ := ((HB.out.2.call HB1.out).call hb2).cells2
  have hbel := belowt (belowt HB.out.1 HB.out.1.size HB1.out) (by have := HB.out.1.size; have := HB1.out.size; omega) hb2
  clear hfi hb2
  go_wp2_with fail
  exact bodyPost_ret (v := .tuple #[.agg #[.string s, .string t], .int .i64 k]) (by simp [results, Tryz.results15, go_sem, p0, p1]) rfl ⟨rfl, (hbel.setCell (by simp; omega) _).setCell (by simp; omega) _⟩

set_option maxRecDepth 100000 in
set_option maxHeartbeats 1000000 in
theorem fmul_none (a1 a2 b1 b2 : List UInt8) (w : World) (h : rdF a1 a2 = none ∨ rdF b1 b2 = none) :
    Calls Tryz.prog 15 #[.agg #[.string ⟨a1.toArray⟩, .string ⟨a2.toArray⟩], .agg #[.string ⟨b1.toArray⟩, .string ⟨b2.toArray⟩]] w fun e w' => e = .returned (noF 20) ∧ Below w.heap.size w w' := by
  have hbW : Below w.heap.size w (((w.alloc (.cells #[.string ⟨a1.toArray⟩, .string ⟨a2.toArray⟩] 31)).alloc (.cells #[.string ⟨b1.toArray⟩, .string ⟨b2.toArray⟩] 31)).alloc (.cells #[.string ⟨#[]⟩, .string ⟨#[]⟩] 31)) := (((Below.refl _ _).alloc (Nat.le_refl _) _).alloc (by simp) _).alloc (by simp; omega) _
  have hE1 : Fr (((w.alloc (.cells #[.string ⟨a1.toArray⟩, .string ⟨a2.toArray⟩] 31)).alloc (.cells #[.string ⟨b1.toArray⟩, .string ⟨b2.toArray⟩] 31)).alloc (.cells #[.string ⟨#[]⟩, .string ⟨#[]⟩] 31)) (w.heap.size + 1 + 1) #[.string ⟨#[]⟩, .string ⟨#[]⟩] 31 := Fr.new (by simp)
  have hc := combTimes_none a1 a2 b1 b2 (((w.alloc (.cells #[.string ⟨a1.toArray⟩, .string ⟨a2.toArray⟩] 31)).alloc (.cells #[.string ⟨b1.toArray⟩, .string ⟨b2.toArray⟩] 31)).alloc (.cells #[.string ⟨#[]⟩, .string ⟨#[]⟩] 31)) h
  have HB := Lib.hid (And.intro hbW hE1)
  clear h hbW hE1
  go_enter Tryz.func15, Tryz.ntmps15
  go_wp2_with fail
  refine hc.mono ?_
  rintro e w1 ⟨rfl, hb1⟩
  have hfi := finish_none w1
  unfold raNone at hfi ⊢
  have HB1 := Lib.hid hb1
  clear hc hb1
  go_wp2_with fail
  refine hfi.mono ?_
  rintro e w2 ⟨rfl, hb2⟩
  obtain ⟨p0, p1, z0, z1⟩ := ((HB.out.2.call HB1.out).call hb2).cells2
  have hbel := belowt (belowt HB.out.1 HB.out.1.size HB1.out) (by have := HB.out.1.size; have := HB1.out.size; omega) hb2
  clear hfi hb2
  go_wp2_with fail
  exact bodyPost_ret (v := noF 20) (by simp [results, Tryz.results15, go_sem, p0, p1]) rfl ⟨rfl, (hbel.setCell (by simp; omega) _).setCell (by simp; omega) _⟩

set_option maxRecDepth 100000 in
set_option maxHeartbeats 1000000 in
theorem fcmp_some (a1 a2 b1 b2 : List UInt8) (x y : Rat) (w : World) (ha : rdF a1 a2 = some x) (hb : rdF b1 b2 = some y) :
    Calls Tryz.prog 18 #[.agg #[.string ⟨a1.toArray⟩, .string ⟨a2.toArray⟩], .agg #[.string ⟨b1.toArray⟩, .string ⟨b2.toArray⟩]] w fun e w' => e = .returned (.tuple #[.int .i64 (cmpQ x y), .int .i64 0]) ∧ Below w.heap.size w w' := by
  have hbW : Below w.heap.size w ((w.alloc (.cells #[.string ⟨a1.toArray⟩, .string ⟨a2.toArray⟩] 31)).alloc (.cells #[.string ⟨b1.toArray⟩, .string ⟨b2.toArray⟩] 31)) := ((Below.refl _ _).alloc (Nat.le_refl _) _).alloc (by simp) _
  have hc := combOrder_some a1 a2 b1 b2 x y ((w.alloc (.cells #[.string ⟨a1.toArray⟩, .string ⟨a2.toArray⟩] 31)).alloc (.cells #[.string ⟨b1.toArray⟩, .string ⟨b2.toArray⟩] 31)) ha hb
  have HB := Lib.hid hbW
  obtain ⟨C, hC⟩ : ∃ C, C = cmpQ x y := ⟨_, rfl⟩
  rw [← hC] at hc ⊢
  clear ha hb hbW hC
  go_enter Tryz.func18, Tryz.ntmps18
  go_wp2_with fail
  refine hc.mono ?_
  rintro e w1 ⟨rfl, hb1⟩
  have hbel := belowt HB.out HB.out.size hb1
  clear hc hb1
  go_wp2_with fail
  go_ret2
  exact ⟨rfl, hbel⟩

set_option maxRecDepth 100000 in
set_option maxHeartbeats 1000000 in
theorem fcmp_none (a1 a2 b1 b2 : List UInt8) (w : World) (h : rdF a1 a2 = none ∨ rdF b1 b2 = none) :
    Calls Tryz.prog 18 #[.agg #[.string ⟨a1.toArray⟩, .string ⟨a2.toArray⟩], .agg #[.string ⟨b1.toArray⟩, .string ⟨b2.toArray⟩]] w fun e w' => e = .returned (.tuple #[.int .i64 0, .int .i64 20]) ∧ Below w.heap.size w w' := by
  have hbW : Below w.heap.size w ((w.alloc (.cells #[.string ⟨a1.toArray⟩, .string ⟨a2.toArray⟩] 31)).alloc (.cells #[.string ⟨b1.toArray⟩, .string ⟨b2.toArray⟩] 31)) := ((Below.refl _ _).alloc (Nat.le_refl _) _).alloc (by simp) _
  have hc := combOrder_none a1 a2 b1 b2 ((w.alloc (.cells #[.string ⟨a1.toArray⟩, .string ⟨a2.toArray⟩] 31)).alloc (.cells #[.string ⟨b1.toArray⟩, .string ⟨b2.toArray⟩] 31)) h
  have HB := Lib.hid hbW
  clear h hbW
  go_enter Tryz.func18, Tryz.ntmps18
  go_wp2_with fail
  refine hc.mono ?_
  rintro e w1 ⟨rfl, hb1⟩
  have hbel := belowt HB.out HB.out.size hb1
  clear hc hb1
  go_wp2_with fail
  go_ret2
  exact ⟨rfl, hbel⟩

end Go.Proofs.YtdobcaabebepaaaGreatDoor
