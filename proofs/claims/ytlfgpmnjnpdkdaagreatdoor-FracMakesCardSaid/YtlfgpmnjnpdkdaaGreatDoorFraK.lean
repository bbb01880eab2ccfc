/- Contracts: package frac: finish, Add, Sub, Mul, Cmp. Contracts: package frac: Of, Make, Check, Min, Max. -/
import Derived.Test.YtlfgpmnjnpdkdaaGreatDoorFraJ
namespace Go.Proofs.YtlfgpmnjnpdkdaaGreatDoor
open Go.RowKit Vd
attribute [local go_sem ↓] Go.wp_at_zero Go.wp_at_succ
theorem Fz.add {x y : Rat} {K L : Nat} (hx : Fz x K) (hy : Fz y L) : Fz (x + y) (K + L + 1) := by
 rw [Rat.add_def',← Rat.divInt_ofNat]
 refine Fz.divInt (by have := x.den_pos;have := y.den_pos;have := Nat.mul_pos x.den_pos y.den_pos;omega) ?_ ?_
 · refine Nat.le_trans (wlen_addZ _ _) ?_
   have h1 := Nat.le_trans (wlen_mulZ x.num (y.den : Int)) (Nat.add_le_add hx.1 (fz_den hy))
   have h2 := Nat.le_trans (wlen_mulZ y.num (x.den : Int)) (Nat.add_le_add hy.1 (fz_den hx))
   omega
 · rw [Int.natAbs_natCast]
   have := Nat.le_trans (wlen_mul two_le_B x.den y.den) (Nat.add_le_add hx.2 hy.2)
   omega
theorem Fz.sub {x y : Rat} {K L : Nat} (hx : Fz x K) (hy : Fz y L) : Fz (x - y) (K + L + 1) := by
 rw [Rat.sub_eq_add_neg];exact hx.add hy.neg
theorem Fz.mul {x y : Rat} {K L : Nat} (hx : Fz x K) (hy : Fz y L) : Fz (x * y) (K + L + 1) := by
 rw [← mul_divInt]
 refine Fz.divInt (Int.mul_ne_zero (by have := x.den_pos;omega) (by have := y.den_pos;omega)) ?_ ?_
 · have := Nat.le_trans (wlen_mulZ x.num y.num) (Nat.add_le_add hx.1 hy.1);omega
 · have := Nat.le_trans (wlen_mulZ (x.den : Int) (y.den : Int)) (Nat.add_le_add (fz_den hx) (fz_den hy));omega
theorem outF_open (q : Rat) : ∃ (s t : ByteArray) (k : Int),outF q = .tuple #[.agg #[.string s,.string t],.int .i64 k] := by
 unfold outF frV frNone;split <;> exact ⟨_,_,_,rfl⟩
abbrev noF (k : Int) : Value := .tuple #[.agg #[.string ⟨#[]⟩,.string ⟨#[]⟩],.int .i64 k]
set_option maxRecDepth 100000 in
set_option maxHeartbeats 1000000 in
theorem finish_some (v : Value) (x : Rat) (w : World) (h1 : RaV w v x) (hx : Fz x 1000000) :
 Calls Tryz.prog 73 #[v,.int .i64 0] w fun e w' => e = .returned (outF x) ∧ Below w.heap.size w w' := by
 obtain ⟨A1,n1,c1,k1,A2,n2,c2,k2,rfl,_,_⟩ := h1.open
 obtain ⟨W0,hW0⟩ : ∃ W0,W0 = (w.alloc (.cells #[.slice A1 n1 c1,.bool k1,.slice A2 n2 c2,.bool k2] 82)).alloc (.cells #[.string ⟨#[]⟩,.string ⟨#[]⟩] 24) := ⟨_,rfl⟩
 have hbW : Below w.heap.size w W0 := by rw [hW0];exact ((Below.refl _ _).alloc (Nat.le_refl _) _).alloc (by simp) _
 have hE1 : Fr W0 (w.heap.size + 1) #[.string ⟨#[]⟩,.string ⟨#[]⟩] 24 := by rw [hW0];exact Fr.new (by simp)
 have hw := fwrite_any _ x W0 (h1.below hbW) hx
 obtain ⟨s,t,k,hsk⟩ := outF_open x
 rw [hsk] at hw ⊢
 rw [hW0] at hw
 have HB := Lib.hid (And.intro hbW hE1)
 clear h1 hx hbW hE1 hsk
 go_enter Tryz.func73,Tryz.ntmps73
 go_wp2_with fail
 refine hw.mono ?_
 rw [← hW0]
 rintro e w1 ⟨rfl,hb1⟩
 obtain ⟨p0,p1,z0,z1⟩ := (HB.out.2.call hb1).cells2
 have hbel := belowt HB.out.1 HB.out.1.size hb1
 clear hw hb1 hW0
 go_wp2_with fail
 exact bodyPost_ret (v := .tuple #[.agg #[.string s,.string t],.int .i64 k]) (by simp [results,Tryz.results73,go_sem,p0,p1]) rfl ⟨rfl,(hbel.setCell (by simp) _).setCell (by simp) _⟩
set_option maxRecDepth 100000 in
set_option maxHeartbeats 1000000 in
theorem finish_none (w : World) :
 Calls Tryz.prog 73 #[raNone,.int .i64 20] w fun e w' => e = .returned (noF 20) ∧ Below w.heap.size w w' := by
 have hf0 := fr_built0
 unfold raNone
 go_enter Tryz.func73,Tryz.ntmps73
 go_wp2_with fail
 exact bodyPost_ret (v := noF 20) (by simp [results,Tryz.results73,go_sem]) rfl ⟨rfl,by first | exact ((Below.refl _ _).alloc (Nat.le_refl _) _).alloc (by simp) _ | exact ((((Below.refl _ _).alloc (Nat.le_refl _) _).alloc (by simp) _).setCell (by simp) _).setCell (by simp) _⟩
set_option maxRecDepth 100000 in
set_option maxHeartbeats 1000000 in
theorem fadd_some (a1 a2 b1 b2 : List UInt8) (x y : Rat) (w : World) (ha : rdF a1 a2 = some x) (hb : rdF b1 b2 = some y) :
 Calls Tryz.prog 26 #[.agg #[.string ⟨a1.toArray⟩,.string ⟨a2.toArray⟩],.agg #[.string ⟨b1.toArray⟩,.string ⟨b2.toArray⟩]] w fun e w' => e = .returned (outF (x + y)) ∧ Below w.heap.size w w' := by
 have hbW : Below w.heap.size w (((w.alloc (.cells #[.string ⟨a1.toArray⟩,.string ⟨a2.toArray⟩] 24)).alloc (.cells #[.string ⟨b1.toArray⟩,.string ⟨b2.toArray⟩] 24)).alloc (.cells #[.string ⟨#[]⟩,.string ⟨#[]⟩] 24)) := (((Below.refl _ _).alloc (Nat.le_refl _) _).alloc (by simp) _).alloc (by simp;omega) _
 have hE1 : Fr (((w.alloc (.cells #[.string ⟨a1.toArray⟩,.string ⟨a2.toArray⟩] 24)).alloc (.cells #[.string ⟨b1.toArray⟩,.string ⟨b2.toArray⟩] 24)).alloc (.cells #[.string ⟨#[]⟩,.string ⟨#[]⟩] 24)) (w.heap.size + 1 + 1) #[.string ⟨#[]⟩,.string ⟨#[]⟩] 24 := Fr.new (by simp)
 have hc := combPlus_some a1 a2 b1 b2 x y (((w.alloc (.cells #[.string ⟨a1.toArray⟩,.string ⟨a2.toArray⟩] 24)).alloc (.cells #[.string ⟨b1.toArray⟩,.string ⟨b2.toArray⟩] 24)).alloc (.cells #[.string ⟨#[]⟩,.string ⟨#[]⟩] 24)) ha hb
 have HF := Lib.hid (((rdF_fz ha).add (rdF_fz hb)).mono (show 32 + 32 + 1 ≤ 1000000 by omega))
 obtain ⟨s,t,k,hsk⟩ := outF_open (x + y)
 have HS := Lib.hid hsk
 rw [hsk]
 have HB := Lib.hid (And.intro hbW hE1)
 clear ha hb hbW hE1 hsk
 go_enter Tryz.func26,Tryz.ntmps26
 go_wp2_with fail
 refine hc.mono ?_
 rintro e w1 ⟨v,rfl,hv,hb1⟩
 have hfi := finish_some v _ w1 hv HF.out
 rw [HS.out] at hfi
 obtain ⟨A1,n1,c1,k1,A2,n2,c2,k2,rfl,_,_⟩ := hv.open
 have HB1 := Lib.hid hb1
 clear hc hb1 hv
 go_wp2_with fail
 refine hfi.mono ?_
 rintro e w2 ⟨rfl,hb2⟩
 obtain ⟨p0,p1,z0,z1⟩ := ((HB.out.2.call HB1.out).call hb2).cells2
 have hbel := belowt (belowt HB.out.1 HB.out.1.size HB1.out) (by have := HB.out.1.size;have := HB1.out.size;omega) hb2
 clear hfi hb2
 go_wp2_with fail
 exact bodyPost_ret (v := .tuple #[.agg #[.string s,.string t],.int .i64 k]) (by simp [results,Tryz.results26,go_sem,p0,p1]) rfl ⟨rfl,(hbel.setCell (by simp;omega) _).setCell (by simp;omega) _⟩
set_option maxRecDepth 100000 in
set_option maxHeartbeats 1000000 in
theorem fadd_none (a1 a2 b1 b2 : List UInt8) (w : World) (h : rdF a1 a2 = none ∨ rdF b1 b2 = none) :
 Calls Tryz.prog 26 #[.agg #[.string ⟨a1.toArray⟩,.string ⟨a2.toArray⟩],.agg #[.string ⟨b1.toArray⟩,.string ⟨b2.toArray⟩]] w fun e w' => e = .returned (noF 20) ∧ Below w.heap.size w w' := by
 have hbW : Below w.heap.size w (((w.alloc (.cells #[.string ⟨a1.toArray⟩,.string ⟨a2.toArray⟩] 24)).alloc (.cells #[.string ⟨b1.toArray⟩,.string ⟨b2.toArray⟩] 24)).alloc (.cells #[.string ⟨#[]⟩,.string ⟨#[]⟩] 24)) := (((Below.refl _ _).alloc (Nat.le_refl _) _).alloc (by simp) _).alloc (by simp;omega) _
 have hE1 : Fr (((w.alloc (.cells #[.string ⟨a1.toArray⟩,.string ⟨a2.toArray⟩] 24)).alloc (.cells #[.string ⟨b1.toArray⟩,.string ⟨b2.toArray⟩] 24)).alloc (.cells #[.string ⟨#[]⟩,.string ⟨#[]⟩] 24)) (w.heap.size + 1 + 1) #[.string ⟨#[]⟩,.string ⟨#[]⟩] 24 := Fr.new (by simp)
 have hc := combPlus_none a1 a2 b1 b2 (((w.alloc (.cells #[.string ⟨a1.toArray⟩,.string ⟨a2.toArray⟩] 24)).alloc (.cells #[.string ⟨b1.toArray⟩,.string ⟨b2.toArray⟩] 24)).alloc (.cells #[.string ⟨#[]⟩,.string ⟨#[]⟩] 24)) h
 have HB := Lib.hid (And.intro hbW hE1)
 clear h hbW hE1
 go_enter Tryz.func26,Tryz.ntmps26
 go_wp2_with fail
 refine hc.mono ?_
 rintro e w1 ⟨rfl,hb1⟩
 have hfi := finish_none w1
 unfold raNone at hfi ⊢
 have HB1 := Lib.hid hb1
 clear hc hb1
 go_wp2_with fail
 refine hfi.mono ?_
 rintro e w2 ⟨rfl,hb2⟩
 obtain ⟨p0,p1,z0,z1⟩ := ((HB.out.2.call HB1.out).call hb2).cells2
 have hbel := belowt (belowt HB.out.1 HB.out.1.size HB1.out) (by have := HB.out.1.size;have := HB1.out.size;omega) hb2
 clear hfi hb2
 go_wp2_with fail
 exact bodyPost_ret (v := noF 20) (by simp [results,Tryz.results26,go_sem,p0,p1]) rfl ⟨rfl,(hbel.setCell (by simp;omega) _).setCell (by simp;omega) _⟩
set_option maxRecDepth 100000 in
set_option maxHeartbeats 1000000 in
theorem fsub_some (a1 a2 b1 b2 : List UInt8) (x y : Rat) (w : World) (ha : rdF a1 a2 = some x) (hb : rdF b1 b2 = some y) :
 Calls Tryz.prog 27 #[.agg #[.string ⟨a1.toArray⟩,.string ⟨a2.toArray⟩],.agg #[.string ⟨b1.toArray⟩,.string ⟨b2.toArray⟩]] w fun e w' => e = .returned (outF (x - y)) ∧ Below w.heap.size w w' := by
 have hbW : Below w.heap.size w (((w.alloc (.cells #[.string ⟨a1.toArray⟩,.string ⟨a2.toArray⟩] 24)).alloc (.cells #[.string ⟨b1.toArray⟩,.string ⟨b2.toArray⟩] 24)).alloc (.cells #[.string ⟨#[]⟩,.string ⟨#[]⟩] 24)) := (((Below.refl _ _).alloc (Nat.le_refl _) _).alloc (by simp) _).alloc (by simp;omega) _
 have hE1 : Fr (((w.alloc (.cells #[.string ⟨a1.toArray⟩,.string ⟨a2.toArray⟩] 24)).alloc (.cells #[.string ⟨b1.toArray⟩,.string ⟨b2.toArray⟩] 24)).alloc (.cells #[.string ⟨#[]⟩,.string ⟨#[]⟩] 24)) (w.heap.size + 1 + 1) #[.string ⟨#[]⟩,.string ⟨#[]⟩] 24 := Fr.new (by simp)
 have hc := combMinus_some a1 a2 b1 b2 x y (((w.alloc (.cells #[.string ⟨a1.toArray⟩,.string ⟨a2.toArray⟩] 24)).alloc (.cells #[.string ⟨b1.toArray⟩,.string ⟨b2.toArray⟩] 24)).alloc (.cells #[.string ⟨#[]⟩,.string ⟨#[]⟩] 24)) ha hb
 have HF := Lib.hid (((rdF_fz ha).sub (rdF_fz hb)).mono (show 32 + 32 + 1 ≤ 1000000 by omega))
 obtain ⟨s,t,k,hsk⟩ := outF_open (x - y)
 have HS := Lib.hid hsk
 rw [hsk]
 have HB := Lib.hid (And.intro hbW hE1)
 clear ha hb hbW hE1 hsk
 go_enter Tryz.func27,Tryz.ntmps27
 go_wp2_with fail
 refine hc.mono ?_
 rintro e w1 ⟨v,rfl,hv,hb1⟩
 have hfi := finish_some v _ w1 hv HF.out
 rw [HS.out] at hfi
 obtain ⟨A1,n1,c1,k1,A2,n2,c2,k2,rfl,_,_⟩ := hv.open
 have HB1 := Lib.hid hb1
 clear hc hb1 hv
 go_wp2_with fail
 refine hfi.mono ?_
 rintro e w2 ⟨rfl,hb2⟩
 obtain ⟨p0,p1,z0,z1⟩ := ((HB.out.2.call HB1.out).call hb2).cells2
 have hbel := belowt (belowt HB.out.1 HB.out.1.size HB1.out) (by have := HB.out.1.size;have := HB1.out.size;omega) hb2
 clear hfi hb2
 go_wp2_with fail
 exact bodyPost_ret (v := .tuple #[.agg #[.string s,.string t],.int .i64 k]) (by simp [results,Tryz.results27,go_sem,p0,p1]) rfl ⟨rfl,(hbel.setCell (by simp;omega) _).setCell (by simp;omega) _⟩
set_option maxRecDepth 100000 in
set_option maxHeartbeats 1000000 in
theorem fsub_none (a1 a2 b1 b2 : List UInt8) (w : World) (h : rdF a1 a2 = none ∨ rdF b1 b2 = none) :
 Calls Tryz.prog 27 #[.agg #[.string ⟨a1.toArray⟩,.string ⟨a2.toArray⟩],.agg #[.string ⟨b1.toArray⟩,.string ⟨b2.toArray⟩]] w fun e w' => e = .returned (noF 20) ∧ Below w.heap.size w w' := by
 have hbW : Below w.heap.size w (((w.alloc (.cells #[.string ⟨a1.toArray⟩,.string ⟨a2.toArray⟩] 24)).alloc (.cells #[.string ⟨b1.toArray⟩,.string ⟨b2.toArray⟩] 24)).alloc (.cells #[.string ⟨#[]⟩,.string ⟨#[]⟩] 24)) := (((Below.refl _ _).alloc (Nat.le_refl _) _).alloc (by simp) _).alloc (by simp;omega) _
 have hE1 : Fr (((w.alloc (.cells #[.string ⟨a1.toArray⟩,.string ⟨a2.toArray⟩] 24)).alloc (.cells #[.string ⟨b1.toArray⟩,.string ⟨b2.toArray⟩] 24)).alloc (.cells #[.string ⟨#[]⟩,.string ⟨#[]⟩] 24)) (w.heap.size + 1 + 1) #[.string ⟨#[]⟩,.string ⟨#[]⟩] 24 := Fr.new (by simp)
 have hc := combMinus_none a1 a2 b1 b2 (((w.alloc (.cells #[.string ⟨a1.toArray⟩,.string ⟨a2.toArray⟩] 24)).alloc (.cells #[.string ⟨b1.toArray⟩,.string ⟨b2.toArray⟩] 24)).alloc (.cells #[.string ⟨#[]⟩,.string ⟨#[]⟩] 24)) h
 have HB := Lib.hid (And.intro hbW hE1)
 clear h hbW hE1
 go_enter Tryz.func27,Tryz.ntmps27
 go_wp2_with fail
 refine hc.mono ?_
 rintro e w1 ⟨rfl,hb1⟩
 have hfi := finish_none w1
 unfold raNone at hfi ⊢
 have HB1 := Lib.hid hb1
 clear hc hb1
 go_wp2_with fail
 refine hfi.mono ?_
 rintro e w2 ⟨rfl,hb2⟩
 obtain ⟨p0,p1,z0,z1⟩ := ((HB.out.2.call HB1.out).call hb2).cells2
 have hbel := belowt (belowt HB.out.1 HB.out.1.size HB1.out) (by have := HB.out.1.size;have := HB1.out.size;omega) hb2
 clear hfi hb2
 go_wp2_with fail
 exact bodyPost_ret (v := noF 20) (by simp [results,Tryz.results27,go_sem,p0,p1]) rfl ⟨rfl,(hbel.setCell (by simp;omega) _).setCell (by simp;omega) _⟩
set_option maxRecDepth 100000 in
set_option maxHeartbeats 1000000 in
theorem fmul_some (a1 a2 b1 b2 : List UInt8) (x y : Rat) (w : World) (ha : rdF a1 a2 = some x) (hb : rdF b1 b2 = some y) :
 Calls Tryz.prog 28 #[.agg #[.string ⟨a1.toArray⟩,.string ⟨a2.toArray⟩],.agg #[.string ⟨b1.toArray⟩,.string ⟨b2.toArray⟩]] w fun e w' => e = .returned (outF (x * y)) ∧ Below w.heap.size w w' := by
 have hbW : Below w.heap.size w (((w.alloc (.cells #[.string ⟨a1.toArray⟩,.string ⟨a2.toArray⟩] 24)).alloc (.cells #[.string ⟨b1.toArray⟩,.string ⟨b2.toArray⟩] 24)).alloc (.cells #[.string ⟨#[]⟩,.string ⟨#[]⟩] 24)) := (((Below.refl _ _).alloc (Nat.le_refl _) _).alloc (by simp) _).alloc (by simp;omega) _
 have hE1 : Fr (((w.alloc (.cells #[.string ⟨a1.toArray⟩,.string ⟨a2.toArray⟩] 24)).alloc (.cells #[.string ⟨b1.toArray⟩,.string ⟨b2.toArray⟩] 24)).alloc (.cells #[.string ⟨#[]⟩,.string ⟨#[]⟩] 24)) (w.heap.size + 1 + 1) #[.string ⟨#[]⟩,.string ⟨#[]⟩] 24 := Fr.new (by simp)
 have hc := combTimes_some a1 a2 b1 b2 x y (((w.alloc (.cells #[.string ⟨a1.toArray⟩,.string ⟨a2.toArray⟩] 24)).alloc (.cells #[.string ⟨b1.toArray⟩,.string ⟨b2.toArray⟩] 24)).alloc (.cells #[.string ⟨#[]⟩,.string ⟨#[]⟩] 24)) ha hb
 have HF := Lib.hid (((rdF_fz ha).mul (rdF_fz hb)).mono (show 32 + 32 + 1 ≤ 1000000 by omega))
 obtain ⟨s,t,k,hsk⟩ := outF_open (x * y)
 have HS := Lib.hid hsk
 rw [hsk]
 have HB := Lib.hid (And.intro hbW hE1)
 clear ha hb hbW hE1 hsk
 go_enter Tryz.func28,Tryz.ntmps28
 go_wp2_with fail
 refine hc.mono ?_
 rintro e w1 ⟨v,rfl,hv,hb1⟩
 have hfi := finish_some v _ w1 hv HF.out
 rw [HS.out] at hfi
 obtain ⟨A1,n1,c1,k1,A2,n2,c2,k2,rfl,_,_⟩ := hv.open
 have HB1 := Lib.hid hb1
 clear hc hb1 hv
 go_wp2_with fail
 refine hfi.mono ?_
 rintro e w2 ⟨rfl,hb2⟩
 obtain ⟨p0,p1,z0,z1⟩ := ((HB.out.2.call HB1.out).call hb2).cells2
 have hbel := belowt (belowt HB.out.1 HB.out.1.size HB1.out) (by have := HB.out.1.size;have := HB1.out.size;omega) hb2
 clear hfi hb2
 go_wp2_with fail
 exact bodyPost_ret (v := .tuple #[.agg #[.string s,.string t],.int .i64 k]) (by simp [results,Tryz.results28,go_sem,p0,p1]) rfl ⟨rfl,(hbel.setCell (by simp;omega) _).setCell (by simp;omega) _⟩
set_option maxRecDepth 100000 in
set_option maxHeartbeats 1000000 in
theorem fmul_none (a1 a2 b1 b2 : List UInt8) (w : World) (h : rdF a1 a2 = none ∨ rdF b1 b2 = none) :
 Calls Tryz.prog 28 #[.agg #[.string ⟨a1.toArray⟩,.string ⟨a2.toArray⟩],.agg #[.string ⟨b1.toArray⟩,.string ⟨b2.toArray⟩]] w fun e w' => e = .returned (noF 20) ∧ Below w.heap.size w w' := by
 have hbW : Below w.heap.size w (((w.alloc (.cells #[.string ⟨a1.toArray⟩,.string ⟨a2.toArray⟩] 24)).alloc (.cells #[.string ⟨b1.toArray⟩,.string ⟨b2.toArray⟩] 24)).alloc (.cells #[.string ⟨#[]⟩,.string ⟨#[]⟩] 24)) := (((Below.refl _ _).alloc (Nat.le_refl _) _).alloc (by simp) _).alloc (by simp;omega) _
 have hE1 : Fr (((w.alloc (.cells #[.string ⟨a1.toArray⟩,.string ⟨a2.toArray⟩] 24)).alloc (.cells #[.string ⟨b1.toArray⟩,.string ⟨b2.toArray⟩] 24)).alloc (.cells #[.string ⟨#[]⟩,.string ⟨#[]⟩] 24)) (w.heap.size + 1 + 1) #[.string ⟨#[]⟩,.string ⟨#[]⟩] 24 := Fr.new (by simp)
 have hc := combTimes_none a1 a2 b1 b2 (((w.alloc (.cells #[.string ⟨a1.toArray⟩,.string ⟨a2.toArray⟩] 24)).alloc (.cells #[.string ⟨b1.toArray⟩,.string ⟨b2.toArray⟩] 24)).alloc (.cells #[.string ⟨#[]⟩,.string ⟨#[]⟩] 24)) h
 have HB := Lib.hid (And.intro hbW hE1)
 clear h hbW hE1
 go_enter Tryz.func28,Tryz.ntmps28
 go_wp2_with fail
 refine hc.mono ?_
 rintro e w1 ⟨rfl,hb1⟩
 have hfi := finish_none w1
 unfold raNone at hfi ⊢
 have HB1 := Lib.hid hb1
 clear hc hb1
 go_wp2_with fail
 refine hfi.mono ?_
 rintro e w2 ⟨rfl,hb2⟩
 obtain ⟨p0,p1,z0,z1⟩ := ((HB.out.2.call HB1.out).call hb2).cells2
 have hbel := belowt (belowt HB.out.1 HB.out.1.size HB1.out) (by have := HB.out.1.size;have := HB1.out.size;omega) hb2
 clear hfi hb2
 go_wp2_with fail
 exact bodyPost_ret (v := noF 20) (by simp [results,Tryz.results28,go_sem,p0,p1]) rfl ⟨rfl,(hbel.setCell (by simp;omega) _).setCell (by simp;omega) _⟩
set_option maxRecDepth 100000 in
set_option maxHeartbeats 1000000 in
theorem fcmp_some (a1 a2 b1 b2 : List UInt8) (x y : Rat) (w : World) (ha : rdF a1 a2 = some x) (hb : rdF b1 b2 = some y) :
 Calls Tryz.prog 17 #[.agg #[.string ⟨a1.toArray⟩,.string ⟨a2.toArray⟩],.agg #[.string ⟨b1.toArray⟩,.string ⟨b2.toArray⟩]] w fun e w' => e = .returned (.tuple #[.int .i64 (cmpQ x y),.int .i64 0]) ∧ Below w.heap.size w w' := by
 have hbW : Below w.heap.size w ((w.alloc (.cells #[.string ⟨a1.toArray⟩,.string ⟨a2.toArray⟩] 24)).alloc (.cells #[.string ⟨b1.toArray⟩,.string ⟨b2.toArray⟩] 24)) := ((Below.refl _ _).alloc (Nat.le_refl _) _).alloc (by simp) _
 have hc := combOrder_some a1 a2 b1 b2 x y ((w.alloc (.cells #[.string ⟨a1.toArray⟩,.string ⟨a2.toArray⟩] 24)).alloc (.cells #[.string ⟨b1.toArray⟩,.string ⟨b2.toArray⟩] 24)) ha hb
 have HB := Lib.hid hbW
 obtain ⟨C,hC⟩ : ∃ C,C = cmpQ x y := ⟨_,rfl⟩
 rw [← hC] at hc ⊢
 clear ha hb hbW hC
 go_enter Tryz.func17,Tryz.ntmps17
 go_wp2_with fail
 refine hc.mono ?_
 rintro e w1 ⟨rfl,hb1⟩
 have hbel := belowt HB.out HB.out.size hb1
 clear hc hb1
 go_wp2_with fail
 go_ret2
 exact ⟨rfl,hbel⟩
end Go.Proofs.YtlfgpmnjnpdkdaaGreatDoor
namespace Go.Proofs.YtlfgpmnjnpdkdaaGreatDoor
open Go.RowKit Vd
attribute [local go_sem ↓] Go.wp_at_zero Go.wp_at_succ
theorem int_wlen {n : Int} (h0 : -9223372036854775808 ≤ n) (h1 : n ≤ 9223372036854775807) : wlen B64 n.natAbs ≤ 1 := wlen_le_one two_le_B (by show n.natAbs < 18446744073709551616;omega)
set_option maxRecDepth 100000 in
set_option maxHeartbeats 1000000 in
theorem fof_some (n d : Int) (w : World) (hn0 : -9223372036854775808 ≤ n) (hn1 : n ≤ 9223372036854775807) (hd0 : -9223372036854775808 ≤ d) (hd1 : d ≤ 9223372036854775807) (hd : d ≠ 0) :
    Calls Tryz.prog 8 #[.int .i64 n,.int .i64 d] w fun e w' => e = .returned (outF (Rat.divInt n d)) ∧ Below w.heap.size w w' := by
 have h1 := fun W => numOf_any n W hn0 hn1
 have h2 := fun W => numOf_any d W hd0 hd1
 have hbW : Below w.heap.size w (w.alloc (.cells #[.string ⟨#[]⟩,.string ⟨#[]⟩] 24)) := (Below.refl _ _).alloc (Nat.le_refl _) _
 have hE1 : Fr (w.alloc (.cells #[.string ⟨#[]⟩,.string ⟨#[]⟩] 24)) w.heap.size #[.string ⟨#[]⟩,.string ⟨#[]⟩] 24 := Fr.new rfl
 have wn := int_wlen hn0 hn1
 have wd := int_wlen hd0 hd1
 have hF : Fz (Rat.divInt n d) 1000000 := (Fz.divInt hd wn wd).mono (by omega)
 obtain ⟨s,t,k,hsk⟩ := outF_open (Rat.divInt n d)
 rw [hsk]
 have HB := Lib.hid (And.intro hbW (And.intro hE1 (And.intro wn (And.intro wd (And.intro hF (And.intro hsk hd))))))
 clear hn0 hn1 hd0 hd1 hbW hE1 wn wd hF hsk
 go_enter Tryz.func8,Tryz.ntmps8
 go_wp2_with fail
 refine (h1 _).mono ?_
 rintro e w1 ⟨A1,n1,c1,k1,rfl,hv1,hb1⟩
 have HB1 := Lib.hid (And.intro hb1 hv1)
 clear h1 hb1 hv1
 go_wp2_with fail
 refine (h2 _).mono ?_
 rintro e w2 ⟨A2,n2,c2,k2,rfl,hv2,hb2⟩
 have hlo := lowest_any _ _ n d w2 (HB1.out.2.below hb2) hv2 (Nat.le_trans (Nat.add_le_add_right HB.out.2.2.1 2) (by unfold maxW;omega)) (Nat.le_trans (Nat.add_le_add_right HB.out.2.2.2.1 2) (by unfold maxW;omega)) HB.out.2.2.2.2.2.2
 have HB2 := Lib.hid hb2
 clear h2 hb2 hv2
 go_wp2_with fail
 refine hlo.mono ?_
 rintro e w3 ⟨v,rfl,hv,hb3⟩
 have hw := fwrite_any v _ w3 hv HB.out.2.2.2.2.1
 rw [HB.out.2.2.2.2.2.1] at hw
 obtain ⟨A3,n3,c3,k3,A4,n4,c4,k4,rfl,_,_⟩ := hv.open
 have HB3 := Lib.hid hb3
 clear hlo hb3 hv
 go_wp2_with fail
 refine hw.mono ?_
 rintro e w4 ⟨rfl,hb4⟩
 have hF1 := (((HB.out.2.1.call HB1.out.1).call HB2.out).call HB3.out).call hb4
 obtain ⟨p0,p1,z0,z1⟩ := hF1.cells2
 have s0 := HB.out.1.size
 have s1 := HB1.out.1.size
 have s2 := HB2.out.size
 have s3 := HB3.out.size
 have hbel := belowt (belowt (belowt (belowt HB.out.1 s0 HB1.out.1) (by omega) HB2.out) (by omega) HB3.out) (by omega) hb4
 have HZ := Lib.hid hbel
 clear hw hb4 hF1 s0 s1 s2 s3 hbel
 go_wp2_with fail
 exact bodyPost_ret (v := .tuple #[.agg #[.string s,.string t],.int .i64 k]) (by simp [results,Tryz.results8,go_sem,p0,p1]) rfl ⟨rfl,(HZ.out.setCell (by simp) _).setCell (by simp) _⟩
set_option maxRecDepth 100000 in
set_option maxHeartbeats 1000000 in
theorem fof_zero (n : Int) (w : World) :
    Calls Tryz.prog 8 #[.int .i64 n,.int .i64 0] w fun e w' => e = .returned (noF 7) ∧ Below w.heap.size w w' := by
 have hf0 := fr_built0
 go_enter Tryz.func8,Tryz.ntmps8
 go_wp2_with fail
 exact bodyPost_ret (v := noF 7) (by simp [results,Tryz.results8,go_sem]) rfl ⟨rfl,by first | exact (Below.refl _ _).alloc (Nat.le_refl _) _ | exact (((Below.refl _ _).alloc (Nat.le_refl _) _).setCell (by simp) _).setCell (by simp) _⟩
set_option maxRecDepth 100000 in
set_option maxHeartbeats 1000000 in
theorem fcheck_none (a1 a2 : List UInt8) (w : World) (ha : rdF a1 a2 = none) :
    Calls Tryz.prog 15 #[.agg #[.string ⟨a1.toArray⟩,.string ⟨a2.toArray⟩]] w fun e w' => e = .returned (.int .i64 20) ∧ Below w.heap.size w w' := by
 have hbW : Below w.heap.size w (w.alloc (.cells #[.string ⟨a1.toArray⟩,.string ⟨a2.toArray⟩] 24)) := (Below.refl _ _).alloc (Nat.le_refl _) _
 have hc := fread_none a1 a2 (w.alloc (.cells #[.string ⟨a1.toArray⟩,.string ⟨a2.toArray⟩] 24)) ha
 unfold raNone at hc
 have HB := Lib.hid hbW
 clear ha hbW
 go_enter Tryz.func15,Tryz.ntmps15
 go_wp2_with fail
 refine hc.mono ?_
 rintro e w1 ⟨rfl,hb1⟩
 have hbel := Lib.hid (belowt HB.out HB.out.size hb1)
 clear hc hb1
 go_wp2_with fail
 go_ret
 exact ⟨rfl,hbel.out.alloc hbel.out.size _⟩
end Go.Proofs.YtlfgpmnjnpdkdaaGreatDoor
namespace Go.Proofs.YtlfgpmnjnpdkdaaGreatDoor
open Go.RowKit Vd
attribute [local go_sem ↓] Go.wp_at_zero Go.wp_at_succ
theorem Fz.abs {x : Rat} {K : Nat} (h : Fz x K) : Fz (mkRat (x.num.natAbs : Int) x.den) K := by
 have hm := mkRat_coprime (n := (x.num.natAbs : Int)) x.den_pos (by simpa using x.reduced)
 exact ⟨by rw [hm.1,Int.natAbs_natCast];exact h.1,by rw [hm.2];exact h.2⟩
set_option maxRecDepth 100000 in
set_option maxHeartbeats 1000000 in
theorem appNeg_some (a1 a2 : List UInt8) (x : Rat) (w : World) (ha : rdF a1 a2 = some x) :
    Calls Tryz.prog 83 #[.agg #[.string ⟨a1.toArray⟩,.string ⟨a2.toArray⟩],.func (.func 84) #[] #[]] w fun e w' => ∃ v,e = .returned (.tuple #[v,.int .i64 0]) ∧ RaV w' v (-x) ∧ Below w.heap.size w w' := by
 have hbW : Below w.heap.size w ((w.alloc (.cells #[.string ⟨a1.toArray⟩,.string ⟨a2.toArray⟩] 24)).alloc (.cells #[.slice none 0 0,.bool false,.slice none 0 0,.bool false] 82)) := ((Below.refl _ _).alloc (Nat.le_refl _) _).alloc (by simp) _
 have hE1 : BoxR ((w.alloc (.cells #[.string ⟨a1.toArray⟩,.string ⟨a2.toArray⟩] 24)).alloc (.cells #[.slice none 0 0,.bool false,.slice none 0 0,.bool false] 82)) (w.heap.size + 1) := Fr.boxR (Fr.new (by simp))
 have hc := fread_some a1 a2 x ((w.alloc (.cells #[.string ⟨a1.toArray⟩,.string ⟨a2.toArray⟩] 24)).alloc (.cells #[.slice none 0 0,.bool false,.slice none 0 0,.bool false] 82)) ha
 have HB := Lib.hid (And.intro hbW hE1)
 clear ha hbW hE1
 go_enter Tryz.func83,Tryz.ntmps83
 go_wp2_with fail
 refine hc.mono ?_
 rintro e w1 ⟨v,rfl,hv,hb1⟩
 obtain ⟨A1,n1,c1,k1,A2,n2,c2,k2,rfl,_,_⟩ := hv.open
 have hop := raneg_any _ x _ (hv.below (w' := w1.alloc (.cells #[.slice A1 n1 c1,.bool k1,.slice A2 n2 c2,.bool k2] 82)) ((Below.refl _ _).alloc (Nat.le_refl _) _))
 have HB1 := Lib.hid hb1
 clear hc hb1 hv
 go_wp2_with fail
 refine hop.mono ?_
 rintro e w2 ⟨r,rfl,hr,hb2⟩
 obtain ⟨A3,n3,c3,k3,A4,n4,c4,k4,rfl,g1,g2⟩ := hr.open
 have hB2 := (HB.out.2.call HB1.out).old.call hb2
 obtain ⟨⟨q0,y0⟩,⟨q1,y1⟩,⟨q2,y2⟩,⟨q3,y3⟩,y4,y5,y6,y7⟩ := hB2.facts
 have hbel := belowt ((belowt HB.out.1 HB.out.1.size HB1.out).alloc (by have := HB.out.1.size;have := HB1.out.size;omega) (.cells #[.slice A1 n1 c1,.bool k1,.slice A2 n2 c2,.bool k2] 82)) (by have := HB.out.1.size;have := HB1.out.size;simp;omega) hb2
 have HZ := Lib.hid (And.intro hB2 (And.intro g1 (And.intro g2 hbel)))
 clear hop hb2 hr hB2 g1 g2 hbel
 go_wp2_with fail
 exact bodyPost_ret (v := .tuple #[.agg #[.slice A3 n3 c3,.bool k3,.slice A4 n4 c4,.bool k4],.int .i64 0]) (by simp [results,Tryz.results83,go_sem,y0,y1,y2,y3]) rfl ⟨_,rfl,RaV.fin HZ.out.1 HZ.out.2.1 HZ.out.2.2.1,below_set4 HZ.out.2.2.2 (by omega)⟩
set_option maxRecDepth 100000 in
set_option maxHeartbeats 1000000 in
theorem appNeg_none (a1 a2 : List UInt8) (w : World) (ha : rdF a1 a2 = none) :
    Calls Tryz.prog 83 #[.agg #[.string ⟨a1.toArray⟩,.string ⟨a2.toArray⟩],.func (.func 84) #[] #[]] w fun e w' => e = .returned (.tuple #[raNone,.int .i64 20]) ∧ Below w.heap.size w w' := by
 have hbW : Below w.heap.size w ((w.alloc (.cells #[.string ⟨a1.toArray⟩,.string ⟨a2.toArray⟩] 24)).alloc (.cells #[.slice none 0 0,.bool false,.slice none 0 0,.bool false] 82)) := ((Below.refl _ _).alloc (Nat.le_refl _) _).alloc (by simp) _
 have hE1 : Fr ((w.alloc (.cells #[.string ⟨a1.toArray⟩,.string ⟨a2.toArray⟩] 24)).alloc (.cells #[.slice none 0 0,.bool false,.slice none 0 0,.bool false] 82)) (w.heap.size + 1) #[.slice none 0 0,.bool false,.slice none 0 0,.bool false] 82 := Fr.new (by simp)
 have hc := fread_none a1 a2 ((w.alloc (.cells #[.string ⟨a1.toArray⟩,.string ⟨a2.toArray⟩] 24)).alloc (.cells #[.slice none 0 0,.bool false,.slice none 0 0,.bool false] 82)) ha
 unfold raNone at hc ⊢
 have HB := Lib.hid (And.intro hbW hE1)
 clear ha hbW hE1
 go_enter Tryz.func83,Tryz.ntmps83
 go_wp2_with fail
 refine hc.mono ?_
 rintro e w1 ⟨rfl,hb1⟩
 have hB2 := HB.out.2.call hb1
 obtain ⟨p0,p1,p2,p3,z0,z1,z2,z3⟩ := hB2.cells4a
 have hbel := (belowt HB.out.1 HB.out.1.size hb1).alloc (by have := HB.out.1.size;have := hb1.size;omega) (.cells #[.slice none 0 0,.bool false,.slice none 0 0,.bool false] 82)
 have HZ := Lib.hid hbel
 clear hc hb1 hB2 hbel
 go_wp2_with fail
 exact bodyPost_ret (v := .tuple #[.agg #[.slice none 0 0,.bool false,.slice none 0 0,.bool false],.int .i64 20]) (by simp [results,Tryz.results83,go_sem,p0,p1,p2,p3]) rfl ⟨rfl,below_set4 HZ.out (by omega)⟩
set_option maxRecDepth 100000 in
set_option maxHeartbeats 1000000 in
theorem appAbs_some (a1 a2 : List UInt8) (x : Rat) (w : World) (ha : rdF a1 a2 = some x) :
    Calls Tryz.prog 83 #[.agg #[.string ⟨a1.toArray⟩,.string ⟨a2.toArray⟩],.func (.func 86) #[] #[]] w fun e w' => ∃ v,e = .returned (.tuple #[v,.int .i64 0]) ∧ RaV w' v (mkRat (x.num.natAbs : Int) x.den) ∧ Below w.heap.size w w' := by
 have hbW : Below w.heap.size w ((w.alloc (.cells #[.string ⟨a1.toArray⟩,.string ⟨a2.toArray⟩] 24)).alloc (.cells #[.slice none 0 0,.bool false,.slice none 0 0,.bool false] 82)) := ((Below.refl _ _).alloc (Nat.le_refl _) _).alloc (by simp) _
 have hE1 : BoxR ((w.alloc (.cells #[.string ⟨a1.toArray⟩,.string ⟨a2.toArray⟩] 24)).alloc (.cells #[.slice none 0 0,.bool false,.slice none 0 0,.bool false] 82)) (w.heap.size + 1) := Fr.boxR (Fr.new (by simp))
 have hc := fread_some a1 a2 x ((w.alloc (.cells #[.string ⟨a1.toArray⟩,.string ⟨a2.toArray⟩] 24)).alloc (.cells #[.slice none 0 0,.bool false,.slice none 0 0,.bool false] 82)) ha
 have HB := Lib.hid (And.intro hbW hE1)
 clear ha hbW hE1
 go_enter Tryz.func83,Tryz.ntmps83
 go_wp2_with fail
 refine hc.mono ?_
 rintro e w1 ⟨v,rfl,hv,hb1⟩
 obtain ⟨A1,n1,c1,k1,A2,n2,c2,k2,rfl,_,_⟩ := hv.open
 have hop := raabs_any _ x _ (hv.below (w' := w1.alloc (.cells #[.slice A1 n1 c1,.bool k1,.slice A2 n2 c2,.bool k2] 82)) ((Below.refl _ _).alloc (Nat.le_refl _) _))
 have HB1 := Lib.hid hb1
 clear hc hb1 hv
 go_wp2_with fail
 refine hop.mono ?_
 rintro e w2 ⟨r,rfl,hr,hb2⟩
 obtain ⟨A3,n3,c3,k3,A4,n4,c4,k4,rfl,g1,g2⟩ := hr.open
 have hB2 := (HB.out.2.call HB1.out).old.call hb2
 obtain ⟨⟨q0,y0⟩,⟨q1,y1⟩,⟨q2,y2⟩,⟨q3,y3⟩,y4,y5,y6,y7⟩ := hB2.facts
 have hbel := belowt ((belowt HB.out.1 HB.out.1.size HB1.out).alloc (by have := HB.out.1.size;have := HB1.out.size;omega) (.cells #[.slice A1 n1 c1,.bool k1,.slice A2 n2 c2,.bool k2] 82)) (by have := HB.out.1.size;have := HB1.out.size;simp;omega) hb2
 have HZ := Lib.hid (And.intro hB2 (And.intro g1 (And.intro g2 hbel)))
 clear hop hb2 hr hB2 g1 g2 hbel
 go_wp2_with fail
 exact bodyPost_ret (v := .tuple #[.agg #[.slice A3 n3 c3,.bool k3,.slice A4 n4 c4,.bool k4],.int .i64 0]) (by simp [results,Tryz.results83,go_sem,y0,y1,y2,y3]) rfl ⟨_,rfl,RaV.fin HZ.out.1 HZ.out.2.1 HZ.out.2.2.1,below_set4 HZ.out.2.2.2 (by omega)⟩
set_option maxRecDepth 100000 in
set_option maxHeartbeats 1000000 in
theorem appAbs_none (a1 a2 : List UInt8) (w : World) (ha : rdF a1 a2 = none) :
    Calls Tryz.prog 83 #[.agg #[.string ⟨a1.toArray⟩,.string ⟨a2.toArray⟩],.func (.func 86) #[] #[]] w fun e w' => e = .returned (.tuple #[raNone,.int .i64 20]) ∧ Below w.heap.size w w' := by
 have hbW : Below w.heap.size w ((w.alloc (.cells #[.string ⟨a1.toArray⟩,.string ⟨a2.toArray⟩] 24)).alloc (.cells #[.slice none 0 0,.bool false,.slice none 0 0,.bool false] 82)) := ((Below.refl _ _).alloc (Nat.le_refl _) _).alloc (by simp) _
 have hE1 : Fr ((w.alloc (.cells #[.string ⟨a1.toArray⟩,.string ⟨a2.toArray⟩] 24)).alloc (.cells #[.slice none 0 0,.bool false,.slice none 0 0,.bool false] 82)) (w.heap.size + 1) #[.slice none 0 0,.bool false,.slice none 0 0,.bool false] 82 := Fr.new (by simp)
 have hc := fread_none a1 a2 ((w.alloc (.cells #[.string ⟨a1.toArray⟩,.string ⟨a2.toArray⟩] 24)).alloc (.cells #[.slice none 0 0,.bool false,.slice none 0 0,.bool false] 82)) ha
 unfold raNone at hc ⊢
 have HB := Lib.hid (And.intro hbW hE1)
 clear ha hbW hE1
 go_enter Tryz.func83,Tryz.ntmps83
 go_wp2_with fail
 refine hc.mono ?_
 rintro e w1 ⟨rfl,hb1⟩
 have hB2 := HB.out.2.call hb1
 obtain ⟨p0,p1,p2,p3,z0,z1,z2,z3⟩ := hB2.cells4a
 have hbel := (belowt HB.out.1 HB.out.1.size hb1).alloc (by have := HB.out.1.size;have := hb1.size;omega) (.cells #[.slice none 0 0,.bool false,.slice none 0 0,.bool false] 82)
 have HZ := Lib.hid hbel
 clear hc hb1 hB2 hbel
 go_wp2_with fail
 exact bodyPost_ret (v := .tuple #[.agg #[.slice none 0 0,.bool false,.slice none 0 0,.bool false],.int .i64 20]) (by simp [results,Tryz.results83,go_sem,p0,p1,p2,p3]) rfl ⟨rfl,below_set4 HZ.out (by omega)⟩
set_option maxRecDepth 100000 in
set_option maxHeartbeats 1000000 in
theorem fneg_some (a1 a2 : List UInt8) (x : Rat) (w : World) (ha : rdF a1 a2 = some x) :
    Calls Tryz.prog 34 #[.agg #[.string ⟨a1.toArray⟩,.string ⟨a2.toArray⟩]] w fun e w' => e = .returned (outF (-x)) ∧ Below w.heap.size w w' := by
 have hbW : Below w.heap.size w ((w.alloc (.cells #[.string ⟨a1.toArray⟩,.string ⟨a2.toArray⟩] 24)).alloc (.cells #[.string ⟨#[]⟩,.string ⟨#[]⟩] 24)) := ((Below.refl _ _).alloc (Nat.le_refl _) _).alloc (by simp) _
 have hE1 : Fr ((w.alloc (.cells #[.string ⟨a1.toArray⟩,.string ⟨a2.toArray⟩] 24)).alloc (.cells #[.string ⟨#[]⟩,.string ⟨#[]⟩] 24)) (w.heap.size + 1) #[.string ⟨#[]⟩,.string ⟨#[]⟩] 24 := Fr.new (by simp)
 have hc := appNeg_some a1 a2 x ((w.alloc (.cells #[.string ⟨a1.toArray⟩,.string ⟨a2.toArray⟩] 24)).alloc (.cells #[.string ⟨#[]⟩,.string ⟨#[]⟩] 24)) ha
 have HF := Lib.hid ((rdF_fz ha).neg.mono (show 32 ≤ 1000000 by omega))
 obtain ⟨s,t,k,hsk⟩ := outF_open (-x)
 have HS := Lib.hid hsk
 rw [hsk]
 have HB := Lib.hid (And.intro hbW hE1)
 clear ha hbW hE1 hsk
 go_enter Tryz.func34,Tryz.ntmps34
 go_wp2_with fail
 refine hc.mono ?_
 rintro e w1 ⟨v,rfl,hv,hb1⟩
 have hfi := finish_some v _ w1 hv HF.out
 rw [HS.out] at hfi
 obtain ⟨A1,n1,c1,k1,A2,n2,c2,k2,rfl,_,_⟩ := hv.open
 have HB1 := Lib.hid hb1
 clear hc hb1 hv
 go_wp2_with fail
 refine hfi.mono ?_
 rintro e w2 ⟨rfl,hb2⟩
 obtain ⟨p0,p1,z0,z1⟩ := ((HB.out.2.call HB1.out).call hb2).cells2
 have hbel := belowt (belowt HB.out.1 HB.out.1.size HB1.out) (by have := HB.out.1.size;have := HB1.out.size;omega) hb2
 clear hfi hb2
 go_wp2_with fail
 exact bodyPost_ret (v := .tuple #[.agg #[.string s,.string t],.int .i64 k]) (by simp [results,Tryz.results34,go_sem,p0,p1]) rfl ⟨rfl,(hbel.setCell (by simp) _).setCell (by simp) _⟩
set_option maxRecDepth 100000 in
set_option maxHeartbeats 1000000 in
theorem fneg_none (a1 a2 : List UInt8) (w : World) (h : rdF a1 a2 = none) :
    Calls Tryz.prog 34 #[.agg #[.string ⟨a1.toArray⟩,.string ⟨a2.toArray⟩]] w fun e w' => e = .returned (noF 20) ∧ Below w.heap.size w w' := by
 have hbW : Below w.heap.size w ((w.alloc (.cells #[.string ⟨a1.toArray⟩,.string ⟨a2.toArray⟩] 24)).alloc (.cells #[.string ⟨#[]⟩,.string ⟨#[]⟩] 24)) := ((Below.refl _ _).alloc (Nat.le_refl _) _).alloc (by simp) _
 have hE1 : Fr ((w.alloc (.cells #[.string ⟨a1.toArray⟩,.string ⟨a2.toArray⟩] 24)).alloc (.cells #[.string ⟨#[]⟩,.string ⟨#[]⟩] 24)) (w.heap.size + 1) #[.string ⟨#[]⟩,.string ⟨#[]⟩] 24 := Fr.new (by simp)
 have hc := appNeg_none a1 a2 ((w.alloc (.cells #[.string ⟨a1.toArray⟩,.string ⟨a2.toArray⟩] 24)).alloc (.cells #[.string ⟨#[]⟩,.string ⟨#[]⟩] 24)) h
 have HB := Lib.hid (And.intro hbW hE1)
 clear h hbW hE1
 go_enter Tryz.func34,Tryz.ntmps34
 go_wp2_with fail
 refine hc.mono ?_
 rintro e w1 ⟨rfl,hb1⟩
 have hfi := finish_none w1
 unfold raNone at hfi ⊢
 have HB1 := Lib.hid hb1
 clear hc hb1
 go_wp2_with fail
 refine hfi.mono ?_
 rintro e w2 ⟨rfl,hb2⟩
 obtain ⟨p0,p1,z0,z1⟩ := ((HB.out.2.call HB1.out).call hb2).cells2
 have hbel := belowt (belowt HB.out.1 HB.out.1.size HB1.out) (by have := HB.out.1.size;have := HB1.out.size;omega) hb2
 clear hfi hb2
 go_wp2_with fail
 exact bodyPost_ret (v := noF 20) (by simp [results,Tryz.results34,go_sem,p0,p1]) rfl ⟨rfl,(hbel.setCell (by simp) _).setCell (by simp) _⟩
set_option maxRecDepth 100000 in
set_option maxHeartbeats 1000000 in
theorem fabs_some (a1 a2 : List UInt8) (x : Rat) (w : World) (ha : rdF a1 a2 = some x) :
    Calls Tryz.prog 36 #[.agg #[.string ⟨a1.toArray⟩,.string ⟨a2.toArray⟩]] w fun e w' => e = .returned (outF (mkRat (x.num.natAbs : Int) x.den)) ∧ Below w.heap.size w w' := by
 have hbW : Below w.heap.size w ((w.alloc (.cells #[.string ⟨a1.toArray⟩,.string ⟨a2.toArray⟩] 24)).alloc (.cells #[.string ⟨#[]⟩,.string ⟨#[]⟩] 24)) := ((Below.refl _ _).alloc (Nat.le_refl _) _).alloc (by simp) _
 have hE1 : Fr ((w.alloc (.cells #[.string ⟨a1.toArray⟩,.string ⟨a2.toArray⟩] 24)).alloc (.cells #[.string ⟨#[]⟩,.string ⟨#[]⟩] 24)) (w.heap.size + 1) #[.string ⟨#[]⟩,.string ⟨#[]⟩] 24 := Fr.new (by simp)
 have hc := appAbs_some a1 a2 x ((w.alloc (.cells #[.string ⟨a1.toArray⟩,.string ⟨a2.toArray⟩] 24)).alloc (.cells #[.string ⟨#[]⟩,.string ⟨#[]⟩] 24)) ha
 have HF := Lib.hid ((rdF_fz ha).abs.mono (show 32 ≤ 1000000 by omega))
 obtain ⟨s,t,k,hsk⟩ := outF_open (mkRat (x.num.natAbs : Int) x.den)
 have HS := Lib.hid hsk
 rw [hsk]
 have HB := Lib.hid (And.intro hbW hE1)
 clear ha hbW hE1 hsk
 go_enter Tryz.func36,Tryz.ntmps36
 go_wp2_with fail
 refine hc.mono ?_
 rintro e w1 ⟨v,rfl,hv,hb1⟩
 have hfi := finish_some v _ w1 hv HF.out
 rw [HS.out] at hfi
 obtain ⟨A1,n1,c1,k1,A2,n2,c2,k2,rfl,_,_⟩ := hv.open
 have HB1 := Lib.hid hb1
 clear hc hb1 hv
 go_wp2_with fail
 refine hfi.mono ?_
 rintro e w2 ⟨rfl,hb2⟩
 obtain ⟨p0,p1,z0,z1⟩ := ((HB.out.2.call HB1.out).call hb2).cells2
 have hbel := belowt (belowt HB.out.1 HB.out.1.size HB1.out) (by have := HB.out.1.size;have := HB1.out.size;omega) hb2
 clear hfi hb2
 go_wp2_with fail
 exact bodyPost_ret (v := .tuple #[.agg #[.string s,.string t],.int .i64 k]) (by simp [results,Tryz.results36,go_sem,p0,p1]) rfl ⟨rfl,(hbel.setCell (by simp) _).setCell (by simp) _⟩
set_option maxRecDepth 100000 in
set_option maxHeartbeats 1000000 in
theorem fabs_none (a1 a2 : List UInt8) (w : World) (h : rdF a1 a2 = none) :
    Calls Tryz.prog 36 #[.agg #[.string ⟨a1.toArray⟩,.string ⟨a2.toArray⟩]] w fun e w' => e = .returned (noF 20) ∧ Below w.heap.size w w' := by
 have hbW : Below w.heap.size w ((w.alloc (.cells #[.string ⟨a1.toArray⟩,.string ⟨a2.toArray⟩] 24)).alloc (.cells #[.string ⟨#[]⟩,.string ⟨#[]⟩] 24)) := ((Below.refl _ _).alloc (Nat.le_refl _) _).alloc (by simp) _
 have hE1 : Fr ((w.alloc (.cells #[.string ⟨a1.toArray⟩,.string ⟨a2.toArray⟩] 24)).alloc (.cells #[.string ⟨#[]⟩,.string ⟨#[]⟩] 24)) (w.heap.size + 1) #[.string ⟨#[]⟩,.string ⟨#[]⟩] 24 := Fr.new (by simp)
 have hc := appAbs_none a1 a2 ((w.alloc (.cells #[.string ⟨a1.toArray⟩,.string ⟨a2.toArray⟩] 24)).alloc (.cells #[.string ⟨#[]⟩,.string ⟨#[]⟩] 24)) h
 have HB := Lib.hid (And.intro hbW hE1)
 clear h hbW hE1
 go_enter Tryz.func36,Tryz.ntmps36
 go_wp2_with fail
 refine hc.mono ?_
 rintro e w1 ⟨rfl,hb1⟩
 have hfi := finish_none w1
 unfold raNone at hfi ⊢
 have HB1 := Lib.hid hb1
 clear hc hb1
 go_wp2_with fail
 refine hfi.mono ?_
 rintro e w2 ⟨rfl,hb2⟩
 obtain ⟨p0,p1,z0,z1⟩ := ((HB.out.2.call HB1.out).call hb2).cells2
 have hbel := belowt (belowt HB.out.1 HB.out.1.size HB1.out) (by have := HB.out.1.size;have := HB1.out.size;omega) hb2
 clear hfi hb2
 go_wp2_with fail
 exact bodyPost_ret (v := noF 20) (by simp [results,Tryz.results36,go_sem,p0,p1]) rfl ⟨rfl,(hbel.setCell (by simp) _).setCell (by simp) _⟩
end Go.Proofs.YtlfgpmnjnpdkdaaGreatDoor
namespace Go.Proofs.YtlfgpmnjnpdkdaaGreatDoor
open Go.RowKit Vd
attribute [local go_sem ↓] Go.wp_at_zero Go.wp_at_succ
set_option maxRecDepth 100000 in
set_option maxHeartbeats 1000000 in
theorem rafloor_any (v1 : Value) (x : Rat) (K : Nat) (w : World) (h1 : RaV w v1 x) (hx : Fz x K) (hK : K + 2 ≤ maxW) :
    Calls Tryz.prog 93 #[v1] w fun e w' => ∃ (A : Option Addr) (n c : Nat) (k : Bool),e = .returned (.agg #[.slice A n c,.bool k]) ∧ SgV w' (.agg #[.slice A n c,.bool k]) (x.num / (x.den : Int)) ∧ Below w.heap.size w w' := by
 obtain ⟨A1,n1,c1,k1,A2,n2,c2,k2,rfl,hv1,hv2⟩ := h1.open
 have hbW : Below w.heap.size w ((w.alloc (.cells #[.slice A1 n1 c1,.bool k1,.slice A2 n2 c2,.bool k2] 82)).alloc (.cells #[.slice none 0 0,.bool false] 80)) := ((Below.refl _ _).alloc (Nat.le_refl _) _).alloc (by simp) _
 have hE1 : BoxT ((w.alloc (.cells #[.slice A1 n1 c1,.bool k1,.slice A2 n2 c2,.bool k2] 82)).alloc (.cells #[.slice none 0 0,.bool false] 80)) (w.heap.size + 1) := (Fr.new (by simp)).boxT
 have ho := over_any _ _ x.num (x.den : Int) ((w.alloc (.cells #[.slice A1 n1 c1,.bool k1,.slice A2 n2 c2,.bool k2] 82)).alloc (.cells #[.slice none 0 0,.bool false] 80)) (hv1.below hbW) (hv2.below hbW) (Nat.le_trans (Nat.add_le_add_right hx.1 2) hK) (Nat.le_trans (Nat.add_le_add_right (fz_den hx) 2) hK) (by have := x.den_pos;omega)
 have HB := Lib.hid (And.intro hbW hE1)
 clear h1 hv1 hv2 hx hK hbW hE1
 go_enter Tryz.func93,Tryz.ntmps93
 go_wp2_with fail
 refine ho.mono ?_
 rintro e w1 ⟨x1,x2,rfl,hq,hr,hb⟩
 obtain ⟨A,n,c,k,rfl⟩ := hq.open
 obtain ⟨A',n',c',k',rfl⟩ := hr.open
 have hB1 := HB.out.2.call hb
 have hB1' := hB1
 obtain ⟨_,_,_,_,hF1⟩ := hB1'
 obtain ⟨c0,c1,z0,z1⟩ := hF1.cells2b
 have HV := Lib.hid (And.intro hq (And.intro hb hB1))
 clear hq hr hb ho hB1 hF1
 go_wp2_with fail
 obtain ⟨hq,hb,hB1⟩ := HV.out
 have hb1 := HB.out.1.trans (hb.mono HB.out.1.size)
 exact bodyPost_ret (v := .agg #[.slice A n c,.bool k]) (by simp [results,Tryz.results93,go_sem,c0,c1]) rfl ⟨A,n,c,k,rfl,hB1.old.old.sg _ _ _ _ hq.old.old,(((hb1.alloc hb1.size _).alloc (by simp;have := hb1.size;omega) _).setCell (by simp) _).setCell (by simp) _⟩
set_option maxRecDepth 100000 in
set_option maxHeartbeats 1000000 in
theorem appFloor_some (a1 a2 : List UInt8) (x : Rat) (w : World) (ha : rdF a1 a2 = some x) :
    Calls Tryz.prog 92 #[.agg #[.string ⟨a1.toArray⟩,.string ⟨a2.toArray⟩],.func (.func 93) #[] #[]] w fun e w' => ∃ (A : Option Addr) (n c : Nat) (k : Bool),e = .returned (.tuple #[.agg #[.slice A n c,.bool k],.int .i64 0]) ∧ SgV w' (.agg #[.slice A n c,.bool k]) (x.num / (x.den : Int)) ∧ Below w.heap.size w w' := by
 have hbW : Below w.heap.size w ((w.alloc (.cells #[.string ⟨a1.toArray⟩,.string ⟨a2.toArray⟩] 24)).alloc (.cells #[.slice none 0 0,.bool false] 80)) := ((Below.refl _ _).alloc (Nat.le_refl _) _).alloc (by simp) _
 have hE1 : BoxT ((w.alloc (.cells #[.string ⟨a1.toArray⟩,.string ⟨a2.toArray⟩] 24)).alloc (.cells #[.slice none 0 0,.bool false] 80)) (w.heap.size + 1) := (Fr.new (by simp)).boxT
 have hc := fread_some a1 a2 x ((w.alloc (.cells #[.string ⟨a1.toArray⟩,.string ⟨a2.toArray⟩] 24)).alloc (.cells #[.slice none 0 0,.bool false] 80)) ha
 have HB := Lib.hid (And.intro hbW (And.intro hE1 (rdF_fz ha)))
 clear ha hbW hE1
 go_enter Tryz.func92,Tryz.ntmps92
 go_wp2_with fail
 refine hc.mono ?_
 rintro e w1 ⟨v,rfl,hv,hb1⟩
 obtain ⟨A1,n1,c1,k1,A2,n2,c2,k2,rfl,_,_⟩ := hv.open
 have hop := rafloor_any _ x 32 _ (hv.below (w' := w1.alloc (.cells #[.slice A1 n1 c1,.bool k1,.slice A2 n2 c2,.bool k2] 82)) ((Below.refl _ _).alloc (Nat.le_refl _) _)) HB.out.2.2 (by unfold maxW;omega)
 have HB1 := Lib.hid hb1
 clear hc hb1 hv
 go_wp2_with fail
 refine hop.mono ?_
 rintro e w2 ⟨A3,n3,c3,k3,rfl,hr,hb2⟩
 have hB2 := (HB.out.2.1.call HB1.out).old.call hb2
 obtain ⟨⟨q0,y0⟩,⟨q1,y1⟩,y2,y3⟩ := hB2.facts
 have hbel := belowt ((belowt HB.out.1 HB.out.1.size HB1.out).alloc (by have := HB.out.1.size;have := HB1.out.size;omega) (.cells #[.slice A1 n1 c1,.bool k1,.slice A2 n2 c2,.bool k2] 82)) (by have := HB.out.1.size;have := HB1.out.size;simp;omega) hb2
 have HZ := Lib.hid (And.intro hB2 (And.intro hr hbel))
 clear hop hb2 hr hB2 hbel
 go_wp2_with fail
 exact bodyPost_ret (v := .tuple #[.agg #[.slice A3 n3 c3,.bool k3],.int .i64 0]) (by simp [results,Tryz.results92,go_sem,y0,y1]) rfl ⟨_,_,_,_,rfl,HZ.out.1.sg _ _ _ _ HZ.out.2.1,below_set2 HZ.out.2.2 (by omega)⟩
set_option maxRecDepth 100000 in
set_option maxHeartbeats 1000000 in
theorem ffloor_some (a1 a2 : List UInt8) (x : Rat) (w : World) (ha : rdF a1 a2 = some x) :
    Calls Tryz.prog 44 #[.agg #[.string ⟨a1.toArray⟩,.string ⟨a2.toArray⟩]] w fun e w' => e = .returned (outV x.floor) ∧ Below w.heap.size w w' := by
 have hbW : Below w.heap.size w (w.alloc (.cells #[.string ⟨a1.toArray⟩,.string ⟨a2.toArray⟩] 24)) := (Below.refl _ _).alloc (Nat.le_refl _) _
 have hc := appFloor_some a1 a2 x (w.alloc (.cells #[.string ⟨a1.toArray⟩,.string ⟨a2.toArray⟩] 24)) ha
 have hle : wlen B64 (x.num / (x.den : Int)).natAbs ≤ 1000000 := by
  have h1 := (rd_some (rdF_some ha).1).2
  exact Nat.le_trans (small_wlen (div_small h1 (by have := x.den_pos;omega))) (by omega)
 obtain ⟨s,k,hsk⟩ := outV_open (x.num / (x.den : Int))
 rw [Rat.floor_def,hsk]
 have HB := Lib.hid (And.intro hbW (And.intro hle hsk))
 clear ha hbW hle hsk
 go_enter Tryz.func44,Tryz.ntmps44
 go_wp2_with fail
 refine hc.mono ?_
 rintro e w1 ⟨A1,n1,c1,k1,rfl,hv,hb1⟩
 have hw := fwriteW_any _ _ _ (hv.below (w' := w1.alloc (.cells #[.slice A1 n1 c1,.bool k1] 80)) ((Below.refl _ _).alloc (Nat.le_refl _) _)) HB.out.2.1
 rw [HB.out.2.2] at hw
 have HB1 := Lib.hid hb1
 clear hc hb1 hv
 go_wp2_with fail
 refine hw.mono ?_
 rintro e w2 ⟨rfl,hb2⟩
 have hbel := belowt ((belowt HB.out.1 HB.out.1.size HB1.out).alloc (by have := HB.out.1.size;have := HB1.out.size;omega) (.cells #[.slice A1 n1 c1,.bool k1] 80)) (by have := HB.out.1.size;have := HB1.out.size;simp;omega) hb2
 have HZ := Lib.hid hbel
 clear hw hb2 hbel
 go_wp2_with fail
 go_ret2
 exact ⟨rfl,HZ.out⟩
end Go.Proofs.YtlfgpmnjnpdkdaaGreatDoor
