/- Contracts: package frac: Of, Make, Check, Min, Max. -/
import Derived.Test.YtdobcaabebepaaaGreatDoorFraK
namespace Go.Proofs.YtdobcaabebepaaaGreatDoor
open Go.RowKit Vd
attribute [local go_sem ↓] Go.wp_at_zero Go.wp_at_succ

theorem int_wlen {n : Int} (h0 : -9223372036854775808 ≤ n) (h1 : n ≤ 9223372036854775807) : wlen B64 n.natAbs ≤ 1 := wlen_le_one two_le_B (by show n.natAbs < 18446744073709551616; omega)

set_option maxRecDepth 100000 in
set_option maxHeartbeats 1000000 in
theorem fof_some (n d : Int) (w : World) (hn0 : -9223372036854775808 ≤ n) (hn1 : n ≤ 9223372036854775807) (hd0 : -9223372036854775808 ≤ d) (hd1 : d ≤ 9223372036854775807) (hd : d ≠ 0) :
    Calls Tryz.prog 36 #[.int .i64 n, .int .i64 d] w fun e w' => e = .returned (outF (Rat.divInt n d)) ∧ Below w.heap.size w w' := by
  have h1 := fun W => numOf_any n W hn0 hn1
  have h2 := fun W => numOf_any d W hd0 hd1
  have hbW : Below w.heap.size w (w.alloc (.cells #[.string ⟨#[]⟩, .string ⟨#[]⟩] 31)) := (Below.refl _ _).alloc (Nat.le_refl _) _
  have hE1 : Fr (w.alloc (.cells #[.string ⟨#[]⟩, .string ⟨#[]⟩] 31)) w.heap.size #[.string ⟨#[]⟩, .string ⟨#[]⟩] 31 := Fr.new rfl
  have wn := int_wlen hn0 hn1
  have wd := int_wlen hd0 hd1
  have hF : Fz (Rat.divInt n d) 1000000 := (Fz.divInt hd wn wd).mono (by omega)
  obtain ⟨s, t, k, hsk⟩ := outF_open (Rat.divInt n d)
  rw [hsk]
  have HB := Lib.hid (And.intro hbW (And.intro hE1 (And.intro wn (And.intro wd (And.intro hF (And.intro hsk hd))))))
  clear hn0 hn1 hd0 hd1 hbW hE1 wn wd hF hsk
  go_enter Tryz.func36, Tryz.ntmps36
  go_wp2_with fail
  refine (h1 _).mono ?_
  rintro e w1 ⟨A1, n1, c1, k1, rfl, hv1, hb1⟩
  have HB1 := Lib.hid (And.intro hb1 hv1)
  clear h1 hb1 hv1
  go_wp2_with fail
  refine (h2 _).mono ?_
  rintro e w2 ⟨A2, n2, c2, k2, rfl, hv2, hb2⟩
  have hlo := lowest_any _ _ n d w2 (HB1.out.2.below hb2) hv2 (Nat.le_trans (Nat.add_le_add_right HB.out.2.2.1 2) (by unfold maxW; omega)) (Nat.le_trans (Nat.add_le_add_right HB.out.2.2.2.1 2) (by unfold maxW; omega)) HB.out.2.2.2.2.2.2
  have HB2 := Lib.hid hb2
  clear h2 hb2 hv2
  go_wp2_with fail
  refine hlo.mono ?_
  rintro e w3 ⟨v, rfl, hv, hb3⟩
  have hw := fwrite_any v _ w3 hv HB.out.2.2.2.2.1
  rw [HB.out.2.2.2.2.2.1] at hw
  obtain ⟨A3, n3, c3, k3, A4, n4, c4, k4, rfl, _, _⟩ := hv.open
  have HB3 := Lib.hid hb3
  clear hlo hb3 hv
  go_wp2_with fail
  refine hw.mono ?_
  rintro e w4 ⟨rfl, hb4⟩
  have hF1 := (((HB.out.2.1.call HB1.out.1).call HB2.out).call HB3.out).call hb4
  obtain ⟨p0, p1, z0, z1⟩ := hF1.cells2
  have s0 := HB.out.1.size
  have s1 := HB1.out.1.size
  have s2 := HB2.out.size
  have s3 := HB3.out.size
  have hbel := belowt (belowt (belowt (belowt HB.out.1 s0 HB1.out.1) (by omega) HB2.out) (by omega) HB3.out) (by omega) hb4
  have HZ := Lib.hid hbel
  clear hw hb4 hF1 s0 s1 s2 s3 hbel
  go_wp2_with fail
  exact bodyPost_ret (v := .tuple #[.agg #[.string s, .string t], .int .i64 k]) (by simp [results, Tryz.results36, go_sem, p0, p1]) rfl ⟨rfl, (HZ.out.setCell (by simp) _).setCell (by simp) _⟩

set_option maxRecDepth 100000 in
set_option maxHeartbeats 1000000 in
theorem fof_zero (n : Int) (w : World) :
    Calls Tryz.prog 36 #[.int .i64 n, .int .i64 0] w fun e w' => e = .returned (noF 7) ∧ Below w.heap.size w w' := by
  have hf0 := fr_built0
  go_enter Tryz.func36, Tryz.ntmps36
  go_wp2_with fail
  exact bodyPost_ret (v := noF 7) (by simp [results, Tryz.results36, go_sem]) rfl ⟨rfl, by first | exact (Below.refl _ _).alloc (Nat.le_refl _) _ | exact (((Below.refl _ _).alloc (Nat.le_refl _) _).setCell (by simp) _).setCell (by simp) _⟩

set_option maxRecDepth 100000 in
set_option maxHeartbeats 1000000 in
theorem fmin_some (a1 a2 b1 b2 : List UInt8) (x y : Rat) (w : World) (ha : rdF a1 a2 = some x) (hb : rdF b1 b2 = some y) :
    Calls Tryz.prog 20 #[.agg #[.string ⟨a1.toArray⟩, .string ⟨a2.toArray⟩], .agg #[.string ⟨b1.toArray⟩, .string ⟨b2.toArray⟩]] w fun e w' => e = .returned (.tuple #[.agg (if y < x then #[.string ⟨b1.toArray⟩, .string ⟨b2.toArray⟩] else #[.string ⟨a1.toArray⟩, .string ⟨a2.toArray⟩]), .int .i64 0]) ∧ Below w.heap.size w w' := by
  have hbW : Below w.heap.size w (((w.alloc (.cells #[.string ⟨a1.toArray⟩, .string ⟨a2.toArray⟩] 31)).alloc (.cells #[.string ⟨b1.toArray⟩, .string ⟨b2.toArray⟩] 31)).alloc (.cells #[.string ⟨#[]⟩, .string ⟨#[]⟩] 31)) := (((Below.refl _ _).alloc (Nat.le_refl _) _).alloc (by simp) _).alloc (by simp; omega) _
  have hE0 : Fr (((w.alloc (.cells #[.string ⟨a1.toArray⟩, .string ⟨a2.toArray⟩] 31)).alloc (.cells #[.string ⟨b1.toArray⟩, .string ⟨b2.toArray⟩] 31)).alloc (.cells #[.string ⟨#[]⟩, .string ⟨#[]⟩] 31)) w.heap.size #[.string ⟨a1.toArray⟩, .string ⟨a2.toArray⟩] 31 := (Fr.new rfl).old.old
  have hE1 : Fr (((w.alloc (.cells #[.string ⟨a1.toArray⟩, .string ⟨a2.toArray⟩] 31)).alloc (.cells #[.string ⟨b1.toArray⟩, .string ⟨b2.toArray⟩] 31)).alloc (.cells #[.string ⟨#[]⟩, .string ⟨#[]⟩] 31)) (w.heap.size + 1) #[.string ⟨b1.toArray⟩, .string ⟨b2.toArray⟩] 31 := (Fr.new (by simp)).old
  have hE2 : Fr (((w.alloc (.cells #[.string ⟨a1.toArray⟩, .string ⟨a2.toArray⟩] 31)).alloc (.cells #[.string ⟨b1.toArray⟩, .string ⟨b2.toArray⟩] 31)).alloc (.cells #[.string ⟨#[]⟩, .string ⟨#[]⟩] 31)) (w.heap.size + 1 + 1) #[.string ⟨#[]⟩, .string ⟨#[]⟩] 31 := Fr.new (by simp)
  have hc := fcmp_some a1 a2 b1 b2 x y (((w.alloc (.cells #[.string ⟨a1.toArray⟩, .string ⟨a2.toArray⟩] 31)).alloc (.cells #[.string ⟨b1.toArray⟩, .string ⟨b2.toArray⟩] 31)).alloc (.cells #[.string ⟨#[]⟩, .string ⟨#[]⟩] 31)) ha hb
  obtain ⟨C, hC⟩ : ∃ C, C = cmpQ x y := ⟨_, rfl⟩
  have hl := cmpQ_lt x y
  have hgt := cmpQ_gt x y
  rw [← hC] at hc hl hgt
  have HB := Lib.hid (And.intro hbW (And.intro hE0 (And.intro hE1 hE2)))
  by_cases hq : y < x
  · rw [if_pos hq]
    have hg : 0 < C := by exact hgt.2 hq
    clear ha hb hbW hE0 hE1 hE2 hC hl hgt hq
    go_enter Tryz.func20, Tryz.ntmps20
    go_wp2_with fail
    refine hc.mono ?_
    rintro e w1 ⟨rfl, hb1⟩
    obtain ⟨u0, u1, -, -⟩ := (HB.out.2.1.call hb1).cells2
    obtain ⟨v0, v1, -, -⟩ := (HB.out.2.2.1.call hb1).cells2
    obtain ⟨p0, p1, z0, z1⟩ := (HB.out.2.2.2.call hb1).cells2
    have hbel := Lib.hid (belowt HB.out.1 HB.out.1.size hb1)
    clear hc hb1
    go_wp2_with fail
    exact bodyPost_ret (v := .tuple #[.agg #[.string ⟨b1.toArray⟩, .string ⟨b2.toArray⟩], .int .i64 0]) (by simp [results, Tryz.results20, go_sem, p0, p1]) rfl ⟨rfl, (hbel.out.setCell (by simp; omega) _).setCell (by simp; omega) _⟩
  · rw [if_neg hq]
    have hg : ¬ 0 < C := by exact fun h => hq (hgt.1 h)
    clear ha hb hbW hE0 hE1 hE2 hC hl hgt hq
    go_enter Tryz.func20, Tryz.ntmps20
    go_wp2_with fail
    refine hc.mono ?_
    rintro e w1 ⟨rfl, hb1⟩
    obtain ⟨u0, u1, -, -⟩ := (HB.out.2.1.call hb1).cells2
    obtain ⟨v0, v1, -, -⟩ := (HB.out.2.2.1.call hb1).cells2
    obtain ⟨p0, p1, z0, z1⟩ := (HB.out.2.2.2.call hb1).cells2
    have hbel := Lib.hid (belowt HB.out.1 HB.out.1.size hb1)
    clear hc hb1
    go_wp2_with fail
    exact bodyPost_ret (v := .tuple #[.agg #[.string ⟨a1.toArray⟩, .string ⟨a2.toArray⟩], .int .i64 0]) (by simp [results, Tryz.results20, go_sem, p0, p1]) rfl ⟨rfl, (hbel.out.setCell (by simp; omega) _).setCell (by simp; omega) _⟩

set_option maxRecDepth 100000 in
set_option maxHeartbeats 1000000 in
theorem fmin_none (a1 a2 b1 b2 : List UInt8) (w : World) (h : rdF a1 a2 = none ∨ rdF b1 b2 = none) :
    Calls Tryz.prog 20 #[.agg #[.string ⟨a1.toArray⟩, .string ⟨a2.toArray⟩], .agg #[.string ⟨b1.toArray⟩, .string ⟨b2.toArray⟩]] w fun e w' => e = .returned (noF 20) ∧ Below w.heap.size w w' := by
  have hbW : Below w.heap.size w (((w.alloc (.cells #[.string ⟨a1.toArray⟩, .string ⟨a2.toArray⟩] 31)).alloc (.cells #[.string ⟨b1.toArray⟩, .string ⟨b2.toArray⟩] 31)).alloc (.cells #[.string ⟨#[]⟩, .string ⟨#[]⟩] 31)) := (((Below.refl _ _).alloc (Nat.le_refl _) _).alloc (by simp) _).alloc (by simp; omega) _
  have hE2 : Fr (((w.alloc (.cells #[.string ⟨a1.toArray⟩, .string ⟨a2.toArray⟩] 31)).alloc (.cells #[.string ⟨b1.toArray⟩, .string ⟨b2.toArray⟩] 31)).alloc (.cells #[.string ⟨#[]⟩, .string ⟨#[]⟩] 31)) (w.heap.size + 1 + 1) #[.string ⟨#[]⟩, .string ⟨#[]⟩] 31 := Fr.new (by simp)
  have hc := fcmp_none a1 a2 b1 b2 (((w.alloc (.cells #[.string ⟨a1.toArray⟩, .string ⟨a2.toArray⟩] 31)).alloc (.cells #[.string ⟨b1.toArray⟩, .string ⟨b2.toArray⟩] 31)).alloc (.cells #[.string ⟨#[]⟩, .string ⟨#[]⟩] 31)) h
  have hf0 := fr_built0
  have HB := Lib.hid (And.intro hbW hE2)
  clear h hbW hE2
  go_enter Tryz.func20, Tryz.ntmps20
  go_wp2_with fail
  refine hc.mono ?_
  rintro e w1 ⟨rfl, hb1⟩
  obtain ⟨p0, p1, z0, z1⟩ := (HB.out.2.call hb1).cells2
  have hbel := Lib.hid (belowt HB.out.1 HB.out.1.size hb1)
  clear hc hb1
  go_wp2_with fail
  exact bodyPost_ret (v := noF 20) (by simp [results, Tryz.results20, go_sem, p0, p1]) rfl ⟨rfl, (hbel.out.setCell (by simp; omega) _).setCell (by simp; omega) _⟩

set_option maxRecDepth 100000 in
set_option maxHeartbeats 1000000 in
theorem fmax_some (a1 a2 b1 b2 : List UInt8) (x y : Rat) (w : World) (ha : rdF a1 a2 = some x) (hb : rdF b1 b2 = some y) :
    Calls Tryz.prog 21 #[.agg #[.string ⟨a1.toArray⟩, .string ⟨a2.toArray⟩], .agg #[.string ⟨b1.toArray⟩, .string ⟨b2.toArray⟩]] w fun e w' => e = .returned (.tuple #[.agg (if x < y then #[.string ⟨b1.toArray⟩, .string ⟨b2.toArray⟩] else #[.string ⟨a1.toArray⟩, .string ⟨a2.toArray⟩]), .int .i64 0]) ∧ Below w.heap.size w w' := by
  have hbW : Below w.heap.size w (((w.alloc (.cells #[.string ⟨a1.toArray⟩, .string ⟨a2.toArray⟩] 31)).alloc (.cells #[.string ⟨b1.toArray⟩, .string ⟨b2.toArray⟩] 31)).alloc (.cells #[.string ⟨#[]⟩, .string ⟨#[]⟩] 31)) := (((Below.refl _ _).alloc (Nat.le_refl _) _).alloc (by simp) _).alloc (by simp; omega) _
  have hE0 : Fr (((w.alloc (.cells #[.string ⟨a1.toArray⟩, .string ⟨a2.toArray⟩] 31)).alloc (.cells #[.string ⟨b1.toArray⟩, .string ⟨b2.toArray⟩] 31)).alloc (.cells #[.string ⟨#[]⟩, .string ⟨#[]⟩] 31)) w.heap.size #[.string ⟨a1.toArray⟩, .string ⟨a2.toArray⟩] 31 := (Fr.new rfl).old.old
  have hE1 : Fr (((w.alloc (.cells #[.string ⟨a1.toArray⟩, .string ⟨a2.toArray⟩] 31)).alloc (.cells #[.string ⟨b1.toArray⟩, .string ⟨b2.toArray⟩] 31)).alloc (.cells #[.string ⟨#[]⟩, .string ⟨#[]⟩] 31)) (w.heap.size + 1) #[.string ⟨b1.toArray⟩, .string ⟨b2.toArray⟩] 31 := (Fr.new (by simp)).old
  have hE2 : Fr (((w.alloc (.cells #[.string ⟨a1.toArray⟩, .string ⟨a2.toArray⟩] 31)).alloc (.cells #[.string ⟨b1.toArray⟩, .string ⟨b2.toArray⟩] 31)).alloc (.cells #[.string ⟨#[]⟩, .string ⟨#[]⟩] 31)) (w.heap.size + 1 + 1) #[.string ⟨#[]⟩, .string ⟨#[]⟩] 31 := Fr.new (by simp)
  have hc := fcmp_some a1 a2 b1 b2 x y (((w.alloc (.cells #[.string ⟨a1.toArray⟩, .string ⟨a2.toArray⟩] 31)).alloc (.cells #[.string ⟨b1.toArray⟩, .string ⟨b2.toArray⟩] 31)).alloc (.cells #[.string ⟨#[]⟩, .string ⟨#[]⟩] 31)) ha hb
  obtain ⟨C, hC⟩ : ∃ C, C = cmpQ x y := ⟨_, rfl⟩
  have hl := cmpQ_lt x y
  have hgt := cmpQ_gt x y
  rw [← hC] at hc hl hgt
  have HB := Lib.hid (And.intro hbW (And.intro hE0 (And.intro hE1 hE2)))
  by_cases hq : x < y
  · rw [if_pos hq]
    have hg : C < 0 := by exact hl.2 hq
    clear ha hb hbW hE0 hE1 hE2 hC hl hgt hq
    go_enter Tryz.func21, Tryz.ntmps21
    go_wp2_with fail
    refine hc.mono ?_
    rintro e w1 ⟨rfl, hb1⟩
    obtain ⟨u0, u1, -, -⟩ := (HB.out.2.1.call hb1).cells2
    obtain ⟨v0, v1, -, -⟩ := (HB.out.2.2.1.call hb1).cells2
    obtain ⟨p0, p1, z0, z1⟩ := (HB.out.2.2.2.call hb1).cells2
    have hbel := Lib.hid (belowt HB.out.1 HB.out.1.size hb1)
    clear hc hb1
    go_wp2_with fail
    exact bodyPost_ret (v := .tuple #[.agg #[.string ⟨b1.toArray⟩, .string ⟨b2.toArray⟩], .int .i64 0]) (by simp [results, Tryz.results21, go_sem, p0, p1]) rfl ⟨rfl, (hbel.out.setCell (by simp; omega) _).setCell (by simp; omega) _⟩
  · rw [if_neg hq]
    have hg : ¬ C < 0 := by exact fun h => hq (hl.1 h)
    clear ha hb hbW hE0 hE1 hE2 hC hl hgt hq
    go_enter Tryz.func21, Tryz.ntmps21
    go_wp2_with fail
    refine hc.mono ?_
    rintro e w1 ⟨rfl, hb1⟩
    obtain ⟨u0, u1, -, -⟩ := (HB.out.2.1.call hb1).cells2
    obtain ⟨v0, v1, -, -⟩ := (HB.out.2.2.1.call hb1).cells2
    obtain ⟨p0, p1, z0, z1⟩ := (HB.out.2.2.2.call hb1).cells2
    have hbel := Lib.hid (belowt HB.out.1 HB.out.1.size hb1)
    clear hc hb1
    go_wp2_with fail
    exact bodyPost_ret (v := .tuple #[.agg #[.string ⟨a1.toArray⟩, .string ⟨a2.toArray⟩], .int .i64 0]) (by simp [results, Tryz.results21, go_sem, p0, p1]) rfl ⟨rfl, (hbel.out.setCell (by simp; omega) _).setCell (by simp; omega) _⟩

set_option maxRecDepth 100000 in
set_option maxHeartbeats 1000000 in
theorem fmax_none (a1 a2 b1 b2 : List UInt8) (w : World) (h : rdF a1 a2 = none ∨ rdF b1 b2 = none) :
    Calls Tryz.prog 21 #[.agg #[.string ⟨a1.toArray⟩, .string ⟨a2.toArray⟩], .agg #[.string ⟨b1.toArray⟩, .string ⟨b2.toArray⟩]] w fun e w' => e = .returned (noF 20) ∧ Below w.heap.size w w' := by
  have hbW : Below w.heap.size w (((w.alloc (.cells #[.string ⟨a1.toArray⟩, .string ⟨a2.toArray⟩] 31)).alloc (.cells #[.string ⟨b1.toArray⟩, .string ⟨b2.toArray⟩] 31)).alloc (.cells #[.string ⟨#[]⟩, .string ⟨#[]⟩] 31)) := (((Below.refl _ _).alloc (Nat.le_refl _) _).alloc (by simp) _).alloc (by simp; omega) _
  have hE2 : Fr (((w.alloc (.cells #[.string ⟨a1.toArray⟩, .string ⟨a2.toArray⟩] 31)).alloc (.cells #[.string ⟨b1.toArray⟩, .string ⟨b2.toArray⟩] 31)).alloc (.cells #[.string ⟨#[]⟩, .string ⟨#[]⟩] 31)) (w.heap.size + 1 + 1) #[.string ⟨#[]⟩, .string ⟨#[]⟩] 31 := Fr.new (by simp)
  have hc := fcmp_none a1 a2 b1 b2 (((w.alloc (.cells #[.string ⟨a1.toArray⟩, .string ⟨a2.toArray⟩] 31)).alloc (.cells #[.string ⟨b1.toArray⟩, .string ⟨b2.toArray⟩] 31)).alloc (.cells #[.string ⟨#[]⟩, .string ⟨#[]⟩] 31)) h
  have hf0 := fr_built0
  have HB := Lib.hid (And.intro hbW hE2)
  clear h hbW hE2
  go_enter Tryz.func21, Tryz.ntmps21
  go_wp2_with fail
  refine hc.mono ?_
  rintro e w1 ⟨rfl, hb1⟩
  obtain ⟨p0, p1, z0, z1⟩ := (HB.out.2.call hb1).cells2
  have hbel := Lib.hid (belowt HB.out.1 HB.out.1.size hb1)
  clear hc hb1
  go_wp2_with fail
  exact bodyPost_ret (v := noF 20) (by simp [results, Tryz.results21, go_sem, p0, p1]) rfl ⟨rfl, (hbel.out.setCell (by simp; omega) _).setCell (by simp; omega) _⟩

set_option maxRecDepth 100000 in
set_option maxHeartbeats 1000000 in
theorem fcheck_some (a1 a2 : List UInt8) (x : Rat) (w : World) (ha : rdF a1 a2 = some x) :
    Calls Tryz.prog 14 #[.agg #[.string ⟨a1.toArray⟩, .string ⟨a2.toArray⟩]] w fun e w' => e = .returned (.int .i64 0) ∧ Below w.heap.size w w' := by
  have hbW : Below w.heap.size w (w.alloc (.cells #[.string ⟨a1.toArray⟩, .string ⟨a2.toArray⟩] 31)) := (Below.refl _ _).alloc (Nat.le_refl _) _
  have hc := fread_some a1 a2 x (w.alloc (.cells #[.string ⟨a1.toArray⟩, .string ⟨a2.toArray⟩] 31)) ha
  have HB := Lib.hid hbW
  clear ha hbW
  go_enter Tryz.func14, Tryz.ntmps14
  go_wp2_with fail
  refine hc.mono ?_
  rintro e w1 ⟨v, rfl, hv, hb1⟩
  obtain ⟨A1, n1, c1, k1, A2, n2, c2, k2, rfl, _, _⟩ := hv.open
  have hbel := Lib.hid (belowt HB.out HB.out.size hb1)
  clear hc hb1 hv
  go_wp2_with fail
  go_ret
  exact ⟨rfl, hbel.out.alloc hbel.out.size _⟩
set_option maxRecDepth 100000 in
set_option maxHeartbeats 1000000 in
theorem fcheck_none (a1 a2 : List UInt8) (w : World) (ha : rdF a1 a2 = none) :
    Calls Tryz.prog 14 #[.agg #[.string ⟨a1.toArray⟩, .string ⟨a2.toArray⟩]] w fun e w' => e = .returned (.int .i64 20) ∧ Below w.heap.size w w' := by
  have hbW : Below w.heap.size w (w.alloc (.cells #[.string ⟨a1.toArray⟩, .string ⟨a2.toArray⟩] 31)) := (Below.refl _ _).alloc (Nat.le_refl _) _
  have hc := fread_none a1 a2 (w.alloc (.cells #[.string ⟨a1.toArray⟩, .string ⟨a2.toArray⟩] 31)) ha
  unfold raNone at hc
  have HB := Lib.hid hbW
  clear ha hbW
  go_enter Tryz.func14, Tryz.ntmps14
  go_wp2_with fail
  refine hc.mono ?_
  rintro e w1 ⟨rfl, hb1⟩
  have hbel := Lib.hid (belowt HB.out HB.out.size hb1)
  clear hc hb1
  go_wp2_with fail
  go_ret
  exact ⟨rfl, hbel.out.alloc hbel.out.size _⟩

end Go.Proofs.YtdobcaabebepaaaGreatDoor
