/- Contracts: package whole: sums, differences, products, divisors. Contracts: package whole: Check, Sign, Cmp, Neg, Abs. -/
import Derived.Test.YtdclloledfjfjaaGreatDoorWhoA
namespace Go.Proofs.YtdclloledfjfjaaGreatDoor
open Go.RowKit Vd

theorem pow600 : 10 ^ maxDigits ≤ B64 ^ 32 := by decide +kernel
theorem small_wlen {z : Int} (h : small z) : wlen B64 z.natAbs ≤ 32 := by
  rw [wlen_le_iff two_le_B]
  exact Nat.lt_of_lt_of_le h pow600
theorem rd_wlen {l : List UInt8} {z : Int} (h : rd l = some z) : wlen B64 z.natAbs ≤ 32 := small_wlen (rd_some h).2

theorem wlen_addZ (x y : Int) : wlen B64 (x + y).natAbs ≤ max (wlen B64 x.natAbs) (wlen B64 y.natAbs) + 1 := by
  refine Nat.le_trans (wlen_mono (b := B64) two_le_B (Int.natAbs_add_le x y)) (wlen_add two_le_B _ _)

theorem gcd_wlen {a b : Nat} (ha : wlen B64 a ≤ 1000000) (hb : wlen B64 b ≤ 1000000) : wlen B64 (Nat.gcd a b) ≤ 1000000 := by
  rcases Nat.eq_zero_or_pos a with h | h
  · subst h; rw [Nat.gcd_zero_left]; exact hb
  · exact Nat.le_trans (wlen_mono (b := B64) two_le_B (Nat.gcd_le_left b h)) ha

set_option maxRecDepth 100000 in
set_option maxHeartbeats 1000000 in
theorem wadd_some (l1 l2 : List UInt8) (x y : Int) (w : World) (h1 : rd l1 = some x) (h2 : rd l2 = some y) :
    Calls Tryz.prog 62 #[.string ⟨l1.toArray⟩, .string ⟨l2.toArray⟩] w fun e w' => e = .returned (outV (x + y)) ∧ Below w.heap.size w w' := by
  have b1 := rd_wlen h1
  have b2 := rd_wlen h2
  have hc := fun W => combine_plus l1 l2 x y W h1 h2 (x + y) (by have := wlen_addZ x y; omega) (fun v1 v2 W hv1 hv2 => plus_any v1 v2 x y W hv1 hv2 (by unfold maxW; omega) (by unfold maxW; omega))
  obtain ⟨s, c, hsc⟩ := outV_open (x + y)
  rw [hsc] at hc ⊢
  clear h1 h2 b1 b2 hsc
  go_enter Tryz.func62, Tryz.ntmps62
  go_wp2_with fail
  refine (hc _).mono ?_
  rintro e w1 ⟨rfl, hb⟩
  go_wp2_with fail
  go_ret2
  exact ⟨rfl, hb⟩
set_option maxRecDepth 100000 in
set_option maxHeartbeats 1000000 in
theorem wadd_none (l1 l2 : List UInt8) (w : World) (h : rd l1 = none ∨ rd l2 = none) :
    Calls Tryz.prog 62 #[.string ⟨l1.toArray⟩, .string ⟨l2.toArray⟩] w fun e w' => e = .returned (.tuple #[.string ⟨#[]⟩, .int .i64 10]) ∧ Below w.heap.size w w' := by
  have hc := fun k W => combine_none l1 l2 k W h
  clear h
  go_enter Tryz.func62, Tryz.ntmps62
  go_wp2_with fail
  refine (hc _ _).mono ?_
  rintro e w1 ⟨rfl, hb⟩
  go_wp2_with fail
  go_ret2
  exact ⟨rfl, hb⟩

set_option maxRecDepth 100000 in
set_option maxHeartbeats 1000000 in
theorem wsub_some (l1 l2 : List UInt8) (x y : Int) (w : World) (h1 : rd l1 = some x) (h2 : rd l2 = some y) :
    Calls Tryz.prog 63 #[.string ⟨l1.toArray⟩, .string ⟨l2.toArray⟩] w fun e w' => e = .returned (outV (x - y)) ∧ Below w.heap.size w w' := by
  have b1 := rd_wlen h1
  have b2 := rd_wlen h2
  have hc := fun W => combine_minus l1 l2 x y W h1 h2 (x - y) (by have := wlen_addZ x (-y); rw [Int.natAbs_neg, ← Int.sub_eq_add_neg] at this; omega) (fun v1 v2 W hv1 hv2 => minus_any v1 v2 x y W hv1 hv2 (by unfold maxW; omega) (by unfold maxW; omega))
  obtain ⟨s, c, hsc⟩ := outV_open (x - y)
  rw [hsc] at hc ⊢
  clear h1 h2 b1 b2 hsc
  go_enter Tryz.func63, Tryz.ntmps63
  go_wp2_with fail
  refine (hc _).mono ?_
  rintro e w1 ⟨rfl, hb⟩
  go_wp2_with fail
  go_ret2
  exact ⟨rfl, hb⟩
set_option maxRecDepth 100000 in
set_option maxHeartbeats 1000000 in
theorem wsub_none (l1 l2 : List UInt8) (w : World) (h : rd l1 = none ∨ rd l2 = none) :
    Calls Tryz.prog 63 #[.string ⟨l1.toArray⟩, .string ⟨l2.toArray⟩] w fun e w' => e = .returned (.tuple #[.string ⟨#[]⟩, .int .i64 10]) ∧ Below w.heap.size w w' := by
  have hc := fun k W => combine_none l1 l2 k W h
  clear h
  go_enter Tryz.func63, Tryz.ntmps63
  go_wp2_with fail
  refine (hc _ _).mono ?_
  rintro e w1 ⟨rfl, hb⟩
  go_wp2_with fail
  go_ret2
  exact ⟨rfl, hb⟩

set_option maxRecDepth 100000 in
set_option maxHeartbeats 1000000 in
theorem wmul_some (l1 l2 : List UInt8) (x y : Int) (w : World) (h1 : rd l1 = some x) (h2 : rd l2 = some y) :
    Calls Tryz.prog 64 #[.string ⟨l1.toArray⟩, .string ⟨l2.toArray⟩] w fun e w' => e = .returned (outV (x * y)) ∧ Below w.heap.size w w' := by
  have b1 := rd_wlen h1
  have b2 := rd_wlen h2
  have hc := fun W => combine_times l1 l2 x y W h1 h2 (x * y) (by rw [Int.natAbs_mul]; have := wlen_mul (b := B64) two_le_B x.natAbs y.natAbs; omega) (fun v1 v2 W hv1 hv2 => times_any v1 v2 x y W hv1 hv2 (by unfold maxW; omega) (by unfold maxW; omega))
  obtain ⟨s, c, hsc⟩ := outV_open (x * y)
  rw [hsc] at hc ⊢
  clear h1 h2 b1 b2 hsc
  go_enter Tryz.func64, Tryz.ntmps64
  go_wp2_with fail
  refine (hc _).mono ?_
  rintro e w1 ⟨rfl, hb⟩
  go_wp2_with fail
  go_ret2
  exact ⟨rfl, hb⟩
set_option maxRecDepth 100000 in
set_option maxHeartbeats 1000000 in
theorem wmul_none (l1 l2 : List UInt8) (w : World) (h : rd l1 = none ∨ rd l2 = none) :
    Calls Tryz.prog 64 #[.string ⟨l1.toArray⟩, .string ⟨l2.toArray⟩] w fun e w' => e = .returned (.tuple #[.string ⟨#[]⟩, .int .i64 10]) ∧ Below w.heap.size w w' := by
  have hc := fun k W => combine_none l1 l2 k W h
  clear h
  go_enter Tryz.func64, Tryz.ntmps64
  go_wp2_with fail
  refine (hc _ _).mono ?_
  rintro e w1 ⟨rfl, hb⟩
  go_wp2_with fail
  go_ret2
  exact ⟨rfl, hb⟩

set_option maxRecDepth 100000 in
set_option maxHeartbeats 1000000 in
theorem wgcd_some (l1 l2 : List UInt8) (x y : Int) (w : World) (h1 : rd l1 = some x) (h2 : rd l2 = some y) :
    Calls Tryz.prog 67 #[.string ⟨l1.toArray⟩, .string ⟨l2.toArray⟩] w fun e w' => e = .returned (outV (((Nat.gcd x.natAbs y.natAbs : Nat) : Int))) ∧ Below w.heap.size w w' := by
  have b1 := rd_wlen h1
  have b2 := rd_wlen h2
  have hc := fun W => combine_divisor l1 l2 x y W h1 h2 (((Nat.gcd x.natAbs y.natAbs : Nat) : Int)) (by rw [Int.natAbs_natCast]; exact gcd_wlen (by omega) (by omega)) (fun v1 v2 W hv1 hv2 => divisor_any v1 v2 x y W hv1 hv2 (by unfold maxW; omega) (by unfold maxW; omega))
  obtain ⟨s, c, hsc⟩ := outV_open (((Nat.gcd x.natAbs y.natAbs : Nat) : Int))
  rw [hsc] at hc ⊢
  clear h1 h2 b1 b2 hsc
  go_enter Tryz.func67, Tryz.ntmps67
  go_wp2_with fail
  refine (hc _).mono ?_
  rintro e w1 ⟨rfl, hb⟩
  go_wp2_with fail
  go_ret2
  exact ⟨rfl, hb⟩
set_option maxRecDepth 100000 in
set_option maxHeartbeats 1000000 in
theorem wgcd_none (l1 l2 : List UInt8) (w : World) (h : rd l1 = none ∨ rd l2 = none) :
    Calls Tryz.prog 67 #[.string ⟨l1.toArray⟩, .string ⟨l2.toArray⟩] w fun e w' => e = .returned (.tuple #[.string ⟨#[]⟩, .int .i64 10]) ∧ Below w.heap.size w w' := by
  have hc := fun k W => combine_none l1 l2 k W h
  clear h
  go_enter Tryz.func67, Tryz.ntmps67
  go_wp2_with fail
  refine (hc _ _).mono ?_
  rintro e w1 ⟨rfl, hb⟩
  go_wp2_with fail
  go_ret2
  exact ⟨rfl, hb⟩

end Go.Proofs.YtdclloledfjfjaaGreatDoor

namespace Go.Proofs.YtdclloledfjfjaaGreatDoor
open Go.RowKit Vd

set_option maxRecDepth 100000 in
set_option maxHeartbeats 1000000 in
theorem wcheck_some (l : List UInt8) (z : Int) (w : World) (h : rd l = some z) :
    Calls Tryz.prog 20 #[.string ⟨l.toArray⟩] w fun e w' => e = .returned (.int .i64 0) ∧ Below w.heap.size w w' := by
  have hr := fun W => wread_some l z W h
  clear h
  go_enter Tryz.func20, Tryz.ntmps20
  go_wp2_with fail
  refine (hr _).mono ?_
  rintro e w1 ⟨A, n, c, k, rfl, hv, hb⟩
  go_wp2_with fail
  go_ret
  exact ⟨rfl, hb.alloc hb.size _⟩
set_option maxRecDepth 100000 in
set_option maxHeartbeats 1000000 in
theorem wcheck_none (l : List UInt8) (w : World) (h : rd l = none) :
    Calls Tryz.prog 20 #[.string ⟨l.toArray⟩] w fun e w' => e = .returned (.int .i64 10) ∧ Below w.heap.size w w' := by
  have hr := fun W => wread_none l W h
  clear h
  go_enter Tryz.func20, Tryz.ntmps20
  go_wp2_with fail
  refine (hr _).mono ?_
  rintro e w1 ⟨rfl, hb⟩
  go_wp2_with fail
  go_ret
  exact ⟨rfl, hb.alloc hb.size _⟩

theorem SgV.zero (W : World) : SgV W (.agg #[.slice none 0 0, .bool false]) 0 := ⟨_, rfl, MagV.zero W⟩

set_option maxRecDepth 100000 in
set_option maxHeartbeats 1000000 in
theorem wsign_some (l : List UInt8) (z : Int) (w : World) (h : rd l = some z) :
    Calls Tryz.prog 16 #[.string ⟨l.toArray⟩] w fun e w' => e = .returned (.tuple #[.int .i64 (signZ z), .int .i64 0]) ∧ Below w.heap.size w w' := by
  have hr := fun W => wread_some l z W h
  clear h
  go_enter Tryz.func16, Tryz.ntmps16
  go_wp2_with fail
  refine (hr _).mono ?_
  rintro e w1 ⟨A, n, c, k, rfl, hv, hb⟩
  have hs := sign_any _ z _ (hv.below ((Below.refl _ _).alloc (Nat.le_refl _) (.cells #[.slice A n c, .bool k] 105)))
  clear hr
  go_wp2_with fail
  refine hs.mono ?_
  rintro e w2 ⟨rfl, hb2⟩
  go_wp2_with fail
  go_ret2
  exact ⟨rfl, (hb.alloc hb.size _).trans (hb2.mono (by simp; have := hb.size; omega))⟩
set_option maxRecDepth 100000 in
set_option maxHeartbeats 1000000 in
theorem wsign_none (l : List UInt8) (w : World) (h : rd l = none) :
    Calls Tryz.prog 16 #[.string ⟨l.toArray⟩] w fun e w' => e = .returned (.tuple #[.int .i64 0, .int .i64 10]) ∧ Below w.heap.size w w' := by
  have hr := fun W => wread_none l W h
  clear h
  go_enter Tryz.func16, Tryz.ntmps16
  go_wp2_with fail
  refine (hr _).mono ?_
  rintro e w1 ⟨rfl, hb⟩
  have hs := sign_any _ 0 _ (SgV.zero (w1.alloc (.cells #[.slice none 0 0, .bool false] 105)))
  rw [show signZ 0 = 0 from rfl] at hs
  clear hr
  go_wp2_with fail
  refine hs.mono ?_
  rintro e w2 ⟨rfl, hb2⟩
  go_wp2_with fail
  go_ret2
  exact ⟨rfl, (hb.alloc hb.size _).trans (hb2.mono (by simp; have := hb.size; omega))⟩

set_option maxRecDepth 100000 in
set_option maxHeartbeats 1000000 in
theorem wcmp_some (l1 l2 : List UInt8) (x y : Int) (w : World) (h1 : rd l1 = some x) (h2 : rd l2 = some y) :
    Calls Tryz.prog 18 #[.string ⟨l1.toArray⟩, .string ⟨l2.toArray⟩] w fun e w' => e = .returned (.tuple #[.int .i64 (cmpZ x y), .int .i64 0]) ∧ Below w.heap.size w w' := by
  have hr := fun W => wboth_some l1 l2 x y W h1 h2
  have b1 := rd_wlen h1
  have b2 := rd_wlen h2
  clear h1 h2
  go_enter Tryz.func18, Tryz.ntmps18
  go_wp2_with fail
  refine (hr _).mono ?_
  rintro e w1 ⟨A1, n1, c1, k1, A2, n2, c2, k2, rfl, hv1, hv2, hb⟩
  have hl1 : Below w1.heap.size w1 ((w1.alloc (.cells #[.slice A1 n1 c1, .bool k1] 105)).alloc (.cells #[.slice A2 n2 c2, .bool k2] 105)) := ((Below.refl _ _).alloc (Nat.le_refl _) _).alloc (by simp) _
  have hs := orderZ_any _ _ x y _ (hv1.below hl1) (hv2.below hl1) (by unfold maxW; omega) (by unfold maxW; omega)
  clear hr b1 b2
  go_wp2_with fail
  refine hs.mono ?_
  rintro e w2 ⟨rfl, hb2⟩
  go_wp2_with fail
  go_ret2
  exact ⟨rfl, hb.trans ((hl1.trans (hb2.mono hl1.size)).mono hb.size)⟩
set_option maxRecDepth 100000 in
set_option maxHeartbeats 1000000 in
theorem wcmp_none (l1 l2 : List UInt8) (w : World) (h : rd l1 = none ∨ rd l2 = none) :
    Calls Tryz.prog 18 #[.string ⟨l1.toArray⟩, .string ⟨l2.toArray⟩] w fun e w' => e = .returned (.tuple #[.int .i64 0, .int .i64 10]) ∧ Below w.heap.size w w' := by
  have hr := fun W => wboth_none l1 l2 W h
  clear h
  go_enter Tryz.func18, Tryz.ntmps18
  go_wp2_with fail
  refine (hr _).mono ?_
  rintro e w1 ⟨rfl, hb⟩
  have hl1 : Below w1.heap.size w1 ((w1.alloc (.cells #[.slice none 0 0, .bool false] 105)).alloc (.cells #[.slice none 0 0, .bool false] 105)) := ((Below.refl _ _).alloc (Nat.le_refl _) _).alloc (by simp) _
  have hs := orderZ_any _ _ 0 0 _ (SgV.zero ((w1.alloc (.cells #[.slice none 0 0, .bool false] 105)).alloc (.cells #[.slice none 0 0, .bool false] 105))) (SgV.zero _) (by decide +kernel) (by decide +kernel)
  rw [show cmpZ 0 0 = 0 from rfl] at hs
  clear hr
  go_wp2_with fail
  refine hs.mono ?_
  rintro e w2 ⟨rfl, hb2⟩
  go_wp2_with fail
  go_ret2
  exact ⟨rfl, hb.trans ((hl1.trans (hb2.mono hl1.size)).mono hb.size)⟩

end Go.Proofs.YtdclloledfjfjaaGreatDoor
