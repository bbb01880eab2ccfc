/- Contracts: package whole: sums, differences, products, divisors. Contracts: package whole: Check, Sign, Cmp, Neg, Abs. -/
import Derived.Test.YtdobcaabebepaaaGreatDoorWhoA
namespace Go.Proofs.YtdobcaabebepaaaGreatDoor
open Go.RowKit Vd

theorem pow600 : 10 ^ maxDigits ≤ B64 ^ 32 := by decide +kernel
theorem small_wlen {z : Int} (h : small z) : wlen B64 z.natAbs ≤ 32 := by
  rw [wlen_le_iff two_le_B]
  exact Nat.lt_of_lt_of_le h pow600
theorem rd_wlen {l : List UInt8} {z : Int} (h : rd l = some z) : wlen B64 z.natAbs ≤ 32 := small_wlen (rd_some h).2

theorem wlen_addZ (x y : Int) : wlen B64 (x + y).natAbs ≤ max (wlen B64 x.natAbs) (wlen B64 y.natAbs) + 1 := by
  refine Nat.le_trans (wlen_mono (b := B64) two_le_B (Int.natAbs_add_le x y)) (wlen_add two_le_B _ _)

theorem gcd_wlen {a b : Nat} (ha : wlen B64 a ≤ 1000000) (hb : wlen B64 b ≤ 1000000) : wlen B64 (Nat.gcd a b) ≤ 1000000 := by
  rcases Nat.eq_zero_or_pos a with h | h
  · subst h; rw [Nat.gcd_zero_left]; exact hb
  · exact Nat.le_trans (wlen_mono (b := B64) two_le_B (Nat.gcd_le_left b h)) ha

end Go.Proofs.YtdobcaabebepaaaGreatDoor

namespace Go.Proofs.YtdobcaabebepaaaGreatDoor
open Go.RowKit Vd

set_option maxRecDepth 100000 in
set_option maxHeartbeats 1000000 in
theorem wcheck_some (l : List UInt8) (z : Int) (w : World) (h : rd l = some z) :
    Calls Tryz.prog 104 #[.string ⟨l.toArray⟩] w fun e w' => e = .returned (.int .i64 0) ∧ Below w.heap.size w w' := by
  have hr := fun W => wread_some l z W h
  clear h
  go_enter Tryz.func104, Tryz.ntmps104
  go_wp2_with fail
  refine (hr _).mono ?_
  rintro e w1 ⟨A, n, c, k, rfl, hv, hb⟩
  go_wp2_with fail
  go_ret
  exact ⟨rfl, hb.alloc hb.size _⟩
set_option maxRecDepth 100000 in
set_option maxHeartbeats 1000000 in
theorem wcheck_none (l : List UInt8) (w : World) (h : rd l = none) :
    Calls Tryz.prog 104 #[.string ⟨l.toArray⟩] w fun e w' => e = .returned (.int .i64 10) ∧ Below w.heap.size w w' := by
  have hr := fun W => wread_none l W h
  clear h
  go_enter Tryz.func104, Tryz.ntmps104
  go_wp2_with fail
  refine (hr _).mono ?_
  rintro e w1 ⟨rfl, hb⟩
  go_wp2_with fail
  go_ret
  exact ⟨rfl, hb.alloc hb.size _⟩

theorem SgV.zero (W : World) : SgV W (.agg #[.slice none 0 0, .bool false]) 0 := ⟨_, rfl, MagV.zero W⟩

end Go.Proofs.YtdobcaabebepaaaGreatDoor
