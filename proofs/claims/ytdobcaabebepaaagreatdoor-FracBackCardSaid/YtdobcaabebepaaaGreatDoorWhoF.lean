/- Contracts: package whole: Div, Pow, Root. -/
import Derived.Test.YtdobcaabebepaaaGreatDoorWhoD
namespace Go.Proofs.YtdobcaabebepaaaGreatDoor
open Go.RowKit Vd

theorem small_of_le {x z : Int} (h : small x) (hz : z.natAbs ≤ x.natAbs) : small z := Nat.lt_of_le_of_lt hz h
theorem outV_small {z : Int} (h : small z) : outV z = .tuple #[.string ⟨(wr z).toArray⟩, .int .i64 0] := by unfold outV; rw [if_pos h]

theorem div_small {x y : Int} (hx : small x) (hy : y ≠ 0) : small (x / y) := by
  refine small_of_le hx ?_
  have hb : 0 < y.natAbs := Int.natAbs_pos.2 hy
  rw [← (over_eq x y hy).1, sgn_abs]
  split
  · rename_i h
    simp only [Bool.and_eq_true, Bool.not_eq_true', decide_eq_true_eq, decide_eq_false_iff_not] at h
    have hd := Nat.div_add_mod x.natAbs y.natAbs
    have h1 : x.natAbs / y.natAbs ≤ y.natAbs * (x.natAbs / y.natAbs) := Nat.le_mul_of_pos_left _ hb
    omega
  · exact Nat.div_le_self _ _
theorem mod_small {x y : Int} (hy2 : small y) (hy : y ≠ 0) : small (x % y) := by
  refine small_of_le hy2 ?_
  have h1 := Int.emod_nonneg x hy
  have h2 := Int.emod_lt x hy
  omega

end Go.Proofs.YtdobcaabebepaaaGreatDoor
