/- Contracts: the reference's fractions: Add, Sub, Mul, Div, Neg, Cmp, Min, Max, Clamp, Check, Sign, Of, Make. -/
import Derived.Test.YtlfgpmnjnpdkdaaGreatDoorFrfC
namespace Go.Proofs.YtlfgpmnjnpdkdaaGreatDoor
open Go.RowKit Vd
attribute [local go_sem ↓] Go.wp_at_zero Go.wp_at_succ
theorem gz_rd {l1 l2 : List UInt8} {q : Rat} (h : rdF l1 l2 = some q) : Gz q 600 := by
 have h1 := rdF_small h
 obtain ⟨e1,e2⟩ := h1
 unfold small at e1 e2
 rw [maxDigits_eq] at e1 e2
 rw [Int.natAbs_natCast] at e2
 exact ⟨w4_one e1,by have := w4_one (z := (q.den : Int)) (by rw [Int.natAbs_natCast];exact e2);rwa [Int.natAbs_natCast] at this⟩
theorem Gz.add {x y : Rat} {K L : Nat} (hx : Gz x K) (hy : Gz y L) : Gz (x + y) (K + L + 1) := by
 rw [← add_divInt]
 refine Gz.divInt (Int.mul_ne_zero (by have := x.den_pos;omega) (by have := y.den_pos;omega)) ?_ ?_
 · refine Nat.le_trans (wlen_mono two_le_B4 (Int.natAbs_add_le _ _)) ?_
   have := wlen_add two_le_B4 (x.num * (y.den : Int)).natAbs (y.num * (x.den : Int)).natAbs
   have h1 := Nat.le_trans (wl4_mulZ x.num (y.den : Int)) (Nat.add_le_add hx.1 (gz_den hy))
   have h2 := Nat.le_trans (wl4_mulZ y.num (x.den : Int)) (Nat.add_le_add hy.1 (gz_den hx))
   omega
 · have := Nat.le_trans (wl4_mulZ (x.den : Int) (y.den : Int)) (Nat.add_le_add (gz_den hx) (gz_den hy));omega
theorem Gz.sub {x y : Rat} {K L : Nat} (hx : Gz x K) (hy : Gz y L) : Gz (x - y) (K + L + 1) := by
 rw [Rat.sub_eq_add_neg];exact hx.add hy.neg
theorem Gz.mul {x y : Rat} {K L : Nat} (hx : Gz x K) (hy : Gz y L) : Gz (x * y) (K + L + 1) := by
 rw [← mul_divInt]
 refine Gz.divInt (Int.mul_ne_zero (by have := x.den_pos;omega) (by have := y.den_pos;omega)) ?_ ?_
 · have := Nat.le_trans (wl4_mulZ x.num y.num) (Nat.add_le_add hx.1 hy.1);omega
 · have := Nat.le_trans (wl4_mulZ (x.den : Int) (y.den : Int)) (Nat.add_le_add (gz_den hx) (gz_den hy));omega
theorem rd_lens {l1 l2 : List UInt8} {q : Rat} (h : rdF l1 l2 = some q) : l1.length ≤ 1000000 ∧ l2.length ≤ 1000000 := ⟨rd_len (rdF_some h).1,rd_len (rdF_some h).2⟩
theorem rright_yes {l1 l2 : List UInt8} {q : Rat} (h : rdF l1 l2 = some q) (w : World) :
 Calls Tryz.prog 65 #[.agg #[.string ⟨l1.toArray⟩,.string ⟨l2.toArray⟩]] w fun e w' => e = .returned (.bool true) ∧ Below w.heap.size w w' := by
 have := rright_any l1 l2 (rd_lens h).1 (rd_lens h).2 w
 rwa [h] at this
theorem rright_not {l1 l2 : List UInt8} (hl : l1.length ≤ 1000000 ∧ l2.length ≤ 1000000) (h : rdF l1 l2 = none) (w : World) :
 Calls Tryz.prog 65 #[.agg #[.string ⟨l1.toArray⟩,.string ⟨l2.toArray⟩]] w fun e w' => e = .returned (.bool false) ∧ Below w.heap.size w w' := by
 have := rright_any l1 l2 hl.1 hl.2 w
 rwa [h] at this
end Go.Proofs.YtlfgpmnjnpdkdaaGreatDoor
