/- Contract: divisors of signed numbers, and quotients: the numbers' side. -/
import Derived.Test.YtdkgifkmkghggaaGreatDoorSgnF
namespace Go.Proofs.YtdkgifkmkghggaaGreatDoor
open Go.RowKit Vd

theorem sgn_false (n : Nat) : sgn n false = (n : Int) := rfl

set_option maxRecDepth 100000 in
set_option maxHeartbeats 1000000 in
theorem divisor_any (v1 v2 : Value) (x y : Int) (w : World) (h1 : SgV w v1 x) (h2 : SgV w v2 y) (b1 : wlen B64 x.natAbs + 1 ≤ maxW) (b2 : wlen B64 y.natAbs + 1 ≤ maxW) :
    Calls Tryz.prog 117 #[v1, v2] w fun e w' => ∃ v, e = .returned v ∧ SgV w' v ((Nat.gcd x.natAbs y.natAbs : Nat) : Int) ∧ Below w.heap.size w w' := by
  obtain ⟨m1, rfl, hm1⟩ := h1
  obtain ⟨m2, rfl, hm2⟩ := h2
  obtain ⟨k1, hk1⟩ : ∃ k, k = decide (x < 0) := ⟨_, rfl⟩
  obtain ⟨k2, hk2⟩ : ∃ k, k = decide (y < 0) := ⟨_, rfl⟩
  rw [← hk1, ← hk2]
  obtain ⟨N, hN⟩ : ∃ n, n = Nat.gcd x.natAbs y.natAbs := ⟨_, rfl⟩
  rw [← hN]
  have hpr : Hid (∀ W, PlS w m1 m2 k1 k2 W → Calls Tryz.prog 140 #[m1, m2] W fun e w' => ∃ v, e = .returned v ∧ MagV w' v N ∧ PlS w m1 m2 k1 k2 w') := Lib.hid (fun W hS => (common_any m1 m2 _ _ W (hm1.below hS.1.2) (hm2.below hS.1.2) b1 b2).mono fun _ _ ⟨v, he, hm, hb⟩ => ⟨v, he, by rw [hN]; exact hm, pls_step hS hb⟩)
  have hsg : Hid (∀ W m, MagV W m N → PlS w m1 m2 k1 k2 W → Calls Tryz.prog 89 #[m, .bool false] W fun e w' => ∃ (A : Option Addr) (n c : Nat) (k : Bool), e = .returned (.agg #[.slice A n c, .bool k]) ∧ k = decide ((N : Int) < 0) ∧ MagV w' (.slice A n c) (N : Int).natAbs ∧ PlS w m1 m2 k1 k2 w') := Lib.hid (fun W m hm hS => (signed_any m N false W hm).mono fun e w' ⟨v, he, ⟨m', hv, hm'⟩, hb⟩ => by
    rw [sgn_false] at hv hm'
    obtain ⟨A, c, rfl, _, _⟩ := hm'.ok_len
    exact ⟨A, _, c, _, by rw [he, hv], rfl, hm', pls_step hS hb⟩)
  have hS0 := pls_start w m1 m2 k1 k2
  clear hN hm1 hm2 b1 b2 hk1 hk2
  go_enter Tryz.func117, Tryz.ntmps117
  go_wp2_with fail
  refine (hpr.out _ hS0).mono ?_
  rintro e w1 ⟨x1, rfl, hx1, hS1⟩
  go_wp2_with fail
  refine (hsg.out _ _ hx1 hS1).mono ?_
  rintro e w2 ⟨A, n, c, k, rfl, hk, hx2, hS2⟩
  obtain ⟨⟨q0, hc0⟩, ⟨q1, hc1⟩, hf0, hf1⟩ := hS2.1.1.facts
  have HX := Lib.hid (And.intro hk hx2)
  clear hk
  go_wp2_with fail
  exact bodyPost_ret (v := .agg #[.slice A n c, .bool k]) (by simp [results, Tryz.results117, go_sem, hc0, hc1]) rfl ⟨_, rfl, ⟨_, by rw [HX.out.1], hS2.1.1.mag HX.out.2 _ _⟩, (pls_store hS2 A n c k).1.2⟩

theorem over_nat (x : Int) (b : Nat) (hb : 0 < b) :
    x / (b : Int) = sgn (if decide (x < 0) && !decide (x.natAbs % b = 0) then x.natAbs / b + 1 else x.natAbs / b) (decide (x < 0)) ∧
    x % (b : Int) = (((if decide (x < 0) && !decide (x.natAbs % b = 0) then b - x.natAbs % b else x.natAbs % b) : Nat) : Int) := by
  have hr := Nat.mod_lt x.natAbs hb
  have hd : (b : Int) * ((x.natAbs / b : Nat) : Int) + ((x.natAbs % b : Nat) : Int) = (x.natAbs : Int) := by
    have := Nat.div_add_mod x.natAbs b
    rw [← Int.natCast_mul, ← Int.natCast_add, this]
  obtain ⟨q, hq⟩ : ∃ q, q = x.natAbs / b := ⟨_, rfl⟩
  obtain ⟨r, hrr⟩ : ∃ r, r = x.natAbs % b := ⟨_, rfl⟩
  rw [← hq, ← hrr] at hd
  rw [← hrr] at hr
  rw [← hq, ← hrr]
  have hb' : (0 : Int) < (b : Int) := by omega
  rw [Int.ediv_emod_unique hb']
  unfold sgn
  by_cases hx : x < 0
  · by_cases h0 : r = 0
    · simp [hx, h0]
      rw [h0] at hd
      rw [Int.mul_neg]
      omega
    · simp [hx, h0]
      rw [Int.mul_neg, Int.mul_add, Int.mul_one]
      omega
  · simp [hx]
    omega

/-- the quotient and the rest of a division whose rest is not negative -/
theorem over_eq (x y : Int) (hy : y ≠ 0) :
    sgn (if decide (x < 0) && !decide (x.natAbs % y.natAbs = 0) then x.natAbs / y.natAbs + 1 else x.natAbs / y.natAbs) (decide (x < 0) != decide (y < 0)) = x / y ∧
    (((if decide (x < 0) && !decide (x.natAbs % y.natAbs = 0) then y.natAbs - x.natAbs % y.natAbs else x.natAbs % y.natAbs) : Nat) : Int) = x % y := by
  have hb : 0 < y.natAbs := Int.natAbs_pos.2 hy
  obtain ⟨h1, h2⟩ := over_nat x y.natAbs hb
  rw [← h2]
  by_cases h : y < 0
  · have e : y = -(y.natAbs : Int) := by omega
    have e1 : x / y = -(x / (y.natAbs : Int)) := by rw [← Int.ediv_neg, ← e]
    have e2 : x % y = x % (y.natAbs : Int) := by rw [show (y.natAbs : Int) = -y by omega, Int.emod_neg]
    rw [e1, e2, h1]
    refine ⟨?_, rfl⟩
    unfold sgn
    by_cases hx : x < 0 <;> simp [hx, h]
  · have e : y = (y.natAbs : Int) := by omega
    have e1 : x / y = x / (y.natAbs : Int) := by rw [← e]
    have e2 : x % y = x % (y.natAbs : Int) := by rw [← e]
    rw [e1, e2, h1]
    refine ⟨?_, rfl⟩
    simp [h]

end Go.Proofs.YtdkgifkmkghggaaGreatDoor
