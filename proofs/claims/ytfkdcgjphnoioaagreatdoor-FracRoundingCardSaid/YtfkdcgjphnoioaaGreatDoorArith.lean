/- Division and the greatest common divisor: plain mathematics, no program. -/
import Derived.Test.YtfkdcgjphnoioaaGreatDoorNum
namespace Vd

/-- the quotient's word that is guessed from the leading words is not too small -/
theorem qhat_ge {P l o t top : Nat} (hl : l < (t + 1) * P) (ho : top * P ≤ o) (htop : 0 < top) : l / o ≤ t / top := by
  rw [Nat.le_div_iff_mul_le htop]
  have h1 : l / o * o ≤ l := Nat.div_mul_le_self l o
  have h2 : l / o * (top * P) ≤ l / o * o := Nat.mul_le_mul_left _ ho
  have h3 : l / o * top * P < (t + 1) * P := by rw [Nat.mul_assoc]; omega
  have := Nat.lt_of_mul_lt_mul_right h3
  omega

-- Euclid's algorithm on leading words (Lehmer, with Collins's condition)

/-- what cnt steps on the leading words X and Y have come to: p and q, with the multiples fA, fB, nA, nB -/
structure Steps (X Y p q fA fB nA nB cnt : Nat) : Prop where
  hp : (p : Int) = (-1)^cnt * (fA * X - fB * Y)
  hq : (q : Int) = (-1)^cnt * (nB * Y - nA * X)
  sX : p * nB + q * fB = X
  sY : p * nA + q * fA = Y
  le : q ≤ p
  init : cnt = 0 → fA = 1 ∧ fB = 0 ∧ nA = 0 ∧ nB = 1
  more : 0 < cnt → fA ≤ fB ∧ nA ≤ nB ∧ q < p
  one : 1 ≤ nB
  /-- and the same multiples make Euclid's steps on all numbers that begin so -/
  good : ∀ H α β : Nat, α < H → β < H → Y * H + β ≤ X * H + α → ∃ a' b' : Nat,
    (a' : Int) = (-1)^cnt * (fA * (X * H + α) - fB * (Y * H + β)) ∧ (b' : Int) = (-1)^cnt * (nB * (Y * H + β) - nA * (X * H + α)) ∧
    b' ≤ a' ∧ Nat.gcd a' b' = Nat.gcd (X * H + α) (Y * H + β) ∧ (0 < cnt → b' < Y * H + β) ∧ (cnt = 0 → b' = Y * H + β) ∧ a' ≤ X * H + α

theorem steps_zero (X Y : Nat) (h : Y ≤ X) : Steps X Y X Y 1 0 0 1 0 where
  hp := by simp
  hq := by simp
  sX := by simp
  sY := by simp
  le := h
  init := by simp
  more := by simp
  one := by simp
  good := fun H α β _ _ hle => ⟨X * H + α, Y * H + β, by simp, by simp, hle, rfl, by simp, by simp, Nat.le_refl _⟩

theorem neg_one_cases (cnt : Nat) : ((-1 : Int)^cnt = 1 ∧ (-1 : Int)^(cnt+1) = -1) ∨ ((-1 : Int)^cnt = -1 ∧ (-1 : Int)^(cnt+1) = 1) := by
  induction cnt with
  | zero => simp
  | succ n ih =>
    rcases ih with ⟨h1, h2⟩ | ⟨h1, h2⟩
    · right; rw [Int.pow_succ _ (n+1), h2]; simp
    · left; rw [Int.pow_succ _ (n+1), h2]; simp

/-- the new multiples do not overflow -/
theorem steps_bound {X Y p q fA fB nA nB cnt : Nat} (h : Steps X Y p q fA fB nA nB cnt) :
    (fB + p / q * nB) * q + nB * (p % q) = X ∧ (fA + p / q * nA) * q + nA * (p % q) = Y := by
  have e := Nat.div_add_mod p q
  have h1 := h.sX
  have h2 := h.sY
  generalize p / q = k at *
  generalize p % q = r at *
  subst e
  constructor
  · rw [← h1]; grind
  · rw [← h2]; grind

theorem mul_lt_aux {m H x k : Nat} (h : x < H) (hm : k ≤ m) (h0 : 0 < m) : k * x < m * H := by
  have a : k * x ≤ m * x := Nat.mul_le_mul_right _ hm
  have c : m * x < m * H := Nat.mul_lt_mul_of_pos_left h h0
  omega

theorem steps_succ {X Y p q fA fB nA nB cnt nextA nextB : Nat} (h : Steps X Y p q fA fB nA nB cnt) (hq : 0 < q)
    (h1 : nextB ≤ p % q) (h2 : nB + nextB ≤ q - p % q) (eA : nextA = fA + p / q * nA) (eB : nextB = fB + p / q * nB) :
    Steps X Y q (p % q) nA nB nextA nextB (cnt + 1) := by
  have hr : p % q < q := Nat.mod_lt _ hq
  have hk : 0 < p / q := Nat.div_pos h.le hq
  have hAB : nextA ≤ nextB := by
    by_cases hc : cnt = 0
    · obtain ⟨a, b, c, d⟩ := h.init hc
      subst a b c d
      omega
    · obtain ⟨a, b, _⟩ := h.more (by omega)
      have := Nat.mul_le_mul_left (p / q) b
      omega
  have hnAB : nA ≤ nB := by
    by_cases hc : cnt = 0
    · obtain ⟨_, _, c, d⟩ := h.init hc
      omega
    · exact (h.more (by omega)).2.1
  have hB1 : 1 ≤ nextB := by
    have := Nat.mul_le_mul hk h.one
    omega
  have b := steps_bound h
  rw [← eA, ← eB] at b
  have e := Nat.div_add_mod p q
  have eI : (p : Int) = q * (p / q : Nat) + (p % q : Nat) := by
    have := congrArg (fun x : Nat => (x : Int)) e
    simp only [Int.natCast_add, Int.natCast_mul] at this
    omega
  have eAI : (nextA : Int) = fA + (p / q : Nat) * nA := by rw [eA]; simp
  have eBI : (nextB : Int) = fB + (p / q : Nat) * nB := by rw [eB]; simp
  have hpI := h.hp
  have hqI := h.hq
  have hgood := h.good
  generalize hs0 : (-1 : Int)^cnt = s at *
  have hs1 : (-1 : Int)^(cnt+1) = -s := by rw [Int.pow_succ, hs0]; omega
  have hss : s = 1 ∨ s = -1 := by
    rcases neg_one_cases cnt with ⟨a, _⟩ | ⟨a, _⟩ <;> rw [hs0] at a <;> simp [a]
  clear hs0
  generalize p / q = k at *
  generalize hrr : p % q = r at *
  have hrI : (r : Int) = -s * (nextB * Y - nextA * X) := by rw [eAI, eBI]; grind
  refine ⟨?_, ?_, ?_, ?_, by omega, by omega, fun _ => ⟨hnAB, hAB, hr⟩, hB1, ?_⟩
  · rw [hs1]; grind
  · rw [hs1]; exact hrI
  · grind
  · grind
  · intro H α β hα hβ hle
    obtain ⟨a', b', ha', hb', hle', hg, hlt, h0, haa⟩ := hgood H α β hα hβ hle
    have ea : (a' : Int) = p * H + s * (fA * α - fB * β) := by rw [ha', hpI]; grind
    have eb : (b' : Int) = q * H + s * (nB * β - nA * α) := by rw [hb', hqI]; grind
    have ec : (a' : Int) - k * b' = r * H - s * (nextB * β - nextA * α) := by rw [ea, eb, eAI, eBI, eI]; grind
    have m1 := mul_lt_aux (m := r) (k := nextB) hβ h1 (by omega)
    have m2 := mul_lt_aux (m := r) (k := nextA) hα (by omega) (by omega)
    have m3 := mul_lt_aux (m := q - r) (k := nA + nextA) hα (by omega) (by omega)
    have m4 := mul_lt_aux (m := q - r) (k := nB + nextB) hβ h2 (by omega)
    have z1 : (0 : Int) ≤ (nextA * α : Nat) := Int.natCast_nonneg _
    have z2 : (0 : Int) ≤ (nextB * β : Nat) := Int.natCast_nonneg _
    have z3 : (0 : Int) ≤ ((nA + nextA) * α : Nat) := Int.natCast_nonneg _
    have z4 : (0 : Int) ≤ ((nB + nextB) * β : Nat) := Int.natCast_nonneg _
    have n1 : ((nextB * β : Nat) : Int) < ((r * H : Nat) : Int) := by exact_mod_cast m1
    have n2 : ((nextA * α : Nat) : Int) < ((r * H : Nat) : Int) := by exact_mod_cast m2
    have n3 : (((nA + nextA) * α : Nat) : Int) < (((q - r) * H : Nat) : Int) := by exact_mod_cast m3
    have n4 : (((nB + nextB) * β : Nat) : Int) < (((q - r) * H : Nat) : Int) := by exact_mod_cast m4
    have eqr : ((q - r : Nat) : Int) = q - r := by omega
    simp only [Int.natCast_mul, Int.natCast_add, eqr] at n1 n2 n3 n4 z1 z2 z3 z4
    have c0 : (0 : Int) ≤ (a' : Int) - k * b' := by
      rw [ec]
      rcases hss with rfl | rfl
      · have : (1 : Int) * (nextB * β - nextA * α) = nextB * β - nextA * α := by grind
        rw [this]; omega
      · have : -(1 : Int) * (nextB * β - nextA * α) = nextA * α - nextB * β := by grind
        rw [this]; omega
    have c1 : (a' : Int) - k * b' < b' := by
      have e5 : (b' : Int) - (a' - k * b') = (q - r) * H + s * ((nB + nextB) * β - (nA + nextA) * α) := by rw [ec, eb]; grind
      suffices 0 < (b' : Int) - (a' - k * b') by omega
      rw [e5]
      rcases hss with rfl | rfl
      · have : (1 : Int) * ((nB + nextB) * β - (nA + nextA) * α) = (nB + nextB) * β - (nA + nextA) * α := by grind
        rw [this]; omega
      · have : -(1 : Int) * ((nB + nextB) * β - (nA + nextA) * α) = (nA + nextA) * α - (nB + nextB) * β := by grind
        rw [this]; omega
    obtain ⟨d, hd⟩ := Int.eq_ofNat_of_zero_le c0
    have hd' : a' = k * b' + d := by
      have : (a' : Int) = ((k * b' + d : Nat) : Int) := by simp only [Int.natCast_add, Int.natCast_mul]; omega
      exact_mod_cast this
    have hdb : d < b' := by omega
    refine ⟨b', d, ?_, ?_, by omega, ?_, fun _ => ?_, by omega, by omega⟩
    · rw [hs1, hb']; grind
    · rw [hs1, ← hd, ha', hb', eAI, eBI]; grind
    · rw [← hg, hd', Nat.add_comm, Nat.gcd_comm b' d, Nat.gcd_comm _ b']
      simp [Nat.gcd_comm]
    · by_cases hc : cnt = 0
      · have := h0 hc; omega
      · have := hlt (by omega); omega

-- a digit of a quotient by a divisor of two digits (b: the base; N = u * b + u1; y = y1 * b + y0; the guess q leaves r of the first two digits)
theorem dig_le {b q r y1 y0 u u1 : Nat} (h : q * y1 + r = u) : q * (y1 * b + y0) ≤ u * b + u1 ↔ q * y0 ≤ r * b + u1 := by
  subst h
  have : q * (y1 * b + y0) = q * y1 * b + q * y0 := by grind
  rw [this, Nat.add_mul]
  omega
theorem dig_stop {q y n : Nat} (hy : 0 < y) (h : n / y ≤ q) (hle : q * y ≤ n) : q = n / y := by
  have := (Nat.le_div_iff_mul_le hy).2 hle
  omega
theorem dig_go {q y n : Nat} (hy : 0 < y) (h : n < q * y) : n / y < q := (Nat.div_lt_iff_lt_mul hy).2 h
theorem dig_lt {b y u u1 : Nat} (hy : 0 < y) (hu : u < y) (h1 : u1 < b) : (u * b + u1) / y < b := by
  rw [Nat.div_lt_iff_lt_mul hy]
  have := Nat.mul_le_mul_right b (show u + 1 ≤ y from hu)
  rw [Nat.add_mul, Nat.one_mul] at this
  rw [Nat.mul_comm b y]
  omega
theorem dl_break {b q r a1 a0 u v1 y1 : Nat} (hy : y1 = a1 * b + a0) (h : q * a1 + r = u) (hr : b ≤ r) (hq : q ≤ b) (ha : a0 < b) : q * y1 ≤ u * b + v1 := by
  rw [hy, dig_le h]
  have h1 : q * a0 ≤ b * a0 := Nat.mul_le_mul_right _ hq
  have h2 : b * a0 ≤ b * b := Nat.mul_le_mul_left _ (by omega)
  have h3 : b * b ≤ r * b := Nat.mul_le_mul_right _ hr
  omega
theorem dl_bound {b q a1 a0 u r : Nat} (h : q * a1 + r = u) (hu : u < a1 * b + a0) (ha0 : a0 < b) (ha1 : b ≤ 2 * a1) : q ≤ b + 1 := by
  rcases Nat.lt_or_ge (b + 1) q with hc | hc
  · have := Nat.mul_le_mul_right a1 (show b + 2 ≤ q from hc)
    rw [Nat.add_mul] at this
    have e : b * a1 = a1 * b := Nat.mul_comm _ _
    omega
  · exact hc
/-- two digits, one after the other -/
theorem two_digits {b y u u1 u0 : Nat} (hy : 0 < y) :
    (u * b + u1) / y * b + ((u * b + u1) % y * b + u0) / y = (u * (b * b) + (u1 * b + u0)) / y ∧ ((u * b + u1) % y * b + u0) % y = (u * (b * b) + (u1 * b + u0)) % y := by
  have e1 := Nat.div_add_mod (u * b + u1) y
  generalize (u * b + u1) / y = q at *
  generalize (u * b + u1) % y = r at *
  have e2 : u * (b * b) + (u1 * b + u0) = (r * b + u0) + y * (q * b) := by
    have : (y * q + r) * b = (u * b + u1) * b := by rw [e1]
    grind
  rw [e2]
  constructor
  · rw [Nat.add_mul_div_left _ _ hy, Nat.add_comm]
  · rw [Nat.add_mul_mod_self_left]

end Vd
