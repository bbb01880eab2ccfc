/- Long division: plain mathematics on words. -/
import Derived.Test.YtfkdcgjphnoioaaGreatDoorArith
import Derived.Test.YtfkdcgjphnoioaaGreatDoorBits
namespace Vd

variable {b : Nat}

/-- what holds in a long division when the quotient's words from k on are known: X is divided by Y, Ls is what is left, zs are the quotient's words -/
def DV (b X Y k : Nat) (Ls zs : List Nat) : Prop := X = val b Ls + Y * (b ^ k * val b (zs.drop k)) ∧ val b (Ls.drop k) < Y

theorem dv_mid {X Y j n2 : Nat} {Ls zs : List Nat} (hb : 2 ≤ b) (hY : Y < b ^ n2) (hl : j + n2 + 1 ≤ Ls.length) (hx : Ok b Ls) (h : DV b X Y (j + 1) Ls zs) :
    val b ((Ls.drop j).take (n2 + 1)) < Y * b ∧ val b (Ls.drop (j + n2 + 1)) = 0 := by
  have h1 := val_drop_step (b := b) (xs := Ls) (k := j) (by omega)
  have h2 := (hx.get hb j)
  have h3 : val b (Ls.drop j) < Y * b := by
    have := Nat.mul_le_mul_left b (show val b (Ls.drop (j + 1)) + 1 ≤ Y from h.2)
    rw [Nat.mul_add, Nat.mul_one] at this
    rw [Nat.mul_comm Y b]
    omega
  have h4 := val_take_drop (b := b) (Ls.drop j) (n2 + 1) (by rw [List.length_drop]; omega)
  rw [List.drop_drop, ← Nat.add_assoc] at h4
  have h5 : Y * b ≤ b ^ (n2 + 1) := by rw [Nat.pow_succ]; exact Nat.mul_le_mul_right b (Nat.le_of_lt hY)
  refine ⟨by omega, ?_⟩
  rcases Nat.eq_zero_or_pos (val b (Ls.drop (j + n2 + 1))) with h6 | h6
  · exact h6
  · have := Nat.mul_le_mul_left (b ^ (n2 + 1)) (show 1 ≤ val b (Ls.drop (j + n2 + 1)) from h6)
    omega

theorem dv_arith (P Bb Y X p q m' V : Nat) (h : X = p + P * (q * Y + m') + Y * (P * Bb * V)) : X = p + P * m' + Y * (P * (q + Bb * V)) := by grind

theorem dv_step {X Y j n2 : Nat} {Ls zs mid' : List Nat} (hb : 2 ≤ b) (hY0 : 0 < Y) (hY : Y < b ^ n2) (hl : j + n2 + 1 ≤ Ls.length) (hx : Ok b Ls) (h : DV b X Y (j + 1) Ls zs) (hj : j < zs.length)
    (hm : mid'.length = n2 + 1) (hv : val b mid' = val b ((Ls.drop j).take (n2 + 1)) % Y) :
    DV b X Y j (Ls.take j ++ (mid' ++ Ls.drop (j + n2 + 1))) (zs.set j (val b ((Ls.drop j).take (n2 + 1)) / Y)) := by
  obtain ⟨h1, h2⟩ := dv_mid hb hY hl hx h
  have hpl : (Ls.take j).length = j := by rw [List.length_take]; omega
  have e0 := val_take_drop (b := b) Ls j (by omega)
  have e1 := val_take_drop (b := b) (Ls.drop j) (n2 + 1) (by rw [List.length_drop]; omega)
  rw [List.drop_drop, ← Nat.add_assoc, h2, Nat.mul_zero, Nat.add_zero] at e1
  rw [e1] at e0
  have e2 := Nat.div_add_mod (val b ((Ls.drop j).take (n2 + 1))) Y
  constructor
  · rw [val_append, val_append, h2, Nat.mul_zero, Nat.add_zero, hpl, hv, drop_set_self hj, val_cons]
    refine dv_arith _ _ _ _ _ _ _ _ ?_
    have := h.1
    rw [e0, Nat.pow_succ] at this
    rw [Nat.mul_comm (_ / Y) Y, e2]
    exact this
  · rw [List.drop_append_of_le_length (by omega), List.drop_of_length_le (by omega), List.nil_append, val_append, h2, hv]
    simpa using Nat.mod_lt _ hY0

theorem dv_end {X Y s m o : Nat} {Ls zs : List Nat} (hX : X = m * 2 ^ s) (hY : Y = o * 2 ^ s) (ho : 0 < o) (h : DV b X Y 0 Ls zs) : val b zs = m / o ∧ val b Ls / 2 ^ s = m % o := by
  obtain ⟨h1, h2⟩ := h
  have hp : 0 < 2 ^ s := Nat.pow_pos (by omega)
  have hY0 : 0 < Y := by rw [hY]; exact Nat.mul_pos ho hp
  simp only [List.drop_zero, Nat.pow_zero, Nat.one_mul] at h1 h2
  have e1 : val b zs = X / Y := by rw [h1, Nat.add_mul_div_left _ _ hY0, Nat.div_eq_of_lt h2]; simp
  have e2 : val b Ls = X % Y := by rw [h1, Nat.add_mul_mod_self_left, Nat.mod_eq_of_lt h2]
  rw [e1, e2, hX, hY, Nat.mul_div_mul_right _ _ hp, Nat.mul_mod_mul_right, Nat.mul_div_cancel _ hp]
  exact ⟨rfl, rfl⟩

theorem dv_start {X Y n1 n2 K : Nat} {Ls : List Nat} (hl : Ls.length = n1 + 1) (hX : X = val b Ls) (hK : K + n2 = n1 + 1) (hY : X < b ^ K * Y) : DV b X Y K Ls (List.replicate K 0) := by
  constructor
  · rw [List.drop_eq_nil_of_le (by simp)]; simpa using hX
  · have := val_take_drop (b := b) Ls K (by omega)
    refine Nat.lt_of_mul_lt_mul_left (a := b ^ K) ?_
    omega

/-- a divisor whose highest word is shifted up -/
theorem dv_norm {o s n y : Nat} (hy : y = wd 18446744073709551616 o n) (hn : wlen 18446744073709551616 o = n + 1) (hs : s = 64 - Go.Lib.bitLen y) :
    s ≤ 63 ∧ 0 < y ∧ o * 2 ^ s < 18446744073709551616 ^ (n + 1) ∧ 18446744073709551616 ^ n * 2 ^ 63 ≤ o * 2 ^ s := by
  have hb : 2 ≤ 18446744073709551616 := by decide
  have e := val_take_succ (b := 18446744073709551616) (ws 18446744073709551616 o) n
  have hl : (ws 18446744073709551616 o).length = n + 1 := hn
  rw [List.take_of_length_le (by omega), val_ws hb, val_take_ws hb] at e
  rw [show nth (ws 18446744073709551616 o) n = y from hy.symm] at e
  have hlow : o % 18446744073709551616 ^ n < 18446744073709551616 ^ n := Nat.mod_lt _ (Nat.pow_pos (by omega))
  have hlt : y < 18446744073709551616 := by rw [hy]; exact wd_lt hb o n
  generalize o % 18446744073709551616 ^ n = low at e hlow
  have hne : y ≠ 0 := by
    intro h0
    rw [h0] at e
    have : wlen 18446744073709551616 o ≤ n := (wlen_le_iff hb o n).2 (by omega)
    omega
  obtain ⟨h1, h2, h3⟩ := norm_spec hlt hne hs
  have hp : 0 < 2 ^ s := Nat.pow_pos (by omega)
  have e64 : (18446744073709551616 : Nat) = 2 ^ (64 - s) * 2 ^ s := by rw [← Nat.pow_add, show 64 - s + s = 64 by omega]
  have h4 : y + 1 ≤ 2 ^ (64 - s) := by
    have : y * 2 ^ s < 2 ^ (64 - s) * 2 ^ s := by rw [← e64]; exact h2
    exact Nat.lt_of_mul_lt_mul_right this
  have h5 : (y + 1) * 2 ^ s ≤ 18446744073709551616 := by
    have := Nat.mul_le_mul_right (2 ^ s) h4
    rwa [← e64] at this
  refine ⟨h1, Nat.pos_of_ne_zero hne, ?_, ?_⟩
  · have h6 : o < (y + 1) * 18446744073709551616 ^ n := by rw [Nat.add_mul, Nat.one_mul]; omega
    have h7 := Nat.mul_lt_mul_of_pos_right h6 hp
    have h8 := Nat.mul_le_mul_left (18446744073709551616 ^ n) h5
    rw [Nat.pow_succ]
    have e9 : (y + 1) * 18446744073709551616 ^ n * 2 ^ s = 18446744073709551616 ^ n * ((y + 1) * 2 ^ s) := by
      generalize 18446744073709551616 ^ n = P
      grind
    omega
  · have h6 : y * 18446744073709551616 ^ n ≤ o := by omega
    have h7 := Nat.mul_le_mul_right (2 ^ s) h6
    have e9 : y * 18446744073709551616 ^ n * 2 ^ s = 18446744073709551616 ^ n * (y * 2 ^ s) := by
      generalize 18446744073709551616 ^ n = P
      grind
    have h8 := Nat.mul_le_mul_left (18446744073709551616 ^ n) (show 2 ^ 63 ≤ y * 2 ^ s from h3)
    omega

end Vd
