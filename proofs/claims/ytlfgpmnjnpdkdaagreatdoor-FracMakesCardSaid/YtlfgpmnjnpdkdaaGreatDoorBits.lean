/- Binary digits of words: plain facts on the walk's words. -/
import Derived.Test.YtlfgpmnjnpdkdaaGreatDoorNum
import Derived.Lib.BitFns
import Derived.Laws.Bits64b
import Derived.Laws.MathBits
import Derived.Laws.BitsLemmas
namespace Vd
open Go
theorem blen_spec (x : Nat) (h : x < 2 ^ 64) : x < 2 ^ Lib.bitLen x ∧ (x ≠ 0 → 2 ^ Lib.bitLen x ≤ 2 * x) := by
 induction x using Nat.strongRecOn with
 | _ x ih =>
   by_cases h0 : x = 0
   · subst h0;exact ⟨by decide,fun h => absurd rfl h⟩
   · have e := Lib.bitLen_half x h0 h
     obtain ⟨a,b⟩ := ih (x / 2) (by omega) (by omega)
     rw [e,Nat.pow_add,Nat.pow_one]
     by_cases h1 : x / 2 = 0
     · rw [h1] at a ⊢
       have : x = 1 := by omega
       subst this
       exact ⟨by decide,fun _ => by decide⟩
     · have := b h1
       exact ⟨by omega,fun _ => by omega⟩
theorem blen_le (x : Nat) (h : x < 2 ^ 64) : Lib.bitLen x ≤ 64 := Lib.bitLen_le x 64 (by omega) h
theorem blen_pos {x : Nat} (h : x < 2 ^ 64) (h0 : x ≠ 0) : 1 ≤ Lib.bitLen x := by
 have := (blen_spec x h).1
 rcases Nat.eq_zero_or_pos (Lib.bitLen x) with e | e
 · rw [e] at this;omega
 · exact e
theorem norm_spec {y s : Nat} (h : y < 18446744073709551616) (h0 : y ≠ 0) (hs : s = 64 - Lib.bitLen y) : s ≤ 63 ∧ y * 2 ^ s < 18446744073709551616 ∧ 9223372036854775808 ≤ y * 2 ^ s := by
 have h' : y < 2 ^ 64 := h
 have a := blen_le y h'
 have p := blen_pos h' h0
 obtain ⟨b,c⟩ := blen_spec y h'
 have c := c h0
 have e : 2 ^ Lib.bitLen y * 2 ^ s = 18446744073709551616 := by
  rw [← Nat.pow_add,show Lib.bitLen y + s = 64 by omega]
 have hp : 0 < 2 ^ s := Nat.pow_pos (by omega)
 refine ⟨by omega,?_,?_⟩
 · rw [← e];exact Nat.mul_lt_mul_of_pos_right b hp
 · have := Nat.mul_le_mul_right (2 ^ s) c
   rw [e,Nat.mul_assoc] at this
   omega
theorem or_add {a s c : Nat} (h : c < 2 ^ s) : (a * 2 ^ s) ||| c = a * 2 ^ s + c := by
 have := Nat.shiftLeft_add_eq_or_of_lt h a
 rw [Nat.shiftLeft_eq] at this
 exact this.symm
theorem or_words {a s c : Nat} (h : c < 2 ^ s) (ha : a * 2 ^ s + c < 18446744073709551616) : bits .or .u64 ((a * 2 ^ s : Nat) : Int) (c : Int) = ((a * 2 ^ s + c : Nat) : Int) := by
 rw [bits_or_u64_nat _ _ (by omega) (by omega),or_add h]
theorem or_words' {a s c : Nat} (h : c < 2 ^ s) (ha : a * 2 ^ s + c < 18446744073709551616) : bits .or .u64 (c : Int) ((a * 2 ^ s : Nat) : Int) = ((c + a * 2 ^ s : Nat) : Int) := by
 rw [bits_or_u64_nat _ _ (by omega) (by omega),Nat.or_comm,or_add h,Nat.add_comm]
theorem wrap_nat (x : Nat) : IntKind.u64.wrap (x : Int) = ((x % 18446744073709551616 : Nat) : Int) := by
 rw [IntKind.wrap_u64];omega
theorem wrap_shl (x s : Nat) : IntKind.u64.wrap ((x : Int) * 2 ^ s) = ((x * 2 ^ s % 18446744073709551616 : Nat) : Int) := by
 rw [← wrap_nat];simp
theorem div_nat (x s : Nat) : (x : Int) / 2 ^ s = ((x / 2 ^ s : Nat) : Int) := by simp
theorem shr_lt {x s : Nat} (hx : x < 18446744073709551616) (hs : s ≤ 64) : x / 2 ^ (64 - s) < 2 ^ s := by
 rw [Nat.div_lt_iff_lt_mul (Nat.pow_pos (by omega)),← Nat.pow_add,show s + (64 - s) = 64 by omega];exact hx
theorem shl_two {hi lo s : Nat} (hs : s ≤ 64) :
 (hi * 18446744073709551616 + lo) * 2 ^ s = (hi * 2 ^ s + lo / 2 ^ (64 - s)) * 18446744073709551616 + lo * 2 ^ s % 18446744073709551616 := by
 have e : (18446744073709551616 : Nat) = 2 ^ (64 - s) * 2 ^ s := by rw [← Nat.pow_add,show 64 - s + s = 64 by omega]
 have h1 := Nat.div_add_mod lo (2 ^ (64 - s))
 have h2 : lo * 2 ^ s / 18446744073709551616 = lo / 2 ^ (64 - s) := by
  rw [e,Nat.mul_div_mul_right _ _ (Nat.pow_pos (by omega))]
 have h3 := Nat.div_add_mod (lo * 2 ^ s) 18446744073709551616
 rw [h2] at h3
 rw [Nat.add_mul,Nat.add_mul]
 have : hi * 18446744073709551616 * 2 ^ s = hi * 2 ^ s * 18446744073709551616 := by grind
 omega
end Vd
