/- Package digest: Unhex's and Hex's digits. -/
import Derived.Test.YtlimkbnnjhjcgaaDoorDigM
import Derived.Test.YtlimkbnnjhjcgaaDoorShelf
import Derived.Deep.OwnRows
import Derived.Lib.BufferWrite
namespace Go.Proofs.YtlimkbnnjhjcgaaDoor
open Go.RowKit Vo
attribute [local go_sem ↓] Go.wp_at_zero Go.wp_at_succ

def digL : List UInt8 := [48, 49, 50, 51, 52, 53, 54, 55, 56, 57, 97, 98, 99, 100, 101, 102]
/-- where a digit stands, -1 if it is none -/
def digAt (c : UInt8) : Int := match und c with | some n => n | none => -1
theorem index_dig (c : UInt8) : Lib.indexByte digL c = digAt c := by
  have : ∀ n : Fin 256, Lib.indexByte digL (UInt8.ofNat n.1) = digAt (UInt8.ofNat n.1) := by decide +kernel
  have h := this ⟨c.toNat, c.toNat_lt⟩
  simpa using h
theorem dig_at (n : Nat) (h : n < 16) : digL.getD n 0 = dig n := by
  have : ∀ k : Fin 16, digL.getD k.1 0 = dig k.1 := by decide +kernel
  exact this ⟨n, h⟩
theorem und_dig (n : Nat) (h : n < 16) : und (dig n) = some n := by
  have : ∀ k : Fin 16, und (dig k.1) = some k.1 := by decide +kernel
  exact this ⟨n, h⟩
theorem und_lt {c : UInt8} {n : Nat} (h : und c = some n) : n < 16 := by
  unfold und at h
  split at h
  · have := Option.some.inj h; omega
  · split at h
    · have := Option.some.inj h; omega
    · cases h
theorem dig_und {c : UInt8} {n : Nat} (h : und c = some n) : dig n = c := by
  have : ∀ k : Fin 256, ∀ n : Fin 16, und (UInt8.ofNat k.1) = some n.1 → dig n.1 = UInt8.ofNat k.1 := by decide +kernel
  have h2 := this ⟨c.toNat, c.toNat_lt⟩ ⟨n, und_lt h⟩
  simp only [UInt8.ofNat_toNat] at h2
  exact h2 h
theorem hexL_length (l : List UInt8) : (hexL l).length = 2 * l.length := by
  induction l with
  | nil => rfl
  | cons c l ih => simp [hexL, ih]; omega
theorem unL_hexL (l : List UInt8) : unL (hexL l) = some l := by
  induction l with
  | nil => rfl
  | cons c l ih =>
    have hc := c.toNat_lt
    simp only [hexL, unL, und_dig _ (show c.toNat / 16 < 16 by omega), und_dig _ (show c.toNat % 16 < 16 by omega), ih]
    congr 2
    apply UInt8.toNat_inj.1
    rw [UInt8.toNat_ofNat']
    omega
/-- Unhex inverts Hex -/
theorem unhex_hex {l : List UInt8} (h : l.length = 16) : unhexR (hexL l) = (l, 0) := by
  unfold unhexR
  rw [if_pos (by rw [hexL_length, h]), unL_hexL]
theorem hexL_unL : ∀ {t m : List UInt8}, unL t = some m → hexL m = t
  | [], m, h => by cases h; rfl
  | [_], m, h => by cases h
  | a :: b :: t, m, h => by
    unfold unL at h
    cases ha : und a with
    | none => rw [ha] at h; cases h
    | some x =>
      cases hb : und b with
      | none => rw [ha, hb] at h; cases h
      | some y =>
        cases hm : unL t with
        | none => rw [ha, hb, hm] at h; cases h
        | some z =>
          rw [ha, hb, hm] at h
          cases h
          have hx := und_lt ha
          have hy := und_lt hb
          have e : (UInt8.ofNat (16 * x + y)).toNat = 16 * x + y := by rw [UInt8.toNat_ofNat']; omega
          rw [hexL, e, show (16 * x + y) / 16 = x by omega, show (16 * x + y) % 16 = y by omega, dig_und ha, dig_und hb, hexL_unL hm]
theorem unL_length : ∀ {t m : List UInt8}, unL t = some m → t.length = 2 * m.length := fun {t m} h => by rw [← hexL_unL h, hexL_length]
/-- what is read is the text of what it is read as -/
theorem hex_unhex {t : List UInt8} : (unhexR t).2 = 0 ∧ hexL (unhexR t).1 = t ∨ (unhexR t).2 = 5 ∧ (unhexR t).1 = zero16 := by
  unfold unhexR
  split
  · cases h : unL t with
    | none => exact Or.inr ⟨rfl, rfl⟩
    | some m => exact Or.inl ⟨rfl, hexL_unL h⟩
  · exact Or.inr ⟨rfl, rfl⟩
theorem unhex_length (t : List UInt8) : (unhexR t).1.length = 16 := by
  unfold unhexR
  split
  · rename_i h
    cases h2 : unL t with
    | none => rfl
    | some m => have := unL_length h2; simp only; omega
  · rfl
end Go.Proofs.YtlimkbnnjhjcgaaDoor
