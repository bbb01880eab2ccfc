/- Contract: powers of signed numbers. -/
import Derived.Test.YtdkgifkmkghggaaGreatDoorSgnE
namespace Go.Proofs.YtdkgifkmkghggaaGreatDoor
open Go.RowKit Vd

/-- the box stays, and the world grows only above w -/
abbrev PoS (w : World) (m1 : Value) (k1 : Bool) (W : World) : Prop :=
  (BoxS W (w.heap.size + 1) ∧ Below w.heap.size w W) ∧ W.cell? ⟨w.heap.size, 0, none⟩ = some m1 ∧ W.cell? ⟨w.heap.size, 1, none⟩ = some (.bool k1)

theorem pos_step {w W w1 : World} {m1 : Value} {k1 : Bool} (h : PoS w m1 k1 W) (hb : Below W.heap.size W w1) : PoS w m1 k1 w1 := by
  have hlt := h.1.1.lt
  have hc : ∀ b o, b < w.heap.size + 1 → w1.cell? ⟨b, o, none⟩ = W.cell? ⟨b, o, none⟩ := fun b o hbl => hb.cell (p := ⟨b, o, none⟩) (Nat.lt_trans hbl hlt)
  refine ⟨⟨h.1.1.below hb hlt, h.1.2.trans (hb.mono (by omega))⟩, ?_, ?_⟩
  · rw [hc _ _ (by omega)]; exact h.2.1
  · rw [hc _ _ (by omega)]; exact h.2.2
theorem pos_store {w W : World} {m1 : Value} {k1 : Bool} (h : PoS w m1 k1 W) (A : Option Addr) (n c : Nat) (k : Bool) :
    PoS w m1 k1 ((W.setCell ⟨w.heap.size + 1, 0, none⟩ (.slice A n c)).setCell ⟨w.heap.size + 1, 1, none⟩ (.bool k)) := by
  have hc : ∀ b o, b < w.heap.size + 1 → ((W.setCell ⟨w.heap.size + 1, 0, none⟩ (.slice A n c)).setCell ⟨w.heap.size + 1, 1, none⟩ (.bool k)).cell? ⟨b, o, none⟩ = W.cell? ⟨b, o, none⟩ := fun b o hb => by
    rw [World.cell?_setCell_other _ _ _ _ (by intro e; injection e with e; omega), World.cell?_setCell_other _ _ _ _ (by intro e; injection e with e; omega)]
  refine ⟨⟨h.1.1.set A n c k, (h.1.2.setCell (by simp) _).setCell (by simp) _⟩, ?_, ?_⟩
  · rw [hc _ _ (by omega)]; exact h.2.1
  · rw [hc _ _ (by omega)]; exact h.2.2
theorem pos_start (w : World) (m1 : Value) (k1 : Bool) : PoS w m1 k1 ((w.alloc (.cells #[m1, .bool k1] 80)).alloc (.cells #[.slice none 0 0, .bool false] 80)) := by
  have hb := BoxS.alloc (w.alloc (.cells #[m1, .bool k1] 80)) none 0 0 false
  rw [World.size_alloc] at hb
  refine ⟨⟨hb, ((Below.refl _ _).alloc (Nat.le_refl _) _).alloc (by simp) _⟩, ?_, ?_⟩ <;> simp [go_sem]

theorem sgn_pow (x : Int) (n : Nat) : sgn (x.natAbs ^ n) (decide (x < 0) && ((n : Int) % 2 == 1)) = x ^ n := by
  have hp : ((n : Int) % 2 == 1) = decide (n % 2 = 1) := by
    by_cases h : n % 2 = 1
    · rw [decide_eq_true h, beq_iff_eq]; omega
    · rw [decide_eq_false h, beq_eq_false_iff_ne]; omega
  rw [hp]
  by_cases hx : x < 0
  · obtain ⟨a, ha⟩ : ∃ a : Nat, x = -(a : Int) := ⟨x.natAbs, by omega⟩
    subst ha
    rw [Int.natAbs_neg, Int.natAbs_natCast]
    rw [show decide (-(a : Int) < 0) = true by simpa using hx, Bool.true_and]
    have hev : ∀ k : Nat, (-(a : Int)) ^ (2 * k) = (a : Int) ^ (2 * k) := fun k => by
      rw [Int.pow_mul, Int.pow_mul]
      congr 1
      rw [Int.pow_succ, Int.pow_succ, Int.pow_succ, Int.pow_succ]
      simp [Int.neg_mul_neg]
    unfold sgn
    rcases Nat.mod_two_eq_zero_or_one n with h | h
    · obtain ⟨k, rfl⟩ : ∃ k, n = 2 * k := ⟨n / 2, by omega⟩
      rw [if_neg (by simp), hev]; simp
    · obtain ⟨k, rfl⟩ : ∃ k, n = 2 * k + 1 := ⟨n / 2, by omega⟩
      rw [if_pos (by simp), Int.pow_succ, hev, Int.mul_neg, ← Int.pow_succ]; simp
  · obtain ⟨a, ha⟩ : ∃ a : Nat, x = (a : Int) := ⟨x.natAbs, by omega⟩
    subst ha
    unfold sgn
    rw [if_neg (by simp; omega)]; simp

end Go.Proofs.YtdkgifkmkghggaaGreatDoor
