/- Package octet: read. -/
import Derived.Test.YtieklokffmjcfaaDoorOctC
import Derived.Lib.BufferWrite
import Derived.Deep.WholeRow
namespace Go.Proofs.YtieklokffmjcfaaDoor
open Go.RowKit Vo
attribute [local go_sem ↓] Go.wp_at_zero Go.wp_at_succ

theorem part_any (l : List UInt8) (a n : Int) (w : World) :
    Calls Tryd.prog 30 #[.string (B l), .int .i64 a, .int .i64 n] w fun e w' => e = .returned (.tuple #[.string (B (partR l a n).1), .int .i64 (partR l a n).2]) ∧ w = w' := part_walk (B l) a n w
theorem partR_ok {l : List UInt8} {a n : Int} (h : (partR l a n).2 = 0) : (partR l a n).1.length = n.toNat ∧ partR l a n = (cut l a.toNat n.toNat, 0) := by
  unfold partR at h ⊢
  split
  · rename_i h1; rw [if_pos h1] at h; exact absurd h (by decide)
  · rename_i h1; rw [if_neg h1] at h
    split
    · rename_i h2; rw [if_pos h2] at h; exact absurd h (by decide)
    · rename_i h2; rw [if_neg h2] at h
      split
      · rename_i h3; rw [if_pos h3] at h; exact absurd h (by decide)
      · exact ⟨cut_length (by omega), rfl⟩
theorem list1 {l : List UInt8} (h : l.length = 1) : ∃ b0, l = [b0] := by
  match l, h with
  | [b0], _ => exact ⟨b0, rfl⟩
theorem list2 {l : List UInt8} (h : l.length = 2) : ∃ b0 b1, l = [b0, b1] := by
  match l, h with
  | [b0, b1], _ => exact ⟨b0, b1, rfl⟩
theorem list4 {l : List UInt8} (h : l.length = 4) : ∃ b0 b1 b2 b3, l = [b0, b1, b2, b3] := by
  match l, h with
  | [b0, b1, b2, b3], _ => exact ⟨b0, b1, b2, b3, rfl⟩
theorem n8 (b : UInt8) : ((num [0, 0, 0, b] : Nat) : Int) % 256 = sgn false ((num [b] : Nat) : Int) := by
  have := b.toNat_lt
  simp [num, sgn]; omega
theorem n16 (b c : UInt8) : ((num [0, 0, b, c] : Nat) : Int) % 65536 = sgn false ((num [b, c] : Nat) : Int) := by
  have := b.toNat_lt
  have := c.toNat_lt
  simp [num, sgn]; omega

theorem copied_1 (b0 : UInt8) (w : World) (ty : TypeId) :
    (Builtin.copy_ #[70, 9] ty #[.slice (some ⟨w.heap.size, 3, none⟩) 1 1, .string (B [b0])]).run Tryd.prog (w.alloc (.cells #[.int .u8 0, .int .u8 0, .int .u8 0, .int .u8 0] 87)) = .ok (goInt 1) (w.alloc (.cells #[.int .u8 0, .int .u8 0, .int .u8 0, .int .u8 b0.toNat] 87)) := by
  have h := Lib.run_copy_row_string (P := Tryd.prog) (w.alloc (.cells #[.int .u8 0, .int .u8 0, .int .u8 0, .int .u8 0] 87)) 70 9 ty 5 w.heap.size 3 1 1 (B [b0]) #[.int .u8 0, .int .u8 0, .int .u8 0, .int .u8 0] 87 Tryd.underlying70 (by kernel_rfl) (heap_alloc_new w _) (by rw [B_size]; simp) (by rw [B_size]; simp)
  rw [h, World.setRow_alloc_new, B_size]
  rfl
theorem copied_2 (b0 b1 : UInt8) (w : World) (ty : TypeId) :
    (Builtin.copy_ #[70, 9] ty #[.slice (some ⟨w.heap.size, 2, none⟩) 2 2, .string (B [b0, b1])]).run Tryd.prog (w.alloc (.cells #[.int .u8 0, .int .u8 0, .int .u8 0, .int .u8 0] 87)) = .ok (goInt 2) (w.alloc (.cells #[.int .u8 0, .int .u8 0, .int .u8 b0.toNat, .int .u8 b1.toNat] 87)) := by
  have h := Lib.run_copy_row_string (P := Tryd.prog) (w.alloc (.cells #[.int .u8 0, .int .u8 0, .int .u8 0, .int .u8 0] 87)) 70 9 ty 5 w.heap.size 2 2 2 (B [b0, b1]) #[.int .u8 0, .int .u8 0, .int .u8 0, .int .u8 0] 87 Tryd.underlying70 (by kernel_rfl) (heap_alloc_new w _) (by rw [B_size]; simp) (by rw [B_size]; simp)
  rw [h, World.setRow_alloc_new, B_size]
  rfl
theorem copied_4 (b0 b1 b2 b3 : UInt8) (w : World) (ty : TypeId) :
    (Builtin.copy_ #[70, 9] ty #[.slice (some ⟨w.heap.size, 0, none⟩) 4 4, .string (B [b0, b1, b2, b3])]).run Tryd.prog (w.alloc (.cells #[.int .u8 0, .int .u8 0, .int .u8 0, .int .u8 0] 87)) = .ok (goInt 4) (w.alloc (.cells #[.int .u8 b0.toNat, .int .u8 b1.toNat, .int .u8 b2.toNat, .int .u8 b3.toNat] 87)) := by
  have h := Lib.run_copy_row_string (P := Tryd.prog) (w.alloc (.cells #[.int .u8 0, .int .u8 0, .int .u8 0, .int .u8 0] 87)) 70 9 ty 5 w.heap.size 0 4 4 (B [b0, b1, b2, b3]) #[.int .u8 0, .int .u8 0, .int .u8 0, .int .u8 0] 87 Tryd.underlying70 (by kernel_rfl) (heap_alloc_new w _) (by rw [B_size]; simp) (by rw [B_size]; simp)
  rw [h, World.setRow_alloc_new, B_size]
  rfl

set_option maxRecDepth 100000 in
set_option maxHeartbeats 2000000 in
theorem read_u8 (l : List UInt8) (a : Int) (w : World) :
    Calls Tryd.prog 40 #[.string (B l), .int .i64 a, .int .i64 1] w fun e w' => e = .returned (.tuple #[.int .i64 (numR l a 1 false).1, .int .i64 (numR l a 1 false).2]) ∧ Below w.heap.size w w' := by
  have hp := part_any l a 1
  by_cases h0 : (partR l a 1).2 = 0
  · obtain ⟨hlen, hpr⟩ := partR_ok h0
    obtain ⟨b0, hb⟩ := list1 (hlen.trans (by rfl))
    rw [hb, h0] at hp
    have hv : numR l a 1 false = (((num [0, 0, 0, b0] : Nat) : Int) % 256, 0) := by
      unfold numR
      rw [show (((1 : Nat) : Int)) = 1 from rfl, if_pos h0, hb]
      congr 1; exact (n8 b0).symm
    have hcp := fun W ty => copied_1 b0 W ty
    have hg : ∀ W, Calls Tryd.prog 64 #[.agg #[.int .u8 0, .int .u8 0, .int .u8 0, .int .u8 b0.toNat]] W fun e w' => e = .returned (.int .i64 (((num [0, 0, 0, b0] : Nat) : Int) % 256)) ∧ Below W.heap.size W w' := fun W => gather_u8 0 0 0 b0 W
    rw [hv]
    have HV := Lib.hid hv
    clear hv hb h0 hlen hpr
    go_enter Tryd.func40, Tryd.ntmps40
    go_wp2_with fail
    refine (hp _).mono ?_
    rintro e w' ⟨rfl, rfl⟩
    clear hp
    go_wp2_with fail
    refine (hg _).mono ?_
    rintro e w1 ⟨rfl, hb1⟩
    go_wp2_with fail
    go_ret2
    exact ⟨rfl, ((Below.refl _ _).alloc (Nat.le_refl _) _).trans (hb1.mono (by simp))⟩
  · have hv : numR l a 1 false = (0, (partR l a 1).2) := by
      unfold numR
      rw [show (((1 : Nat) : Int)) = 1 from rfl, if_neg h0]
    obtain ⟨s, k, hs, hk⟩ : ∃ s k, s = B (partR l a 1).1 ∧ k = (partR l a 1).2 := ⟨_, _, rfl, rfl⟩
    rw [hv]
    rw [← hs, ← hk] at hp
    rw [← hk] at h0 ⊢
    have hkb : (k == 0) = false := by simpa using h0
    have hkb2 : (k != 0) = true := by simpa using h0
    clear hv hs hk h0
    go_enter Tryd.func40, Tryd.ntmps40
    go_wp2_with fail
    refine (hp _).mono ?_
    rintro e w' ⟨rfl, rfl⟩
    clear hp
    go_wp2_with fail
    go_ret2
    exact ⟨rfl, Below.refl _ _⟩

set_option maxRecDepth 100000 in
set_option maxHeartbeats 2000000 in
theorem read_u16 (l : List UInt8) (a : Int) (w : World) :
    Calls Tryd.prog 41 #[.string (B l), .int .i64 a, .int .i64 2] w fun e w' => e = .returned (.tuple #[.int .i64 (numR l a 2 false).1, .int .i64 (numR l a 2 false).2]) ∧ Below w.heap.size w w' := by
  have hp := part_any l a 2
  by_cases h0 : (partR l a 2).2 = 0
  · obtain ⟨hlen, hpr⟩ := partR_ok h0
    obtain ⟨b0, b1, hb⟩ := list2 (hlen.trans (by rfl))
    rw [hb, h0] at hp
    have hv : numR l a 2 false = (((num [0, 0, b0, b1] : Nat) : Int) % 65536, 0) := by
      unfold numR
      rw [show (((2 : Nat) : Int)) = 2 from rfl, if_pos h0, hb]
      congr 1; exact (n16 b0 b1).symm
    have hcp := fun W ty => copied_2 b0 b1 W ty
    have hg : ∀ W, Calls Tryd.prog 65 #[.agg #[.int .u8 0, .int .u8 0, .int .u8 b0.toNat, .int .u8 b1.toNat]] W fun e w' => e = .returned (.int .i64 (((num [0, 0, b0, b1] : Nat) : Int) % 65536)) ∧ Below W.heap.size W w' := fun W => gather_u16 0 0 b0 b1 W
    rw [hv]
    have HV := Lib.hid hv
    clear hv hb h0 hlen hpr
    go_enter Tryd.func41, Tryd.ntmps41
    go_wp2_with fail
    refine (hp _).mono ?_
    rintro e w' ⟨rfl, rfl⟩
    clear hp
    go_wp2_with fail
    refine (hg _).mono ?_
    rintro e w1 ⟨rfl, hb1⟩
    go_wp2_with fail
    go_ret2
    exact ⟨rfl, ((Below.refl _ _).alloc (Nat.le_refl _) _).trans (hb1.mono (by simp))⟩
  · have hv : numR l a 2 false = (0, (partR l a 2).2) := by
      unfold numR
      rw [show (((2 : Nat) : Int)) = 2 from rfl, if_neg h0]
    obtain ⟨s, k, hs, hk⟩ : ∃ s k, s = B (partR l a 2).1 ∧ k = (partR l a 2).2 := ⟨_, _, rfl, rfl⟩
    rw [hv]
    rw [← hs, ← hk] at hp
    rw [← hk] at h0 ⊢
    have hkb : (k == 0) = false := by simpa using h0
    have hkb2 : (k != 0) = true := by simpa using h0
    clear hv hs hk h0
    go_enter Tryd.func41, Tryd.ntmps41
    go_wp2_with fail
    refine (hp _).mono ?_
    rintro e w' ⟨rfl, rfl⟩
    clear hp
    go_wp2_with fail
    go_ret2
    exact ⟨rfl, Below.refl _ _⟩

set_option maxRecDepth 100000 in
set_option maxHeartbeats 2000000 in
theorem read_u32 (l : List UInt8) (a : Int) (w : World) :
    Calls Tryd.prog 42 #[.string (B l), .int .i64 a, .int .i64 4] w fun e w' => e = .returned (.tuple #[.int .i64 (numR l a 4 false).1, .int .i64 (numR l a 4 false).2]) ∧ Below w.heap.size w w' := by
  have hp := part_any l a 4
  by_cases h0 : (partR l a 4).2 = 0
  · obtain ⟨hlen, hpr⟩ := partR_ok h0
    obtain ⟨b0, b1, b2, b3, hb⟩ := list4 (hlen.trans (by rfl))
    rw [hb, h0] at hp
    have hv : numR l a 4 false = (((num [b0, b1, b2, b3] : Nat) : Int), 0) := by
      unfold numR
      rw [show (((4 : Nat) : Int)) = 4 from rfl, if_pos h0, hb]
      try rfl
    have hcp := fun W ty => copied_4 b0 b1 b2 b3 W ty
    have hg : ∀ W, Calls Tryd.prog 66 #[.agg #[.int .u8 b0.toNat, .int .u8 b1.toNat, .int .u8 b2.toNat, .int .u8 b3.toNat]] W fun e w' => e = .returned (.int .i64 (((num [b0, b1, b2, b3] : Nat) : Int))) ∧ Below W.heap.size W w' := fun W => gather_u32 b0 b1 b2 b3 W
    rw [hv]
    have HV := Lib.hid hv
    clear hv hb h0 hlen hpr
    go_enter Tryd.func42, Tryd.ntmps42
    go_wp2_with fail
    refine (hp _).mono ?_
    rintro e w' ⟨rfl, rfl⟩
    clear hp
    go_wp2_with fail
    refine (hg _).mono ?_
    rintro e w1 ⟨rfl, hb1⟩
    go_wp2_with fail
    go_ret2
    exact ⟨rfl, ((Below.refl _ _).alloc (Nat.le_refl _) _).trans (hb1.mono (by simp))⟩
  · have hv : numR l a 4 false = (0, (partR l a 4).2) := by
      unfold numR
      rw [show (((4 : Nat) : Int)) = 4 from rfl, if_neg h0]
    obtain ⟨s, k, hs, hk⟩ : ∃ s k, s = B (partR l a 4).1 ∧ k = (partR l a 4).2 := ⟨_, _, rfl, rfl⟩
    rw [hv]
    rw [← hs, ← hk] at hp
    rw [← hk] at h0 ⊢
    have hkb : (k == 0) = false := by simpa using h0
    have hkb2 : (k != 0) = true := by simpa using h0
    clear hv hs hk h0
    go_enter Tryd.func42, Tryd.ntmps42
    go_wp2_with fail
    refine (hp _).mono ?_
    rintro e w' ⟨rfl, rfl⟩
    clear hp
    go_wp2_with fail
    go_ret2
    exact ⟨rfl, Below.refl _ _⟩

set_option maxRecDepth 100000 in
set_option maxHeartbeats 2000000 in
theorem read_s32 (l : List UInt8) (a : Int) (w : World) :
    Calls Tryd.prog 44 #[.string (B l), .int .i64 a, .int .i64 4] w fun e w' => e = .returned (.tuple #[.int .i64 (numR l a 4 true).1, .int .i64 (numR l a 4 true).2]) ∧ Below w.heap.size w w' := by
  have hp := part_any l a 4
  by_cases h0 : (partR l a 4).2 = 0
  · obtain ⟨hlen, hpr⟩ := partR_ok h0
    obtain ⟨b0, b1, b2, b3, hb⟩ := list4 (hlen.trans (by rfl))
    rw [hb, h0] at hp
    have hv : numR l a 4 true = (sgn true ((num [b0, b1, b2, b3] : Nat) : Int), 0) := by
      unfold numR
      rw [show (((4 : Nat) : Int)) = 4 from rfl, if_pos h0, hb]
      try rfl
    have hcp := fun W ty => copied_4 b0 b1 b2 b3 W ty
    have hg : ∀ W, Calls Tryd.prog 67 #[.agg #[.int .u8 b0.toNat, .int .u8 b1.toNat, .int .u8 b2.toNat, .int .u8 b3.toNat]] W fun e w' => e = .returned (.int .i64 (sgn true ((num [b0, b1, b2, b3] : Nat) : Int))) ∧ Below W.heap.size W w' := fun W => gather_s32 b0 b1 b2 b3 W
    rw [hv]
    have HV := Lib.hid hv
    clear hv hb h0 hlen hpr
    go_enter Tryd.func44, Tryd.ntmps44
    go_wp2_with fail
    refine (hp _).mono ?_
    rintro e w' ⟨rfl, rfl⟩
    clear hp
    go_wp2_with fail
    refine (hg _).mono ?_
    rintro e w1 ⟨rfl, hb1⟩
    go_wp2_with fail
    go_ret2
    exact ⟨rfl, ((Below.refl _ _).alloc (Nat.le_refl _) _).trans (hb1.mono (by simp))⟩
  · have hv : numR l a 4 true = (0, (partR l a 4).2) := by
      unfold numR
      rw [show (((4 : Nat) : Int)) = 4 from rfl, if_neg h0]
    obtain ⟨s, k, hs, hk⟩ : ∃ s k, s = B (partR l a 4).1 ∧ k = (partR l a 4).2 := ⟨_, _, rfl, rfl⟩
    rw [hv]
    rw [← hs, ← hk] at hp
    rw [← hk] at h0 ⊢
    have hkb : (k == 0) = false := by simpa using h0
    have hkb2 : (k != 0) = true := by simpa using h0
    clear hv hs hk h0
    go_enter Tryd.func44, Tryd.ntmps44
    go_wp2_with fail
    refine (hp _).mono ?_
    rintro e w' ⟨rfl, rfl⟩
    clear hp
    go_wp2_with fail
    go_ret2
    exact ⟨rfl, Below.refl _ _⟩

end Go.Proofs.YtieklokffmjcfaaDoor
