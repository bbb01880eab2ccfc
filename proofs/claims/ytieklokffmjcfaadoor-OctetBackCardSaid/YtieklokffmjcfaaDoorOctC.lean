/- Package octet: gather. -/
import Derived.Test.YtieklokffmjcfaaDoorOctB
import Derived.Laws.CopyRow
import Derived.Laws.BitsAllLaws
namespace Go.Proofs.YtieklokffmjcfaaDoor
open Go.RowKit Vo
attribute [local go_sem ↓] Go.wp_at_zero Go.wp_at_succ

theorem oix0 (x0 x1 x2 x3 : Int) (w : World) : (Instr.index 87 (.agg #[.int .u8 x0, .int .u8 x1, .int .u8 x2, .int .u8 x3]) (.int .i64 0)).run Tryd.prog w = .ok (.int .u8 x0) w := by kernel_rfl
theorem oix1 (x0 x1 x2 x3 : Int) (w : World) : (Instr.index 87 (.agg #[.int .u8 x0, .int .u8 x1, .int .u8 x2, .int .u8 x3]) (.int .i64 1)).run Tryd.prog w = .ok (.int .u8 x1) w := by kernel_rfl
theorem oix2 (x0 x1 x2 x3 : Int) (w : World) : (Instr.index 87 (.agg #[.int .u8 x0, .int .u8 x1, .int .u8 x2, .int .u8 x3]) (.int .i64 2)).run Tryd.prog w = .ok (.int .u8 x2) w := by kernel_rfl
theorem oix3 (x0 x1 x2 x3 : Int) (w : World) : (Instr.index 87 (.agg #[.int .u8 x0, .int .u8 x1, .int .u8 x2, .int .u8 x3]) (.int .i64 3)).run Tryd.prog w = .ok (.int .u8 x3) w := by kernel_rfl
attribute [local go_sem ↓] oix0 oix1 oix2 oix3

theorem or_i64 (a b : Nat) (ha : a < 4611686018427387904) (hb : b < 4611686018427387904) : bits .or .i64 (a : Int) (b : Int) = ((a ||| b : Nat) : Int) := by
  have hx : a ||| b < 2 ^ 62 := Nat.or_lt_two_pow (by omega) (by omega)
  have h1 : (BitVec.ofInt 64 (a : Int)).toNat = a := by
    rw [BitVec.ofInt_natCast, BitVec.toNat_ofNat]; exact Nat.mod_eq_of_lt (by omega)
  have h2 : (BitVec.ofInt 64 (b : Int)).toNat = b := by
    rw [BitVec.ofInt_natCast, BitVec.toNat_ofNat]; exact Nat.mod_eq_of_lt (by omega)
  show IntKind.i64.wrap ((BitVec.ofInt 64 (a : Int) ||| BitVec.ofInt 64 (b : Int)).toNat : Int) = _
  rw [BitVec.toNat_or, h1, h2, IntKind.wrap_i64]
  omega
theorem or_byte {a c : Nat} (h : c < 256) : (a * 256) ||| c = a * 256 + c := by
  have := Nat.shiftLeft_add_eq_or_of_lt (i := 8) (by omega : c < 2 ^ 8) a
  rw [Nat.shiftLeft_eq] at this
  exact this.symm
theorem glue (x b : Nat) (hx : x < 1099511627776) (hb : b < 256) : bits .or .i64 (wrap64 ((x : Int) * 256)) (wrap64 (b : Int)) = ((x * 256 + b : Nat) : Int) := by
  have e1 : wrap64 ((x : Int) * 256) = ((x * 256 : Nat) : Int) := by unfold wrap64; omega
  have e2 : wrap64 (b : Int) = ((b : Nat) : Int) := by unfold wrap64; omega
  rw [e1, e2, or_i64 _ _ (by omega) (by omega), or_byte hb]
theorem glue0 (b : Nat) (hb : b < 256) : bits .or .i64 0 (wrap64 (b : Int)) = (b : Int) := by
  have := glue 0 b (by omega) hb
  have e1 : wrap64 (((0 : Nat) : Int) * 256) = 0 := by unfold wrap64; omega
  rw [e1] at this
  rw [this]; omega
theorem glued (b0 b1 b2 b3 : UInt8) : bits .or .i64 (wrap64 (bits .or .i64 (wrap64 (bits .or .i64 (wrap64 (bits .or .i64 0 (wrap64 (b0.toNat : Int)) * 256)) (wrap64 (b1.toNat : Int)) * 256)) (wrap64 (b2.toNat : Int)) * 256)) (wrap64 (b3.toNat : Int)) = ((num [b0, b1, b2, b3] : Nat) : Int) := by
  have h0 := b0.toNat_lt
  have h1 := b1.toNat_lt
  have h2 := b2.toNat_lt
  have h3 := b3.toNat_lt
  rw [glue0 _ h0, glue _ _ (by omega) h1, glue _ _ (by omega) h2, glue _ _ (by omega) h3]
  simp [num]
theorem num4_lt (b0 b1 b2 b3 : UInt8) : num [b0, b1, b2, b3] < 4294967296 := by
  have h0 := b0.toNat_lt
  have h1 := b1.toNat_lt
  have h2 := b2.toNat_lt
  have h3 := b3.toNat_lt
  simp [num]; omega
theorem wrap32_sgn {x : Nat} (h : x < 4294967296) : ((x : Int) + 2147483648) % 4294967296 - 2147483648 = sgn true x := by
  unfold sgn
  simp only [true_and]
  split <;> omega
theorem ret_i {m n : Int} (h : m = n) : Ending.returned (.int .i64 m) = .returned (.int .i64 n) := by rw [h]

set_option maxRecDepth 100000 in
set_option maxHeartbeats 1000000 in
theorem gather_u8 (b0 b1 b2 b3 : UInt8) (w : World) :
    Calls Tryd.prog 64 #[.agg #[.int .u8 b0.toNat, .int .u8 b1.toNat, .int .u8 b2.toNat, .int .u8 b3.toNat]] w fun e w' => e = .returned (.int .i64 (((num [b0, b1, b2, b3] : Nat) : Int) % 256)) ∧ Below w.heap.size w w' := by
  go_enter Tryd.func64, Tryd.ntmps64
  go_wp2
  refine wp_loop_rounds 6 ?_
  rw [rounds_succ]
  go_wp2
  rw [rounds_succ]
  go_wp2
  rw [rounds_succ]
  go_wp2
  rw [rounds_succ]
  go_wp2
  rw [rounds_succ]
  go_wp2
  rw [glued]
  have hn := num4_lt b0 b1 b2 b3
  go_ret
  refine ⟨ret_i ?_, (Below.refl _ _).alloc (Nat.le_refl _) _⟩
  rfl

set_option maxRecDepth 100000 in
set_option maxHeartbeats 1000000 in
theorem gather_u16 (b0 b1 b2 b3 : UInt8) (w : World) :
    Calls Tryd.prog 65 #[.agg #[.int .u8 b0.toNat, .int .u8 b1.toNat, .int .u8 b2.toNat, .int .u8 b3.toNat]] w fun e w' => e = .returned (.int .i64 (((num [b0, b1, b2, b3] : Nat) : Int) % 65536)) ∧ Below w.heap.size w w' := by
  go_enter Tryd.func65, Tryd.ntmps65
  go_wp2
  refine wp_loop_rounds 6 ?_
  rw [rounds_succ]
  go_wp2
  rw [rounds_succ]
  go_wp2
  rw [rounds_succ]
  go_wp2
  rw [rounds_succ]
  go_wp2
  rw [rounds_succ]
  go_wp2
  rw [glued]
  have hn := num4_lt b0 b1 b2 b3
  go_ret
  refine ⟨ret_i ?_, (Below.refl _ _).alloc (Nat.le_refl _) _⟩
  rw [IntKind.wrap_u16]
  unfold wrap64
  omega

set_option maxRecDepth 100000 in
set_option maxHeartbeats 1000000 in
theorem gather_u32 (b0 b1 b2 b3 : UInt8) (w : World) :
    Calls Tryd.prog 66 #[.agg #[.int .u8 b0.toNat, .int .u8 b1.toNat, .int .u8 b2.toNat, .int .u8 b3.toNat]] w fun e w' => e = .returned (.int .i64 (((num [b0, b1, b2, b3] : Nat) : Int))) ∧ Below w.heap.size w w' := by
  go_enter Tryd.func66, Tryd.ntmps66
  go_wp2
  refine wp_loop_rounds 6 ?_
  rw [rounds_succ]
  go_wp2
  rw [rounds_succ]
  go_wp2
  rw [rounds_succ]
  go_wp2
  rw [rounds_succ]
  go_wp2
  rw [rounds_succ]
  go_wp2
  rw [glued]
  have hn := num4_lt b0 b1 b2 b3
  go_ret
  refine ⟨ret_i ?_, (Below.refl _ _).alloc (Nat.le_refl _) _⟩
  try simp only [IntKind.wrap, IntKind.bits, IntKind.signed, wrap64]
  omega

set_option maxRecDepth 100000 in
set_option maxHeartbeats 1000000 in
theorem gather_s32 (b0 b1 b2 b3 : UInt8) (w : World) :
    Calls Tryd.prog 67 #[.agg #[.int .u8 b0.toNat, .int .u8 b1.toNat, .int .u8 b2.toNat, .int .u8 b3.toNat]] w fun e w' => e = .returned (.int .i64 (sgn true ((num [b0, b1, b2, b3] : Nat) : Int))) ∧ Below w.heap.size w w' := by
  go_enter Tryd.func67, Tryd.ntmps67
  go_wp2
  refine wp_loop_rounds 6 ?_
  rw [rounds_succ]
  go_wp2
  rw [rounds_succ]
  go_wp2
  rw [rounds_succ]
  go_wp2
  rw [rounds_succ]
  go_wp2
  rw [rounds_succ]
  go_wp2
  rw [glued]
  have hn := num4_lt b0 b1 b2 b3
  go_ret
  refine ⟨ret_i ?_, (Below.refl _ _).alloc (Nat.le_refl _) _⟩
  have e := wrap32_sgn hn
  try simp only [wrap64, wrap32] at *
  omega

end Go.Proofs.YtieklokffmjcfaaDoor
