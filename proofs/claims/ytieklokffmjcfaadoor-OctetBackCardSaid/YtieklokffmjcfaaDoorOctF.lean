/- Package octet: spread, write. -/
import Derived.Test.YtieklokffmjcfaaDoorOctE
import Derived.Laws.MakeOwn
import Derived.Laws.BytesString
import Derived.Laws.StructEq
namespace Go.Proofs.YtieklokffmjcfaaDoor
open Go.RowKit Vo
attribute [local go_sem ↓] Go.wp_at_zero Go.wp_at_succ

theorem infoU8 : (Tryd.prog.info? 5).map (fun i => (i.zero, i.size, i.bytes)) = some (some (.int .u8 0), 1, 1) := by kernel_rfl
theorem make_u8 (k : Nat) (hk : k ≤ 65536) (W : World) : (Instr.makeSlice 70 (.int .i64 k) (.int .i64 k)).run Tryd.prog W = .ok (.slice (some ⟨W.heap.size, 0, none⟩) k k) (W.alloc (.cells (madeCells #[.int .u8 0] k) 5)) := by
  obtain ⟨i0, hi, hz0, hz1, hz2⟩ := info_parts infoU8
  have h := run_make (P := Tryd.prog) W 70 5 i0 (.int .u8 0) Tryd.underlying70 hi hz0 .i64 .i64 k k (by omega) (by omega) (by rw [hz2]; omega) (by omega)
  rw [hz1, Int.toNat_natCast, Nat.mul_one] at h
  exact h
theorem madeU8 (n : Nat) : madeCells #[.int .u8 0] n = ((List.replicate n (0 : UInt8)).map (fun b => Value.int .u8 (b.toNat : Int))).toArray := by
  unfold madeCells
  apply Array.ext_getElem?
  intro i
  simp
  by_cases h : i < n <;> simp [h, Nat.mod_one]
theorem made1 : madeCells #[.int .u8 0] 1 = #[.int .u8 0] := madeU8 1
theorem made2 : madeCells #[.int .u8 0] 2 = #[.int .u8 0, .int .u8 0] := madeU8 2
theorem made4 : madeCells #[.int .u8 0] 4 = #[.int .u8 0, .int .u8 0, .int .u8 0, .int .u8 0] := madeU8 4
theorem byte_cell (x : Int) : Value.int .u8 (x % 256) = .int .u8 ((UInt8.ofNat (x % 256).toNat).toNat : Int) := by
  rw [u8_of]; congr 1; omega
theorem addr_plain (g o j : Nat) : (⟨g, o, none⟩ : Addr).add j = ⟨g, o + j, none⟩ := by simp [Addr.add]
theorem ret_s {s t : ByteArray} (h : s = t) : Ending.returned (.string s) = .returned (.string t) := by rw [h]
theorem octs_1 (n : Int) : octs n 1 = [UInt8.ofNat (n % 256).toNat] := rfl
theorem octs_2 (n : Int) : octs n 2 = [UInt8.ofNat (n / 256 % 256).toNat, UInt8.ofNat (n % 256).toNat] := rfl
theorem octs_4 (n : Int) : octs n 4 = [UInt8.ofNat (n / 16777216 % 256).toNat, UInt8.ofNat (n / 65536 % 256).toNat, UInt8.ofNat (n / 256 % 256).toNat, UInt8.ofNat (n % 256).toNat] := by
  have e : octs n 4 = [UInt8.ofNat (n / 256 / 256 / 256 % 256).toNat, UInt8.ofNat (n / 256 / 256 % 256).toNat, UInt8.ofNat (n / 256 % 256).toNat, UInt8.ofNat (n % 256).toNat] := rfl
  rw [e, show n / 256 / 256 = n / 65536 by omega, show n / 65536 / 256 = n / 16777216 by omega]
theorem conv_1 (x0 : Int) (W : World) :
    (convert 70 9 (.slice (some ⟨W.heap.size, 0, none⟩) 1 1)).run Tryd.prog (W.alloc (.cells #[.int .u8 (x0 % 256)] 5)) = .ok (.string (B [UInt8.ofNat (x0 % 256).toNat])) (W.alloc (.cells #[.int .u8 (x0 % 256)] 5)) := by
  have h := run_convert_bytes_back (P := Tryd.prog) (W.alloc (.cells #[.int .u8 (x0 % 256)] 5)) 70 9 5 ⟨W.heap.size, 0, none⟩ 1 [UInt8.ofNat (x0 % 256).toNat] Tryd.underlying70 Tryd.underlying5 Tryd.underlying9 (fun j hj => by
    rw [addr_plain, cell_of_row _ W.heap.size _ _ _ (0, 0) (heap_alloc_new W _), Nat.zero_add]
    match j, hj with
    | 0, _ => exact congrArg some (byte_cell x0))
  exact h
theorem conv_2 (x0 x1 : Int) (W : World) :
    (convert 70 9 (.slice (some ⟨W.heap.size, 0, none⟩) 2 2)).run Tryd.prog (W.alloc (.cells #[.int .u8 (x0 % 256), .int .u8 (x1 % 256)] 5)) = .ok (.string (B [UInt8.ofNat (x0 % 256).toNat, UInt8.ofNat (x1 % 256).toNat])) (W.alloc (.cells #[.int .u8 (x0 % 256), .int .u8 (x1 % 256)] 5)) := by
  have h := run_convert_bytes_back (P := Tryd.prog) (W.alloc (.cells #[.int .u8 (x0 % 256), .int .u8 (x1 % 256)] 5)) 70 9 5 ⟨W.heap.size, 0, none⟩ 2 [UInt8.ofNat (x0 % 256).toNat, UInt8.ofNat (x1 % 256).toNat] Tryd.underlying70 Tryd.underlying5 Tryd.underlying9 (fun j hj => by
    rw [addr_plain, cell_of_row _ W.heap.size _ _ _ (0, 0) (heap_alloc_new W _), Nat.zero_add]
    match j, hj with
    | 0, _ => exact congrArg some (byte_cell x0)
    | 1, _ => exact congrArg some (byte_cell x1))
  exact h
theorem conv_4 (x0 x1 x2 x3 : Int) (W : World) :
    (convert 70 9 (.slice (some ⟨W.heap.size, 0, none⟩) 4 4)).run Tryd.prog (W.alloc (.cells #[.int .u8 (x0 % 256), .int .u8 (x1 % 256), .int .u8 (x2 % 256), .int .u8 (x3 % 256)] 5)) = .ok (.string (B [UInt8.ofNat (x0 % 256).toNat, UInt8.ofNat (x1 % 256).toNat, UInt8.ofNat (x2 % 256).toNat, UInt8.ofNat (x3 % 256).toNat])) (W.alloc (.cells #[.int .u8 (x0 % 256), .int .u8 (x1 % 256), .int .u8 (x2 % 256), .int .u8 (x3 % 256)] 5)) := by
  have h := run_convert_bytes_back (P := Tryd.prog) (W.alloc (.cells #[.int .u8 (x0 % 256), .int .u8 (x1 % 256), .int .u8 (x2 % 256), .int .u8 (x3 % 256)] 5)) 70 9 5 ⟨W.heap.size, 0, none⟩ 4 [UInt8.ofNat (x0 % 256).toNat, UInt8.ofNat (x1 % 256).toNat, UInt8.ofNat (x2 % 256).toNat, UInt8.ofNat (x3 % 256).toNat] Tryd.underlying70 Tryd.underlying5 Tryd.underlying9 (fun j hj => by
    rw [addr_plain, cell_of_row _ W.heap.size _ _ _ (0, 0) (heap_alloc_new W _), Nat.zero_add]
    match j, hj with
    | 0, _ => exact congrArg some (byte_cell x0)
    | 1, _ => exact congrArg some (byte_cell x1)
    | 2, _ => exact congrArg some (byte_cell x2)
    | 3, _ => exact congrArg some (byte_cell x3))
  exact h

set_option maxRecDepth 100000 in
set_option maxHeartbeats 2000000 in
theorem spread_1 (n : Int) (w : World) :
    Calls Tryd.prog 59 #[.int .i64 n, .int .i64 1] w fun e w' => e = .returned (.string (B (octs n 1))) ∧ Below w.heap.size w w' := by
  have hm : ∀ W, (Instr.makeSlice 70 (.int .i64 1) (.int .i64 1)).run Tryd.prog W = .ok (.slice (some ⟨W.heap.size, 0, none⟩) 1 1) (W.alloc (.cells #[.int .u8 0] 5)) := fun W => made1 ▸ make_u8 1 (by omega) W
  have hcv := conv_1
  go_enter Tryd.func59, Tryd.ntmps59
  go_wp2_with fail
  refine wp_loop_rounds 6 ?_
  rw [rounds_succ]
  go_wp2_with fail
  rw [rounds_succ]
  go_wp2_with fail
  go_ret
  exact ⟨ret_s (by rw [octs_1]), (Below.refl _ _).alloc (Nat.le_refl _) _⟩

set_option maxRecDepth 100000 in
set_option maxHeartbeats 2000000 in
theorem spread_2 (n : Int) (w : World) :
    Calls Tryd.prog 59 #[.int .i64 n, .int .i64 2] w fun e w' => e = .returned (.string (B (octs n 2))) ∧ Below w.heap.size w w' := by
  have hm : ∀ W, (Instr.makeSlice 70 (.int .i64 2) (.int .i64 2)).run Tryd.prog W = .ok (.slice (some ⟨W.heap.size, 0, none⟩) 2 2) (W.alloc (.cells #[.int .u8 0, .int .u8 0] 5)) := fun W => made2 ▸ make_u8 2 (by omega) W
  have hcv := conv_2
  go_enter Tryd.func59, Tryd.ntmps59
  go_wp2_with fail
  refine wp_loop_rounds 6 ?_
  rw [rounds_succ]
  go_wp2_with fail
  rw [rounds_succ]
  go_wp2_with fail
  rw [rounds_succ]
  go_wp2_with fail
  go_ret
  exact ⟨ret_s (by rw [octs_2]), (Below.refl _ _).alloc (Nat.le_refl _) _⟩

set_option maxRecDepth 100000 in
set_option maxHeartbeats 2000000 in
theorem spread_4 (n : Int) (w : World) :
    Calls Tryd.prog 59 #[.int .i64 n, .int .i64 4] w fun e w' => e = .returned (.string (B (octs n 4))) ∧ Below w.heap.size w w' := by
  have hm : ∀ W, (Instr.makeSlice 70 (.int .i64 4) (.int .i64 4)).run Tryd.prog W = .ok (.slice (some ⟨W.heap.size, 0, none⟩) 4 4) (W.alloc (.cells #[.int .u8 0, .int .u8 0, .int .u8 0, .int .u8 0] 5)) := fun W => made4 ▸ make_u8 4 (by omega) W
  have hcv := conv_4
  go_enter Tryd.func59, Tryd.ntmps59
  go_wp2_with fail
  refine wp_loop_rounds 6 ?_
  rw [rounds_succ]
  go_wp2_with fail
  rw [rounds_succ]
  go_wp2_with fail
  rw [rounds_succ]
  go_wp2_with fail
  rw [rounds_succ]
  go_wp2_with fail
  rw [rounds_succ]
  go_wp2_with fail
  go_ret
  exact ⟨ret_s (by rw [octs_4]), (Below.refl _ _).alloc (Nat.le_refl _) _⟩
theorem sx0 (p0 p1 p2 p3 p4 p5 p6 p7 : Nat) (W : World) : (Instr.index 79 (.agg (scV p0 p1 p2 p3 p4 p5 p6 p7)) (.int .i64 0)).run Tryd.prog W = .ok (.agg #[.int .i64 1, .bool false, fnV p0 p1]) W := by kernel_rfl
theorem sx1 (p0 p1 p2 p3 p4 p5 p6 p7 : Nat) (W : World) : (Instr.index 79 (.agg (scV p0 p1 p2 p3 p4 p5 p6 p7)) (.int .i64 1)).run Tryd.prog W = .ok (.agg #[.int .i64 2, .bool false, fnV p2 p3]) W := by kernel_rfl
theorem sx2 (p0 p1 p2 p3 p4 p5 p6 p7 : Nat) (W : World) : (Instr.index 79 (.agg (scV p0 p1 p2 p3 p4 p5 p6 p7)) (.int .i64 2)).run Tryd.prog W = .ok (.agg #[.int .i64 4, .bool false, fnV p4 p5]) W := by kernel_rfl
theorem sx3 (p0 p1 p2 p3 p4 p5 p6 p7 : Nat) (W : World) : (Instr.index 79 (.agg (scV p0 p1 p2 p3 p4 p5 p6 p7)) (.int .i64 3)).run Tryd.prog W = .ok (.agg #[.int .i64 4, .bool true, fnV p6 p7]) W := by kernel_rfl
attribute [local go_sem ↓] sx0 sx1 sx2 sx3
theorem below_more {W W1 W2 : World} (h : Below W.heap.size W W1) (k : Below W1.heap.size W1 W2) : Below W.heap.size W W2 := h.trans (k.mono h.size)

set_option maxRecDepth 100000 in
set_option maxHeartbeats 4000000 in
theorem write_u8_yes (n : Int) (w : World) (h0 : 0 ≤ n) (h1 : n ≤ 255) :
    Calls Tryd.prog 33 #[.int .i64 n, .agg #[.int .i64 1, .bool false]] w fun e w' => e = .returned (.tuple #[.string (B (octs n 1)), .int .i64 0]) ∧ Below w.heap.size w w' := by
  have hsp := fun W => spread_1 n W
  have hA : Below w.heap.size w (w.alloc (.cells #[.int .i64 1, .bool false] 54)) := (Below.refl _ _).alloc (Nat.le_refl _) _
  go_enter Tryd.func33, Tryd.ntmps33
  go_wp2_with fail
  refine (scopes_any _).mono ?_
  rintro e w1 ⟨p0, p1, p2, p3, p4, p5, p6, p7, rfl, c0, c1, c2, c3, c4, c5, c6, c7, hb1⟩
  have k0 := hb1.cell (p := ⟨w.heap.size, 0, none⟩) (by simp)
  have k1 := hb1.cell (p := ⟨w.heap.size, 1, none⟩) (by simp)
  have e0 : (w.alloc (.cells #[.int .i64 1, .bool false] 54)).cell? ⟨w.heap.size, 0, none⟩ = some (.int .i64 1) := by simp [go_sem]
  have e1 : (w.alloc (.cells #[.int .i64 1, .bool false] 54)).cell? ⟨w.heap.size, 1, none⟩ = some (.bool false) := by simp [go_sem]
  rw [e0] at k0
  rw [e1] at k1
  have hB := hA.trans (hb1.mono hA.size)
  have HB := Lib.hid hB
  clear e0 e1 hA hb1 hB c2 c3 c4 c5 c6 c7
  have l0 := World.block_lt_of_cell? w1 _ c0
  have l1 := World.block_lt_of_cell? w1 _ c1
  have lk := World.block_lt_of_cell? w1 _ k0
  simp only at l0 l1 lk
  have lk1 : ¬ w.heap.size = w1.heap.size + 1 := by omega
  have lk2 : ¬ w.heap.size = w1.heap.size + 1 + 1 := by omega
  have lk3 : ¬ w.heap.size = w1.heap.size + 1 + 1 + 1 := by omega
  have lm1 : w.heap.size < w1.heap.size + 1 := by omega
  have lm2 : w.heap.size < w1.heap.size + 1 + 1 := by omega
  have lm3 : w.heap.size < w1.heap.size + 1 + 1 + 1 := by omega
  go_wp2_with fail
  refine wp_loop_rounds 6 ?_
  rw [rounds_succ]
  go_wp2_with fail
  refine (holds_yes _ _ _ _ _ _ ?_ ?_ h0 h1).mono ?_
  · repeat rw [World.cell?_alloc_lt _ _ _ (by simp <;> omega)]
    exact c0
  · repeat rw [World.cell?_alloc_lt _ _ _ (by simp <;> omega)]
    exact c1
  rintro e w2 ⟨rfl, rfl⟩
  go_wp2_with fail
  refine (hsp _).mono ?_
  rintro e w3 ⟨rfl, hb3⟩
  go_wp2_with fail
  go_ret2
  have hC : Below w1.heap.size w1 _ := below_more (W := w1) ?_ hb3
  exact ⟨rfl, HB.out.trans (hC.mono HB.out.size)⟩
  repeat (first | exact Below.refl _ _ | refine Below.alloc ?_ (by simp <;> omega) _)

set_option maxRecDepth 100000 in
set_option maxHeartbeats 4000000 in
theorem write_u8_no (n : Int) (w : World) (h : n < 0 ∨ 255 < n) :
    Calls Tryd.prog 33 #[.int .i64 n, .agg #[.int .i64 1, .bool false]] w fun e w' => e = .returned (.tuple #[.string (B []), .int .i64 2]) ∧ Below w.heap.size w w' := by
  have hA : Below w.heap.size w (w.alloc (.cells #[.int .i64 1, .bool false] 54)) := (Below.refl _ _).alloc (Nat.le_refl _) _
  go_enter Tryd.func33, Tryd.ntmps33
  go_wp2_with fail
  refine (scopes_any _).mono ?_
  rintro e w1 ⟨p0, p1, p2, p3, p4, p5, p6, p7, rfl, c0, c1, c2, c3, c4, c5, c6, c7, hb1⟩
  have k0 := hb1.cell (p := ⟨w.heap.size, 0, none⟩) (by simp)
  have k1 := hb1.cell (p := ⟨w.heap.size, 1, none⟩) (by simp)
  have e0 : (w.alloc (.cells #[.int .i64 1, .bool false] 54)).cell? ⟨w.heap.size, 0, none⟩ = some (.int .i64 1) := by simp [go_sem]
  have e1 : (w.alloc (.cells #[.int .i64 1, .bool false] 54)).cell? ⟨w.heap.size, 1, none⟩ = some (.bool false) := by simp [go_sem]
  rw [e0] at k0
  rw [e1] at k1
  have hB := hA.trans (hb1.mono hA.size)
  have HB := Lib.hid hB
  clear e0 e1 hA hb1 hB c2 c3 c4 c5 c6 c7
  have l0 := World.block_lt_of_cell? w1 _ c0
  have l1 := World.block_lt_of_cell? w1 _ c1
  have lk := World.block_lt_of_cell? w1 _ k0
  simp only at l0 l1 lk
  have lk1 : ¬ w.heap.size = w1.heap.size + 1 := by omega
  have lk2 : ¬ w.heap.size = w1.heap.size + 1 + 1 := by omega
  have lk3 : ¬ w.heap.size = w1.heap.size + 1 + 1 + 1 := by omega
  have lm1 : w.heap.size < w1.heap.size + 1 := by omega
  have lm2 : w.heap.size < w1.heap.size + 1 + 1 := by omega
  have lm3 : w.heap.size < w1.heap.size + 1 + 1 + 1 := by omega
  go_wp2_with fail
  refine wp_loop_rounds 6 ?_
  rw [rounds_succ]
  go_wp2_with fail
  refine (holds_no _ _ _ _ _ _ ?_ ?_ h).mono ?_
  · repeat rw [World.cell?_alloc_lt _ _ _ (by simp <;> omega)]
    exact c0
  · repeat rw [World.cell?_alloc_lt _ _ _ (by simp <;> omega)]
    exact c1
  rintro e w2 ⟨rfl, rfl⟩
  clear h
  go_wp2_with fail
  rw [rounds_succ]
  go_wp2_with fail
  rw [rounds_succ]
  go_wp2_with fail
  rw [rounds_succ]
  go_wp2_with fail
  rw [rounds_succ]
  go_wp2_with fail
  go_ret2
  refine ⟨rfl, HB.out.trans ((?_ : Below w1.heap.size w1 _).mono HB.out.size)⟩
  repeat (first | exact Below.refl _ _ | refine Below.alloc ?_ (by simp <;> omega) _)

set_option maxRecDepth 100000 in
set_option maxHeartbeats 4000000 in
theorem write_u16_yes (n : Int) (w : World) (h0 : 0 ≤ n) (h1 : n ≤ 65535) :
    Calls Tryd.prog 33 #[.int .i64 n, .agg #[.int .i64 2, .bool false]] w fun e w' => e = .returned (.tuple #[.string (B (octs n 2)), .int .i64 0]) ∧ Below w.heap.size w w' := by
  have hsp := fun W => spread_2 n W
  have hA : Below w.heap.size w (w.alloc (.cells #[.int .i64 2, .bool false] 54)) := (Below.refl _ _).alloc (Nat.le_refl _) _
  go_enter Tryd.func33, Tryd.ntmps33
  go_wp2_with fail
  refine (scopes_any _).mono ?_
  rintro e w1 ⟨p0, p1, p2, p3, p4, p5, p6, p7, rfl, c0, c1, c2, c3, c4, c5, c6, c7, hb1⟩
  have k0 := hb1.cell (p := ⟨w.heap.size, 0, none⟩) (by simp)
  have k1 := hb1.cell (p := ⟨w.heap.size, 1, none⟩) (by simp)
  have e0 : (w.alloc (.cells #[.int .i64 2, .bool false] 54)).cell? ⟨w.heap.size, 0, none⟩ = some (.int .i64 2) := by simp [go_sem]
  have e1 : (w.alloc (.cells #[.int .i64 2, .bool false] 54)).cell? ⟨w.heap.size, 1, none⟩ = some (.bool false) := by simp [go_sem]
  rw [e0] at k0
  rw [e1] at k1
  have hB := hA.trans (hb1.mono hA.size)
  have HB := Lib.hid hB
  clear e0 e1 hA hb1 hB c0 c1 c4 c5 c6 c7
  have l0 := World.block_lt_of_cell? w1 _ c2
  have l1 := World.block_lt_of_cell? w1 _ c3
  have lk := World.block_lt_of_cell? w1 _ k0
  simp only at l0 l1 lk
  have lk1 : ¬ w.heap.size = w1.heap.size + 1 := by omega
  have lk2 : ¬ w.heap.size = w1.heap.size + 1 + 1 := by omega
  have lk3 : ¬ w.heap.size = w1.heap.size + 1 + 1 + 1 := by omega
  have lm1 : w.heap.size < w1.heap.size + 1 := by omega
  have lm2 : w.heap.size < w1.heap.size + 1 + 1 := by omega
  have lm3 : w.heap.size < w1.heap.size + 1 + 1 + 1 := by omega
  go_wp2_with fail
  refine wp_loop_rounds 6 ?_
  rw [rounds_succ]
  go_wp2_with fail
  rw [rounds_succ]
  go_wp2_with fail
  refine (holds_yes _ _ _ _ _ _ ?_ ?_ h0 h1).mono ?_
  · repeat rw [World.cell?_alloc_lt _ _ _ (by simp <;> omega)]
    exact c2
  · repeat rw [World.cell?_alloc_lt _ _ _ (by simp <;> omega)]
    exact c3
  rintro e w2 ⟨rfl, rfl⟩
  go_wp2_with fail
  refine (hsp _).mono ?_
  rintro e w3 ⟨rfl, hb3⟩
  go_wp2_with fail
  go_ret2
  have hC : Below w1.heap.size w1 _ := below_more (W := w1) ?_ hb3
  exact ⟨rfl, HB.out.trans (hC.mono HB.out.size)⟩
  repeat (first | exact Below.refl _ _ | refine Below.alloc ?_ (by simp <;> omega) _)

set_option maxRecDepth 100000 in
set_option maxHeartbeats 4000000 in
theorem write_u16_no (n : Int) (w : World) (h : n < 0 ∨ 65535 < n) :
    Calls Tryd.prog 33 #[.int .i64 n, .agg #[.int .i64 2, .bool false]] w fun e w' => e = .returned (.tuple #[.string (B []), .int .i64 2]) ∧ Below w.heap.size w w' := by
  have hA : Below w.heap.size w (w.alloc (.cells #[.int .i64 2, .bool false] 54)) := (Below.refl _ _).alloc (Nat.le_refl _) _
  go_enter Tryd.func33, Tryd.ntmps33
  go_wp2_with fail
  refine (scopes_any _).mono ?_
  rintro e w1 ⟨p0, p1, p2, p3, p4, p5, p6, p7, rfl, c0, c1, c2, c3, c4, c5, c6, c7, hb1⟩
  have k0 := hb1.cell (p := ⟨w.heap.size, 0, none⟩) (by simp)
  have k1 := hb1.cell (p := ⟨w.heap.size, 1, none⟩) (by simp)
  have e0 : (w.alloc (.cells #[.int .i64 2, .bool false] 54)).cell? ⟨w.heap.size, 0, none⟩ = some (.int .i64 2) := by simp [go_sem]
  have e1 : (w.alloc (.cells #[.int .i64 2, .bool false] 54)).cell? ⟨w.heap.size, 1, none⟩ = some (.bool false) := by simp [go_sem]
  rw [e0] at k0
  rw [e1] at k1
  have hB := hA.trans (hb1.mono hA.size)
  have HB := Lib.hid hB
  clear e0 e1 hA hb1 hB c0 c1 c4 c5 c6 c7
  have l0 := World.block_lt_of_cell? w1 _ c2
  have l1 := World.block_lt_of_cell? w1 _ c3
  have lk := World.block_lt_of_cell? w1 _ k0
  simp only at l0 l1 lk
  have lk1 : ¬ w.heap.size = w1.heap.size + 1 := by omega
  have lk2 : ¬ w.heap.size = w1.heap.size + 1 + 1 := by omega
  have lk3 : ¬ w.heap.size = w1.heap.size + 1 + 1 + 1 := by omega
  have lm1 : w.heap.size < w1.heap.size + 1 := by omega
  have lm2 : w.heap.size < w1.heap.size + 1 + 1 := by omega
  have lm3 : w.heap.size < w1.heap.size + 1 + 1 + 1 := by omega
  go_wp2_with fail
  refine wp_loop_rounds 6 ?_
  rw [rounds_succ]
  go_wp2_with fail
  rw [rounds_succ]
  go_wp2_with fail
  refine (holds_no _ _ _ _ _ _ ?_ ?_ h).mono ?_
  · repeat rw [World.cell?_alloc_lt _ _ _ (by simp <;> omega)]
    exact c2
  · repeat rw [World.cell?_alloc_lt _ _ _ (by simp <;> omega)]
    exact c3
  rintro e w2 ⟨rfl, rfl⟩
  clear h
  go_wp2_with fail
  rw [rounds_succ]
  go_wp2_with fail
  rw [rounds_succ]
  go_wp2_with fail
  rw [rounds_succ]
  go_wp2_with fail
  go_ret2
  refine ⟨rfl, HB.out.trans ((?_ : Below w1.heap.size w1 _).mono HB.out.size)⟩
  repeat (first | exact Below.refl _ _ | refine Below.alloc ?_ (by simp <;> omega) _)

set_option maxRecDepth 100000 in
set_option maxHeartbeats 4000000 in
theorem write_u32_yes (n : Int) (w : World) (h0 : 0 ≤ n) (h1 : n ≤ 4294967295) :
    Calls Tryd.prog 33 #[.int .i64 n, .agg #[.int .i64 4, .bool false]] w fun e w' => e = .returned (.tuple #[.string (B (octs n 4)), .int .i64 0]) ∧ Below w.heap.size w w' := by
  have hsp := fun W => spread_4 n W
  have hA : Below w.heap.size w (w.alloc (.cells #[.int .i64 4, .bool false] 54)) := (Below.refl _ _).alloc (Nat.le_refl _) _
  go_enter Tryd.func33, Tryd.ntmps33
  go_wp2_with fail
  refine (scopes_any _).mono ?_
  rintro e w1 ⟨p0, p1, p2, p3, p4, p5, p6, p7, rfl, c0, c1, c2, c3, c4, c5, c6, c7, hb1⟩
  have k0 := hb1.cell (p := ⟨w.heap.size, 0, none⟩) (by simp)
  have k1 := hb1.cell (p := ⟨w.heap.size, 1, none⟩) (by simp)
  have e0 : (w.alloc (.cells #[.int .i64 4, .bool false] 54)).cell? ⟨w.heap.size, 0, none⟩ = some (.int .i64 4) := by simp [go_sem]
  have e1 : (w.alloc (.cells #[.int .i64 4, .bool false] 54)).cell? ⟨w.heap.size, 1, none⟩ = some (.bool false) := by simp [go_sem]
  rw [e0] at k0
  rw [e1] at k1
  have hB := hA.trans (hb1.mono hA.size)
  have HB := Lib.hid hB
  clear e0 e1 hA hb1 hB c0 c1 c2 c3 c6 c7
  have l0 := World.block_lt_of_cell? w1 _ c4
  have l1 := World.block_lt_of_cell? w1 _ c5
  have lk := World.block_lt_of_cell? w1 _ k0
  simp only at l0 l1 lk
  have lk1 : ¬ w.heap.size = w1.heap.size + 1 := by omega
  have lk2 : ¬ w.heap.size = w1.heap.size + 1 + 1 := by omega
  have lk3 : ¬ w.heap.size = w1.heap.size + 1 + 1 + 1 := by omega
  have lm1 : w.heap.size < w1.heap.size + 1 := by omega
  have lm2 : w.heap.size < w1.heap.size + 1 + 1 := by omega
  have lm3 : w.heap.size < w1.heap.size + 1 + 1 + 1 := by omega
  go_wp2_with fail
  refine wp_loop_rounds 6 ?_
  rw [rounds_succ]
  go_wp2_with fail
  rw [rounds_succ]
  go_wp2_with fail
  rw [rounds_succ]
  go_wp2_with fail
  refine (holds_yes _ _ _ _ _ _ ?_ ?_ h0 h1).mono ?_
  · repeat rw [World.cell?_alloc_lt _ _ _ (by simp <;> omega)]
    exact c4
  · repeat rw [World.cell?_alloc_lt _ _ _ (by simp <;> omega)]
    exact c5
  rintro e w2 ⟨rfl, rfl⟩
  go_wp2_with fail
  refine (hsp _).mono ?_
  rintro e w3 ⟨rfl, hb3⟩
  go_wp2_with fail
  go_ret2
  have hC : Below w1.heap.size w1 _ := below_more (W := w1) ?_ hb3
  exact ⟨rfl, HB.out.trans (hC.mono HB.out.size)⟩
  repeat (first | exact Below.refl _ _ | refine Below.alloc ?_ (by simp <;> omega) _)

set_option maxRecDepth 100000 in
set_option maxHeartbeats 4000000 in
theorem write_u32_no (n : Int) (w : World) (h : n < 0 ∨ 4294967295 < n) :
    Calls Tryd.prog 33 #[.int .i64 n, .agg #[.int .i64 4, .bool false]] w fun e w' => e = .returned (.tuple #[.string (B []), .int .i64 2]) ∧ Below w.heap.size w w' := by
  have hA : Below w.heap.size w (w.alloc (.cells #[.int .i64 4, .bool false] 54)) := (Below.refl _ _).alloc (Nat.le_refl _) _
  go_enter Tryd.func33, Tryd.ntmps33
  go_wp2_with fail
  refine (scopes_any _).mono ?_
  rintro e w1 ⟨p0, p1, p2, p3, p4, p5, p6, p7, rfl, c0, c1, c2, c3, c4, c5, c6, c7, hb1⟩
  have k0 := hb1.cell (p := ⟨w.heap.size, 0, none⟩) (by simp)
  have k1 := hb1.cell (p := ⟨w.heap.size, 1, none⟩) (by simp)
  have e0 : (w.alloc (.cells #[.int .i64 4, .bool false] 54)).cell? ⟨w.heap.size, 0, none⟩ = some (.int .i64 4) := by simp [go_sem]
  have e1 : (w.alloc (.cells #[.int .i64 4, .bool false] 54)).cell? ⟨w.heap.size, 1, none⟩ = some (.bool false) := by simp [go_sem]
  rw [e0] at k0
  rw [e1] at k1
  have hB := hA.trans (hb1.mono hA.size)
  have HB := Lib.hid hB
  clear e0 e1 hA hb1 hB c0 c1 c2 c3 c6 c7
  have l0 := World.block_lt_of_cell? w1 _ c4
  have l1 := World.block_lt_of_cell? w1 _ c5
  have lk := World.block_lt_of_cell? w1 _ k0
  simp only at l0 l1 lk
  have lk1 : ¬ w.heap.size = w1.heap.size + 1 := by omega
  have lk2 : ¬ w.heap.size = w1.heap.size + 1 + 1 := by omega
  have lk3 : ¬ w.heap.size = w1.heap.size + 1 + 1 + 1 := by omega
  have lm1 : w.heap.size < w1.heap.size + 1 := by omega
  have lm2 : w.heap.size < w1.heap.size + 1 + 1 := by omega
  have lm3 : w.heap.size < w1.heap.size + 1 + 1 + 1 := by omega
  go_wp2_with fail
  refine wp_loop_rounds 6 ?_
  rw [rounds_succ]
  go_wp2_with fail
  rw [rounds_succ]
  go_wp2_with fail
  rw [rounds_succ]
  go_wp2_with fail
  refine (holds_no _ _ _ _ _ _ ?_ ?_ h).mono ?_
  · repeat rw [World.cell?_alloc_lt _ _ _ (by simp <;> omega)]
    exact c4
  · repeat rw [World.cell?_alloc_lt _ _ _ (by simp <;> omega)]
    exact c5
  rintro e w2 ⟨rfl, rfl⟩
  clear h
  go_wp2_with fail
  rw [rounds_succ]
  go_wp2_with fail
  rw [rounds_succ]
  go_wp2_with fail
  go_ret2
  refine ⟨rfl, HB.out.trans ((?_ : Below w1.heap.size w1 _).mono HB.out.size)⟩
  repeat (first | exact Below.refl _ _ | refine Below.alloc ?_ (by simp <;> omega) _)

set_option maxRecDepth 100000 in
set_option maxHeartbeats 4000000 in
theorem write_s32_yes (n : Int) (w : World) (h0 : (-2147483648) ≤ n) (h1 : n ≤ 2147483647) :
    Calls Tryd.prog 33 #[.int .i64 n, .agg #[.int .i64 4, .bool true]] w fun e w' => e = .returned (.tuple #[.string (B (octs n 4)), .int .i64 0]) ∧ Below w.heap.size w w' := by
  have hsp := fun W => spread_4 n W
  have hA : Below w.heap.size w (w.alloc (.cells #[.int .i64 4, .bool true] 54)) := (Below.refl _ _).alloc (Nat.le_refl _) _
  go_enter Tryd.func33, Tryd.ntmps33
  go_wp2_with fail
  refine (scopes_any _).mono ?_
  rintro e w1 ⟨p0, p1, p2, p3, p4, p5, p6, p7, rfl, c0, c1, c2, c3, c4, c5, c6, c7, hb1⟩
  have k0 := hb1.cell (p := ⟨w.heap.size, 0, none⟩) (by simp)
  have k1 := hb1.cell (p := ⟨w.heap.size, 1, none⟩) (by simp)
  have e0 : (w.alloc (.cells #[.int .i64 4, .bool true] 54)).cell? ⟨w.heap.size, 0, none⟩ = some (.int .i64 4) := by simp [go_sem]
  have e1 : (w.alloc (.cells #[.int .i64 4, .bool true] 54)).cell? ⟨w.heap.size, 1, none⟩ = some (.bool true) := by simp [go_sem]
  rw [e0] at k0
  rw [e1] at k1
  have hB := hA.trans (hb1.mono hA.size)
  have HB := Lib.hid hB
  clear e0 e1 hA hb1 hB c0 c1 c2 c3 c4 c5
  have l0 := World.block_lt_of_cell? w1 _ c6
  have l1 := World.block_lt_of_cell? w1 _ c7
  have lk := World.block_lt_of_cell? w1 _ k0
  simp only at l0 l1 lk
  have lk1 : ¬ w.heap.size = w1.heap.size + 1 := by omega
  have lk2 : ¬ w.heap.size = w1.heap.size + 1 + 1 := by omega
  have lk3 : ¬ w.heap.size = w1.heap.size + 1 + 1 + 1 := by omega
  have lm1 : w.heap.size < w1.heap.size + 1 := by omega
  have lm2 : w.heap.size < w1.heap.size + 1 + 1 := by omega
  have lm3 : w.heap.size < w1.heap.size + 1 + 1 + 1 := by omega
  go_wp2_with fail
  refine wp_loop_rounds 6 ?_
  rw [rounds_succ]
  go_wp2_with fail
  rw [rounds_succ]
  go_wp2_with fail
  rw [rounds_succ]
  go_wp2_with fail
  rw [rounds_succ]
  go_wp2_with fail
  refine (holds_yes _ _ _ _ _ _ ?_ ?_ h0 h1).mono ?_
  · repeat rw [World.cell?_alloc_lt _ _ _ (by simp <;> omega)]
    exact c6
  · repeat rw [World.cell?_alloc_lt _ _ _ (by simp <;> omega)]
    exact c7
  rintro e w2 ⟨rfl, rfl⟩
  go_wp2_with fail
  refine (hsp _).mono ?_
  rintro e w3 ⟨rfl, hb3⟩
  go_wp2_with fail
  go_ret2
  have hC : Below w1.heap.size w1 _ := below_more (W := w1) ?_ hb3
  exact ⟨rfl, HB.out.trans (hC.mono HB.out.size)⟩
  repeat (first | exact Below.refl _ _ | refine Below.alloc ?_ (by simp <;> omega) _)

set_option maxRecDepth 100000 in
set_option maxHeartbeats 4000000 in
theorem write_s32_no (n : Int) (w : World) (h : n < (-2147483648) ∨ 2147483647 < n) :
    Calls Tryd.prog 33 #[.int .i64 n, .agg #[.int .i64 4, .bool true]] w fun e w' => e = .returned (.tuple #[.string (B []), .int .i64 2]) ∧ Below w.heap.size w w' := by
  have hA : Below w.heap.size w (w.alloc (.cells #[.int .i64 4, .bool true] 54)) := (Below.refl _ _).alloc (Nat.le_refl _) _
  go_enter Tryd.func33, Tryd.ntmps33
  go_wp2_with fail
  refine (scopes_any _).mono ?_
  rintro e w1 ⟨p0, p1, p2, p3, p4, p5, p6, p7, rfl, c0, c1, c2, c3, c4, c5, c6, c7, hb1⟩
  have k0 := hb1.cell (p := ⟨w.heap.size, 0, none⟩) (by simp)
  have k1 := hb1.cell (p := ⟨w.heap.size, 1, none⟩) (by simp)
  have e0 : (w.alloc (.cells #[.int .i64 4, .bool true] 54)).cell? ⟨w.heap.size, 0, none⟩ = some (.int .i64 4) := by simp [go_sem]
  have e1 : (w.alloc (.cells #[.int .i64 4, .bool true] 54)).cell? ⟨w.heap.size, 1, none⟩ = some (.bool true) := by simp [go_sem]
  rw [e0] at k0
  rw [e1] at k1
  have hB := hA.trans (hb1.mono hA.size)
  have HB := Lib.hid hB
  clear e0 e1 hA hb1 hB c0 c1 c2 c3 c4 c5
  have l0 := World.block_lt_of_cell? w1 _ c6
  have l1 := World.block_lt_of_cell? w1 _ c7
  have lk := World.block_lt_of_cell? w1 _ k0
  simp only at l0 l1 lk
  have lk1 : ¬ w.heap.size = w1.heap.size + 1 := by omega
  have lk2 : ¬ w.heap.size = w1.heap.size + 1 + 1 := by omega
  have lk3 : ¬ w.heap.size = w1.heap.size + 1 + 1 + 1 := by omega
  have lm1 : w.heap.size < w1.heap.size + 1 := by omega
  have lm2 : w.heap.size < w1.heap.size + 1 + 1 := by omega
  have lm3 : w.heap.size < w1.heap.size + 1 + 1 + 1 := by omega
  go_wp2_with fail
  refine wp_loop_rounds 6 ?_
  rw [rounds_succ]
  go_wp2_with fail
  rw [rounds_succ]
  go_wp2_with fail
  rw [rounds_succ]
  go_wp2_with fail
  rw [rounds_succ]
  go_wp2_with fail
  refine (holds_no _ _ _ _ _ _ ?_ ?_ h).mono ?_
  · repeat rw [World.cell?_alloc_lt _ _ _ (by simp <;> omega)]
    exact c6
  · repeat rw [World.cell?_alloc_lt _ _ _ (by simp <;> omega)]
    exact c7
  rintro e w2 ⟨rfl, rfl⟩
  clear h
  go_wp2_with fail
  rw [rounds_succ]
  go_wp2_with fail
  go_ret2
  refine ⟨rfl, HB.out.trans ((?_ : Below w1.heap.size w1 _).mono HB.out.size)⟩
  repeat (first | exact Below.refl _ _ | refine Below.alloc ?_ (by simp <;> omega) _)

set_option maxHeartbeats 400000 in
theorem put_u8 (n : Int) (w : World) :
    Calls Tryd.prog 7 #[.int .i64 n] w fun e w' => e = .returned (.tuple #[.string (B (putR 0 255 1 n).1), .int .i64 (putR 0 255 1 n).2]) ∧ Below w.heap.size w w' := by
  have hk := bkind
  have h : ∀ W, Calls Tryd.prog 33 #[.int .i64 n, .agg #[.int .i64 1, .bool false]] W fun e w' => e = .returned (.tuple #[.string (B (putR 0 255 1 n).1), .int .i64 (putR 0 255 1 n).2]) ∧ Below W.heap.size W w' := fun W => by
    unfold putR
    split
    · rename_i hc
      exact write_u8_yes n W hc.1 hc.2
    · exact write_u8_no n W (by omega)
  go_enter Tryd.func7, Tryd.ntmps7
  go_wp2_with fail
  refine (h _).mono ?_
  rintro e w1 ⟨rfl, hb1⟩
  go_wp2_with fail
  go_ret2
  exact ⟨rfl, hb1⟩

set_option maxHeartbeats 400000 in
theorem put_u16 (n : Int) (w : World) :
    Calls Tryd.prog 8 #[.int .i64 n] w fun e w' => e = .returned (.tuple #[.string (B (putR 0 65535 2 n).1), .int .i64 (putR 0 65535 2 n).2]) ∧ Below w.heap.size w w' := by
  have hk := bkind
  have h : ∀ W, Calls Tryd.prog 33 #[.int .i64 n, .agg #[.int .i64 2, .bool false]] W fun e w' => e = .returned (.tuple #[.string (B (putR 0 65535 2 n).1), .int .i64 (putR 0 65535 2 n).2]) ∧ Below W.heap.size W w' := fun W => by
    unfold putR
    split
    · rename_i hc
      exact write_u16_yes n W hc.1 hc.2
    · exact write_u16_no n W (by omega)
  go_enter Tryd.func8, Tryd.ntmps8
  go_wp2_with fail
  refine (h _).mono ?_
  rintro e w1 ⟨rfl, hb1⟩
  go_wp2_with fail
  go_ret2
  exact ⟨rfl, hb1⟩

set_option maxHeartbeats 400000 in
theorem put_u32 (n : Int) (w : World) :
    Calls Tryd.prog 9 #[.int .i64 n] w fun e w' => e = .returned (.tuple #[.string (B (putR 0 4294967295 4 n).1), .int .i64 (putR 0 4294967295 4 n).2]) ∧ Below w.heap.size w w' := by
  have hk := bkind
  have h : ∀ W, Calls Tryd.prog 33 #[.int .i64 n, .agg #[.int .i64 4, .bool false]] W fun e w' => e = .returned (.tuple #[.string (B (putR 0 4294967295 4 n).1), .int .i64 (putR 0 4294967295 4 n).2]) ∧ Below W.heap.size W w' := fun W => by
    unfold putR
    split
    · rename_i hc
      exact write_u32_yes n W hc.1 hc.2
    · exact write_u32_no n W (by omega)
  go_enter Tryd.func9, Tryd.ntmps9
  go_wp2_with fail
  refine (h _).mono ?_
  rintro e w1 ⟨rfl, hb1⟩
  go_wp2_with fail
  go_ret2
  exact ⟨rfl, hb1⟩

set_option maxHeartbeats 400000 in
theorem put_s32 (n : Int) (w : World) :
    Calls Tryd.prog 10 #[.int .i64 n] w fun e w' => e = .returned (.tuple #[.string (B (putR (-2147483648) 2147483647 4 n).1), .int .i64 (putR (-2147483648) 2147483647 4 n).2]) ∧ Below w.heap.size w w' := by
  have hk := bkind
  have h : ∀ W, Calls Tryd.prog 33 #[.int .i64 n, .agg #[.int .i64 4, .bool true]] W fun e w' => e = .returned (.tuple #[.string (B (putR (-2147483648) 2147483647 4 n).1), .int .i64 (putR (-2147483648) 2147483647 4 n).2]) ∧ Below W.heap.size W w' := fun W => by
    unfold putR
    split
    · rename_i hc
      exact write_s32_yes n W hc.1 hc.2
    · exact write_s32_no n W (by omega)
  go_enter Tryd.func10, Tryd.ntmps10
  go_wp2_with fail
  refine (h _).mono ?_
  rintro e w1 ⟨rfl, hb1⟩
  go_wp2_with fail
  go_ret2
  exact ⟨rfl, hb1⟩

end Go.Proofs.YtieklokffmjcfaaDoor
