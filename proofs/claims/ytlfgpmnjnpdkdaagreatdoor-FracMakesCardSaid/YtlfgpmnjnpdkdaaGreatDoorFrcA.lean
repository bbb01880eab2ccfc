/- Contracts: the fraction laws' examples: what the program answers at each; 'works' answers true. Sizes of -/
import Derived.Test.YtlfgpmnjnpdkdaaGreatDoorFraW
import Derived.Test.YtlfgpmnjnpdkdaaGreatDoorFrbA
import Derived.Test.YtlfgpmnjnpdkdaaGreatDoorFrbB
namespace Go.Proofs.YtlfgpmnjnpdkdaaGreatDoor
open Go.RowKit Vd
attribute [local go_sem ↓] Go.wp_at_zero Go.wp_at_succ
theorem outF_rd {ln ld : List UInt8} {q : Rat} (h : rdF ln ld = some q) : outF q = .tuple #[.agg #[.string ⟨ln.toArray⟩,.string ⟨ld.toArray⟩],.int .i64 0] := by
 unfold outF frV
 rw [if_pos (rdF_small h),← (rdF_text h).1,← (rdF_text h).2]
theorem q_any2 (n d : Int) (s t : ByteArray) (k : Int) (w : World) (hof : ∀ W,Calls Tryz.prog 8 #[.int .i64 n,.int .i64 d] W fun e w' => e = .returned (.tuple #[.agg #[.string s,.string t],.int .i64 k]) ∧ Below W.heap.size W w') :
 Calls Tryz.prog 42 #[.int .i64 n,.int .i64 d] w fun e w' => e = .returned (.agg #[.string s,.string t]) ∧ Below w.heap.size w w' := q_any n d s t k w hof
theorem op_keep2w {f : FuncId} {args : Array Value} {V : Value} {W W1 : World} (h : Calls Tryz.prog f args W1 fun e w' => e = .returned V ∧ Below W.heap.size W w') (w : World) (hS : Wk w W) (p q : Addr) (u v : Value) (hc : W.cell? p = some u) (hd : W.cell? q = some v) :
 Calls Tryz.prog f args W1 fun e w' => e = .returned V ∧ w'.cell? p = some u ∧ w'.cell? q = some v ∧ Wk w w' :=
 h.mono fun _ _ ⟨he,hb⟩ => ⟨he,(hb.cell (World.block_lt_of_cell? W _ hc)).trans hc,(hb.cell (World.block_lt_of_cell? W _ hd)).trans hd,hS.step hb⟩
theorem fxof0 (W : World) : Calls Tryz.prog 8 #[.int .i64 6,.int .i64 (-4)] W fun e w' => e = .returned (.tuple #[.agg #[.string { data := #[45,51] },.string { data := #[50] }],.int .i64 0]) ∧ Below W.heap.size W w' := by
 have h := fof_some 6 (-4) W (by decide) (by decide) (by decide) (by decide) (by decide)
 rw [outF_rd (show rdF [45,51] [50] = some (Rat.divInt 6 (-4)) by decide +kernel)] at h
 exact h
theorem fxof1 (W : World) : Calls Tryz.prog 8 #[.int .i64 0,.int .i64 5] W fun e w' => e = .returned (.tuple #[.agg #[.string { data := #[48] },.string { data := #[49] }],.int .i64 0]) ∧ Below W.heap.size W w' := by
 have h := fof_some 0 5 W (by decide) (by decide) (by decide) (by decide) (by decide)
 rw [outF_rd (show rdF [48] [49] = some (Rat.divInt 0 5) by decide +kernel)] at h
 exact h
theorem fxof2 (W : World) : Calls Tryz.prog 8 #[.int .i64 1,.int .i64 0] W fun e w' => e = .returned (.tuple #[.agg #[.string { data := #[] },.string { data := #[] }],.int .i64 7]) ∧ Below W.heap.size W w' := by
 exact fof_zero 1 W
theorem fx1 (W : World) (_ : Gnd W) : Calls Tryz.prog 15 #[.agg #[.string { data := #[50] },.string { data := #[52] }]] W fun e w' => e = .returned (.int .i64 20) ∧ Below W.heap.size W w' := by
 exact fcheck_none [50] [52] W (show rdF [50] [52] = none by decide +kernel)
theorem fxof3 (W : World) : Calls Tryz.prog 8 #[.int .i64 1,.int .i64 2] W fun e w' => e = .returned (.tuple #[.agg #[.string { data := #[49] },.string { data := #[50] }],.int .i64 0]) ∧ Below W.heap.size W w' := by
 have h := fof_some 1 2 W (by decide) (by decide) (by decide) (by decide) (by decide)
 rw [outF_rd (show rdF [49] [50] = some (Rat.divInt 1 2) by decide +kernel)] at h
 exact h
theorem fxq4 (W : World) (_ : Gnd W) : Calls Tryz.prog 42 #[.int .i64 1,.int .i64 2] W fun e w' => e = .returned (.agg #[.string { data := #[49] },.string { data := #[50] }]) ∧ Below W.heap.size W w' := by
 exact q_any2 1 2 _ _ 0 W fxof3
theorem fxof5 (W : World) : Calls Tryz.prog 8 #[.int .i64 1,.int .i64 3] W fun e w' => e = .returned (.tuple #[.agg #[.string { data := #[49] },.string { data := #[51] }],.int .i64 0]) ∧ Below W.heap.size W w' := by
 have h := fof_some 1 3 W (by decide) (by decide) (by decide) (by decide) (by decide)
 rw [outF_rd (show rdF [49] [51] = some (Rat.divInt 1 3) by decide +kernel)] at h
 exact h
theorem fxq6 (W : World) (_ : Gnd W) : Calls Tryz.prog 42 #[.int .i64 1,.int .i64 3] W fun e w' => e = .returned (.agg #[.string { data := #[49] },.string { data := #[51] }]) ∧ Below W.heap.size W w' := by
 exact q_any2 1 3 _ _ 0 W fxof5
theorem fx2 (W : World) (_ : Gnd W) : Calls Tryz.prog 26 #[.agg #[.string { data := #[49] },.string { data := #[50] }],.agg #[.string { data := #[49] },.string { data := #[51] }]] W fun e w' => e = .returned (.tuple #[.agg #[.string { data := #[53] },.string { data := #[54] }],.int .i64 0]) ∧ Below W.heap.size W w' := by
 have h := fadd_some [49] [50] [49] [51] _ _ W (show rdF [49] [50] = some ((1 : Rat) / 2) by decide +kernel) (show rdF [49] [51] = some ((1 : Rat) / 3) by decide +kernel)
 rw [outF_rd (show rdF [53] [54] = some (((1 : Rat) / 2) + ((1 : Rat) / 3)) by decide +kernel)] at h
 exact h
theorem fx3 (W : World) (_ : Gnd W) : Calls Tryz.prog 27 #[.agg #[.string { data := #[49] },.string { data := #[50] }],.agg #[.string { data := #[49] },.string { data := #[50] }]] W fun e w' => e = .returned (.tuple #[.agg #[.string { data := #[48] },.string { data := #[49] }],.int .i64 0]) ∧ Below W.heap.size W w' := by
 have h := fsub_some [49] [50] [49] [50] _ _ W (show rdF [49] [50] = some ((1 : Rat) / 2) by decide +kernel) (show rdF [49] [50] = some ((1 : Rat) / 2) by decide +kernel)
 rw [outF_rd (show rdF [48] [49] = some (((1 : Rat) / 2) - ((1 : Rat) / 2)) by decide +kernel)] at h
 exact h
theorem fxof7 (W : World) : Calls Tryz.prog 8 #[.int .i64 (-2),.int .i64 3] W fun e w' => e = .returned (.tuple #[.agg #[.string { data := #[45,50] },.string { data := #[51] }],.int .i64 0]) ∧ Below W.heap.size W w' := by
 have h := fof_some (-2) 3 W (by decide) (by decide) (by decide) (by decide) (by decide)
 rw [outF_rd (show rdF [45,50] [51] = some (Rat.divInt (-2) 3) by decide +kernel)] at h
 exact h
theorem fxq8 (W : World) (_ : Gnd W) : Calls Tryz.prog 42 #[.int .i64 (-2),.int .i64 3] W fun e w' => e = .returned (.agg #[.string { data := #[45,50] },.string { data := #[51] }]) ∧ Below W.heap.size W w' := by
 exact q_any2 (-2) 3 _ _ 0 W fxof7
theorem fxof9 (W : World) : Calls Tryz.prog 8 #[.int .i64 3,.int .i64 2] W fun e w' => e = .returned (.tuple #[.agg #[.string { data := #[51] },.string { data := #[50] }],.int .i64 0]) ∧ Below W.heap.size W w' := by
 have h := fof_some 3 2 W (by decide) (by decide) (by decide) (by decide) (by decide)
 rw [outF_rd (show rdF [51] [50] = some (Rat.divInt 3 2) by decide +kernel)] at h
 exact h
theorem fxq10 (W : World) (_ : Gnd W) : Calls Tryz.prog 42 #[.int .i64 3,.int .i64 2] W fun e w' => e = .returned (.agg #[.string { data := #[51] },.string { data := #[50] }]) ∧ Below W.heap.size W w' := by
 exact q_any2 3 2 _ _ 0 W fxof9
theorem fx4 (W : World) (_ : Gnd W) : Calls Tryz.prog 28 #[.agg #[.string { data := #[45,50] },.string { data := #[51] }],.agg #[.string { data := #[51] },.string { data := #[50] }]] W fun e w' => e = .returned (.tuple #[.agg #[.string { data := #[45,49] },.string { data := #[49] }],.int .i64 0]) ∧ Below W.heap.size W w' := by
 have h := fmul_some [45,50] [51] [51] [50] _ _ W (show rdF [45,50] [51] = some ((-2 : Rat) / 3) by decide +kernel) (show rdF [51] [50] = some ((3 : Rat) / 2) by decide +kernel)
 rw [outF_rd (show rdF [45,49] [49] = some (((-2 : Rat) / 3) * ((3 : Rat) / 2)) by decide +kernel)] at h
 exact h
theorem fxof11 (W : World) : Calls Tryz.prog 8 #[.int .i64 1,.int .i64 1] W fun e w' => e = .returned (.tuple #[.agg #[.string { data := #[49] },.string { data := #[49] }],.int .i64 0]) ∧ Below W.heap.size W w' := by
 have h := fof_some 1 1 W (by decide) (by decide) (by decide) (by decide) (by decide)
 rw [outF_rd (show rdF [49] [49] = some (Rat.divInt 1 1) by decide +kernel)] at h
 exact h
theorem fxq12 (W : World) (_ : Gnd W) : Calls Tryz.prog 42 #[.int .i64 1,.int .i64 1] W fun e w' => e = .returned (.agg #[.string { data := #[49] },.string { data := #[49] }]) ∧ Below W.heap.size W w' := by
 exact q_any2 1 1 _ _ 0 W fxof11
theorem fx5 (W : World) (_ : Gnd W) : Calls Tryz.prog 29 #[.agg #[.string { data := #[49] },.string { data := #[49] }],.agg #[.string { data := #[45,50] },.string { data := #[51] }]] W fun e w' => e = .returned (.tuple #[.agg #[.string { data := #[45,51] },.string { data := #[50] }],.int .i64 0]) ∧ Below W.heap.size W w' := by
 have h := fdiv_some [49] [49] [45,50] [51] _ _ W (show rdF [49] [49] = some (1 : Rat) by decide +kernel) (show rdF [45,50] [51] = some ((-2 : Rat) / 3) by decide +kernel) (by decide +kernel)
 rw [outF_rd (show rdF [45,51] [50] = some ((1 : Rat) / ((-2 : Rat) / 3)) by decide +kernel)] at h
 exact h
theorem fxof13 (W : World) : Calls Tryz.prog 8 #[.int .i64 0,.int .i64 1] W fun e w' => e = .returned (.tuple #[.agg #[.string { data := #[48] },.string { data := #[49] }],.int .i64 0]) ∧ Below W.heap.size W w' := by
 have h := fof_some 0 1 W (by decide) (by decide) (by decide) (by decide) (by decide)
 rw [outF_rd (show rdF [48] [49] = some (Rat.divInt 0 1) by decide +kernel)] at h
 exact h
theorem fxq14 (W : World) (_ : Gnd W) : Calls Tryz.prog 42 #[.int .i64 0,.int .i64 1] W fun e w' => e = .returned (.agg #[.string { data := #[48] },.string { data := #[49] }]) ∧ Below W.heap.size W w' := by
 exact q_any2 0 1 _ _ 0 W fxof13
theorem fx6 (W : World) (_ : Gnd W) : Calls Tryz.prog 29 #[.agg #[.string { data := #[49] },.string { data := #[49] }],.agg #[.string { data := #[48] },.string { data := #[49] }]] W fun e w' => e = .returned (.tuple #[.agg #[.string { data := #[] },.string { data := #[] }],.int .i64 7]) ∧ Below W.heap.size W w' := by
 exact fdiv_zero [49] [49] [48] [49] _ W (show rdF [49] [49] = some (1 : Rat) by decide +kernel) (show rdF [48] [49] = some 0 by decide +kernel)
theorem fx7 (W : World) (_ : Gnd W) : Calls Tryz.prog 17 #[.agg #[.string { data := #[49] },.string { data := #[51] }],.agg #[.string { data := #[49] },.string { data := #[50] }]] W fun e w' => e = .returned (.tuple #[.int .i64 (-1),.int .i64 0]) ∧ Below W.heap.size W w' := by
 have h := fcmp_some [49] [51] [49] [50] _ _ W (show rdF [49] [51] = some ((1 : Rat) / 3) by decide +kernel) (show rdF [49] [50] = some ((1 : Rat) / 2) by decide +kernel)
 rw [show cmpQ ((1 : Rat) / 3) ((1 : Rat) / 2) = -1 by decide +kernel] at h
 exact h
theorem fx8 (W : World) (_ : Gnd W) : Calls Tryz.prog 23 #[.agg #[.string { data := #[51] },.string { data := #[50] }],.agg #[.string { data := #[48] },.string { data := #[49] }],.agg #[.string { data := #[49] },.string { data := #[49] }]] W fun e w' => e = .returned (.tuple #[.agg #[.string { data := #[49] },.string { data := #[49] }],.int .i64 0]) ∧ Below W.heap.size W w' := by
 exact fclamp_high [51] [50] [48] [49] [49] [49] _ _ _ W (show rdF [51] [50] = some ((3 : Rat) / 2) by decide +kernel) (show rdF [48] [49] = some (0 : Rat) by decide +kernel) (show rdF [49] [49] = some (1 : Rat) by decide +kernel) (by decide +kernel) (by decide +kernel) (by decide +kernel)
theorem fx9 (W : World) (_ : Gnd W) : Calls Tryz.prog 23 #[.agg #[.string { data := #[48] },.string { data := #[49] }],.agg #[.string { data := #[49] },.string { data := #[49] }],.agg #[.string { data := #[48] },.string { data := #[49] }]] W fun e w' => e = .returned (.tuple #[.agg #[.string { data := #[] },.string { data := #[] }],.int .i64 2]) ∧ Below W.heap.size W w' := by
 exact fclamp_arg [48] [49] [49] [49] [48] [49] _ _ _ W (show rdF [48] [49] = some (0 : Rat) by decide +kernel) (show rdF [49] [49] = some (1 : Rat) by decide +kernel) (show rdF [48] [49] = some (0 : Rat) by decide +kernel) (by decide +kernel)
theorem fxof15 (W : World) : Calls Tryz.prog 8 #[.int .i64 (-1),.int .i64 2] W fun e w' => e = .returned (.tuple #[.agg #[.string { data := #[45,49] },.string { data := #[50] }],.int .i64 0]) ∧ Below W.heap.size W w' := by
 have h := fof_some (-1) 2 W (by decide) (by decide) (by decide) (by decide) (by decide)
 rw [outF_rd (show rdF [45,49] [50] = some (Rat.divInt (-1) 2) by decide +kernel)] at h
 exact h
theorem fxq16 (W : World) (_ : Gnd W) : Calls Tryz.prog 42 #[.int .i64 (-1),.int .i64 2] W fun e w' => e = .returned (.agg #[.string { data := #[45,49] },.string { data := #[50] }]) ∧ Below W.heap.size W w' := by
 exact q_any2 (-1) 2 _ _ 0 W fxof15
theorem fx10 (W : World) (_ : Gnd W) : Calls Tryz.prog 44 #[.agg #[.string { data := #[45,49] },.string { data := #[50] }]] W fun e w' => e = .returned (.tuple #[.string { data := #[45,49] },.int .i64 0]) ∧ Below W.heap.size W w' := by
 have h := ffloor_some [45,49] [50] _ W (show rdF [45,49] [50] = some ((-1 : Rat) / 2) by decide +kernel)
 rw [show (((-1 : Rat) / 2)).floor = (-1 : Int) by decide +kernel,outV_rd (show rd [45,49] = some (-1) by decide +kernel)] at h
 exact h
theorem fx11 (W : World) (hG : Gnd W) : Calls Tryz.prog 45 #[.agg #[.string { data := #[49] },.string { data := #[50] }],.int .i64 1] W fun e w' => e = .returned (.tuple #[.int .i64 1,.int .i64 0]) ∧ Below W.heap.size W w' := by
 have e : nearZ ((1 : Rat) / 2) ((1 : Nat) : Int) = 1 := by decide +kernel
 have h := fnear_some [49] [50] _ 1 W hG (show rdF [49] [50] = some ((1 : Rat) / 2) by decide +kernel) (by omega) (by omega) (by rw [e];omega) (by rw [e];omega)
 rw [e] at h
 exact h
theorem fx12 (W : World) (hG : Gnd W) : Calls Tryz.prog 45 #[.agg #[.string { data := #[45,49] },.string { data := #[50] }],.int .i64 1] W fun e w' => e = .returned (.tuple #[.int .i64 0,.int .i64 0]) ∧ Below W.heap.size W w' := by
 have e : nearZ ((-1 : Rat) / 2) ((1 : Nat) : Int) = 0 := by decide +kernel
 have h := fnear_some [45,49] [50] _ 1 W hG (show rdF [45,49] [50] = some ((-1 : Rat) / 2) by decide +kernel) (by omega) (by omega) (by rw [e];omega) (by rw [e];omega)
 rw [e] at h
 exact h
theorem fxof17 (W : World) : Calls Tryz.prog 8 #[.int .i64 2,.int .i64 3] W fun e w' => e = .returned (.tuple #[.agg #[.string { data := #[50] },.string { data := #[51] }],.int .i64 0]) ∧ Below W.heap.size W w' := by
 have h := fof_some 2 3 W (by decide) (by decide) (by decide) (by decide) (by decide)
 rw [outF_rd (show rdF [50] [51] = some (Rat.divInt 2 3) by decide +kernel)] at h
 exact h
theorem fxq18 (W : World) (_ : Gnd W) : Calls Tryz.prog 42 #[.int .i64 2,.int .i64 3] W fun e w' => e = .returned (.agg #[.string { data := #[50] },.string { data := #[51] }]) ∧ Below W.heap.size W w' := by
 exact q_any2 2 3 _ _ 0 W fxof17
theorem fx13 (W : World) (hG : Gnd W) : Calls Tryz.prog 45 #[.agg #[.string { data := #[50] },.string { data := #[51] }],.int .i64 1000] W fun e w' => e = .returned (.tuple #[.int .i64 667,.int .i64 0]) ∧ Below W.heap.size W w' := by
 have e : nearZ ((2 : Rat) / 3) ((1000 : Nat) : Int) = 667 := by decide +kernel
 have h := fnear_some [50] [51] _ 1000 W hG (show rdF [50] [51] = some ((2 : Rat) / 3) by decide +kernel) (by omega) (by omega) (by rw [e];omega) (by rw [e];omega)
 rw [e] at h
 exact h
theorem fx14 (W : World) (_ : Gnd W) : Calls Tryz.prog 45 #[.agg #[.string { data := #[49] },.string { data := #[49] }],.int .i64 0] W fun e w' => e = .returned (.tuple #[.int .i64 0,.int .i64 2]) ∧ Below W.heap.size W w' := by
 exact fnear_arg [49] [49] _ 0 W (show rdF [49] [49] = some (1 : Rat) by decide +kernel) (by omega)
theorem fxof19 (W : World) : Calls Tryz.prog 8 #[.int .i64 (-1),.int .i64 8] W fun e w' => e = .returned (.tuple #[.agg #[.string { data := #[45,49] },.string { data := #[56] }],.int .i64 0]) ∧ Below W.heap.size W w' := by
 have h := fof_some (-1) 8 W (by decide) (by decide) (by decide) (by decide) (by decide)
 rw [outF_rd (show rdF [45,49] [56] = some (Rat.divInt (-1) 8) by decide +kernel)] at h
 exact h
theorem fxq20 (W : World) (_ : Gnd W) : Calls Tryz.prog 42 #[.int .i64 (-1),.int .i64 8] W fun e w' => e = .returned (.agg #[.string { data := #[45,49] },.string { data := #[56] }]) ∧ Below W.heap.size W w' := by
 exact q_any2 (-1) 8 _ _ 0 W fxof19
theorem fx15 (W : World) (_ : Gnd W) : Calls Tryz.prog 48 #[.agg #[.string { data := #[45,49] },.string { data := #[56] }],.int .i64 2] W fun e w' => e = .returned (.tuple #[.string { data := #[45,48,46,49,50] },.int .i64 0]) ∧ Below W.heap.size W w' := by
 have h := ftext_some [45,49] [56] _ 2 W (show rdF [45,49] [56] = some ((-1 : Rat) / 8) by decide +kernel) (by omega)
 rw [show dtx (nearZ ((-1 : Rat) / 8) (10 ^ 2)) 2 = [45,48,46,49,50] by decide +kernel] at h
 exact h
theorem fx16 (W : World) (_ : Gnd W) : Calls Tryz.prog 48 #[.agg #[.string { data := #[49] },.string { data := #[51] }],.int .i64 4] W fun e w' => e = .returned (.tuple #[.string { data := #[48,46,51,51,51,51] },.int .i64 0]) ∧ Below W.heap.size W w' := by
 have h := ftext_some [49] [51] _ 4 W (show rdF [49] [51] = some ((1 : Rat) / 3) by decide +kernel) (by omega)
 rw [show dtx (nearZ ((1 : Rat) / 3) (10 ^ 4)) 4 = [48,46,51,51,51,51] by decide +kernel] at h
 exact h
theorem fxof21 (W : World) : Calls Tryz.prog 8 #[.int .i64 5,.int .i64 2] W fun e w' => e = .returned (.tuple #[.agg #[.string { data := #[53] },.string { data := #[50] }],.int .i64 0]) ∧ Below W.heap.size W w' := by
 have h := fof_some 5 2 W (by decide) (by decide) (by decide) (by decide) (by decide)
 rw [outF_rd (show rdF [53] [50] = some (Rat.divInt 5 2) by decide +kernel)] at h
 exact h
theorem fxq22 (W : World) (_ : Gnd W) : Calls Tryz.prog 42 #[.int .i64 5,.int .i64 2] W fun e w' => e = .returned (.agg #[.string { data := #[53] },.string { data := #[50] }]) ∧ Below W.heap.size W w' := by
 exact q_any2 5 2 _ _ 0 W fxof21
theorem fx17 (W : World) (_ : Gnd W) : Calls Tryz.prog 48 #[.agg #[.string { data := #[53] },.string { data := #[50] }],.int .i64 0] W fun e w' => e = .returned (.tuple #[.string { data := #[51] },.int .i64 0]) ∧ Below W.heap.size W w' := by
 have h := ftext_some [53] [50] _ 0 W (show rdF [53] [50] = some ((5 : Rat) / 2) by decide +kernel) (by omega)
 rw [show dtx (nearZ ((5 : Rat) / 2) (10 ^ 0)) 0 = [51] by decide +kernel] at h
 exact h
theorem fxof23 (W : World) : Calls Tryz.prog 8 #[.int .i64 (-1),.int .i64 1000] W fun e w' => e = .returned (.tuple #[.agg #[.string { data := #[45,49] },.string { data := #[49,48,48,48] }],.int .i64 0]) ∧ Below W.heap.size W w' := by
 have h := fof_some (-1) 1000 W (by decide) (by decide) (by decide) (by decide) (by decide)
 rw [outF_rd (show rdF [45,49] [49,48,48,48] = some (Rat.divInt (-1) 1000) by decide +kernel)] at h
 exact h
theorem fxq24 (W : World) (_ : Gnd W) : Calls Tryz.prog 42 #[.int .i64 (-1),.int .i64 1000] W fun e w' => e = .returned (.agg #[.string { data := #[45,49] },.string { data := #[49,48,48,48] }]) ∧ Below W.heap.size W w' := by
 exact q_any2 (-1) 1000 _ _ 0 W fxof23
theorem fx18 (W : World) (_ : Gnd W) : Calls Tryz.prog 48 #[.agg #[.string { data := #[45,49] },.string { data := #[49,48,48,48] }],.int .i64 2] W fun e w' => e = .returned (.tuple #[.string { data := #[48,46,48,48] },.int .i64 0]) ∧ Below W.heap.size W w' := by
 have h := ftext_some [45,49] [49,48,48,48] _ 2 W (show rdF [45,49] [49,48,48,48] = some ((-1 : Rat) / 1000) by decide +kernel) (by omega)
 rw [show dtx (nearZ ((-1 : Rat) / 1000) (10 ^ 2)) 2 = [48,46,48,48] by decide +kernel] at h
 exact h
theorem fx19 (W : World) (_ : Gnd W) : Calls Tryz.prog 49 #[.string { data := #[48,48,55] }] W fun e w' => e = .returned (.tuple #[.agg #[.string { data := #[] },.string { data := #[] }],.int .i64 5]) ∧ Below W.heap.size W w' := by
 exact fparse_none [48,48,55] W (by decide) (by decide +kernel)
theorem fx20 (W : World) (_ : Gnd W) : Calls Tryz.prog 49 #[.string { data := #[49,46] }] W fun e w' => e = .returned (.tuple #[.agg #[.string { data := #[] },.string { data := #[] }],.int .i64 5]) ∧ Below W.heap.size W w' := by
 exact fparse_none [49,46] W (by decide) (by decide +kernel)
theorem fx21 (W : World) (_ : Gnd W) : Calls Tryz.prog 49 #[.string { data := #[45,48,46,48] }] W fun e w' => e = .returned (.tuple #[.agg #[.string { data := #[] },.string { data := #[] }],.int .i64 5]) ∧ Below W.heap.size W w' := by
 exact fparse_none [45,48,46,48] W (by decide) (by decide +kernel)
theorem fx22 (W : World) (_ : Gnd W) : Calls Tryz.prog 49 #[.string { data := #[45,48,46,53,48] }] W fun e w' => e = .returned (.tuple #[.agg #[.string { data := #[45,49] },.string { data := #[50] }],.int .i64 0]) ∧ Below W.heap.size W w' := by
 have h := fparse_some [45,48,46,53,48] W (by decide) (by decide +kernel) (by decide +kernel)
 rw [outF_rd (show rdF [45,49] [50] = some (Rat.divInt (decN [45,48,46,53,48]) (10 ^ decK [45,48,46,53,48])) by decide +kernel)] at h
 exact h
theorem fx23 (W : World) (_ : Gnd W) : Calls Tryz.prog 49 #[.string { data := #[49,50] }] W fun e w' => e = .returned (.tuple #[.agg #[.string { data := #[49,50] },.string { data := #[49] }],.int .i64 0]) ∧ Below W.heap.size W w' := by
 have h := fparse_some [49,50] W (by decide) (by decide +kernel) (by decide +kernel)
 rw [outF_rd (show rdF [49,50] [49] = some (Rat.divInt (decN [49,50]) (10 ^ decK [49,50])) by decide +kernel)] at h
 exact h
theorem fx24 (W : World) (_ : Gnd W) : Calls Tryz.prog 50 #[.agg #[.string { data := #[45,50] },.string { data := #[51] }],.int .i64 3] W fun e w' => e = .returned (.tuple #[.agg #[.string { data := #[45,56] },.string { data := #[50,55] }],.int .i64 0]) ∧ Below W.heap.size W w' := by
 have h := fpow_some [45,50] [51] _ 3 W (show rdF [45,50] [51] = some ((-2 : Rat) / 3) by decide +kernel) (by omega)
 rw [outF_rd (show rdF [45,56] [50,55] = some (((-2 : Rat) / 3) ^ 3) by decide +kernel)] at h
 exact h
theorem fx25 (W : World) (_ : Gnd W) : Calls Tryz.prog 50 #[.agg #[.string { data := #[48] },.string { data := #[49] }],.int .i64 0] W fun e w' => e = .returned (.tuple #[.agg #[.string { data := #[49] },.string { data := #[49] }],.int .i64 0]) ∧ Below W.heap.size W w' := by
 have h := fpow_some [48] [49] _ 0 W (show rdF [48] [49] = some (0 : Rat) by decide +kernel) (by omega)
 rw [outF_rd (show rdF [49] [49] = some ((0 : Rat) ^ 0) by decide +kernel)] at h
 exact h
theorem fxsum3 (W : World) : Calls Tryz.prog 51 #[.slice (some ⟨W.heap.size,0,none⟩) 3 3] (W.alloc (.cells #[.string { data := #[49] },.string { data := #[50] },.string { data := #[49] },.string { data := #[51] },.string { data := #[49] },.string { data := #[54] }] 24)) fun e w' => e = .returned (.tuple #[.agg #[.string { data := #[49] },.string { data := #[49] }],.int .i64 0]) ∧ Below W.heap.size W w' := by
 have h := fsum_some W.heap.size 3 3 [([49],[50]),([49],[51]),([49],[54])] [((1 : Rat) / 2),((1 : Rat) / 3),((1 : Rat) / 6)] (W.alloc (.cells #[.string { data := #[49] },.string { data := #[50] },.string { data := #[49] },.string { data := #[51] },.string { data := #[49] },.string { data := #[54] }] 24)) (Fr.new rfl) rfl rfl (by
  intro i p q h1 h2
  rcases i with _ | _ | _ | i
  all_goals simp at h1 h2
  all_goals (obtain rfl := h1;obtain rfl := h2;decide +kernel)) (by omega)
 rw [outF_rd (show rdF [49] [49] = some (sumQ [((1 : Rat) / 2),((1 : Rat) / 3),((1 : Rat) / 6)]) by decide +kernel)] at h
 refine h.mono ?_
 rintro e w' ⟨he,hb⟩
 exact ⟨he,((Below.refl _ _).alloc (Nat.le_refl _) _).trans (hb.mono (by simp))⟩
theorem fxof25 (W : World) : Calls Tryz.prog 8 #[.int .i64 1,.int .i64 6] W fun e w' => e = .returned (.tuple #[.agg #[.string { data := #[49] },.string { data := #[54] }],.int .i64 0]) ∧ Below W.heap.size W w' := by
 have h := fof_some 1 6 W (by decide) (by decide) (by decide) (by decide) (by decide)
 rw [outF_rd (show rdF [49] [54] = some (Rat.divInt 1 6) by decide +kernel)] at h
 exact h
theorem fxq26 (W : World) (_ : Gnd W) : Calls Tryz.prog 42 #[.int .i64 1,.int .i64 6] W fun e w' => e = .returned (.agg #[.string { data := #[49] },.string { data := #[54] }]) ∧ Below W.heap.size W w' := by
 exact q_any2 1 6 _ _ 0 W fxof25
theorem fx26 (W : World) (_ : Gnd W) : Calls Tryz.prog 51 #[.slice none 0 0] W fun e w' => e = .returned (.tuple #[.agg #[.string { data := #[48] },.string { data := #[49] }],.int .i64 0]) ∧ Below W.heap.size W w' := by
 have h := fsum_nil W
 rw [outF_rd (show rdF [48] [49] = some (sumQ []) by decide +kernel)] at h
 exact h
end Go.Proofs.YtlfgpmnjnpdkdaaGreatDoor
namespace Go.Proofs.YtlfgpmnjnpdkdaaGreatDoor
open Go.RowKit Vd
def Bq (q : Rat) (k : Nat) : Prop := q.num.natAbs ≤ 10 ^ k ∧ q.den ≤ 10 ^ k
theorem ten_mono {a b : Nat} (h : a ≤ b) : 10 ^ a ≤ 10 ^ b := Nat.pow_le_pow_right (by omega) h
theorem Bq.mono {q : Rat} {a b : Nat} (h : Bq q a) (hb : a ≤ b) : Bq q b := ⟨Nat.le_trans h.1 (ten_mono hb),Nat.le_trans h.2 (ten_mono hb)⟩
theorem Bq.divInt {n d : Int} {k : Nat} (hd : d ≠ 0) (h1 : n.natAbs ≤ 10 ^ k) (h2 : d.natAbs ≤ 10 ^ k) : Bq (Rat.divInt n d) k := by
 obtain ⟨hg,e1,e2⟩ := div_parts n d hd _ rfl
 have hgn : (if d < 0 then -((Nat.gcd n.natAbs d.natAbs : Nat) : Int) else ((Nat.gcd n.natAbs d.natAbs : Nat) : Int)) ∣ n := by
  split
  · rw [Int.neg_dvd];exact Int.ofNat_dvd_left.2 (Nat.gcd_dvd_left _ _)
  · exact Int.ofNat_dvd_left.2 (Nat.gcd_dvd_left _ _)
 have hgd : (if d < 0 then -((Nat.gcd n.natAbs d.natAbs : Nat) : Int) else ((Nat.gcd n.natAbs d.natAbs : Nat) : Int)) ∣ d := by
  split
  · rw [Int.neg_dvd];exact Int.ofNat_dvd_left.2 (Nat.gcd_dvd_right _ _)
  · exact Int.ofNat_dvd_left.2 (Nat.gcd_dvd_right _ _)
 refine ⟨?_,?_⟩
 · rw [e1,Int.natAbs_ediv_of_dvd hgn]
   exact Nat.le_trans (Nat.div_le_self _ _) h1
 · have : (Rat.divInt n d).den = ((Rat.divInt n d).den : Int).natAbs := by simp
   rw [this,e2,Int.natAbs_ediv_of_dvd hgd]
   exact Nat.le_trans (Nat.div_le_self _ _) h2
theorem Bq.mul {x y : Rat} {a b : Nat} (hx : Bq x a) (hy : Bq y b) : Bq (x * y) (a + b) := by
 rw [← mul_divInt]
 refine Bq.divInt (Int.mul_ne_zero (by have := x.den_pos;omega) (by have := y.den_pos;omega)) ?_ ?_
 · rw [Int.natAbs_mul,Nat.pow_add];exact Nat.mul_le_mul hx.1 hy.1
 · rw [Int.natAbs_mul,Nat.pow_add,Int.natAbs_natCast,Int.natAbs_natCast];exact Nat.mul_le_mul hx.2 hy.2
theorem Bq.div {x y : Rat} {a b : Nat} (hx : Bq x a) (hy : Bq y b) (h : y ≠ 0) : Bq (x / y) (a + b) := by
 rw [← over_divInt]
 refine Bq.divInt (Int.mul_ne_zero (by have := x.den_pos;omega) (fun e => h (Rat.num_eq_zero.1 e))) ?_ ?_
 · rw [Int.natAbs_mul,Nat.pow_add,Int.natAbs_natCast];exact Nat.mul_le_mul hx.1 hy.2
 · rw [Int.natAbs_mul,Nat.pow_add,Int.natAbs_natCast];exact Nat.mul_le_mul hx.2 hy.1
theorem add_divInt (x y : Rat) : Rat.divInt (x.num * (y.den : Int) + y.num * (x.den : Int)) ((x.den : Int) * (y.den : Int)) = x + y := by
 rw [Rat.add_def',← Rat.divInt_ofNat,Int.natCast_mul]
theorem two_ten (k : Nat) : 10 ^ k + 10 ^ k ≤ 10 ^ (k + 1) := by rw [Nat.pow_succ];omega
theorem Bq.add {x y : Rat} {a b : Nat} (hx : Bq x a) (hy : Bq y b) : Bq (x + y) (a + b + 1) := by
 rw [← add_divInt]
 have t := two_ten (a + b)
 refine Bq.divInt (Int.mul_ne_zero (by have := x.den_pos;omega) (by have := y.den_pos;omega)) ?_ ?_
 · refine Nat.le_trans (Int.natAbs_add_le _ _) (Nat.le_trans (Nat.add_le_add ?_ ?_) t)
   · rw [Int.natAbs_mul,Nat.pow_add,Int.natAbs_natCast];exact Nat.mul_le_mul hx.1 hy.2
   · rw [Int.natAbs_mul,Nat.add_comm a b,Nat.pow_add,Int.natAbs_natCast];exact Nat.mul_le_mul hy.1 hx.2
 · rw [Int.natAbs_mul,Int.natAbs_natCast,Int.natAbs_natCast]
   refine Nat.le_trans (Nat.mul_le_mul hx.2 hy.2) ?_
   rw [← Nat.pow_add];exact ten_mono (by omega)
theorem Bq.neg {x : Rat} {a : Nat} (hx : Bq x a) : Bq (-x) a := ⟨by rw [show (-x).num = -x.num from rfl,Int.natAbs_neg];exact hx.1,hx.2⟩
theorem Bq.sub {x y : Rat} {a b : Nat} (hx : Bq x a) (hy : Bq y b) : Bq (x - y) (a + b + 1) := by
 rw [← subQ_eq];exact hx.add hy.neg
theorem Bq.small {x : Rat} {a : Nat} (hx : Bq x a) (h : a ≤ 599) : smallF x := by
 have hk : ∀ n,n ≤ 10 ^ a → n < 10 ^ maxDigits := fun n hn => Nat.lt_of_le_of_lt hn (Nat.pow_lt_pow_right (by omega) (by rw [maxDigits_eq];omega))
 exact ⟨hk _ hx.1,hk _ (by rw [Int.natAbs_natCast];exact hx.2)⟩
theorem Bq.int (n : Int) {a : Nat} (h : n.natAbs ≤ 10 ^ a) : Bq (Rat.divInt n 1) a := Bq.divInt (by decide) h (Nat.pow_pos (by omega))
def tN (q : Rat) : List UInt8 := wr q.num
def tD (q : Rat) : List UInt8 := wr (q.den : Int)
theorem rdF_t {q : Rat} (h : smallF q) : rdF (tN q) (tD q) = some q := rdF_wr h
theorem outF_t {q : Rat} (h : smallF q) : outF q = .tuple #[.agg #[.string ⟨(tN q).toArray⟩,.string ⟨(tD q).toArray⟩],.int .i64 0] := outF_rd (rdF_t h)
def Gives (f : FuncId) (args : Array Value) (V : Value) : Prop := ∀ W,Gnd W → Calls Tryz.prog f args W fun e w' => e = .returned V ∧ Below W.heap.size W w'
abbrev qV (l1 l2 : List UInt8) : Value := .agg #[.string ⟨l1.toArray⟩,.string ⟨l2.toArray⟩]
abbrev okV (l1 l2 : List UInt8) : Value := .tuple #[.agg #[.string ⟨l1.toArray⟩,.string ⟨l2.toArray⟩],.int .i64 0]
theorem Fr.fillF {W : World} {b : Nat} {x y : Value} (h : Fr W b #[.string ⟨#[]⟩,.string ⟨#[]⟩] 24) : Fr ((W.setCell ⟨b,0,none⟩ x).setCell ⟨b,1,none⟩ y) b #[x,y] 24 := h.set2
theorem Gives.wk {f : FuncId} {args : Array Value} {V : Value} (h : Gives f args V) {w W : World} (hS : Wk w W) : Calls Tryz.prog f args W fun e w' => e = .returned V ∧ Below W.heap.size W w' ∧ Wk w w' :=
 (h W hS.2).mono fun _ _ ⟨he,hb⟩ => ⟨he,hb,hS.step hb⟩
end Go.Proofs.YtlfgpmnjnpdkdaaGreatDoor
namespace Go.Proofs.YtlfgpmnjnpdkdaaGreatDoor
open Go.RowKit Vd
end Go.Proofs.YtlfgpmnjnpdkdaaGreatDoor
namespace Go.Proofs.YtlfgpmnjnpdkdaaGreatDoor
open Go.RowKit Vd
end Go.Proofs.YtlfgpmnjnpdkdaaGreatDoor
