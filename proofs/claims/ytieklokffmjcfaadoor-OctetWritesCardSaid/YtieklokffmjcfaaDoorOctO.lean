/- OctetWrites. -/
import Derived.Test.YtieklokffmjcfaaDoorOctN
import Derived.Deep.RegionHeld3
import Derived.Deep.RegionWith
import Derived.RegionTactic
import Derived.ChangeAlike
namespace Go.Proofs.YtieklokffmjcfaaDoor
open Go.RowKit Vo
attribute [local go_sem ↓] Go.wp_at_zero Go.wp_at_succ

abbrev LongV (s t : List UInt8) (k : Nat) : Array Value := #[.string (B s), .string (B t), .int .u16 (k : Int)]
theorem ext_take (l : List UInt8) (m : Nat) : (B l).extract 0 m = B (l.take m) := by
  rw [B_extract]; rfl

/-- the box of a Long is kept -/
abbrev LongS (w : World) (t : List UInt8) (k : Nat) (W : World) : Prop := Below w.heap.size w W ∧ W.cell? ⟨w.heap.size, 1, none⟩ = some (.string (B t)) ∧ W.cell? ⟨w.heap.size, 2, none⟩ = some (.int .u16 (k : Int))
theorem LongS.step {w W W' : World} {t : List UInt8} {k : Nat} (h : LongS w t k W) (hb : Below W.heap.size W W') : LongS w t k W' :=
  ⟨below_more h.1 hb, (hb.cell (World.block_lt_of_cell? W _ h.2.1)).trans h.2.1, (hb.cell (World.block_lt_of_cell? W _ h.2.2)).trans h.2.2⟩

set_option maxRecDepth 100000 in
set_option maxHeartbeats 4000000 in
theorem octets_any (s t : List UInt8) (k : Nat) (w : World) (hk : k ≤ 65535) :
    Calls Tryd.prog 15 #[.agg (LongV s t k)] w fun e w' => ∃ l : List UInt8, e = .returned (.string (B l)) ∧ l.length ≤ 70000 ∧ Below w.heap.size w w' := by
  have hc : ∀ o : Nat, (w.alloc (.cells (LongV s t k) 24)).cell? ⟨w.heap.size, o, none⟩ = (LongV s t k)[o]? := fun o => cell_of_row _ w.heap.size o _ _ (0, 0) (heap_alloc_new w _)
  have c1 := hc 1
  have c2 := hc 2
  have hbw : Below w.heap.size w (w.alloc (.cells (LongV s t k) 24)) := (Below.refl _ _).alloc (Nat.le_refl _) _
  have HC := Lib.hid (And.intro hbw (And.intro c1 c2))
  clear hc c1 c2 hbw
  go_enter Tryd.func15, Tryd.ntmps15
  go_wp2_with fail
  simp only [ext_take]
  obtain ⟨u, hu⟩ : ∃ l, s.take (min (s.length : Int) 300).toNat = l := ⟨_, rfl⟩
  have hul : u.length ≤ 300 := by rw [← hu, List.length_take]; omega
  rw [hu]
  clear hu
  have m1 : 1 ≤ max (u.length : Int) 1 := by omega
  obtain ⟨D, hD, hD2⟩ : ∃ D : Nat, 65700 / max (u.length : Int) 1 = (D : Int) ∧ D ≤ 65700 := by
    have h0 := Int.ediv_nonneg (show (0 : Int) ≤ 65700 by omega) (show 0 ≤ max (u.length : Int) 1 by omega)
    have h1 := Int.ediv_le_self (a := 65700) (max (u.length : Int) 1) (by omega)
    exact ⟨(65700 / max (u.length : Int) 1).toNat, by omega, by omega⟩
  have hlim := quo_lim u.length (min k D) (by omega)
  have f1 : IntKind.i64.wrap (k : Int) = (k : Int) := by rw [IntKind.wrap_i64]; omega
  have f2 : Int.tdiv 65700 (max (u.length : Int) 1) = (D : Int) := by rw [Int.tdiv_eq_ediv_of_nonneg (by omega), hD]
  have f3 : IntKind.i64.wrap (D : Int) = (D : Int) := by rw [IntKind.wrap_i64]; omega
  have K : Hid (∀ W, LongS w t k W → Calls Tryd.prog 35 #[.string (B u), .int .i64 (min (k : Int) (D : Int))] W fun e w' => e = .returned (.string (B (Lib.repeatL u (min k D)))) ∧ LongS w t k w') := Lib.hid fun W hS => by
    have h := Tryd.strings_Repeat (B u) (min k D) W (by omega) (by rw [B_size]; omega)
    rw [show ((min k D : Nat) : Int) = min (k : Int) (D : Int) by omega] at h
    exact h.mono fun e w' ⟨he, hb⟩ => ⟨he, hS.step hb⟩
  have hyl := len_lim u (min k D)
  have hS : LongS w t k ((w.alloc (.cells (LongV s t k) 24)).drew) := ⟨HC.out.1.drew, HC.out.2.1, HC.out.2.2⟩
  obtain ⟨y, hy⟩ : ∃ y, Lib.repeatL u (min k D) = y := ⟨_, rfl⟩
  rw [hy] at K hyl
  have hy2 : y.length ≤ 65700 := by omega
  have m2 : ¬ max (u.length : Int) 1 = 0 := by omega
  have t1 : 0 ≤ min (t.length : Int) 300 := by omega
  have t2 : min (t.length : Int) 300 ≤ (t.length : Int) := by omega
  have t3 : y.length + min (min (t.length : Int) 300).toNat t.length ≤ 9223372036854775807 := by omega
  have t4 : ¬ 9223372036854775807 < y.length + min (min (t.length : Int) 300).toNat t.length := by omega
  clear hlim hyl hy HC
  have hcat : ∀ W, (Op.stringOp .add (B y) ((B t).extract 0 (min (t.length : Int) 300).toNat)).run Tryd.prog W = .ok (.string (B (y ++ t.take (min (t.length : Int) 300).toNat))) W := fun W => by
    rw [run_string_add_sum W _ _ (by rw [ext_take, B_size, B_size, List.length_take]; omega), ext_take, B_append]
  clear t3 t4
  go_region_held3 (fun W => LongS w t k W) (first | with_reducible assumption | exact hS)
    (first
      | (go_at_call 35; with_reducible refine (K.out _ ?_).mono ?_; with_reducible assumption; rintro e w2 ⟨rfl, hS2⟩))
  all_goals (
    go_wp2_with fail
    go_ret
    exact ⟨_, rfl, by rw [List.length_append, List.length_take]; omega, hS2.1⟩)

theorem wfour (x0 x1 x2 x3 : Int) (W : World) : (Instr.build 27 #[(0, .int .i64 x0), (1, .int .i64 x1), (2, .int .i64 x2), (3, .int .i64 x3)]).run Tryd.prog W = .ok (.agg #[.int .i64 x0, .int .i64 x1, .int .i64 x2, .int .i64 x3]) W := run_build W _ _ _ (by kernel_rfl)
theorem wthree (x0 x1 x2 : Int) (W : World) : (Instr.build 34 #[(0, .int .i64 x0), (1, .int .i64 x1), (2, .int .i64 x2)]).run Tryd.prog W = .ok (.agg #[.int .i64 x0, .int .i64 x1, .int .i64 x2]) W := run_build W _ _ _ (by kernel_rfl)
theorem wtwo (s t : ByteArray) (W : World) : (Instr.build 33 #[(0, .string s), (1, .string t)]).run Tryd.prog W = .ok (.agg #[.string s, .string t]) W := run_build W _ _ _ (by kernel_rfl)
abbrev gv (f : FuncId) : Value := .func (.func f) #[] #[]
/-- the two tables of functions -/
abbrev tabP : Array Value := #[gv 7, gv 8, gv 9, gv 10]
abbrev tabR : Array Value := #[gv 11, gv 12, gv 13, gv 14]
theorem wtabP (W : World) : (Instr.build 29 #[(0, gv 7), (1, gv 8), (2, gv 9), (3, gv 10)]).run Tryd.prog W = .ok (.agg tabP) W := run_build W _ _ _ (by kernel_rfl)
theorem wtabR (W : World) : (Instr.build 29 #[(0, gv 11), (1, gv 12), (2, gv 13), (3, gv 14)]).run Tryd.prog W = .ok (.agg tabR) W := run_build W _ _ _ (by kernel_rfl)
theorem w4_0 (x0 x1 x2 x3 : Int) (W : World) : (Instr.index 27 (.agg #[.int .i64 x0, .int .i64 x1, .int .i64 x2, .int .i64 x3]) (.int .i64 0)).run Tryd.prog W = .ok (.int .i64 x0) W := by kernel_rfl
theorem w4_1 (x0 x1 x2 x3 : Int) (W : World) : (Instr.index 27 (.agg #[.int .i64 x0, .int .i64 x1, .int .i64 x2, .int .i64 x3]) (.int .i64 1)).run Tryd.prog W = .ok (.int .i64 x1) W := by kernel_rfl
theorem w4_2 (x0 x1 x2 x3 : Int) (W : World) : (Instr.index 27 (.agg #[.int .i64 x0, .int .i64 x1, .int .i64 x2, .int .i64 x3]) (.int .i64 2)).run Tryd.prog W = .ok (.int .i64 x2) W := by kernel_rfl
theorem w4_3 (x0 x1 x2 x3 : Int) (W : World) : (Instr.index 27 (.agg #[.int .i64 x0, .int .i64 x1, .int .i64 x2, .int .i64 x3]) (.int .i64 3)).run Tryd.prog W = .ok (.int .i64 x3) W := by kernel_rfl
theorem w3_0 (x0 x1 x2 : Int) (W : World) : (Instr.index 34 (.agg #[.int .i64 x0, .int .i64 x1, .int .i64 x2]) (.int .i64 0)).run Tryd.prog W = .ok (.int .i64 x0) W := by kernel_rfl
theorem w3_1 (x0 x1 x2 : Int) (W : World) : (Instr.index 34 (.agg #[.int .i64 x0, .int .i64 x1, .int .i64 x2]) (.int .i64 1)).run Tryd.prog W = .ok (.int .i64 x1) W := by kernel_rfl
theorem w3_2 (x0 x1 x2 : Int) (W : World) : (Instr.index 34 (.agg #[.int .i64 x0, .int .i64 x1, .int .i64 x2]) (.int .i64 2)).run Tryd.prog W = .ok (.int .i64 x2) W := by kernel_rfl
theorem w2_0 (s0 s1 : ByteArray) (W : World) : (Instr.index 33 (.agg #[.string s0, .string s1]) (.int .i64 0)).run Tryd.prog W = .ok (.string s0) W := by kernel_rfl
theorem w2_1 (s0 s1 : ByteArray) (W : World) : (Instr.index 33 (.agg #[.string s0, .string s1]) (.int .i64 1)).run Tryd.prog W = .ok (.string s1) W := by kernel_rfl
theorem wtP_0 (W : World) : (Instr.index 29 (.agg tabP) (.int .i64 0)).run Tryd.prog W = .ok (gv 7) W := by kernel_rfl
theorem wtP_1 (W : World) : (Instr.index 29 (.agg tabP) (.int .i64 1)).run Tryd.prog W = .ok (gv 8) W := by kernel_rfl
theorem wtP_2 (W : World) : (Instr.index 29 (.agg tabP) (.int .i64 2)).run Tryd.prog W = .ok (gv 9) W := by kernel_rfl
theorem wtP_3 (W : World) : (Instr.index 29 (.agg tabP) (.int .i64 3)).run Tryd.prog W = .ok (gv 10) W := by kernel_rfl
theorem wtR_0 (W : World) : (Instr.index 29 (.agg tabR) (.int .i64 0)).run Tryd.prog W = .ok (gv 11) W := by kernel_rfl
theorem wtR_1 (W : World) : (Instr.index 29 (.agg tabR) (.int .i64 1)).run Tryd.prog W = .ok (gv 12) W := by kernel_rfl
theorem wtR_2 (W : World) : (Instr.index 29 (.agg tabR) (.int .i64 2)).run Tryd.prog W = .ok (gv 13) W := by kernel_rfl
theorem wtR_3 (W : World) : (Instr.index 29 (.agg tabR) (.int .i64 3)).run Tryd.prog W = .ok (gv 14) W := by kernel_rfl
attribute [local go_sem ↓] wfour wthree wtwo wtabP wtabR w4_0 w4_1 w4_2 w4_3 w3_0 w3_1 w3_2 w2_0 w2_1 wtP_0 wtP_1 wtP_2 wtP_3 wtR_0 wtR_1 wtR_2 wtR_3
end Go.Proofs.YtieklokffmjcfaaDoor
