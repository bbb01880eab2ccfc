/- Package octet: U8, U16, U32, S32; writing numbers. -/
import Derived.Test.YtieklokffmjcfaaDoorOctD
import Derived.RegionTactic
import Derived.ChangeAlike
import Derived.Laws.EntriesVeiled
namespace Go.Proofs.YtieklokffmjcfaaDoor
open Go.RowKit Vo
attribute [local go_sem ↓] Go.wp_at_zero Go.wp_at_succ

set_option maxHeartbeats 400000 in
theorem u8_any (l : List UInt8) (a : Int) (w : World) :
    Calls Tryd.prog 20 #[.string (B l), .int .i64 a] w fun e w' => e = .returned (.tuple #[.int .i64 (numR l a 1 false).1, .int .i64 (numR l a 1 false).2]) ∧ Below w.heap.size w w' := by
  have h := fun W => read_u8 l a W
  go_enter Tryd.func20, Tryd.ntmps20
  go_wp2_with fail
  refine (h _).mono ?_
  rintro e w1 ⟨rfl, hb1⟩
  go_wp2_with fail
  go_ret2
  exact ⟨rfl, hb1⟩

set_option maxHeartbeats 400000 in
theorem u16_any (l : List UInt8) (a : Int) (w : World) :
    Calls Tryd.prog 21 #[.string (B l), .int .i64 a] w fun e w' => e = .returned (.tuple #[.int .i64 (numR l a 2 false).1, .int .i64 (numR l a 2 false).2]) ∧ Below w.heap.size w w' := by
  have h := fun W => read_u16 l a W
  go_enter Tryd.func21, Tryd.ntmps21
  go_wp2_with fail
  refine (h _).mono ?_
  rintro e w1 ⟨rfl, hb1⟩
  go_wp2_with fail
  go_ret2
  exact ⟨rfl, hb1⟩

set_option maxHeartbeats 400000 in
theorem u32_any (l : List UInt8) (a : Int) (w : World) :
    Calls Tryd.prog 22 #[.string (B l), .int .i64 a] w fun e w' => e = .returned (.tuple #[.int .i64 (numR l a 4 false).1, .int .i64 (numR l a 4 false).2]) ∧ Below w.heap.size w w' := by
  have h := fun W => read_u32 l a W
  go_enter Tryd.func22, Tryd.ntmps22
  go_wp2_with fail
  refine (h _).mono ?_
  rintro e w1 ⟨rfl, hb1⟩
  go_wp2_with fail
  go_ret2
  exact ⟨rfl, hb1⟩

set_option maxHeartbeats 400000 in
theorem s32_any (l : List UInt8) (a : Int) (w : World) :
    Calls Tryd.prog 24 #[.string (B l), .int .i64 a] w fun e w' => e = .returned (.tuple #[.int .i64 (numR l a 4 true).1, .int .i64 (numR l a 4 true).2]) ∧ Below w.heap.size w w' := by
  have h := fun W => read_s32 l a W
  go_enter Tryd.func24, Tryd.ntmps24
  go_wp2_with fail
  refine (h _).mono ?_
  rintro e w1 ⟨rfl, hb1⟩
  go_wp2_with fail
  go_ret2
  exact ⟨rfl, hb1⟩

theorem mkf (fn : Fn) (first cap : Array Value) (w : World) : (Instr.makeFunc fn first cap).run Tryd.prog w = .ok (.func fn first cap) w := rfl

set_option maxHeartbeats 400000 in
theorem between_any (lo hi : Int) (w : World) :
    Calls Tryd.prog 73 #[.int .i64 lo, .int .i64 hi] w fun e w' => e = .returned (.func (.func 81) #[] #[.pointer (some ⟨w.heap.size, 0, none⟩), .pointer (some ⟨w.heap.size + 1, 0, none⟩)]) ∧ (w.alloc (.cells #[.int .i64 lo] 3)).alloc (.cells #[.int .i64 hi] 3) = w' := by
  have hmf := mkf
  go_enter Tryd.func73, Tryd.ntmps73
  go_wp2_with fail
  go_ret
  exact ⟨rfl, rfl⟩

set_option maxHeartbeats 400000 in
theorem holds_yes (n lo hi : Int) (p q : Addr) (w : World) (hp : w.cell? p = some (.int .i64 lo)) (hq : w.cell? q = some (.int .i64 hi)) (h1 : lo ≤ n) (h2 : n ≤ hi) :
    Calls Tryd.prog 81 #[.int .i64 n, .pointer (some p), .pointer (some q)] w fun e w' => e = .returned (.bool true) ∧ w = w' := by
  go_enter Tryd.func81, Tryd.ntmps81
  go_wp2_with fail
  go_ret
  exact ⟨rfl, rfl⟩
set_option maxHeartbeats 400000 in
theorem holds_no (n lo hi : Int) (p q : Addr) (w : World) (hp : w.cell? p = some (.int .i64 lo)) (hq : w.cell? q = some (.int .i64 hi)) (h : n < lo ∨ hi < n) :
    Calls Tryd.prog 81 #[.int .i64 n, .pointer (some p), .pointer (some q)] w fun e w' => e = .returned (.bool false) ∧ w = w' := by
  by_cases h1 : n < lo
  · clear h
    go_enter Tryd.func81, Tryd.ntmps81
    go_wp2_with fail
    go_ret
    exact ⟨rfl, rfl⟩
  · have h2 : hi < n := by omega
    have h3 : decide (n ≤ hi) = false := by simp; omega
    clear h
    go_enter Tryd.func81, Tryd.ntmps81
    go_wp2_with fail
    go_ret
    exact ⟨rfl, rfl⟩

theorem bkind (s : Int) (b : Bool) (W : World) : (Instr.build 54 #[(0, .int .i64 s), (1, .bool b)]).run Tryd.prog W = .ok (.agg #[.int .i64 s, .bool b]) W := run_build W _ _ _ (by kernel_rfl)
theorem bscope (s : Int) (b : Bool) (f : Fn) (x y : Array Value) (W : World) : (Instr.build 78 #[(0, .agg #[.int .i64 s, .bool b]), (1, .func f x y)]).run Tryd.prog W = .ok (.agg #[.int .i64 s, .bool b, .func f x y]) W := run_build W _ _ _ (by kernel_rfl)
theorem bscopes (s0 s1 s2 s3 : Int) (b0 b1 b2 b3 : Bool) (f0 f1 f2 f3 : Fn) (x0 x1 x2 x3 y0 y1 y2 y3 : Array Value) (W : World) : (Instr.build 79 #[(0, .agg #[.int .i64 s0, .bool b0, .func f0 x0 y0]), (1, .agg #[.int .i64 s1, .bool b1, .func f1 x1 y1]), (2, .agg #[.int .i64 s2, .bool b2, .func f2 x2 y2]), (3, .agg #[.int .i64 s3, .bool b3, .func f3 x3 y3])]).run Tryd.prog W = .ok (.agg #[.int .i64 s0, .bool b0, .func f0 x0 y0, .int .i64 s1, .bool b1, .func f1 x1 y1, .int .i64 s2, .bool b2, .func f2 x2 y2, .int .i64 s3, .bool b3, .func f3 x3 y3]) W := run_build W _ _ _ (by kernel_rfl)

/-- a closure over two boxes -/
abbrev fnV (p q : Nat) : Value := .func (.func 81) #[] #[.pointer (some ⟨p, 0, none⟩), .pointer (some ⟨q, 0, none⟩)]

/-- the table of the kinds -/
abbrev scV (p0 p1 p2 p3 p4 p5 p6 p7 : Nat) : Array Value := #[.int .i64 1, .bool false, fnV p0 p1, .int .i64 2, .bool false, fnV p2 p3, .int .i64 4, .bool false, fnV p4 p5, .int .i64 4, .bool true, fnV p6 p7]

set_option maxRecDepth 100000 in
set_option maxHeartbeats 2000000 in
theorem scopes_any (w : World) :
    Calls Tryd.prog 58 #[] w fun e w' => ∃ p0 p1 p2 p3 p4 p5 p6 p7 : Nat, e = .returned (.agg (scV p0 p1 p2 p3 p4 p5 p6 p7)) ∧ w'.cell? ⟨p0, 0, none⟩ = some (.int .i64 0) ∧ w'.cell? ⟨p1, 0, none⟩ = some (.int .i64 255) ∧ w'.cell? ⟨p2, 0, none⟩ = some (.int .i64 0) ∧ w'.cell? ⟨p3, 0, none⟩ = some (.int .i64 65535) ∧ w'.cell? ⟨p4, 0, none⟩ = some (.int .i64 0) ∧ w'.cell? ⟨p5, 0, none⟩ = some (.int .i64 4294967295) ∧ w'.cell? ⟨p6, 0, none⟩ = some (.int .i64 (-2147483648)) ∧ w'.cell? ⟨p7, 0, none⟩ = some (.int .i64 2147483647) ∧ Below w.heap.size w w' := by
  have hk := bkind
  have hs := bscope
  have h4 := bscopes
  go_enter Tryd.func58, Tryd.ntmps58
  go_wp2_with fail
  refine (between_any _ _ _).mono ?_
  rintro e w1 ⟨rfl, rfl⟩
  go_wp2_with fail
  refine (between_any _ _ _).mono ?_
  rintro e w1 ⟨rfl, rfl⟩
  go_wp2_with fail
  refine (between_any _ _ _).mono ?_
  rintro e w1 ⟨rfl, rfl⟩
  go_wp2_with fail
  refine (between_any _ _ _).mono ?_
  rintro e w1 ⟨rfl, rfl⟩
  go_wp2_with fail
  refine bodyPost_ret (v := .agg (scV (w.heap.size + 1) (w.heap.size + 1 + 1) (w.heap.size + 1 + 1 + 1) (w.heap.size + 1 + 1 + 1 + 1) (w.heap.size + 1 + 1 + 1 + 1 + 1) (w.heap.size + 1 + 1 + 1 + 1 + 1 + 1) (w.heap.size + 1 + 1 + 1 + 1 + 1 + 1 + 1) (w.heap.size + 1 + 1 + 1 + 1 + 1 + 1 + 1 + 1))) (by simp [results, Tryd.results58, go_sem]) rfl ⟨_, _, _, _, _, _, _, _, rfl, ?_, ?_, ?_, ?_, ?_, ?_, ?_, ?_, ?_⟩
  · simp [go_sem]
  · simp [go_sem]
  · simp [go_sem]
  · simp [go_sem]
  · simp [go_sem]
  · simp [go_sem]
  · simp [go_sem]
  · simp [go_sem]
  · exact ((((((((((Below.refl _ _).alloc (Nat.le_refl _) _).alloc (by simp) _).alloc (by simp; omega) _).alloc (by simp; omega) _).alloc (by simp; omega) _).alloc (by simp; omega) _).alloc (by simp; omega) _).alloc (by simp; omega) _).alloc (by simp; omega) _)

end Go.Proofs.YtieklokffmjcfaaDoor
