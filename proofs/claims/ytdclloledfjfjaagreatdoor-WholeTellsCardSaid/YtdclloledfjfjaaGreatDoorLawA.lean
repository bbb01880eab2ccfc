/- Contracts of the laws' small closures. The laws' examples: what the program answers at each. The laws' examples hold: 'works' answers true. Contract: short numbers of drafts. -/
import Derived.Test.YtdclloledfjfjaaGreatDoorWhoG
import Derived.Test.YtdclloledfjfjaaGreatDoorRefG
namespace Go.Proofs.YtdclloledfjfjaaGreatDoor
open Go.RowKit Vd

theorem mkf (fn : Fn) (first cap : Array Value) (w : World) : (Instr.makeFunc fn first cap).run Tryz.prog w = .ok (.func fn first cap) w := rfl

/-- what the walk of a law keeps: the library's variables, and all that was there -/
def Wk (w W : World) : Prop := Below w.heap.size w W ∧ Gnd W
theorem Wk.step {w W w' : World} (h : Wk w W) (hb : Below W.heap.size W w') : Wk w w' := ⟨h.1.trans (hb.mono h.1.size), h.2.below hb⟩
theorem Wk.start {w : World} (h : Gnd w) : Wk w w := ⟨Below.refl _ _, h⟩

set_option maxHeartbeats 400000 in
theorem is_any (w : World) (s : ByteArray) (W : World) (hS : Wk w W) :
    Calls Tryz.prog 61 #[.string s] W fun e w' => ∃ p : Addr, e = .returned (.func (.func 129) #[] #[.pointer (some p)]) ∧ w'.cell? p = some (.string s) ∧ Wk w w' := by
  have hmf := mkf
  have hS2 := hS.step ((Below.refl W.heap.size W).alloc (Nat.le_refl _) (.cells #[.string s] 29))
  go_enter Tryz.func61, Tryz.ntmps61
  go_wp2_with fail
  go_ret
  exact ⟨⟨W.heap.size, 0, none⟩, rfl, by simp [go_sem], hS2⟩
set_option maxHeartbeats 400000 in
theorem is_fn (s : ByteArray) (p : Addr) (W : World) (hc : W.cell? p = some (.string s)) :
    Calls Tryz.prog 129 #[.string s, .int .i64 0, .pointer (some p)] W fun e w' => e = .returned (.bool true) ∧ W = w' := by
  go_enter Tryz.func129, Tryz.ntmps129
  go_wp2_with fail
  go_ret
  exact ⟨rfl, rfl⟩
set_option maxHeartbeats 400000 in
theorem says_any (w : World) (n : Int) (W : World) (hS : Wk w W) :
    Calls Tryz.prog 59 #[.int .i64 n] W fun e w' => ∃ p : Addr, e = .returned (.func (.func 127) #[] #[.pointer (some p)]) ∧ w'.cell? p = some (.int .i64 n) ∧ Wk w w' := by
  have hmf := mkf
  have hS2 := hS.step ((Below.refl W.heap.size W).alloc (Nat.le_refl _) (.cells #[.int .i64 n] 3))
  go_enter Tryz.func59, Tryz.ntmps59
  go_wp2_with fail
  go_ret
  exact ⟨⟨W.heap.size, 0, none⟩, rfl, by simp [go_sem], hS2⟩
set_option maxHeartbeats 400000 in
theorem says_fn (n : Int) (p : Addr) (W : World) (hc : W.cell? p = some (.int .i64 n)) :
    Calls Tryz.prog 127 #[.int .i64 n, .int .i64 0, .pointer (some p)] W fun e w' => e = .returned (.bool true) ∧ W = w' := by
  go_enter Tryz.func127, Tryz.ntmps127
  go_wp2_with fail
  go_ret
  exact ⟨rfl, rfl⟩
set_option maxHeartbeats 400000 in
theorem stops_any (w : World) (n : Int) (W : World) (hS : Wk w W) :
    Calls Tryz.prog 60 #[.int .i64 n] W fun e w' => ∃ p : Addr, e = .returned (.func (.func 128) #[] #[.pointer (some p)]) ∧ w'.cell? p = some (.int .i64 n) ∧ Wk w w' := by
  have hmf := mkf
  have hS2 := hS.step ((Below.refl W.heap.size W).alloc (Nat.le_refl _) (.cells #[.int .i64 n] 34))
  go_enter Tryz.func60, Tryz.ntmps60
  go_wp2_with fail
  go_ret
  exact ⟨⟨W.heap.size, 0, none⟩, rfl, by simp [go_sem], hS2⟩
set_option maxHeartbeats 400000 in
theorem stops_fn (n : Int) (p : Addr) (W : World) (hc : W.cell? p = some (.int .i64 n)) :
    Calls Tryz.prog 128 #[.int .i64 0, .int .i64 n, .pointer (some p)] W fun e w' => e = .returned (.bool true) ∧ W = w' := by
  go_enter Tryz.func128, Tryz.ntmps128
  go_wp2_with fail
  go_ret
  exact ⟨rfl, rfl⟩
set_option maxHeartbeats 400000 in
theorem fails_any (w : World) (n : Int) (W : World) (hS : Wk w W) :
    Calls Tryz.prog 69 #[.int .i64 n] W fun e w' => ∃ p : Addr, e = .returned (.func (.func 135) #[] #[.pointer (some p)]) ∧ w'.cell? p = some (.int .i64 n) ∧ Wk w w' := by
  have hmf := mkf
  have hS2 := hS.step ((Below.refl W.heap.size W).alloc (Nat.le_refl _) (.cells #[.int .i64 n] 34))
  go_enter Tryz.func69, Tryz.ntmps69
  go_wp2_with fail
  go_ret
  exact ⟨⟨W.heap.size, 0, none⟩, rfl, by simp [go_sem], hS2⟩
set_option maxHeartbeats 400000 in
theorem fails_fn (n : Int) (p : Addr) (W : World) (hc : W.cell? p = some (.int .i64 n)) :
    Calls Tryz.prog 135 #[.string ⟨#[]⟩, .int .i64 n, .pointer (some p)] W fun e w' => e = .returned (.bool true) ∧ W = w' := by
  go_enter Tryz.func135, Tryz.ntmps135
  go_wp2_with fail
  go_ret
  exact ⟨rfl, rfl⟩
set_option maxHeartbeats 400000 in
theorem parts_any (w : World) (s t : ByteArray) (W : World) (hS : Wk w W) :
    Calls Tryz.prog 65 #[.string s, .string t] W fun e w' => ∃ p q : Addr, e = .returned (.func (.func 131) #[] #[.pointer (some p), .pointer (some q)]) ∧ w'.cell? p = some (.string s) ∧ w'.cell? q = some (.string t) ∧ Wk w w' := by
  have hmf := mkf
  have hS2 := hS.step (((Below.refl W.heap.size W).alloc (Nat.le_refl _) (.cells #[.string s] 29)).alloc (by simp) (.cells #[.string t] 29))
  go_enter Tryz.func65, Tryz.ntmps65
  go_wp2_with fail
  go_ret
  exact ⟨⟨W.heap.size, 0, none⟩, ⟨W.heap.size + 1, 0, none⟩, rfl, by simp [go_sem], by simp [go_sem], hS2⟩
set_option maxHeartbeats 400000 in
theorem parts_fn (s t : ByteArray) (p q : Addr) (W : World) (hc : W.cell? p = some (.string s)) (hd : W.cell? q = some (.string t)) :
    Calls Tryz.prog 131 #[.string s, .string t, .int .i64 0, .pointer (some p), .pointer (some q)] W fun e w' => e = .returned (.bool true) ∧ W = w' := by
  go_enter Tryz.func131, Tryz.ntmps131
  go_wp2_with fail
  go_ret
  exact ⟨rfl, rfl⟩

end Go.Proofs.YtdclloledfjfjaaGreatDoor

namespace Go.Proofs.YtdclloledfjfjaaGreatDoor
open Go.RowKit Vd

theorem outV_rd {l : List UInt8} {z : Int} (h : rd l = some z) : outV z = .tuple #[.string ⟨l.toArray⟩, .int .i64 0] := by
  rw [outV_small (rd_some h).2, (rd_some h).1]

/-- a call of the library, between the making and the calling of a closure -/
theorem op_keep {f : FuncId} {args : Array Value} {V : Value} (h : ∀ W, Gnd W → Calls Tryz.prog f args W fun e w' => e = .returned V ∧ Below W.heap.size W w') (w W : World) (hS : Wk w W) (p : Addr) (u : Value) (hc : W.cell? p = some u) :
    Calls Tryz.prog f args W fun e w' => e = .returned V ∧ w'.cell? p = some u ∧ Wk w w' :=
  (h W hS.2).mono fun _ _ ⟨he, hb⟩ => ⟨he, (hb.cell (World.block_lt_of_cell? W _ hc)).trans hc, hS.step hb⟩
theorem op_keep2 {f : FuncId} {args : Array Value} {V : Value} (h : ∀ W, Gnd W → Calls Tryz.prog f args W fun e w' => e = .returned V ∧ Below W.heap.size W w') (w W : World) (hS : Wk w W) (p q : Addr) (u v : Value) (hc : W.cell? p = some u) (hd : W.cell? q = some v) :
    Calls Tryz.prog f args W fun e w' => e = .returned V ∧ w'.cell? p = some u ∧ w'.cell? q = some v ∧ Wk w w' :=
  (h W hS.2).mono fun _ _ ⟨he, hb⟩ => ⟨he, (hb.cell (World.block_lt_of_cell? W _ hc)).trans hc, (hb.cell (World.block_lt_of_cell? W _ hd)).trans hd, hS.step hb⟩
theorem op_only {f : FuncId} {args : Array Value} {V : Value} (h : ∀ W, Gnd W → Calls Tryz.prog f args W fun e w' => e = .returned V ∧ Below W.heap.size W w') (w W : World) (hS : Wk w W) :
    Calls Tryz.prog f args W fun e w' => e = .returned V ∧ Wk w w' :=
  (h W hS.2).mono fun _ _ ⟨he, hb⟩ => ⟨he, hS.step hb⟩

theorem ex1 (W : World) (_ : Gnd W) : Calls Tryz.prog 20 #[.string { data := #[48, 49, 55] }] W fun e w' => e = .returned (.int .i64 10) ∧ Below W.heap.size W w' := by
  exact wcheck_none [48, 49, 55] W (show rd [48, 49, 55] = none by decide +kernel)

theorem ex2 (W : World) (_ : Gnd W) : Calls Tryz.prog 20 #[.string { data := #[45, 48] }] W fun e w' => e = .returned (.int .i64 10) ∧ Below W.heap.size W w' := by
  exact wcheck_none [45, 48] W (show rd [45, 48] = none by decide +kernel)

theorem ex3 (W : World) (_ : Gnd W) : Calls Tryz.prog 20 #[.string { data := #[] }] W fun e w' => e = .returned (.int .i64 10) ∧ Below W.heap.size W w' := by
  exact wcheck_none [] W (show rd [] = none by decide +kernel)

theorem ex4 (W : World) (_ : Gnd W) : Calls Tryz.prog 20 #[.string { data := #[45, 49, 55] }] W fun e w' => e = .returned (.int .i64 0) ∧ Below W.heap.size W w' := by
  exact wcheck_some [45, 49, 55] _ W (show rd [45, 49, 55] = some (-17) by decide +kernel)

theorem ex5 (W : World) (hg : Gnd W) : Calls Tryz.prog 11 #[.int .i64 (-9223372036854775808)] W fun e w' => e = .returned (.string { data := #[45, 57, 50, 50, 51, 51, 55, 50, 48, 51, 54, 56, 53, 52, 55, 55, 53, 56, 48, 56] }) ∧ Below W.heap.size W w' := by
  have h := wof_any (-9223372036854775808) W hg (by decide) (by decide)
  rw [(rd_some (show rd [45, 57, 50, 50, 51, 51, 55, 50, 48, 51, 54, 56, 53, 52, 55, 55, 53, 56, 48, 56] = some (-9223372036854775808) by decide +kernel)).1] at h
  exact h

theorem ex6 (W : World) (_ : Gnd W) : Calls Tryz.prog 14 #[.string { data := #[45, 57, 50, 50, 51, 51, 55, 50, 48, 51, 54, 56, 53, 52, 55, 55, 53, 56, 48, 56] }] W fun e w' => e = .returned (.tuple #[.int .i64 (-9223372036854775808), .int .i64 0]) ∧ Below W.heap.size W w' := by
  exact wint_some [45, 57, 50, 50, 51, 51, 55, 50, 48, 51, 54, 56, 53, 52, 55, 55, 53, 56, 48, 56] (-9223372036854775808) W (show rd [45, 57, 50, 50, 51, 51, 55, 50, 48, 51, 54, 56, 53, 52, 55, 55, 53, 56, 48, 56] = some (-9223372036854775808) by decide +kernel) (by decide) (by decide)

theorem ex7 (W : World) (hg : Gnd W) : Calls Tryz.prog 14 #[.string { data := #[57, 50, 50, 51, 51, 55, 50, 48, 51, 54, 56, 53, 52, 55, 55, 53, 56, 48, 56] }] W fun e w' => e = .returned (.tuple #[.int .i64 0, .int .i64 6]) ∧ Below W.heap.size W w' := by
  exact wint_big [57, 50, 50, 51, 51, 55, 50, 48, 51, 54, 56, 53, 52, 55, 55, 53, 56, 48, 56] (9223372036854775808) W hg (show rd [57, 50, 50, 51, 51, 55, 50, 48, 51, 54, 56, 53, 52, 55, 55, 53, 56, 48, 56] = some (9223372036854775808) by decide +kernel) (by decide)

theorem ex8 (W : World) (_ : Gnd W) : Calls Tryz.prog 62 #[.string { data := #[45, 53] }, .string { data := #[51] }] W fun e w' => e = .returned (.tuple #[.string { data := #[45, 50] }, .int .i64 0]) ∧ Below W.heap.size W w' := by
  have h := wadd_some [45, 53] [51] (-5) (3) W (show rd [45, 53] = some (-5) by decide +kernel) (show rd [51] = some (3) by decide +kernel)
  rw [show ((-5) + 3 : Int) = (-2 : Int) by decide +kernel, outV_rd (show rd [45, 50] = some (-2) by decide +kernel)] at h
  exact h

theorem ex9 (W : World) (_ : Gnd W) : Calls Tryz.prog 63 #[.string { data := #[51] }, .string { data := #[53] }] W fun e w' => e = .returned (.tuple #[.string { data := #[45, 50] }, .int .i64 0]) ∧ Below W.heap.size W w' := by
  have h := wsub_some [51] [53] (3) (5) W (show rd [51] = some (3) by decide +kernel) (show rd [53] = some (5) by decide +kernel)
  rw [show ((3) - 5 : Int) = (-2 : Int) by decide +kernel, outV_rd (show rd [45, 50] = some (-2) by decide +kernel)] at h
  exact h

theorem ex10 (W : World) (_ : Gnd W) : Calls Tryz.prog 64 #[.string { data := #[45, 49, 48, 48, 48, 48, 48, 48, 48, 48, 48, 48, 48, 48, 48, 48, 48, 48, 48, 48] }, .string { data := #[49, 48, 48, 48, 48, 48, 48, 48, 48, 48, 48, 48, 48, 48, 48, 48, 48, 48, 48] }] W fun e w' => e = .returned (.tuple #[.string { data := #[45, 49, 48, 48, 48, 48, 48, 48, 48, 48, 48, 48, 48, 48, 48, 48, 48, 48, 48, 48, 48, 48, 48, 48, 48, 48, 48, 48, 48, 48, 48, 48, 48, 48, 48, 48, 48, 48] }, .int .i64 0]) ∧ Below W.heap.size W w' := by
  have h := wmul_some [45, 49, 48, 48, 48, 48, 48, 48, 48, 48, 48, 48, 48, 48, 48, 48, 48, 48, 48, 48] [49, 48, 48, 48, 48, 48, 48, 48, 48, 48, 48, 48, 48, 48, 48, 48, 48, 48, 48] (-1000000000000000000) (1000000000000000000) W (show rd [45, 49, 48, 48, 48, 48, 48, 48, 48, 48, 48, 48, 48, 48, 48, 48, 48, 48, 48, 48] = some (-1000000000000000000) by decide +kernel) (show rd [49, 48, 48, 48, 48, 48, 48, 48, 48, 48, 48, 48, 48, 48, 48, 48, 48, 48, 48] = some (1000000000000000000) by decide +kernel)
  rw [show ((-1000000000000000000) * 1000000000000000000 : Int) = (-1000000000000000000000000000000000000 : Int) by decide +kernel, outV_rd (show rd [45, 49, 48, 48, 48, 48, 48, 48, 48, 48, 48, 48, 48, 48, 48, 48, 48, 48, 48, 48, 48, 48, 48, 48, 48, 48, 48, 48, 48, 48, 48, 48, 48, 48, 48, 48, 48, 48] = some (-1000000000000000000000000000000000000) by decide +kernel)] at h
  exact h

theorem ex11 (W : World) (_ : Gnd W) : Calls Tryz.prog 66 #[.string { data := #[45, 55] }, .string { data := #[50] }] W fun e w' => e = .returned (.tuple #[.string { data := #[45, 52] }, .string { data := #[49] }, .int .i64 0]) ∧ Below W.heap.size W w' := by
  have h := wdiv_some [45, 55] [50] (-7) (2) W (show rd [45, 55] = some (-7) by decide +kernel) (show rd [50] = some (2) by decide +kernel) (by decide)
  rw [show ((-7) / (2) : Int) = (-4 : Int) by decide, show ((-7) % (2) : Int) = (1 : Int) by decide, (rd_some (show rd [45, 52] = some (-4) by decide +kernel)).1, (rd_some (show rd [49] = some (1) by decide +kernel)).1] at h
  exact h

theorem ex12 (W : World) (_ : Gnd W) : Calls Tryz.prog 66 #[.string { data := #[55] }, .string { data := #[45, 50] }] W fun e w' => e = .returned (.tuple #[.string { data := #[45, 51] }, .string { data := #[49] }, .int .i64 0]) ∧ Below W.heap.size W w' := by
  have h := wdiv_some [55] [45, 50] (7) (-2) W (show rd [55] = some (7) by decide +kernel) (show rd [45, 50] = some (-2) by decide +kernel) (by decide)
  rw [show ((7) / (-2) : Int) = (-3 : Int) by decide, show ((7) % (-2) : Int) = (1 : Int) by decide, (rd_some (show rd [45, 51] = some (-3) by decide +kernel)).1, (rd_some (show rd [49] = some (1) by decide +kernel)).1] at h
  exact h

theorem ex13 (W : World) (_ : Gnd W) : Calls Tryz.prog 66 #[.string { data := #[45, 55] }, .string { data := #[45, 50] }] W fun e w' => e = .returned (.tuple #[.string { data := #[52] }, .string { data := #[49] }, .int .i64 0]) ∧ Below W.heap.size W w' := by
  have h := wdiv_some [45, 55] [45, 50] (-7) (-2) W (show rd [45, 55] = some (-7) by decide +kernel) (show rd [45, 50] = some (-2) by decide +kernel) (by decide)
  rw [show ((-7) / (-2) : Int) = (4 : Int) by decide, show ((-7) % (-2) : Int) = (1 : Int) by decide, (rd_some (show rd [52] = some (4) by decide +kernel)).1, (rd_some (show rd [49] = some (1) by decide +kernel)).1] at h
  exact h

theorem ex14 (W : World) (_ : Gnd W) : Calls Tryz.prog 66 #[.string { data := #[49] }, .string { data := #[48] }] W fun e w' => e = .returned (.tuple #[.string { data := #[] }, .string { data := #[] }, .int .i64 7]) ∧ Below W.heap.size W w' := by
  exact wdiv_zero [49] [48] 1 W (show rd [49] = some (1) by decide +kernel) (show rd [48] = some (0) by decide +kernel)

theorem ex15 (W : World) (_ : Gnd W) : Calls Tryz.prog 67 #[.string { data := #[45, 49, 50] }, .string { data := #[49, 56] }] W fun e w' => e = .returned (.tuple #[.string { data := #[54] }, .int .i64 0]) ∧ Below W.heap.size W w' := by
  have h := wgcd_some [45, 49, 50] [49, 56] (-12) (18) W (show rd [45, 49, 50] = some (-12) by decide +kernel) (show rd [49, 56] = some (18) by decide +kernel)
  rw [show ((Nat.gcd ((-12) : Int).natAbs ((18) : Int).natAbs : Nat) : Int) = (6 : Int) by decide +kernel, outV_rd (show rd [54] = some (6) by decide +kernel)] at h
  exact h

theorem ex16 (W : World) (_ : Gnd W) : Calls Tryz.prog 67 #[.string { data := #[48] }, .string { data := #[48] }] W fun e w' => e = .returned (.tuple #[.string { data := #[48] }, .int .i64 0]) ∧ Below W.heap.size W w' := by
  have h := wgcd_some [48] [48] (0) (0) W (show rd [48] = some (0) by decide +kernel) (show rd [48] = some (0) by decide +kernel)
  rw [show ((Nat.gcd ((0) : Int).natAbs ((0) : Int).natAbs : Nat) : Int) = (0 : Int) by decide +kernel, outV_rd (show rd [48] = some (0) by decide +kernel)] at h
  exact h

theorem ex17 (W : World) (_ : Gnd W) : Calls Tryz.prog 18 #[.string { data := #[45, 49, 48] }, .string { data := #[57] }] W fun e w' => e = .returned (.tuple #[.int .i64 (-1), .int .i64 0]) ∧ Below W.heap.size W w' := by
  have h := wcmp_some [45, 49, 48] [57] (-10) 9 W (show rd [45, 49, 48] = some (-10) by decide +kernel) (show rd [57] = some (9) by decide +kernel)
  rw [show cmpZ (-10) 9 = -1 by decide] at h
  exact h

theorem ex18 (W : World) (_ : Gnd W) : Calls Tryz.prog 16 #[.string { data := #[48] }] W fun e w' => e = .returned (.tuple #[.int .i64 0, .int .i64 0]) ∧ Below W.heap.size W w' := by
  have h := wsign_some [48] 0 W (show rd [48] = some (0) by decide +kernel)
  rw [show signZ 0 = 0 by decide] at h
  exact h

theorem ex19 (W : World) (_ : Gnd W) : Calls Tryz.prog 68 #[.string { data := #[45, 51] }, .int .i64 3] W fun e w' => e = .returned (.tuple #[.string { data := #[45, 50, 55] }, .int .i64 0]) ∧ Below W.heap.size W w' := by
  have h := wpow_some [45, 51] (-3) 3 W (show rd [45, 51] = some (-3) by decide +kernel) (by decide)
  rw [show ((-3) ^ 3 : Int) = (-27 : Int) by decide, outV_rd (show rd [45, 50, 55] = some (-27) by decide +kernel)] at h
  exact h

theorem ex20 (W : World) (_ : Gnd W) : Calls Tryz.prog 68 #[.string { data := #[48] }, .int .i64 0] W fun e w' => e = .returned (.tuple #[.string { data := #[49] }, .int .i64 0]) ∧ Below W.heap.size W w' := by
  have h := wpow_some [48] (0) 0 W (show rd [48] = some (0) by decide +kernel) (by decide)
  rw [show ((0) ^ 0 : Int) = (1 : Int) by decide, outV_rd (show rd [49] = some (1) by decide +kernel)] at h
  exact h

theorem ex21 (W : World) (_ : Gnd W) : Calls Tryz.prog 68 #[.string { data := #[50] }, .int .i64 41] W fun e w' => e = .returned (.tuple #[.string { data := #[] }, .int .i64 2]) ∧ Below W.heap.size W w' := by
  exact wpow_arg [50] 2 41 W (show rd [50] = some (2) by decide +kernel) (by decide)

theorem ex22 (W : World) (_ : Gnd W) : Calls Tryz.prog 70 #[.string { data := #[56, 48] }, .int .i64 4] W fun e w' => e = .returned (.tuple #[.string { data := #[50] }, .int .i64 0]) ∧ Below W.heap.size W w' := by
  have h := wroot_some [56, 48] (80) 4 2 W (show rd [56, 48] = some (80) by decide +kernel) (by decide) (by decide) (by decide) ⟨by decide, by decide⟩
  rw [(rd_some (show rd [50] = some ((2 : Nat) : Int) by decide +kernel)).1] at h
  exact h

theorem ex23 (W : World) (_ : Gnd W) : Calls Tryz.prog 70 #[.string { data := #[56, 49] }, .int .i64 4] W fun e w' => e = .returned (.tuple #[.string { data := #[51] }, .int .i64 0]) ∧ Below W.heap.size W w' := by
  have h := wroot_some [56, 49] (81) 4 3 W (show rd [56, 49] = some (81) by decide +kernel) (by decide) (by decide) (by decide) ⟨by decide, by decide⟩
  rw [(rd_some (show rd [51] = some ((3 : Nat) : Int) by decide +kernel)).1] at h
  exact h

theorem ex24 (W : World) (_ : Gnd W) : Calls Tryz.prog 70 #[.string { data := #[45, 49] }, .int .i64 1] W fun e w' => e = .returned (.tuple #[.string { data := #[] }, .int .i64 2]) ∧ Below W.heap.size W w' := by
  exact wroot_arg [45, 49] (-1) 1 W (show rd [45, 49] = some (-1) by decide +kernel) (by decide)

theorem ex25 (W : World) (_ : Gnd W) : Calls Tryz.prog 70 #[.string { data := #[53] }, .int .i64 13] W fun e w' => e = .returned (.tuple #[.string { data := #[] }, .int .i64 2]) ∧ Below W.heap.size W w' := by
  exact wroot_arg [53] 5 13 W (show rd [53] = some (5) by decide +kernel) (by decide)

end Go.Proofs.YtdclloledfjfjaaGreatDoor

namespace Go.Proofs.YtdclloledfjfjaaGreatDoor
open Go.RowKit Vd

set_option maxRecDepth 100000 in
set_option maxHeartbeats 8000000 in
theorem works_any (w : World) (hg : Gnd w) :
    Calls Tryz.prog 10 #[] w fun e w' => e = .returned (.bool true) ∧ Below w.heap.size w w' := by
  have hS0 := Wk.start hg
  go_enter Tryz.func10, Tryz.ntmps10
  go_wp2_with fail
  refine (op_only ex1 w _ hS0).mono ?_
  rintro e w1 ⟨rfl, hS1⟩
  go_wp2_with fail
  refine (op_only ex2 w _ hS1).mono ?_
  rintro e w2 ⟨rfl, hS2⟩
  go_wp2_with fail
  refine (op_only ex3 w _ hS2).mono ?_
  rintro e w3 ⟨rfl, hS3⟩
  go_wp2_with fail
  refine (op_only ex4 w _ hS3).mono ?_
  rintro e w4 ⟨rfl, hS4⟩
  go_wp2_with fail
  refine (op_only ex5 w _ hS4).mono ?_
  rintro e w5 ⟨rfl, hS5⟩
  go_wp2_with fail
  refine (says_any w _ _ hS5).mono ?_
  rintro e w6 ⟨p6, rfl, hc6, hS6⟩
  go_wp2_with fail
  refine (op_keep ex6 w _ hS6 _ _ hc6).mono ?_
  clear hc6
  rintro e w7 ⟨rfl, hc7, hS7⟩
  go_wp2_with fail
  refine (says_fn _ _ _ hc7).mono ?_
  clear hc7
  rintro e w0 ⟨rfl, rfl⟩
  go_wp2_with fail
  refine (stops_any w _ _ hS7).mono ?_
  rintro e w8 ⟨p8, rfl, hc8, hS8⟩
  go_wp2_with fail
  refine (op_keep ex7 w _ hS8 _ _ hc8).mono ?_
  clear hc8
  rintro e w9 ⟨rfl, hc9, hS9⟩
  go_wp2_with fail
  refine (stops_fn _ _ _ hc9).mono ?_
  clear hc9
  rintro e w0 ⟨rfl, rfl⟩
  go_wp2_with fail
  refine (is_any w _ _ hS9).mono ?_
  rintro e w10 ⟨p10, rfl, hc10, hS10⟩
  go_wp2_with fail
  refine (op_keep ex8 w _ hS10 _ _ hc10).mono ?_
  clear hc10
  rintro e w11 ⟨rfl, hc11, hS11⟩
  go_wp2_with fail
  refine (is_fn _ _ _ hc11).mono ?_
  clear hc11
  rintro e w0 ⟨rfl, rfl⟩
  go_wp2_with fail
  refine (is_any w _ _ hS11).mono ?_
  rintro e w12 ⟨p12, rfl, hc12, hS12⟩
  go_wp2_with fail
  refine (op_keep ex9 w _ hS12 _ _ hc12).mono ?_
  clear hc12
  rintro e w13 ⟨rfl, hc13, hS13⟩
  go_wp2_with fail
  refine (is_fn _ _ _ hc13).mono ?_
  clear hc13
  rintro e w0 ⟨rfl, rfl⟩
  go_wp2_with fail
  refine (is_any w _ _ hS13).mono ?_
  rintro e w14 ⟨p14, rfl, hc14, hS14⟩
  go_wp2_with fail
  refine (op_keep ex10 w _ hS14 _ _ hc14).mono ?_
  clear hc14
  rintro e w15 ⟨rfl, hc15, hS15⟩
  go_wp2_with fail
  refine (is_fn _ _ _ hc15).mono ?_
  clear hc15
  rintro e w0 ⟨rfl, rfl⟩
  go_wp2_with fail
  refine (parts_any w _ _ _ hS15).mono ?_
  rintro e w16 ⟨p16, q16, rfl, hc16, hd16, hS16⟩
  go_wp2_with fail
  refine (op_keep2 ex11 w _ hS16 _ _ _ _ hc16 hd16).mono ?_
  clear hc16 hd16
  rintro e w17 ⟨rfl, hc17, hd17, hS17⟩
  go_wp2_with fail
  refine (parts_fn _ _ _ _ _ hc17 hd17).mono ?_
  clear hc17 hd17
  rintro e w0 ⟨rfl, rfl⟩
  go_wp2_with fail
  refine (parts_any w _ _ _ hS17).mono ?_
  rintro e w18 ⟨p18, q18, rfl, hc18, hd18, hS18⟩
  go_wp2_with fail
  refine (op_keep2 ex12 w _ hS18 _ _ _ _ hc18 hd18).mono ?_
  clear hc18 hd18
  rintro e w19 ⟨rfl, hc19, hd19, hS19⟩
  go_wp2_with fail
  refine (parts_fn _ _ _ _ _ hc19 hd19).mono ?_
  clear hc19 hd19
  rintro e w0 ⟨rfl, rfl⟩
  go_wp2_with fail
  refine (parts_any w _ _ _ hS19).mono ?_
  rintro e w20 ⟨p20, q20, rfl, hc20, hd20, hS20⟩
  go_wp2_with fail
  refine (op_keep2 ex13 w _ hS20 _ _ _ _ hc20 hd20).mono ?_
  clear hc20 hd20
  rintro e w21 ⟨rfl, hc21, hd21, hS21⟩
  go_wp2_with fail
  refine (parts_fn _ _ _ _ _ hc21 hd21).mono ?_
  clear hc21 hd21
  rintro e w0 ⟨rfl, rfl⟩
  go_wp2_with fail
  refine (op_only ex14 w _ hS21).mono ?_
  rintro e w22 ⟨rfl, hS22⟩
  go_wp2_with fail
  refine (is_any w _ _ hS22).mono ?_
  rintro e w23 ⟨p23, rfl, hc23, hS23⟩
  go_wp2_with fail
  refine (op_keep ex15 w _ hS23 _ _ hc23).mono ?_
  clear hc23
  rintro e w24 ⟨rfl, hc24, hS24⟩
  go_wp2_with fail
  refine (is_fn _ _ _ hc24).mono ?_
  clear hc24
  rintro e w0 ⟨rfl, rfl⟩
  go_wp2_with fail
  refine (is_any w _ _ hS24).mono ?_
  rintro e w25 ⟨p25, rfl, hc25, hS25⟩
  go_wp2_with fail
  refine (op_keep ex16 w _ hS25 _ _ hc25).mono ?_
  clear hc25
  rintro e w26 ⟨rfl, hc26, hS26⟩
  go_wp2_with fail
  refine (is_fn _ _ _ hc26).mono ?_
  clear hc26
  rintro e w0 ⟨rfl, rfl⟩
  go_wp2_with fail
  refine (says_any w _ _ hS26).mono ?_
  rintro e w27 ⟨p27, rfl, hc27, hS27⟩
  go_wp2_with fail
  refine (op_keep ex17 w _ hS27 _ _ hc27).mono ?_
  clear hc27
  rintro e w28 ⟨rfl, hc28, hS28⟩
  go_wp2_with fail
  refine (says_fn _ _ _ hc28).mono ?_
  clear hc28
  rintro e w0 ⟨rfl, rfl⟩
  go_wp2_with fail
  refine (says_any w _ _ hS28).mono ?_
  rintro e w29 ⟨p29, rfl, hc29, hS29⟩
  go_wp2_with fail
  refine (op_keep ex18 w _ hS29 _ _ hc29).mono ?_
  clear hc29
  rintro e w30 ⟨rfl, hc30, hS30⟩
  go_wp2_with fail
  refine (says_fn _ _ _ hc30).mono ?_
  clear hc30
  rintro e w0 ⟨rfl, rfl⟩
  go_wp2_with fail
  refine (is_any w _ _ hS30).mono ?_
  rintro e w31 ⟨p31, rfl, hc31, hS31⟩
  go_wp2_with fail
  refine (op_keep ex19 w _ hS31 _ _ hc31).mono ?_
  clear hc31
  rintro e w32 ⟨rfl, hc32, hS32⟩
  go_wp2_with fail
  refine (is_fn _ _ _ hc32).mono ?_
  clear hc32
  rintro e w0 ⟨rfl, rfl⟩
  go_wp2_with fail
  refine (is_any w _ _ hS32).mono ?_
  rintro e w33 ⟨p33, rfl, hc33, hS33⟩
  go_wp2_with fail
  refine (op_keep ex20 w _ hS33 _ _ hc33).mono ?_
  clear hc33
  rintro e w34 ⟨rfl, hc34, hS34⟩
  go_wp2_with fail
  refine (is_fn _ _ _ hc34).mono ?_
  clear hc34
  rintro e w0 ⟨rfl, rfl⟩
  go_wp2_with fail
  refine (fails_any w _ _ hS34).mono ?_
  rintro e w35 ⟨p35, rfl, hc35, hS35⟩
  go_wp2_with fail
  refine (op_keep ex21 w _ hS35 _ _ hc35).mono ?_
  clear hc35
  rintro e w36 ⟨rfl, hc36, hS36⟩
  go_wp2_with fail
  refine (fails_fn _ _ _ hc36).mono ?_
  clear hc36
  rintro e w0 ⟨rfl, rfl⟩
  go_wp2_with fail
  refine (is_any w _ _ hS36).mono ?_
  rintro e w37 ⟨p37, rfl, hc37, hS37⟩
  go_wp2_with fail
  refine (op_keep ex22 w _ hS37 _ _ hc37).mono ?_
  clear hc37
  rintro e w38 ⟨rfl, hc38, hS38⟩
  go_wp2_with fail
  refine (is_fn _ _ _ hc38).mono ?_
  clear hc38
  rintro e w0 ⟨rfl, rfl⟩
  go_wp2_with fail
  refine (is_any w _ _ hS38).mono ?_
  rintro e w39 ⟨p39, rfl, hc39, hS39⟩
  go_wp2_with fail
  refine (op_keep ex23 w _ hS39 _ _ hc39).mono ?_
  clear hc39
  rintro e w40 ⟨rfl, hc40, hS40⟩
  go_wp2_with fail
  refine (is_fn _ _ _ hc40).mono ?_
  clear hc40
  rintro e w0 ⟨rfl, rfl⟩
  go_wp2_with fail
  refine (fails_any w _ _ hS40).mono ?_
  rintro e w41 ⟨p41, rfl, hc41, hS41⟩
  go_wp2_with fail
  refine (op_keep ex24 w _ hS41 _ _ hc41).mono ?_
  clear hc41
  rintro e w42 ⟨rfl, hc42, hS42⟩
  go_wp2_with fail
  refine (fails_fn _ _ _ hc42).mono ?_
  clear hc42
  rintro e w0 ⟨rfl, rfl⟩
  go_wp2_with fail
  refine (fails_any w _ _ hS42).mono ?_
  rintro e w43 ⟨p43, rfl, hc43, hS43⟩
  go_wp2_with fail
  refine (op_keep ex25 w _ hS43 _ _ hc43).mono ?_
  clear hc43
  rintro e w44 ⟨rfl, hc44, hS44⟩
  go_wp2_with fail
  refine (fails_fn _ _ _ hc44).mono ?_
  clear hc44
  rintro e w0 ⟨rfl, rfl⟩
  go_wp2_with fail
  go_ret
  exact ⟨rfl, hS44.1⟩

end Go.Proofs.YtdclloledfjfjaaGreatDoor

namespace Go.Proofs.YtdclloledfjfjaaGreatDoor
open Go.RowKit Vd

/-- a draft that came in -/
structure DraftIn (W : World) (b : Bool) (A : Option Addr) (n c z : Nat) (xs : List Nat) : Prop where
  sl : Sl W U16 A n xs
  ok : Ok 65536 xs
  z : z < 65536
  n : n ≤ 9223372036854775807
theorem DraftIn.below {W W' : World} {b : Bool} {A : Option Addr} {n c z : Nat} {xs : List Nat} (h : DraftIn W b A n c z xs) (hb : Below W.heap.size W W') : DraftIn W' b A n c z xs := ⟨h.sl.below hb, h.ok, h.z, h.n⟩

end Go.Proofs.YtdclloledfjfjaaGreatDoor
