/- The examples of the chapter, which each law asks first. -/
import Derived.Test.YtieklokffmjcfaaDoorOctH
namespace Go.Proofs.YtieklokffmjcfaaDoor
open Go.RowKit Vo
attribute [local go_sem ↓] Go.wp_at_zero Go.wp_at_succ

set_option maxHeartbeats 400000 in
theorem says_any (n : Int) (W : World) :
    Calls Tryd.prog 23 #[.int .i64 n] W fun e w' => ∃ p : Addr, e = .returned (.func (.func 43) #[] #[.pointer (some p)]) ∧ w'.cell? p = some (.int .i64 n) ∧ Below W.heap.size W w' := by
  have hmf := mkf
  go_enter Tryd.func23, Tryd.ntmps23
  go_wp2_with fail
  go_ret
  exact ⟨⟨W.heap.size, 0, none⟩, rfl, by simp [go_sem], (Below.refl _ _).alloc (Nat.le_refl _) _⟩
set_option maxHeartbeats 400000 in
theorem stops_any (n : Int) (W : World) :
    Calls Tryd.prog 32 #[.int .i64 n] W fun e w' => ∃ p : Addr, e = .returned (.func (.func 57) #[] #[.pointer (some p)]) ∧ w'.cell? p = some (.int .i64 n) ∧ Below W.heap.size W w' := by
  have hmf := mkf
  go_enter Tryd.func32, Tryd.ntmps32
  go_wp2_with fail
  go_ret
  exact ⟨⟨W.heap.size, 0, none⟩, rfl, by simp [go_sem], (Below.refl _ _).alloc (Nat.le_refl _) _⟩
set_option maxHeartbeats 400000 in
theorem is_any (s : ByteArray) (W : World) :
    Calls Tryd.prog 28 #[.string s] W fun e w' => ∃ p : Addr, e = .returned (.func (.func 55) #[] #[.pointer (some p)]) ∧ w'.cell? p = some (.string s) ∧ Below W.heap.size W w' := by
  have hmf := mkf
  go_enter Tryd.func28, Tryd.ntmps28
  go_wp2_with fail
  go_ret
  exact ⟨⟨W.heap.size, 0, none⟩, rfl, by simp [go_sem], (Below.refl _ _).alloc (Nat.le_refl _) _⟩
set_option maxHeartbeats 400000 in
theorem fails_any (n : Int) (W : World) :
    Calls Tryd.prog 25 #[.int .i64 n] W fun e w' => ∃ p : Addr, e = .returned (.func (.func 45) #[] #[.pointer (some p)]) ∧ w'.cell? p = some (.int .i64 n) ∧ Below W.heap.size W w' := by
  have hmf := mkf
  go_enter Tryd.func25, Tryd.ntmps25
  go_wp2_with fail
  go_ret
  exact ⟨⟨W.heap.size, 0, none⟩, rfl, by simp [go_sem], (Below.refl _ _).alloc (Nat.le_refl _) _⟩
set_option maxHeartbeats 400000 in
theorem says_fn (n : Int) (p : Addr) (W : World) (hc : W.cell? p = some (.int .i64 n)) :
    Calls Tryd.prog 43 #[.int .i64 n, .int .i64 0, .pointer (some p)] W fun e w' => e = .returned (.bool true) ∧ W = w' := by
  go_enter Tryd.func43, Tryd.ntmps43
  go_wp2_with fail
  go_ret
  exact ⟨rfl, rfl⟩
set_option maxHeartbeats 400000 in
theorem stops_fn (n : Int) (p : Addr) (W : World) (hc : W.cell? p = some (.int .i64 n)) :
    Calls Tryd.prog 57 #[.int .i64 0, .int .i64 n, .pointer (some p)] W fun e w' => e = .returned (.bool true) ∧ W = w' := by
  go_enter Tryd.func57, Tryd.ntmps57
  go_wp2_with fail
  go_ret
  exact ⟨rfl, rfl⟩
set_option maxHeartbeats 400000 in
theorem is_fn (s : ByteArray) (p : Addr) (W : World) (hc : W.cell? p = some (.string s)) :
    Calls Tryd.prog 55 #[.string s, .int .i64 0, .pointer (some p)] W fun e w' => e = .returned (.bool true) ∧ W = w' := by
  go_enter Tryd.func55, Tryd.ntmps55
  go_wp2_with fail
  go_ret
  exact ⟨rfl, rfl⟩
set_option maxHeartbeats 400000 in
theorem fails_fn (n : Int) (p : Addr) (W : World) (hc : W.cell? p = some (.int .i64 n)) :
    Calls Tryd.prog 45 #[.string ⟨#[]⟩, .int .i64 n, .pointer (some p)] W fun e w' => e = .returned (.bool true) ∧ W = w' := by
  go_enter Tryd.func45, Tryd.ntmps45
  go_wp2_with fail
  go_ret
  exact ⟨rfl, rfl⟩

theorem ostep {W0 W : World} {f : FuncId} {args : Array Value} {V : Value} (hS : Below W0.heap.size W0 W) {p : Addr} {u : Value} (hc : W.cell? p = some u) (h : Calls Tryd.prog f args W fun e w' => e = .returned V ∧ Below W.heap.size W w') : Calls Tryd.prog f args W fun e w' => e = .returned V ∧ w'.cell? p = some u ∧ Below W0.heap.size W0 w' :=
  h.mono fun _ _ ⟨he, hb⟩ => ⟨he, (hb.cell (World.block_lt_of_cell? W _ hc)).trans hc, below_more hS hb⟩
theorem part_below (l : List UInt8) (a n : Int) (w : World) :
    Calls Tryd.prog 30 #[.string (B l), .int .i64 a, .int .i64 n] w fun e w' => e = .returned (.tuple #[.string (B (partR l a n).1), .int .i64 (partR l a n).2]) ∧ Below w.heap.size w w' :=
  (part_any l a n w).mono fun _ _ ⟨he, hw⟩ => ⟨he, hw ▸ Below.refl _ _⟩
theorem ex0 (W : World) : Calls Tryd.prog 21 #[.string (B [1, 2, 3]), .int .i64 1] W fun e w' => e = .returned (.tuple #[.int .i64 515, .int .i64 0]) ∧ Below W.heap.size W w' := by
  have h := u16_any [1, 2, 3] 1 W 
  rw [show numR [1, 2, 3] 1 2 false = (515, 0) by decide] at h
  exact h
theorem ex1 (W : World) : Calls Tryd.prog 22 #[.string (B [255, 255, 255, 254]), .int .i64 0] W fun e w' => e = .returned (.tuple #[.int .i64 4294967294, .int .i64 0]) ∧ Below W.heap.size W w' := by
  have h := u32_any [255, 255, 255, 254] 0 W 
  rw [show numR [255, 255, 255, 254] 0 4 false = (4294967294, 0) by decide] at h
  exact h
theorem ex2 (W : World) : Calls Tryd.prog 24 #[.string (B [255, 255, 255, 254]), .int .i64 0] W fun e w' => e = .returned (.tuple #[.int .i64 (-2), .int .i64 0]) ∧ Below W.heap.size W w' := by
  have h := s32_any [255, 255, 255, 254] 0 W 
  rw [show numR [255, 255, 255, 254] 0 4 true = ((-2), 0) by decide] at h
  exact h
theorem ex3 (W : World) : Calls Tryd.prog 20 #[.string (B []), .int .i64 0] W fun e w' => e = .returned (.tuple #[.int .i64 0, .int .i64 70]) ∧ Below W.heap.size W w' := by
  have h := u8_any [] 0 W 
  rw [show numR [] 0 1 false = (0, 70) by decide] at h
  exact h
theorem ex4 (W : World) : Calls Tryd.prog 21 #[.string (B [1, 2, 3]), .int .i64 2] W fun e w' => e = .returned (.tuple #[.int .i64 0, .int .i64 70]) ∧ Below W.heap.size W w' := by
  have h := u16_any [1, 2, 3] 2 W 
  rw [show numR [1, 2, 3] 2 2 false = (0, 70) by decide] at h
  exact h
theorem ex5 (W : World) : Calls Tryd.prog 20 #[.string (B [1]), .int .i64 (-1)] W fun e w' => e = .returned (.tuple #[.int .i64 0, .int .i64 2]) ∧ Below W.heap.size W w' := by
  have h := u8_any [1] (-1) W 
  rw [show numR [1] (-1) 1 false = (0, 2) by decide] at h
  exact h
theorem ex6 (W : World) : Calls Tryd.prog 8 #[.int .i64 515] W fun e w' => e = .returned (.tuple #[.string (B [2, 3]), .int .i64 0]) ∧ Below W.heap.size W w' := by
  have h := put_u16 515 W 
  rw [show putR 0 65535 2 515 = ([2, 3], 0) by decide] at h
  exact h
theorem ex7 (W : World) : Calls Tryd.prog 10 #[.int .i64 (-2)] W fun e w' => e = .returned (.tuple #[.string (B [255, 255, 255, 254]), .int .i64 0]) ∧ Below W.heap.size W w' := by
  have h := put_s32 (-2) W 
  rw [show putR (-2147483648) 2147483647 4 (-2) = ([255, 255, 255, 254], 0) by decide] at h
  exact h
theorem ex8 (W : World) : Calls Tryd.prog 7 #[.int .i64 256] W fun e w' => e = .returned (.tuple #[.string (B []), .int .i64 2]) ∧ Below W.heap.size W w' := by
  have h := put_u8 256 W 
  rw [show putR 0 255 1 256 = ([], 2) by decide] at h
  exact h
theorem ex9 (W : World) : Calls Tryd.prog 29 #[.string (B [97, 98, 0, 0]), .int .i64 0, .int .i64 4] W fun e w' => e = .returned (.tuple #[.string (B [97, 98]), .int .i64 0]) ∧ Below W.heap.size W w' := by
  have h := text_any [97, 98, 0, 0] 0 4 W (by simp)
  rw [show textR [97, 98, 0, 0] 0 4 = ([97, 98], 0) by decide] at h
  exact h
theorem ex10 (W : World) : Calls Tryd.prog 29 #[.string (B [97, 0, 98, 0]), .int .i64 0, .int .i64 4] W fun e w' => e = .returned (.tuple #[.string (B []), .int .i64 5]) ∧ Below W.heap.size W w' := by
  have h := text_any [97, 0, 98, 0] 0 4 W (by simp)
  rw [show textR [97, 0, 98, 0] 0 4 = ([], 5) by decide] at h
  exact h
theorem ex11 (W : World) : Calls Tryd.prog 29 #[.string (B [97, 10, 0, 0]), .int .i64 0, .int .i64 4] W fun e w' => e = .returned (.tuple #[.string (B []), .int .i64 5]) ∧ Below W.heap.size W w' := by
  have h := text_any [97, 10, 0, 0] 0 4 W (by simp)
  rw [show textR [97, 10, 0, 0] 0 4 = ([], 5) by decide] at h
  exact h
theorem ex12 (W : World) : Calls Tryd.prog 29 #[.string (B [97, 98]), .int .i64 0, .int .i64 2] W fun e w' => e = .returned (.tuple #[.string (B [97, 98]), .int .i64 0]) ∧ Below W.heap.size W w' := by
  have h := text_any [97, 98] 0 2 W (by simp)
  rw [show textR [97, 98] 0 2 = ([97, 98], 0) by decide] at h
  exact h
theorem ex13 (W : World) : Calls Tryd.prog 16 #[.string (B [97, 98]), .int .i64 4] W fun e w' => e = .returned (.tuple #[.string (B [97, 98, 0, 0]), .int .i64 0]) ∧ Below W.heap.size W w' := by
  have h := putText_any [97, 98] 4 W (by simp) (by omega) (by omega)
  rw [show putTextR [97, 98] 4 = ([97, 98, 0, 0], 0) by decide] at h
  exact h
theorem ex14 (W : World) : Calls Tryd.prog 16 #[.string (B [97, 98, 99]), .int .i64 2] W fun e w' => e = .returned (.tuple #[.string (B []), .int .i64 3]) ∧ Below W.heap.size W w' := by
  have h := putText_any [97, 98, 99] 2 W (by simp) (by omega) (by omega)
  rw [show putTextR [97, 98, 99] 2 = ([], 3) by decide] at h
  exact h
theorem ex15 (W : World) : Calls Tryd.prog 18 #[.string (B [97, 98, 99]), .int .i64 4] W fun e w' => e = .returned (.tuple #[.string (B [97, 98, 99, 0]), .int .i64 0]) ∧ Below W.heap.size W w' := by
  have h := pad_any [97, 98, 99] 4 W (by simp) (by omega) (by omega)
  rw [show padR [97, 98, 99] 4 = ([97, 98, 99, 0], 0) by decide] at h
  exact h
theorem ex16 (W : World) : Calls Tryd.prog 18 #[.string (B [97, 98, 99, 100]), .int .i64 4] W fun e w' => e = .returned (.tuple #[.string (B [97, 98, 99, 100]), .int .i64 0]) ∧ Below W.heap.size W w' := by
  have h := pad_any [97, 98, 99, 100] 4 W (by simp) (by omega) (by omega)
  rw [show padR [97, 98, 99, 100] 4 = ([97, 98, 99, 100], 0) by decide] at h
  exact h
theorem ex17 (W : World) : Calls Tryd.prog 30 #[.string (B [97, 98, 99]), .int .i64 1, .int .i64 1] W fun e w' => e = .returned (.tuple #[.string (B [98]), .int .i64 0]) ∧ Below W.heap.size W w' := by
  have h := part_below [97, 98, 99] 1 1 W 
  rw [show partR [97, 98, 99] 1 1 = ([98], 0) by decide] at h
  exact h

set_option maxRecDepth 100000 in
set_option maxHeartbeats 8000000 in
theorem works_any (w : World) : Calls Tryd.prog 6 #[] w fun e w' => e = .returned (.bool true) ∧ Below w.heap.size w w' := by
  have hS0 := Below.refl w.heap.size w
  go_enter Tryd.func6, Tryd.ntmps6
  go_wp2_with fail
  refine (says_any 515 _).mono ?_
  rintro e a0 ⟨p, rfl, hc, hb⟩
  have hS1 := below_more hS0 hb
  clear hS0 hb
  go_wp2_with fail
  refine (ostep hS1 hc (ex0 _)).mono ?_
  clear hc hS1
  rintro e b0 ⟨rfl, hc, hS1⟩
  go_wp2_with fail
  refine (says_fn _ _ _ hc).mono ?_
  clear hc
  rintro e w0 ⟨rfl, rfl⟩
  go_wp2_with fail
  refine (says_any 4294967294 _).mono ?_
  rintro e a1 ⟨p, rfl, hc, hb⟩
  have hS2 := below_more hS1 hb
  clear hS1 hb
  go_wp2_with fail
  refine (ostep hS2 hc (ex1 _)).mono ?_
  clear hc hS2
  rintro e b1 ⟨rfl, hc, hS2⟩
  go_wp2_with fail
  refine (says_fn _ _ _ hc).mono ?_
  clear hc
  rintro e w0 ⟨rfl, rfl⟩
  go_wp2_with fail
  refine (says_any (-2) _).mono ?_
  rintro e a2 ⟨p, rfl, hc, hb⟩
  have hS3 := below_more hS2 hb
  clear hS2 hb
  go_wp2_with fail
  refine (ostep hS3 hc (ex2 _)).mono ?_
  clear hc hS3
  rintro e b2 ⟨rfl, hc, hS3⟩
  go_wp2_with fail
  refine (says_fn _ _ _ hc).mono ?_
  clear hc
  rintro e w0 ⟨rfl, rfl⟩
  go_wp2_with fail
  refine (stops_any 70 _).mono ?_
  rintro e a3 ⟨p, rfl, hc, hb⟩
  have hS4 := below_more hS3 hb
  clear hS3 hb
  go_wp2_with fail
  refine (ostep hS4 hc (ex3 _)).mono ?_
  clear hc hS4
  rintro e b3 ⟨rfl, hc, hS4⟩
  go_wp2_with fail
  refine (stops_fn _ _ _ hc).mono ?_
  clear hc
  rintro e w0 ⟨rfl, rfl⟩
  go_wp2_with fail
  refine (stops_any 70 _).mono ?_
  rintro e a4 ⟨p, rfl, hc, hb⟩
  have hS5 := below_more hS4 hb
  clear hS4 hb
  go_wp2_with fail
  refine (ostep hS5 hc (ex4 _)).mono ?_
  clear hc hS5
  rintro e b4 ⟨rfl, hc, hS5⟩
  go_wp2_with fail
  refine (stops_fn _ _ _ hc).mono ?_
  clear hc
  rintro e w0 ⟨rfl, rfl⟩
  go_wp2_with fail
  refine (stops_any 2 _).mono ?_
  rintro e a5 ⟨p, rfl, hc, hb⟩
  have hS6 := below_more hS5 hb
  clear hS5 hb
  go_wp2_with fail
  refine (ostep hS6 hc (ex5 _)).mono ?_
  clear hc hS6
  rintro e b5 ⟨rfl, hc, hS6⟩
  go_wp2_with fail
  refine (stops_fn _ _ _ hc).mono ?_
  clear hc
  rintro e w0 ⟨rfl, rfl⟩
  go_wp2_with fail
  refine (is_any (B [2, 3]) _).mono ?_
  rintro e a6 ⟨p, rfl, hc, hb⟩
  have hS7 := below_more hS6 hb
  clear hS6 hb
  go_wp2_with fail
  refine (ostep hS7 hc (ex6 _)).mono ?_
  clear hc hS7
  rintro e b6 ⟨rfl, hc, hS7⟩
  go_wp2_with fail
  refine (is_fn _ _ _ hc).mono ?_
  clear hc
  rintro e w0 ⟨rfl, rfl⟩
  go_wp2_with fail
  refine (is_any (B [255, 255, 255, 254]) _).mono ?_
  rintro e a7 ⟨p, rfl, hc, hb⟩
  have hS8 := below_more hS7 hb
  clear hS7 hb
  go_wp2_with fail
  refine (ostep hS8 hc (ex7 _)).mono ?_
  clear hc hS8
  rintro e b7 ⟨rfl, hc, hS8⟩
  go_wp2_with fail
  refine (is_fn _ _ _ hc).mono ?_
  clear hc
  rintro e w0 ⟨rfl, rfl⟩
  go_wp2_with fail
  refine (fails_any 2 _).mono ?_
  rintro e a8 ⟨p, rfl, hc, hb⟩
  have hS9 := below_more hS8 hb
  clear hS8 hb
  go_wp2_with fail
  refine (ostep hS9 hc (ex8 _)).mono ?_
  clear hc hS9
  rintro e b8 ⟨rfl, hc, hS9⟩
  go_wp2_with fail
  refine (fails_fn _ _ _ hc).mono ?_
  clear hc
  rintro e w0 ⟨rfl, rfl⟩
  go_wp2_with fail
  refine (is_any (B [97, 98]) _).mono ?_
  rintro e a9 ⟨p, rfl, hc, hb⟩
  have hS10 := below_more hS9 hb
  clear hS9 hb
  go_wp2_with fail
  refine (ostep hS10 hc (ex9 _)).mono ?_
  clear hc hS10
  rintro e b9 ⟨rfl, hc, hS10⟩
  go_wp2_with fail
  refine (is_fn _ _ _ hc).mono ?_
  clear hc
  rintro e w0 ⟨rfl, rfl⟩
  go_wp2_with fail
  refine (fails_any 5 _).mono ?_
  rintro e a10 ⟨p, rfl, hc, hb⟩
  have hS11 := below_more hS10 hb
  clear hS10 hb
  go_wp2_with fail
  refine (ostep hS11 hc (ex10 _)).mono ?_
  clear hc hS11
  rintro e b10 ⟨rfl, hc, hS11⟩
  go_wp2_with fail
  refine (fails_fn _ _ _ hc).mono ?_
  clear hc
  rintro e w0 ⟨rfl, rfl⟩
  go_wp2_with fail
  refine (fails_any 5 _).mono ?_
  rintro e a11 ⟨p, rfl, hc, hb⟩
  have hS12 := below_more hS11 hb
  clear hS11 hb
  go_wp2_with fail
  refine (ostep hS12 hc (ex11 _)).mono ?_
  clear hc hS12
  rintro e b11 ⟨rfl, hc, hS12⟩
  go_wp2_with fail
  refine (fails_fn _ _ _ hc).mono ?_
  clear hc
  rintro e w0 ⟨rfl, rfl⟩
  go_wp2_with fail
  refine (is_any (B [97, 98]) _).mono ?_
  rintro e a12 ⟨p, rfl, hc, hb⟩
  have hS13 := below_more hS12 hb
  clear hS12 hb
  go_wp2_with fail
  refine (ostep hS13 hc (ex12 _)).mono ?_
  clear hc hS13
  rintro e b12 ⟨rfl, hc, hS13⟩
  go_wp2_with fail
  refine (is_fn _ _ _ hc).mono ?_
  clear hc
  rintro e w0 ⟨rfl, rfl⟩
  go_wp2_with fail
  refine (is_any (B [97, 98, 0, 0]) _).mono ?_
  rintro e a13 ⟨p, rfl, hc, hb⟩
  have hS14 := below_more hS13 hb
  clear hS13 hb
  go_wp2_with fail
  refine (ostep hS14 hc (ex13 _)).mono ?_
  clear hc hS14
  rintro e b13 ⟨rfl, hc, hS14⟩
  go_wp2_with fail
  refine (is_fn _ _ _ hc).mono ?_
  clear hc
  rintro e w0 ⟨rfl, rfl⟩
  go_wp2_with fail
  refine (fails_any 3 _).mono ?_
  rintro e a14 ⟨p, rfl, hc, hb⟩
  have hS15 := below_more hS14 hb
  clear hS14 hb
  go_wp2_with fail
  refine (ostep hS15 hc (ex14 _)).mono ?_
  clear hc hS15
  rintro e b14 ⟨rfl, hc, hS15⟩
  go_wp2_with fail
  refine (fails_fn _ _ _ hc).mono ?_
  clear hc
  rintro e w0 ⟨rfl, rfl⟩
  go_wp2_with fail
  refine (is_any (B [97, 98, 99, 0]) _).mono ?_
  rintro e a15 ⟨p, rfl, hc, hb⟩
  have hS16 := below_more hS15 hb
  clear hS15 hb
  go_wp2_with fail
  refine (ostep hS16 hc (ex15 _)).mono ?_
  clear hc hS16
  rintro e b15 ⟨rfl, hc, hS16⟩
  go_wp2_with fail
  refine (is_fn _ _ _ hc).mono ?_
  clear hc
  rintro e w0 ⟨rfl, rfl⟩
  go_wp2_with fail
  refine (is_any (B [97, 98, 99, 100]) _).mono ?_
  rintro e a16 ⟨p, rfl, hc, hb⟩
  have hS17 := below_more hS16 hb
  clear hS16 hb
  go_wp2_with fail
  refine (ostep hS17 hc (ex16 _)).mono ?_
  clear hc hS17
  rintro e b16 ⟨rfl, hc, hS17⟩
  go_wp2_with fail
  refine (is_fn _ _ _ hc).mono ?_
  clear hc
  rintro e w0 ⟨rfl, rfl⟩
  go_wp2_with fail
  refine (is_any (B [98]) _).mono ?_
  rintro e a17 ⟨p, rfl, hc, hb⟩
  have hS18 := below_more hS17 hb
  clear hS17 hb
  go_wp2_with fail
  refine (ostep hS18 hc (ex17 _)).mono ?_
  clear hc hS18
  rintro e b17 ⟨rfl, hc, hS18⟩
  go_wp2_with fail
  refine (is_fn _ _ _ hc).mono ?_
  clear hc
  rintro e w0 ⟨rfl, rfl⟩
  go_wp2_with fail
  go_ret
  exact ⟨rfl, hS18⟩

end Go.Proofs.YtieklokffmjcfaaDoor
