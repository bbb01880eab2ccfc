/- Package digest: numbers, and what begins, goes on, ends. -/
import Derived.Test.YtlimkbnnjhjcgaaDoorDigI
namespace Go.Proofs.YtlimkbnnjhjcgaaDoor
open Go.RowKit Vo
attribute [local go_sem ↓] Go.wp_at_zero Go.wp_at_succ

/-- four ints as a value -/
abbrev i4 (a b c d : Int) : Array Value := #[.int .i64 a, .int .i64 b, .int .i64 c, .int .i64 d]
/-- a digest in progress of the package api as a value -/
def dgV (d : Dg) : Array Value := #[.int .i64 d.w0, .int .i64 d.w1, .int .i64 d.w2, .int .i64 d.w3, .int .i64 d.len, .string (B d.rest)]
def zd : Array Value := #[.int .i64 0, .int .i64 0, .int .i64 0, .int .i64 0, .int .i64 0, .string ⟨#[]⟩]
theorem dgV_size (d : Dg) : (dgV d).size = 6 := rfl
theorem build41 (a b c d n : Int) (r : List UInt8) (W : World) : (Instr.build 41 #[(0, .agg (i4 a b c d)), (1, .int .i64 n), (2, .string (B r))]).run Tryd.prog W = .ok (.agg (dgV ⟨a, b, c, d, n, r⟩)) W := run_build W _ _ _ (by kernel_rfl)
/-- a whole value goes into a block of its own -/
theorem storeFr {W : World} {b : Nat} {old vs : Array Value} {t : TypeId} (h : Fr W b old t) (hs : old.size = vs.size) (h1 : vs.all (·.oneCell') = true) : (storeCells ⟨b, 0, none⟩ vs.toList 0).run Tryd.prog W = .ok () (W.setRow b vs) := by
  have := run_storeCells_from (P := Tryd.prog) b t vs.toList 0 old W h (by simp [hs]) (fun v hv => (Array.all_eq_true_iff_forall_mem.1 h1) v (by simpa using hv))
  rw [this]
  simp
theorem one41 (d : Dg) : (dgV d).all (·.oneCell') = true := by kernel_rfl
theorem size41 : (Tryd.prog.info? 41).map (·.size) = some 6 := by kernel_rfl
theorem size39 : (Tryd.prog.info? 39).map (·.size) = some 4 := by kernel_rfl
theorem ix0 (a b c d : Int) (W : World) : (Instr.index 39 (.agg (i4 a b c d)) (.int .i64 0)).run Tryd.prog W = .ok (.int .i64 a) W := by kernel_rfl
theorem ix1 (a b c d : Int) (W : World) : (Instr.index 39 (.agg (i4 a b c d)) (.int .i64 1)).run Tryd.prog W = .ok (.int .i64 b) W := by kernel_rfl
theorem ix2 (a b c d : Int) (W : World) : (Instr.index 39 (.agg (i4 a b c d)) (.int .i64 2)).run Tryd.prog W = .ok (.int .i64 c) W := by kernel_rfl
theorem ix3 (a b c d : Int) (W : World) : (Instr.index 39 (.agg (i4 a b c d)) (.int .i64 3)).run Tryd.prog W = .ok (.int .i64 d) W := by kernel_rfl

set_option maxRecDepth 100000 in
set_option maxHeartbeats 2000000 in
theorem numbers_any (q : Q) (w : World) (hq : OkQ q) :
    Calls Tryd.prog 58 #[.agg (q4 q)] w fun e w' => e = .returned (.agg (i4 q.1 q.2.1 q.2.2.1 q.2.2.2)) ∧ Below w.heap.size w w' := by
  obtain ⟨a, b, c, d⟩ := q
  obtain ⟨h0, h1, h2, h3⟩ := hq
  have x0 := qx0 (a, b, c, d)
  have x1 := qx1 (a, b, c, d)
  have x2 := qx2 (a, b, c, d)
  have x3 := qx3 (a, b, c, d)
  go_enter Tryd.func58, Tryd.ntmps58
  go_wp2_with fail
  refine wp_loop_rounds 6 ?_
  rw [rounds_succ]
  go_wp2_with fail
  rw [rounds_succ]
  go_wp2_with fail
  rw [rounds_succ]
  go_wp2_with fail
  rw [rounds_succ]
  go_wp2_with fail
  rw [rounds_succ]
  go_wp2_with fail
  refine bodyPost_ret (v := .agg (i4 a b c d)) (by simp [results, Tryd.results58, go_sem]) rfl ⟨rfl, ?_⟩
  exact (((Below.refl _ _).alloc (Nat.le_refl _) _).alloc (by simp) _).alloc (by simp; omega) _
set_option maxRecDepth 100000 in
set_option maxHeartbeats 2000000 in
theorem wordsOf_any (a b c d : Int) (w : World) :
    Calls Tryd.prog 59 #[.agg (i4 a b c d)] w fun e w' => e = .returned (.agg (q4 ((a % 4294967296).toNat, (b % 4294967296).toNat, (c % 4294967296).toNat, (d % 4294967296).toNat))) ∧ Below w.heap.size w w' := by
  have x0 := ix0 a b c d
  have x1 := ix1 a b c d
  have x2 := ix2 a b c d
  have x3 := ix3 a b c d
  go_enter Tryd.func59, Tryd.ntmps59
  go_wp2_with fail
  refine wp_loop_rounds 6 ?_
  rw [rounds_succ]
  go_wp2_with fail
  rw [rounds_succ]
  go_wp2_with fail
  rw [rounds_succ]
  go_wp2_with fail
  rw [rounds_succ]
  go_wp2_with fail
  rw [rounds_succ]
  go_wp2_with fail
  have e : q4 ((a % 4294967296).toNat, (b % 4294967296).toNat, (c % 4294967296).toNat, (d % 4294967296).toNat) = #[.int .u32 (a % 4294967296), .int .u32 (b % 4294967296), .int .u32 (c % 4294967296), .int .u32 (d % 4294967296)] := by
    simp only [q4]
    rw [Int.toNat_of_nonneg (Int.emod_nonneg _ (by decide)), Int.toNat_of_nonneg (Int.emod_nonneg _ (by decide)), Int.toNat_of_nonneg (Int.emod_nonneg _ (by decide)), Int.toNat_of_nonneg (Int.emod_nonneg _ (by decide))]
  rw [e]
  refine bodyPost_ret (v := .agg #[.int .u32 (a % 4294967296), .int .u32 (b % 4294967296), .int .u32 (c % 4294967296), .int .u32 (d % 4294967296)]) (by simp [results, Tryd.results59, go_sem]) rfl ⟨rfl, ?_⟩
  exact (((Below.refl _ _).alloc (Nat.le_refl _) _).alloc (by simp) _).alloc (by simp; omega) _

set_option maxRecDepth 100000 in
set_option maxHeartbeats 2000000 in
theorem begin_any (w : World) :
    Calls Tryd.prog 30 #[] w fun e w' => e = .returned (.agg (pg q0 0 [])) ∧ Below w.heap.size w w' := by
  go_enter Tryd.func30, Tryd.ntmps30
  go_wp2_with fail
  refine bodyPost_ret (v := .agg (pg q0 0 [])) (by simp [results, Tryd.results30, go_sem, q0]) rfl ⟨rfl, ?_⟩
  exact (Below.refl _ _).alloc (Nat.le_refl _) _
end Go.Proofs.YtlimkbnnjhjcgaaDoor
