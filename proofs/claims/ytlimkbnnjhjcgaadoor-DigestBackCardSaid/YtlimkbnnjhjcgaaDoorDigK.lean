/- Package digest: a digest in progress as the package api has it. -/
import Derived.Test.YtlimkbnnjhjcgaaDoorDigJ
namespace Go.Proofs.YtlimkbnnjhjcgaaDoor
open Go.RowKit Vo
attribute [local go_sem ↓] Go.wp_at_zero Go.wp_at_succ

set_option maxRecDepth 100000 in
set_option maxHeartbeats 2000000 in
theorem digest_any (q : Q) (n : Int) (r : List UInt8) (w : World) (hq : OkQ q) :
    Calls Tryd.prog 42 #[.agg (pg q n r)] w fun e w' => e = .returned (.agg (dgV ⟨q.1, q.2.1, q.2.2.1, q.2.2.2, n, r⟩)) ∧ Below w.heap.size w w' := by
  have hnm := fun W => numbers_any q W hq
  go_enter Tryd.func42, Tryd.ntmps42
  go_wp2_with fail
  change Code.wp _ _ _ _ ((w.alloc (.cells (pg q n r) 60)).alloc (.cells zd 41))
  obtain ⟨w0, hw0⟩ : ∃ W, ((w.alloc (.cells (pg q n r) 60)).alloc (.cells zd 41)) = W := ⟨_, rfl⟩
  have hf0 : Fr w0 w.heap.size (pg q n r) 60 := by rw [← hw0]; exact Fr.old (Fr.new rfl)
  have hg0 : Fr w0 (w.heap.size + 1) zd 41 := by rw [← hw0]; exact Fr.new (by simp)
  have hB0 : Below w.heap.size w w0 := by rw [← hw0]; exact ((Below.refl _ _).alloc (Nat.le_refl _) _).alloc (by simp) _
  rw [hw0]
  clear hw0
  have c0 := hf0.drew.cell 0
  have c1 := hf0.drew.cell 1
  have c2 := hf0.drew.cell 2
  have c3 := hf0.drew.cell 3
  have c4 := hf0.drew.cell 4
  have c5 := hf0.drew.cell 5
  go_region_with ((go_at_call 58
                   refine (hnm _).mono ?_
                   rintro e w1 ⟨rfl, hb⟩
                   have hf1 := Fr.call hb hf0.drew
                   have hg1 := Fr.call hb hg0.drew
                   have hB1 : Below w.heap.size w w1 := hB0.drew.trans (hb.mono hB0.size)
                   have d4 := hf1.cell 4
                   have d5 := hf1.cell 5
                   have e0 : w1.cell? ⟨w.heap.size + 1, 0, none⟩ = some (.int .i64 0) := hg1.cell 0
                   have e1 : w1.cell? ⟨w.heap.size + 1, 1, none⟩ = some (.int .i64 0) := hg1.cell 1
                   have e2 : w1.cell? ⟨w.heap.size + 1, 2, none⟩ = some (.int .i64 0) := hg1.cell 2
                   have e3 : w1.cell? ⟨w.heap.size + 1, 3, none⟩ = some (.int .i64 0) := hg1.cell 3
                   have e4 : w1.cell? ⟨w.heap.size + 1, 4, none⟩ = some (.int .i64 0) := hg1.cell 4
                   have e5 : w1.cell? ⟨w.heap.size + 1, 5, none⟩ = some (.string ⟨#[]⟩) := hg1.cell 5
                   have f0 := hg1.frozen 0
                   have f1 := hg1.frozen 1
                   have f2 := hg1.frozen 2
                   have f3 := hg1.frozen 3
                   have f4 := hg1.frozen 4
                   have f5 := hg1.frozen 5))
  all_goals
    rename World => w1
    rename Below w.heap.size w w1 => hB1
    rename Fr w1 (w.heap.size + 1) _ _ => hg1
    go_wp2_with fail
    have hR := ((((((hg1.set (o := 0) (v := .int .i64 q.1)).set (o := 1) (v := .int .i64 q.2.1)).set (o := 2) (v := .int .i64 q.2.2.1)).set (o := 3) (v := .int .i64 q.2.2.2)).set (o := 4) (v := .int .i64 n)).set (o := 5) (v := .string (B r)))
    refine bodyPost_ret (v := .agg (dgV ⟨q.1, q.2.1, q.2.2.1, q.2.2.2, n, r⟩)) (results_cell_row rfl _ _ (w.heap.size + 1) 41 (dgV ⟨q.1, q.2.1, q.2.2.1, q.2.2.2, n, r⟩) _ _ rfl hR Tryd.underlying41 rfl size41) rfl ⟨rfl, ?_⟩
    exact ((((((hB1.setCell (p := ⟨_, _, _⟩) (by simp) _).setCell (p := ⟨_, _, _⟩) (by simp) _).setCell (p := ⟨_, _, _⟩) (by simp) _).setCell (p := ⟨_, _, _⟩) (by simp) _).setCell (p := ⟨_, _, _⟩) (by simp) _).setCell (p := ⟨_, _, _⟩) (by simp) _)

set_option maxRecDepth 100000 in
set_option maxHeartbeats 2000000 in
theorem new_any (w : World) :
    Calls Tryd.prog 19 #[] w fun e w' => e = .returned (.agg (dgV newD)) ∧ Below w.heap.size w w' := by
  have hd := fun W => digest_any q0 0 [] W q0_ok
  have hb0 : Below w.heap.size w (w.alloc (.cells zd 41)) := (Below.refl _ _).alloc (Nat.le_refl _) _
  go_enter Tryd.func19, Tryd.ntmps19
  go_wp2_with fail
  refine (begin_any _).mono ?_
  rintro e w1 ⟨rfl, hb1⟩
  have hg1 : Fr w1 w.heap.size zd 41 := Fr.call hb1 (Fr.new rfl)
  have hB1 : Below w.heap.size w w1 := hb0.trans (hb1.mono (by simp))
  go_wp2_with fail
  refine (hd _).mono ?_
  rintro e w2 ⟨rfl, hb2⟩
  have hg2 := Fr.call hb2 hg1
  have hB2 := hB1.trans (hb2.mono hB1.size)
  go_wp2_with (refine wpList_store_row rfl 41 _ _ rfl _ _ rfl rfl _ _ hg2 size41 rfl (one41 _) ?_)
  exact bodyPost_ret (v := .agg (dgV newD)) (results_cell_row rfl _ _ w.heap.size _ _ _ _ rfl (setRow_heap _ _ _ _ _ _ hg2) Tryd.underlying41 rfl size41) rfl ⟨rfl, below_setRow hB2 (Nat.le_refl _) _⟩
end Go.Proofs.YtlimkbnnjhjcgaaDoor
