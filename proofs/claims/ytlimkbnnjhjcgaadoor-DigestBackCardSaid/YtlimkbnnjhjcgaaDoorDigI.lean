/- Package digest: the digest's octets. -/
import Derived.Test.YtlimkbnnjhjcgaaDoorDigH
import Derived.Laws.CopyRow
import Derived.RangeFuncBox
namespace Go.Proofs.YtlimkbnnjhjcgaaDoor
open Go.RowKit Vo
attribute [local go_sem ↓] Go.wp_at_zero Go.wp_at_succ

/-- octets as cells -/
def bcA (l : List UInt8) : Array Value := (Lib.byteCells l).toArray
theorem bcA_size (l : List UInt8) : (bcA l).size = l.length := by rw [bcA, List.size_toArray, bc_length]
theorem bcA_one (l : List UInt8) : (bcA l).all (·.oneCell') = true := by
  rw [Array.all_eq_true_iff_forall_mem]
  intro v hv
  simp only [bcA, Lib.byteCells, List.mem_toArray, List.mem_map] at hv
  obtain ⟨x, _, rfl⟩ := hv
  rfl
theorem size28 : (Tryd.prog.info? 28).map (·.size) = some 16 := by kernel_rfl
theorem little4 (n : Nat) (w : World) (hn : n < 4611686018427387904) :
    Calls Tryd.prog 67 #[.slice none 0 0, .int .i64 n, .int .i64 4] w fun e w' => ∃ g cap, e = .returned (.slice (some ⟨g, 0, none⟩) 4 cap) ∧ (∀ j v, (Lib.byteCells (les n 4))[j]? = some v → w'.cell? (Addr.add ⟨g, 0, none⟩ j) = some v) ∧ Below w.heap.size w w' := by
  refine (little_any w.heap.size (.slice none 0 0) [] n 4 w (Nat.le_refl _) (Or.inl (World.ownsRow_nil _ _ _ _)) (by decide) (by decide) hn).mono fun e w' ⟨v', he, ho, hb⟩ => ?_
  rw [List.nil_append] at ho
  obtain ⟨g, cap, rfl, hc⟩ := ho.cells (fun h => by have := les_length n 4; rw [h] at this; cases this)
  rw [les_length] at he
  exact ⟨g, cap, he, hc, hb⟩
/-- four octets laid over sixteen -/
def lay (l : List UInt8) (o : Nat) (m : List UInt8) : List UInt8 := l.take o ++ m ++ l.drop (o + m.length)
theorem copy4 (w : World) (g0 o k g cap : Nat) (hk : k = 16 - o) (l m : List UInt8) (ty : TypeId) (hl : l.length = 16) (hm : m.length = 4) (ho : o + 4 ≤ 16) (hg : Fr w g0 (bcA l) 28) (hc : ∀ j v, (Lib.byteCells m)[j]? = some v → w.cell? (Addr.add ⟨g, 0, none⟩ j) = some v) :
    (Builtin.copy_ #[34, 34] ty #[.slice (some ⟨g0, o, none⟩) k k, .slice (some ⟨g, 0, none⟩) 4 cap]).run Tryd.prog w = .ok (goInt 4) (w.setRow g0 (bcA (lay l o m))) := by
  subst hk
  have h := run_copy_row (P := Tryd.prog) w 34 34 ty 5 g0 o (16 - o) (16 - o) ⟨g, 0, none⟩ 4 cap (bcA l) 28 (Lib.byteCells m) Tryd.underlying34 (by kernel_rfl) hg (by rw [bc_length, hm]; exact (Nat.min_eq_left (by omega)).symm) hc (by rw [bc_length, hm, bcA_size, hl]; exact ho) (fun v hv => by
    simp only [Lib.byteCells, List.mem_map] at hv
    obtain ⟨x, _, rfl⟩ := hv
    rfl)
  rw [bc_length, hm] at h
  have e : ((bcA l).toList.take o ++ Lib.byteCells m ++ (bcA l).toList.drop (o + 4)).toArray = bcA (lay l o m) := by
    simp [bcA, lay, Lib.byteCells, hm, List.map_take, List.map_drop]
  rw [h, e]
  rfl

def zb16 : Array Value := #[.int .u8 0, .int .u8 0, .int .u8 0, .int .u8 0, .int .u8 0, .int .u8 0, .int .u8 0, .int .u8 0, .int .u8 0, .int .u8 0, .int .u8 0, .int .u8 0, .int .u8 0, .int .u8 0, .int .u8 0, .int .u8 0]
theorem zb16_eq : zb16 = bcA zero16 := by kernel_rfl
theorem lay_length {l m : List UInt8} {o : Nat} (hl : l.length = 16) (hm : m.length = 4) (ho : o + 4 ≤ 16) : (lay l o m).length = 16 := by
  unfold lay; rw [List.length_append, List.length_append, List.length_take, List.length_drop]; omega
theorem lay_told (a b c d : Nat) : lay (lay (lay (lay zero16 0 (les a 4)) 4 (les b 4)) 8 (les c 4)) 12 (les d 4) = told (a, b, c, d) := by
  simp [lay, told, les, zero16, List.replicate]

set_option maxRecDepth 100000 in
set_option maxHeartbeats 4000000 in
theorem octets_any (q : Q) (w : World) (hq : OkQ q) :
    Calls Tryd.prog 53 #[.agg (q4 q)] w fun e w' => e = .returned (.agg (bcA (told q))) ∧ Below w.heap.size w w' := by
  obtain ⟨a, b, c, d⟩ := q
  have hql := fun n (h : n < 4294967296) W => little4 n W (by omega)
  have l0 := hql a hq.1
  have l1 := hql b hq.2.1
  have l2 := hql c hq.2.2.1
  have l3 := hql d hq.2.2.2
  have x0 := qx0 (a, b, c, d)
  have x1 := qx1 (a, b, c, d)
  have x2 := qx2 (a, b, c, d)
  have x3 := qx3 (a, b, c, d)
  have z0 : IntKind.i64.wrap 0 = 0 := by decide
  have z4 : IntKind.i64.wrap 4 = 4 := by decide
  have z8 : IntKind.i64.wrap 8 = 8 := by decide
  have z12 : IntKind.i64.wrap 12 = 12 := by decide
  have wr : ∀ n : Nat, n < 4294967296 → IntKind.i64.wrap (n : Int) = n := fun n hn => by rw [IntKind.wrap_i64]; omega
  have wa := wr a hq.1
  have wb := wr b hq.2.1
  have wcc := wr c hq.2.2.1
  have wd := wr d hq.2.2.2
  clear hql hq wr
  go_enter Tryd.func53, Tryd.ntmps53
  go_wp2_with fail
  change Code.wp _ _ _ _ (((w.alloc (.cells (q4 (a, b, c, d)) 58)).alloc (.cells zb16 28)).alloc (.cells zb16 28))
  obtain ⟨w0, hw0⟩ : ∃ W, (((w.alloc (.cells (q4 (a, b, c, d)) 58)).alloc (.cells zb16 28)).alloc (.cells zb16 28)) = W := ⟨_, rfl⟩
  have hf0 : Fr w0 (w.heap.size + 1 + 1) zb16 28 := by rw [← hw0]; exact Fr.new (by simp)
  have hg0 : Fr w0 (w.heap.size + 1) zb16 28 := by rw [← hw0]; exact Fr.old (Fr.new (by simp))
  have hB0 : Below w.heap.size w w0 := by rw [← hw0]; exact (((Below.refl _ _).alloc (Nat.le_refl _) _).alloc (by simp) _).alloc (by simp; omega) _
  rw [hw0]
  rw [zb16_eq] at hf0 hg0
  clear hw0
  refine wp_loop_rounds 6 ?_
  have hlen0 : (zero16 : List UInt8).length = 16 := rfl
  obtain ⟨L0, hL0⟩ : ∃ L, (zero16 : List UInt8) = L := ⟨_, rfl⟩
  rw [hL0] at hf0 hlen0
  rw [rounds_succ]
  go_wp2_with fail
  go_region_with ((go_at_call 67
                   refine (l0 _).mono ?_
                   rintro e w1 ⟨g, cap, rfl, hc, hb⟩
                   have hf1 : Fr w1 (w.heap.size + 1 + 1) (bcA L0) 28 := Fr.call hb hf0.drew
                   have hg1 : Fr w1 (w.heap.size + 1) (bcA zero16) 28 := Fr.call hb hg0.drew
                   have hB1 : Below w.heap.size w w1 := hB0.drew.trans (hb.mono hB0.size)
                   have hcp := fun ty => copy4 w1 (w.heap.size + 1 + 1) 0 16 g cap rfl L0 (les a 4) ty hlen0 rfl (by decide) hf1 hc
                   clear hc))
  rename World => w1
  rename Below w.heap.size w w1 => hB1
  rename Fr w1 (w.heap.size + 1) _ _ => hg1
  rename Fr w1 (w.heap.size + 1 + 1) _ _ => hf1
  obtain ⟨v1, hv⟩ : ∃ W, w1.setRow (w.heap.size + 1 + 1) (bcA (lay L0 0 (les a 4))) = W := ⟨_, rfl⟩
  have hf1 : Fr v1 (w.heap.size + 1 + 1) (bcA (lay L0 0 (les a 4))) 28 := by rw [← hv]; exact setRow_heap _ _ _ _ _ _ hf1
  have hg1 : Fr v1 (w.heap.size + 1) (bcA zero16) 28 := by rw [← hv]; exact (setRow_other _ _ _ _ (by omega)).trans hg1
  have hB1 : Below w.heap.size w v1 := by rw [← hv]; exact below_setRow hB1 (by omega) _
  rw [hv]
  clear hv
  go_wp2_with fail
  have hlen1 : ((lay L0 0 (les a 4)) : List UInt8).length = 16 := lay_length hlen0 rfl (by decide)
  obtain ⟨L1, hL1⟩ : ∃ L, ((lay L0 0 (les a 4)) : List UInt8) = L := ⟨_, rfl⟩
  rw [hL1] at hf1 hlen1
  rw [rounds_succ]
  go_wp2_with fail
  go_region_with ((go_at_call 67
                   refine (l1 _).mono ?_
                   rintro e w2 ⟨g, cap, rfl, hc, hb⟩
                   have hf2 : Fr w2 (w.heap.size + 1 + 1) (bcA L1) 28 := Fr.call hb hf1.drew
                   have hg2 : Fr w2 (w.heap.size + 1) (bcA zero16) 28 := Fr.call hb hg1.drew
                   have hB2 : Below w.heap.size w w2 := hB1.drew.trans (hb.mono hB1.size)
                   have hcp := fun ty => copy4 w2 (w.heap.size + 1 + 1) 4 12 g cap rfl L1 (les b 4) ty hlen1 rfl (by decide) hf2 hc
                   clear hc))
  rename World => w2
  rename Below w.heap.size w w2 => hB2
  rename Fr w2 (w.heap.size + 1) _ _ => hg2
  rename Fr w2 (w.heap.size + 1 + 1) _ _ => hf2
  obtain ⟨v2, hv⟩ : ∃ W, w2.setRow (w.heap.size + 1 + 1) (bcA (lay L1 4 (les b 4))) = W := ⟨_, rfl⟩
  have hf2 : Fr v2 (w.heap.size + 1 + 1) (bcA (lay L1 4 (les b 4))) 28 := by rw [← hv]; exact setRow_heap _ _ _ _ _ _ hf2
  have hg2 : Fr v2 (w.heap.size + 1) (bcA zero16) 28 := by rw [← hv]; exact (setRow_other _ _ _ _ (by omega)).trans hg2
  have hB2 : Below w.heap.size w v2 := by rw [← hv]; exact below_setRow hB2 (by omega) _
  rw [hv]
  clear hv
  go_wp2_with fail
  have hlen2 : ((lay L1 4 (les b 4)) : List UInt8).length = 16 := lay_length hlen1 rfl (by decide)
  obtain ⟨L2, hL2⟩ : ∃ L, ((lay L1 4 (les b 4)) : List UInt8) = L := ⟨_, rfl⟩
  rw [hL2] at hf2 hlen2
  rw [rounds_succ]
  go_wp2_with fail
  go_region_with ((go_at_call 67
                   refine (l2 _).mono ?_
                   rintro e w3 ⟨g, cap, rfl, hc, hb⟩
                   have hf3 : Fr w3 (w.heap.size + 1 + 1) (bcA L2) 28 := Fr.call hb hf2.drew
                   have hg3 : Fr w3 (w.heap.size + 1) (bcA zero16) 28 := Fr.call hb hg2.drew
                   have hB3 : Below w.heap.size w w3 := hB2.drew.trans (hb.mono hB2.size)
                   have hcp := fun ty => copy4 w3 (w.heap.size + 1 + 1) 8 8 g cap rfl L2 (les c 4) ty hlen2 rfl (by decide) hf3 hc
                   clear hc))
  rename World => w3
  rename Below w.heap.size w w3 => hB3
  rename Fr w3 (w.heap.size + 1) _ _ => hg3
  rename Fr w3 (w.heap.size + 1 + 1) _ _ => hf3
  obtain ⟨v3, hv⟩ : ∃ W, w3.setRow (w.heap.size + 1 + 1) (bcA (lay L2 8 (les c 4))) = W := ⟨_, rfl⟩
  have hf3 : Fr v3 (w.heap.size + 1 + 1) (bcA (lay L2 8 (les c 4))) 28 := by rw [← hv]; exact setRow_heap _ _ _ _ _ _ hf3
  have hg3 : Fr v3 (w.heap.size + 1) (bcA zero16) 28 := by rw [← hv]; exact (setRow_other _ _ _ _ (by omega)).trans hg3
  have hB3 : Below w.heap.size w v3 := by rw [← hv]; exact below_setRow hB3 (by omega) _
  rw [hv]
  clear hv
  go_wp2_with fail
  have hlen3 : ((lay L2 8 (les c 4)) : List UInt8).length = 16 := lay_length hlen2 rfl (by decide)
  obtain ⟨L3, hL3⟩ : ∃ L, ((lay L2 8 (les c 4)) : List UInt8) = L := ⟨_, rfl⟩
  rw [hL3] at hf3 hlen3
  rw [rounds_succ]
  go_wp2_with fail
  go_region_with ((go_at_call 67
                   refine (l3 _).mono ?_
                   rintro e w4 ⟨g, cap, rfl, hc, hb⟩
                   have hf4 : Fr w4 (w.heap.size + 1 + 1) (bcA L3) 28 := Fr.call hb hf3.drew
                   have hg4 : Fr w4 (w.heap.size + 1) (bcA zero16) 28 := Fr.call hb hg3.drew
                   have hB4 : Below w.heap.size w w4 := hB3.drew.trans (hb.mono hB3.size)
                   have hcp := fun ty => copy4 w4 (w.heap.size + 1 + 1) 12 4 g cap rfl L3 (les d 4) ty hlen3 rfl (by decide) hf4 hc
                   clear hc))
  rename World => w4
  rename Below w.heap.size w w4 => hB4
  rename Fr w4 (w.heap.size + 1) _ _ => hg4
  rename Fr w4 (w.heap.size + 1 + 1) _ _ => hf4
  obtain ⟨v4, hv⟩ : ∃ W, w4.setRow (w.heap.size + 1 + 1) (bcA (lay L3 12 (les d 4))) = W := ⟨_, rfl⟩
  have hf4 : Fr v4 (w.heap.size + 1 + 1) (bcA (lay L3 12 (les d 4))) 28 := by rw [← hv]; exact setRow_heap _ _ _ _ _ _ hf4
  have hg4 : Fr v4 (w.heap.size + 1) (bcA zero16) 28 := by rw [← hv]; exact (setRow_other _ _ _ _ (by omega)).trans hg4
  have hB4 : Below w.heap.size w v4 := by rw [← hv]; exact below_setRow hB4 (by omega) _
  rw [hv]
  clear hv
  go_wp2_with fail
  rw [rounds_succ]
  rw [← hL3, ← hL2, ← hL1, ← hL0, lay_told] at hf4
  have ht := told_length (a, b, c, d)
  go_wp2_with (first | (refine wpList_load_row rfl 28 _ rfl _ rfl _ _ _ _ hf4 Tryd.underlying28 rfl (size28.trans (by rw [bcA_size, ht])) ?_) | (refine wpList_store_row rfl 28 _ _ rfl _ _ rfl rfl _ _ hg4 (size28.trans (by rw [bcA_size, ht])) (by rw [bcA_size, bcA_size, ht]; rfl) (bcA_one _) ?_))
  refine bodyPost_ret (v := .agg (bcA (told (a, b, c, d)))) (results_cell_row rfl _ _ (w.heap.size + 1) _ _ _ _ rfl (setRow_heap _ _ _ _ _ _ hg4) Tryd.underlying28 rfl (size28.trans (by rw [bcA_size, ht]))) rfl ⟨rfl, below_setRow hB4 (by omega) _⟩
end Go.Proofs.YtlimkbnnjhjcgaaDoor
