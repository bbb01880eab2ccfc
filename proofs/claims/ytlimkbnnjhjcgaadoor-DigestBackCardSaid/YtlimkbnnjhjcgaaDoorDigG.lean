/- Package digest: every full block is handed on. -/
import Derived.Test.YtlimkbnnjhjcgaaDoorDigF
import Derived.Test.YtlimkbnnjhjcgaaDoorDigD
import Derived.Deep.WholeRow
namespace Go.Proofs.YtlimkbnnjhjcgaaDoor
open Go.RowKit Vo

section
attribute [local go_sem ↓] Go.wp_at_zero Go.wp_at_succ
set_option maxHeartbeats 400000 in
theorem blocks_any (s : ByteArray) (w : World) :
    Calls Tryd.prog 64 #[.string s] w fun e w' => e = .returned (.func (.func 74) #[] #[.pointer (some ⟨w.heap.size, 0, none⟩)]) ∧ w.alloc (.cells #[.string s] 9) = w' := by
  have hmf := mkf
  go_enter Tryd.func64, Tryd.ntmps64
  go_wp2_with fail
  go_ret
  exact ⟨rfl, rfl⟩
theorem changeQ (b : Nat) (q : Q) (L : Int) (R : List UInt8) (x : Blk) (w : World) (hq : OkQ q) (hK : KT w) (hP : Fr w b (pg q L R) 60) :
    Calls Tryd.prog 51 #[.pointer (some ⟨b, 0, none⟩), .agg (wc x.1)] w fun e w' => e = .returned (.tuple #[]) ∧ Fr w' b (pg (blkQ q x.1) L R) 60 ∧ w.grownBy w' (some b) := by
  rw [blkQ_eq]
  exact change_any b q L R x.1 w hq x.2 hK hP
end
theorem wpListIn_store_row {F : Fence} {n : Nat} {P : Program} {ops : Array Oper} {rest : List Oper} {o : Oper} {a : Act} {w : World} {Q : Exit → Act → World → Prop} (hgd : o.guard = none) (ty : TypeId) (x y : Operand) (ho : o.op = .store ty x y)
    (g : Nat) (cells : Array Value) (hx : a.eval x = .pointer (some ⟨g, 0, none⟩)) (hy : a.eval y = .agg cells)
    (t : TypeId) (old : Array Value) (hg : w.heap[g]? = some (.cells old t (0, 0))) (hi : (P.info? ty).map (·.size) = some cells.size)
    (hold : old.size = cells.size) (h1 : cells.all (·.oneCell') = true)
    (h : wpListIn F n P ops Q rest (a.put o.dst undef) (w.setRow g cells)) : wpListIn F n P ops Q (o :: rest) a w := by
  refine wpListIn_plain hgd fun K hK => ⟨fun f hf => by simp [Oper.about, ho] at hf, ?_⟩
  rw [Oper.semAt_eq _ _ _ (fun c e => by rw [ho] at e; cases e)]
  unfold execOp
  simp only [ho, hx, hy, Instr.storeAt, Instr.sureAddr, Sem.run_bind, Sem.run_pure, Result.andThen_ok, run_storeVar_row w g t ty old cells hg hi hold h1]
  exact hK _ _ h
theorem wpListIn_load_row {F : Fence} {n : Nat} {P : Program} {ops : Array Oper} {rest : List Oper} {o : Oper} {a : Act} {w : World} {Q : Exit → Act → World → Prop} (hgd : o.guard = none) (ty : TypeId) (x : Operand) (ho : o.op = .load ty x)
    (g : Nat) (hx : a.eval x = .pointer (some ⟨g, 0, none⟩)) (t : TypeId) (cs : Array Value) (fr : Nat × Nat) (d : TypeDesc) (hg : w.heap[g]? = some (.cells cs t fr))
    (hu : P.underlying ty = some d) (hd : (match d with | .struct _ | .array _ _ => true | _ => false) = true) (hi : (P.info? ty).map (·.size) = some cs.size)
    (h : wpListIn F n P ops Q rest (a.put o.dst (.agg cs)) w) : wpListIn F n P ops Q (o :: rest) a w := by
  refine wpListIn_plain hgd fun K hK => ⟨fun f hf => by simp [Oper.about, ho] at hf, ?_⟩
  rw [Oper.semAt_eq _ _ _ (fun c e => by rw [ho] at e; cases e)]
  unfold execOp
  simp only [ho, hx, Instr.loadAt, Instr.sureAddr, Sem.run_bind, Sem.run_pure, Result.andThen_ok, run_loadVar_row w g t ty cs fr d hg hu hd hi]
  exact hK _ _ h
attribute [local go_sem] Oper.semAt_some
theorem blkQ_ok (q : Q) (ws : List Nat) (h : OkQ q) : OkQ (blkQ q ws) := by
  rw [blkQ_eq]
  obtain ⟨a, b, c, d⟩ := stepsN ws q 64
  obtain ⟨p, q, r, s⟩ := q
  rw [addQ_eq]
  exact ⟨Nat.mod_lt _ (by decide), Nat.mod_lt _ (by decide), Nat.mod_lt _ (by decide), Nat.mod_lt _ (by decide)⟩
theorem fold_ok {q : Q} (xs : List Blk) (h : OkQ q) : OkQ (fold q xs) := by
  rw [← List.reverse_reverse xs]
  induction xs.reverse with
  | nil => exact h
  | cons x xs ih => rw [List.reverse_cons, fold_snoc]; exact blkQ_ok _ _ ih

theorem og_trans {a b c : World} {g : Nat} (h : a.grownBy b (some g)) (k : b.grownBy c (some g)) : a.grownBy c (some g) :=
  ⟨k.os.trans h.os, k.tape.trans h.tape, k.output.trans h.output, Nat.le_trans h.size k.size, fun i hi hne => (k.block i (Nat.lt_of_lt_of_le hi h.size) hne).trans (h.block i hi hne)⟩
/-- between two rounds -/
structure EI (w : World) (bp : Nat) (q : Q) (L : Int) (R : List UInt8) (pre : List Blk) (W : World) : Prop where
  hP : Fr W bp (pg (fold q pre) L R) 60
  hK : KT W
  hG : w.grownBy W (some bp)
  hU : Fr W w.heap.size #[.func (.func 51) #[.pointer (some ⟨bp, 0, none⟩)] #[]] 87
theorem fr_own {W W' : World} {b : Nat} {vs : Array Value} {t : TypeId} {row : Option Nat} (h : Fr W b vs t) (hg : W.grownBy W' row) (hr : ∀ r, row = some r → ∃ o : Obj, W.heap[r]? = some o ∧ o.isCells = false) : Fr W' b vs t :=
  h.grown hg (fun e => by
    obtain ⟨o, ho, hc⟩ := hr b e.symm
    rw [show W.heap[b]? = _ from h] at ho
    cases ho; cases hc)
theorem EI.own {w : World} {bp : Nat} {q : Q} {L : Int} {R : List UInt8} {B : Nat} (hB : w.heap.size ≤ B) (_hbp : bp < w.heap.size) : OwnFrom B (fun pre W => EI w bp q L R pre W) := by
  intro pre W W' row h hg hr
  have hr2 : ∀ r, row = some r → ∃ o : Obj, W.heap[r]? = some o ∧ o.isCells = false := fun r e => (hr r e).2
  refine ⟨fr_own h.hP hg hr2, ⟨Nat.lt_of_lt_of_le h.hK.1 hg.size, fun i hi => (World.cell?_of_block (hg.block _ h.hK.lt ?_)).trans (h.hK.2 i hi)⟩, ⟨hg.os.trans h.hG.os, hg.tape.trans h.hG.tape, hg.output.trans h.hG.output, Nat.le_trans h.hG.size hg.size, fun k hk hne => (hg.block k (Nat.lt_of_lt_of_le hk h.hG.size) ?_).trans (h.hG.block k hk hne)⟩, fr_own h.hU hg hr2⟩
  · intro e
    obtain ⟨o, ho, hc⟩ := hr2 _ e.symm
    have h0 := h.hK.2 0 (by omega)
    unfold World.cell? at h0
    simp only at h0
    rw [ho] at h0
    cases o <;> simp_all [Obj.isCells]
  · intro e
    have := (hr k e.symm).1
    omega

set_option maxRecDepth 100000 in
set_option maxHeartbeats 2000000 in
theorem each_any (l : List UInt8) (hll : l.length ≤ 1000000) (bp : Nat) (q : Q) (L : Int) (R : List UInt8) (w : World) (hq : OkQ q) (hK : KT w) (hP : Fr w bp (pg q L R) 60) :
    Calls Tryd.prog 50 #[.string (B l), .func (.func 51) #[.pointer (some ⟨bp, 0, none⟩)] #[]] w fun e w' => e = .returned (.string (B (restL l))) ∧ Fr w' bp (pg (chg q l) L R) 60 ∧ w.grownBy w' (some bp) := by
  have hlt := hP.lt
  refine (callsIn_wide (n := 8)).1 ?_
  refine callsIn_of_wp_marks Tryd.func50 rfl trivial ?_ rfl
  simp only [Tryd.ntmps50, List.size_toArray, List.length_cons, List.length_nil, Nat.reduceAdd, Nat.reduceSub, Array.replicate_succ, Array.replicate_zero, List.push_toArray, List.append_toArray, List.nil_append, List.cons_append]
  gi_wp2
  refine ⟨trivial, ?_⟩
  refine (callsIn_wide.2 (blocks_any _ _)).mono ?_
  rintro e w1 ⟨rfl, rfl⟩
  gi_wp2
  have hf0 : Fr (w.alloc (.cells #[.func (.func 51) #[.pointer (some ⟨bp, 0, none⟩)] #[]] 87)) w.heap.size #[.func (.func 51) #[.pointer (some ⟨bp, 0, none⟩)] #[]] 87 := Fr.new rfl
  have hbel : Below w.heap.size w ((w.alloc (.cells #[.func (.func 51) #[.pointer (some ⟨bp, 0, none⟩)] #[]] 87)).alloc (.cells #[.string (B l)] 9)) := ((Below.refl _ _).alloc (Nat.le_refl _) _).alloc (by simp) _
  obtain ⟨w2, hw2⟩ : ∃ W, ((w.alloc (.cells #[.func (.func 51) #[.pointer (some ⟨bp, 0, none⟩)] #[]] 87)).alloc (.cells #[.string (B l)] 9)) = W := ⟨_, rfl⟩
  have hsz : w2.heap.size = w.heap.size + 2 := by rw [← hw2]; simp
  have hcell : w2.cell? ⟨w.heap.size + 1, 0, none⟩ = some (.string (B l)) := by rw [← hw2]; simp [go_sem]
  have h0 : EI w bp q L R [] w2 := by
    rw [← hw2]
    exact ⟨hP.old.old, hK.step hbel, ⟨hbel.os, hbel.tape, hbel.output, hbel.size, fun k hk _ => hbel.block k hk⟩, hf0.old⟩
  rw [hw2] at *
  clear hw2 hf0 hbel hP hK
  refine wpIn_rangeFunc_ownH rfl (by decide) (gf := 74) (lb := #[.pointer (some ⟨w.heap.size + 1, 0, none⟩)]) rfl trivial (enters_of Tryd.func74 (by kernel_rfl) rfl)
    (blocks_stops 7 (by decide) l hll (w.heap.size + 1) w2 hcell) (fun _ _ => trivial) (fun _ _ _ _ _ _ _ _ => trivial) (Below.refl _ _) (fun _ => rfl)
    (fun pre W => EI w bp q L R pre W) (fun _ _ _ => False) (EI.own (by omega) hlt) (fun _ _ _ _ _ hs _ _ => hs) h0
    (fun x a' W => ∃ Bx, w.heap.size < Bx ∧ Bx ≠ bp ∧ Fr W Bx (wc x.1) 100 ∧ a' = { tmps := #[.string (B l), .func (.func 51) #[.pointer (some ⟨bp, 0, none⟩)] #[], undef, .pointer (some ⟨w.heap.size, 0, none⟩), .string ⟨#[]⟩, .pointer (some ⟨Bx, 0, none⟩), .string (B l), .func (.func 74) #[] #[.pointer (some ⟨w.heap.size + 1, 0, none⟩)], .agg (wc x.1), undef, undef, undef, undef, undef, undef, undef, undef, undef, undef, undef], defers := [] })
    (fun x a' _ W W' row hs hg hr => by
      obtain ⟨Bx, h1, h2, h3, h4⟩ := hs
      exact ⟨Bx, h1, h2, fr_own h3 hg (fun r e => (hr r e).2), h4⟩) ?assign ?body ?done ?stop
  case assign =>
    intro lp pre x W K hi hK
    gi_wp2_with (refine wpListIn_store_row rfl 100 _ _ rfl W.heap.size _ rfl rfl _ _ (heap_alloc_new W _) (size100.trans (by rw [wc_size x.2])) (by rw [wc_size x.2]; rfl) (wc_one _) ?_)
    rw [World.setRow_alloc_new]
    have hlt2 := hi.hU.lt
    exact hK _ _ ((KeepsOthers.alloc _ _).from _) trivial (OwnFrom.alloc (EI.own (B := w2.heap.size) (by omega) hlt) _ hi) ⟨W.heap.size, hlt2, by omega, Fr.new rfl, rfl⟩
  case body =>
    rintro lp pre x a' W hlp - hi ⟨Bx, hb1, hb2, hfx, rfl⟩ hlen
    have hu := hi.hU.cell 0
    gi_wp2_with (refine wpListIn_load_row rfl 100 _ rfl _ rfl _ _ _ _ hfx Tryd.underlying100 rfl (size100.trans (by rw [wc_size x.2])) ?_)
    refine ⟨trivial, ?_⟩
    refine (CallsIn.inRound lp (callsIn_wide.2 (changeQ bp (fold q pre) L R x W (fold_ok pre hq) hi.hK hi.hP))).mono ?_
    rintro e W' ⟨rfl, hP', hG'⟩
    gi_wp2
    exact ⟨KeepsFrom.of_grownBy hG' (fun j e => by cases e; omega), trivial, by rw [fold_snoc]; exact hP', hi.hK.grown hG' (hi.hK.other hi.hP (by show 6 < 64; omega)), og_trans hi.hG hG', hi.hU.grown hG' (fun e => by have := Option.some.inj e; omega)⟩
  case done =>
    rintro D xs W hD rfl hi hK
    have hex : (B l).extract (l.length - l.length % 64) l.length = B (restL l) := by
      rw [B_extract, restL, List.take_of_length_le (by rw [List.length_drop]; omega)]
    have hg : W.grownBy (W.putObj D (.deferred none)) (some D) := grownBy_putObj' W D _
    have hr : ∀ r, some D = some r → w2.heap.size ≤ r ∧ ∃ o : Obj, W.heap[r]? = some o ∧ o.isCells = false := fun r e => by cases e; exact ⟨hD, _, hK, rfl⟩
    have he := EI.own (B := w2.heap.size) (by omega) hlt _ _ _ _ hi hg hr
    gi_wp2
    refine ⟨by simp, .inl ⟨_, _, rfl, run_takeDeferred hK, ?_⟩⟩
    refine ⟨_, results_tmp rfl _ _ _, ?_, ?_, he.hG⟩
    · rfl
    · have h1 := he.hP
      rw [fold_blks] at h1
      exact h1
  case stop =>
    rintro D c pre W hD _ h _
    exact h.elim
end Go.Proofs.YtlimkbnnjhjcgaaDoor
