/- Package digest: the table of the rounds; four numbers changed by a block. -/
import Derived.Test.YtlimkbnnjhjcgaaDoorDigB
import Derived.Laws.Tables
import Derived.Laws.CopyOwn
namespace Go.Proofs.YtlimkbnnjhjcgaaDoor
open Go.RowKit Vo
attribute [local go_sem ↓] Go.wp_at_zero Go.wp_at_succ

/-- the cells of block b, none of which is frozen -/
def Fr (W : World) (b : Nat) (vs : Array Value) (t : TypeId) : Prop := W.heap[b]? = some (.cells vs t (0, 0))
section
variable {W W' : World} {b g o : Nat} {vs : Array Value} {t : TypeId}
theorem Fr.lt (h : Fr W b vs t) : b < W.heap.size := (Array.getElem?_eq_some_iff.1 h).1
theorem Fr.call (hb : Below W.heap.size W W') (h : Fr W b vs t) : Fr W' b vs t := (hb.block b h.lt).trans h
theorem Fr.below {B : Nat} (h : Fr W b vs t) (hb : Below B W W') (hlt : b < B) : Fr W' b vs t := (hb.block b hlt).trans h
theorem Fr.new (h : b = W.heap.size) : Fr (W.alloc (.cells vs t)) b vs t := by subst h; exact heap_alloc_new W _
theorem Fr.old {u : Obj} (h : Fr W b vs t) : Fr (W.alloc u) b vs t := Fr.call ((Below.refl _ _).alloc (Nat.le_refl _) u) h
theorem Fr.drew (h : Fr W b vs t) : Fr W.drew b vs t := h
theorem Fr.drewN {k : Nat} (h : Fr W b vs t) : Fr (W.drewN k) b vs t := h
theorem Fr.far {v : Value} (hne : b ≠ g) (h : Fr W b vs t) : Fr (W.setCell ⟨g, o, none⟩ v) b vs t := (Below.heap_setCell W ⟨g, o, none⟩ v b hne).trans h
theorem Fr.set {v : Value} (h : Fr W b vs t) : Fr (W.setCell ⟨b, o, none⟩ v) b (vs.setIfInBounds o v) t := by
  unfold Fr at h ⊢
  simp [World.setCell, Array.getElem?_modify, h]
theorem Fr.cell (h : Fr W b vs t) (o : Nat) : W.cell? ⟨b, o, none⟩ = vs[o]? := cell_of_row W b o _ _ (0, 0) h
theorem Fr.frozen (h : Fr W b vs t) (o : Nat) : W.frozen? ⟨b, o, none⟩ = false := by
  unfold Fr at h
  simp [World.frozen?, h]
theorem Fr.grown {row : Option Nat} (h : Fr W b vs t) (hg : W.grownBy W' row) (hne : some b ≠ row) : Fr W' b vs t := (hg.block b h.lt hne).trans h
end
theorem KT.lt {w : World} (h : KT w) : 0 < w.heap.size := World.block_lt_of_cell? w _ (h.2 0 (by omega))
theorem KT.other {w : World} (h : KT w) {b : Nat} {vs : Array Value} {t : TypeId} (hf : Fr w b vs t) (hs : vs.size < 64) : b ≠ 0 := by
  rintro rfl
  have := h.2 63 (by omega)
  rw [hf.cell, Array.getElem?_eq_none (by omega)] at this
  cases this
theorem KT.grown {w w' : World} {b : Nat} (h : KT w) (hg : w.grownBy w' (some b)) (hne : b ≠ 0) : KT w' :=
  ⟨Nat.lt_of_lt_of_le h.1 hg.size, fun i hi => hg.cell (h.2 i hi) (fun e => hne (Option.some.inj e).symm)⟩

theorem bwords (x0 x1 x2 x3 : Int) (W : World) : (Instr.build 39 #[(0, .int .i64 x0), (1, .int .i64 x1), (2, .int .i64 x2), (3, .int .i64 x3)]).run Tryd.prog W = .ok (.agg #[.int .i64 x0, .int .i64 x1, .int .i64 x2, .int .i64 x3]) W := run_build W _ _ _ (by kernel_rfl)
theorem bround (f g : FuncId) (c : Array Value) (x0 x1 x2 x3 : Int) (W : World) : (Instr.build 105 #[(0, .func (.func f) #[] #[]), (1, .func (.func g) #[] c), (2, .agg #[.int .i64 x0, .int .i64 x1, .int .i64 x2, .int .i64 x3])]).run Tryd.prog W = .ok (.agg #[.func (.func f) #[] #[], .func (.func g) #[] c, .int .i64 x0, .int .i64 x1, .int .i64 x2, .int .i64 x3]) W := run_build W _ _ _ (by kernel_rfl)
/-- a round: which function mixes, the boxes of the function that goes along, the rotations -/
abbrev rd0 (p q : Nat) : Array Value := #[.func (.func 76) #[] #[], .func (.func 84) #[] #[.pointer (some ⟨p, 0, none⟩), .pointer (some ⟨q, 0, none⟩)], .int .i64 7, .int .i64 12, .int .i64 17, .int .i64 22]
abbrev rd1 (p q : Nat) : Array Value := #[.func (.func 79) #[] #[], .func (.func 84) #[] #[.pointer (some ⟨p, 0, none⟩), .pointer (some ⟨q, 0, none⟩)], .int .i64 5, .int .i64 9, .int .i64 14, .int .i64 20]
abbrev rd2 (p q : Nat) : Array Value := #[.func (.func 80) #[] #[], .func (.func 84) #[] #[.pointer (some ⟨p, 0, none⟩), .pointer (some ⟨q, 0, none⟩)], .int .i64 4, .int .i64 11, .int .i64 16, .int .i64 23]
abbrev rd3 (p q : Nat) : Array Value := #[.func (.func 81) #[] #[], .func (.func 84) #[] #[.pointer (some ⟨p, 0, none⟩), .pointer (some ⟨q, 0, none⟩)], .int .i64 6, .int .i64 10, .int .i64 15, .int .i64 21]
def rdV (g : Nat) : Array Value := #[.func (.func 76) #[] #[], .func (.func 84) #[] #[.pointer (some ⟨g, 0, none⟩), .pointer (some ⟨g + 1, 0, none⟩)], .int .i64 7, .int .i64 12, .int .i64 17, .int .i64 22, .func (.func 79) #[] #[], .func (.func 84) #[] #[.pointer (some ⟨g + 2, 0, none⟩), .pointer (some ⟨g + 3, 0, none⟩)], .int .i64 5, .int .i64 9, .int .i64 14, .int .i64 20, .func (.func 80) #[] #[], .func (.func 84) #[] #[.pointer (some ⟨g + 4, 0, none⟩), .pointer (some ⟨g + 5, 0, none⟩)], .int .i64 4, .int .i64 11, .int .i64 16, .int .i64 23, .func (.func 81) #[] #[], .func (.func 84) #[] #[.pointer (some ⟨g + 6, 0, none⟩), .pointer (some ⟨g + 7, 0, none⟩)], .int .i64 6, .int .i64 10, .int .i64 15, .int .i64 21]
theorem rx0 (g : Nat) (W : World) : (Instr.index 106 (.agg (rdV g)) (.int .i64 0)).run Tryd.prog W = .ok (.agg (rd0 g (g + 1))) W := by kernel_rfl
theorem rx1 (g : Nat) (W : World) : (Instr.index 106 (.agg (rdV g)) (.int .i64 1)).run Tryd.prog W = .ok (.agg (rd1 (g + 2) (g + 3))) W := by kernel_rfl
theorem rx2 (g : Nat) (W : World) : (Instr.index 106 (.agg (rdV g)) (.int .i64 2)).run Tryd.prog W = .ok (.agg (rd2 (g + 4) (g + 5))) W := by kernel_rfl
theorem rx3 (g : Nat) (W : World) : (Instr.index 106 (.agg (rdV g)) (.int .i64 3)).run Tryd.prog W = .ok (.agg (rd3 (g + 6) (g + 7))) W := by kernel_rfl

/-- the boxes of the table lie -/
structure RB (g : Nat) (W : World) : Prop where
  c0 : W.cell? ⟨g, 0, none⟩ = some (.int .i64 1)
  c1 : W.cell? ⟨g + 1, 0, none⟩ = some (.int .i64 0)
  c2 : W.cell? ⟨g + 2, 0, none⟩ = some (.int .i64 5)
  c3 : W.cell? ⟨g + 3, 0, none⟩ = some (.int .i64 1)
  c4 : W.cell? ⟨g + 4, 0, none⟩ = some (.int .i64 3)
  c5 : W.cell? ⟨g + 5, 0, none⟩ = some (.int .i64 5)
  c6 : W.cell? ⟨g + 6, 0, none⟩ = some (.int .i64 7)
  c7 : W.cell? ⟨g + 7, 0, none⟩ = some (.int .i64 0)
theorem RB.lt {g : Nat} {W : World} (h : RB g W) : g + 7 < W.heap.size := World.block_lt_of_cell? W _ h.c7
theorem RB.step {g B : Nat} {W W' : World} (h : RB g W) (hb : Below B W W') (hB : g + 7 < B) : RB g W' := by
  obtain ⟨h0, h1, h2, h3, h4, h5, h6, h7⟩ := h
  exact ⟨(hb.cell (by simp; omega)).trans h0, (hb.cell (by simp; omega)).trans h1, (hb.cell (by simp; omega)).trans h2, (hb.cell (by simp; omega)).trans h3, (hb.cell (by simp; omega)).trans h4, (hb.cell (by simp; omega)).trans h5, (hb.cell (by simp; omega)).trans h6, (hb.cell (by simp; omega)).trans h7⟩

theorem cell_keep {B b i : Nat} {w w' : World} {v : Value} (hb : Below B w w') (h : w.cell? ⟨b, i, none⟩ = some v) (hlt : b < B) : w'.cell? ⟨b, i, none⟩ = some v := (hb.cell hlt).trans h
theorem along_at (m n : Int) (w : World) (g h : Nat) (hg : w.heap.size = g) (hh : h = g + 1) :
    Calls Tryd.prog 78 #[.int .i64 m, .int .i64 n] w fun e w' => e = .returned (.func (.func 84) #[] #[.pointer (some ⟨g, 0, none⟩), .pointer (some ⟨h, 0, none⟩)]) ∧ w'.heap.size = g + 2 ∧ w'.cell? ⟨g, 0, none⟩ = some (.int .i64 m) ∧ w'.cell? ⟨h, 0, none⟩ = some (.int .i64 n) ∧ Below g w w' := by
  subst hg
  subst hh
  refine (along_any m n w).mono fun e w' ⟨he, hw⟩ => ?_
  subst hw
  exact ⟨he, by simp, by simp [go_sem], by simp [go_sem], ((Below.refl _ _).alloc (Nat.le_refl _) _).alloc (by simp) _⟩
theorem size106 : (Tryd.prog.info? 106).map (·.size) = some 24 := by kernel_rfl
theorem one106 (g : Nat) : (rdV g).all (·.oneCell') = true := by kernel_rfl
theorem len106 (g : Nat) : (rdV g).size = 24 := by kernel_rfl
def zs106 : Array Value := #[.nilFunc, .nilFunc, .int .i64 0, .int .i64 0, .int .i64 0, .int .i64 0, .nilFunc, .nilFunc, .int .i64 0, .int .i64 0, .int .i64 0, .int .i64 0, .nilFunc, .nilFunc, .int .i64 0, .int .i64 0, .int .i64 0, .int .i64 0, .nilFunc, .nilFunc, .int .i64 0, .int .i64 0, .int .i64 0, .int .i64 0]

set_option maxRecDepth 100000 in
set_option maxHeartbeats 2000000 in
theorem rounds_at (w : World) (g : Nat) (hg : w.heap.size + 1 = g) :
    Calls Tryd.prog 65 #[] w fun e w' => e = .returned (.agg (rdV g)) ∧ RB g w' ∧ Below w.heap.size w w' := by
  have hk := bwords
  have hs := bround
  go_enter Tryd.func65, Tryd.ntmps65
  go_wp2_with fail
  obtain ⟨w0, hw0⟩ : ∃ W, w.alloc (.cells zs106 106) = W := ⟨_, rfl⟩
  have hf0 : Fr w0 w.heap.size zs106 106 := by rw [← hw0]; exact Fr.new rfl
  have hb0 : Below w.heap.size w w0 := by rw [← hw0]; exact (Below.refl _ _).alloc (Nat.le_refl _) _
  have hs0 : w0.heap.size = g := by rw [← hw0, ← hg]; simp
  change Calls _ _ _ (w.alloc (.cells zs106 106)) _
  rw [hw0]
  clear hw0
  refine (along_at _ _ _ g (g + 1) hs0 rfl).mono ?_
  rintro e w1 ⟨rfl, hs1, a0, a1, hb1⟩
  go_wp2_with fail
  refine (along_at _ _ _ (g + 2) (g + 3) (by omega) (by omega)).mono ?_
  rintro e w2 ⟨rfl, hs2, a2, a3, hb2⟩
  go_wp2_with fail
  refine (along_at _ _ _ (g + 4) (g + 5) (by omega) (by omega)).mono ?_
  rintro e w3 ⟨rfl, hs3, a4, a5, hb3⟩
  go_wp2_with fail
  refine (along_at _ _ _ (g + 6) (g + 7) (by omega) (by omega)).mono ?_
  rintro e w4 ⟨rfl, hs4, a6, a7, hb4⟩
  have hf4 : Fr w4 w.heap.size zs106 106 := (((hf0.below hb1 (by omega)).below hb2 (by omega)).below hb3 (by omega)).below hb4 (by omega)
  have hb5 : Below w.heap.size w w4 := (((hb0.trans (hb1.mono (by omega))).trans (hb2.mono (by omega))).trans (hb3.mono (by omega))).trans (hb4.mono (by omega))
  have hrb : RB g w4 := ⟨cell_keep hb4 (cell_keep hb3 (cell_keep hb2 a0 (by omega)) (by omega)) (by omega), cell_keep hb4 (cell_keep hb3 (cell_keep hb2 a1 (by omega)) (by omega)) (by omega), cell_keep hb4 (cell_keep hb3 a2 (by omega)) (by omega), cell_keep hb4 (cell_keep hb3 a3 (by omega)) (by omega), cell_keep hb4 a4 (by omega), cell_keep hb4 a5 (by omega), a6, a7⟩
  clear a0 a1 a2 a3 a4 a5 a6 a7 hb0 hb1 hb2 hb3 hb4 hf0 hs0 hs1 hs2 hs3 hs4
  go_wp2_with (refine wpList_store_row rfl _ _ _ rfl w.heap.size (rdV g) rfl rfl _ _ hf4 size106 rfl (one106 g) ?_)
  have hf5 : Fr (w4.setRow w.heap.size (rdV g)) w.heap.size (rdV g) 106 := setRow_heap w4 w.heap.size _ _ _ _ hf4
  have hb6 : Below w.heap.size w (w4.setRow w.heap.size (rdV g)) := below_setRow hb5 (Nat.le_refl _) _
  refine bodyPost_ret (v := .agg (rdV g)) (results_cell_row rfl _ _ w.heap.size _ _ _ _ rfl hf5 Tryd.underlying106 rfl size106) rfl ⟨rfl, ?_, hb6⟩
  have ho : ∀ b i, b ≠ w.heap.size → (w4.setRow w.heap.size (rdV g)).cell? ⟨b, i, none⟩ = w4.cell? ⟨b, i, none⟩ := fun b i hne => World.cell?_of_block (setRow_other w4 w.heap.size b _ hne)
  exact ⟨(ho _ _ (by omega)).trans hrb.c0, (ho _ _ (by omega)).trans hrb.c1, (ho _ _ (by omega)).trans hrb.c2, (ho _ _ (by omega)).trans hrb.c3, (ho _ _ (by omega)).trans hrb.c4, (ho _ _ (by omega)).trans hrb.c5, (ho _ _ (by omega)).trans hrb.c6, (ho _ _ (by omega)).trans hrb.c7⟩
end Go.Proofs.YtlimkbnnjhjcgaaDoor
