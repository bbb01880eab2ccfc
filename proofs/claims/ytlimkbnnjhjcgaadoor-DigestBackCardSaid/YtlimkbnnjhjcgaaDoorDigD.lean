/- Package digest: four numbers changed by a block. -/
import Derived.Test.YtlimkbnnjhjcgaaDoorDigC
namespace Go.Proofs.YtlimkbnnjhjcgaaDoor
open Go.RowKit Vo
attribute [local go_sem ↓] Go.wp_at_zero Go.wp_at_succ

theorem size58 : (Tryd.prog.info? 58).map (·.size) = some 4 := by kernel_rfl
theorem size105 : (Tryd.prog.info? 105).map (·.size) = some 6 := by kernel_rfl
theorem size100 : (Tryd.prog.info? 100).map (·.size) = some 16 := by kernel_rfl
theorem one4 (q : Q) : (q4 q).all (·.oneCell') = true := by kernel_rfl
theorem qx0 (q : Q) (W : World) : (Instr.index 58 (.agg (q4 q)) (.int .i64 0)).run Tryd.prog W = .ok (.int .u32 q.1) W := by kernel_rfl
theorem qx1 (q : Q) (W : World) : (Instr.index 58 (.agg (q4 q)) (.int .i64 1)).run Tryd.prog W = .ok (.int .u32 q.2.1) W := by kernel_rfl
theorem qx2 (q : Q) (W : World) : (Instr.index 58 (.agg (q4 q)) (.int .i64 2)).run Tryd.prog W = .ok (.int .u32 q.2.2.1) W := by kernel_rfl
theorem qx3 (q : Q) (W : World) : (Instr.index 58 (.agg (q4 q)) (.int .i64 3)).run Tryd.prog W = .ok (.int .u32 q.2.2.2) W := by kernel_rfl
theorem og_setCell {a w : World} {g : Nat} (h : a.grownBy w (some g)) (i : Nat) (u : Value) : a.grownBy (w.setCell ⟨g, i, none⟩ u) (some g) :=
  ⟨h.os, h.tape, h.output, by simpa [World.setCell] using h.size, fun k hk hne => (Below.heap_setCell w ⟨g, i, none⟩ u k (fun e => hne (by rw [e]))).trans (h.block k hk hne)⟩
theorem og_drew {a w : World} {g : Nat} (h : a.grownBy w (some g)) : a.grownBy w.drew (some g) := ⟨h.os, h.tape, h.output, h.size, h.block⟩
theorem wc_size {ws : List Nat} {n : Nat} (h : ws.length = n) : (wc ws).size = n := by simp [wc, h]
theorem size60 : (Tryd.prog.info? 60).map (·.size) = some 6 := by kernel_rfl

/-- a digest in progress as a value -/
abbrev pg (q : Q) (n : Int) (r : List UInt8) : Array Value := #[.int .u32 q.1, .int .u32 q.2.1, .int .u32 q.2.2.1, .int .u32 q.2.2.2, .int .i64 n, .string (B r)]

/-- the walk's own boxes -/
structure CS (w : World) (g b : Nat) (ws : List Nat) (q0 : Q) (L : Int) (R : List UInt8) (q : Q) (W : World) : Prop where
  hg : w.heap.size + 1 < g
  hb : b < w.heap.size
  hD : Fr W w.heap.size (wc ws) 100
  hC : Fr W (w.heap.size + 1) (q4 q) 58
  hP : Fr W b (pg q0 L R) 60
  hR : RB g W
  hK : KT W
  hB : Below w.heap.size w W
section
variable {w W W' : World} {g b : Nat} {ws : List Nat} {q0 q : Q} {L : Int} {R : List UInt8}
theorem CS.step (h : CS w g b ws q0 L R q W) (hb : Below W.heap.size W W') : CS w g b ws q0 L R q W' :=
  ⟨h.hg, h.hb, h.hD.call hb, h.hC.call hb, h.hP.call hb, h.hR.step hb h.hR.lt, h.hK.step hb, h.hB.trans (hb.mono h.hB.size)⟩
theorem CS.put (h : CS w g b ws q0 L R q W) (q' : Q) : CS w g b ws q0 L R q' (W.setRow (w.heap.size + 1) (q4 q')) := by
  have ho : ∀ c i, c ≠ w.heap.size + 1 → (W.setRow (w.heap.size + 1) (q4 q')).cell? ⟨c, i, none⟩ = W.cell? ⟨c, i, none⟩ := fun c i hne => World.cell?_of_block (setRow_other W (w.heap.size + 1) c _ hne)
  have hne : w.heap.size + 1 ≠ 0 := h.hK.other h.hC (by show 4 < 64; omega)
  have h1 := h.hg
  have h2 := h.hb
  exact ⟨h.hg, h.hb, (setRow_other W (w.heap.size + 1) w.heap.size _ (by omega)).trans h.hD, setRow_heap W _ _ _ _ _ h.hC, (setRow_other W (w.heap.size + 1) b _ (by omega)).trans h.hP,
    ⟨(ho _ _ (by omega)).trans h.hR.c0, (ho _ _ (by omega)).trans h.hR.c1, (ho _ _ (by omega)).trans h.hR.c2, (ho _ _ (by omega)).trans h.hR.c3, (ho _ _ (by omega)).trans h.hR.c4, (ho _ _ (by omega)).trans h.hR.c5, (ho _ _ (by omega)).trans h.hR.c6, (ho _ _ (by omega)).trans h.hR.c7⟩,
    ⟨by rw [setRow_size]; exact h.hK.1, fun i hi => (ho _ _ (fun e => hne e.symm)).trans (h.hK.2 i hi)⟩, below_setRow h.hB (by omega) _⟩
end

theorem stepq_0 (q : Q) (ws : List Nat) (k g : Nat) (w : World) (hq : OkQ q) (hl : ws.length = 16) (hk : k < 16) (hK : KT w) (hR : RB g w) :
    Calls Tryd.prog 66 #[.agg (q4 q), .agg (rd0 g (g + 1)), .int .i64 k, .agg (wc ws)] w fun e w' => e = .returned (.agg (q4 (stepN ws k q))) ∧ Below w.heap.size w w' := by
  obtain ⟨a, b, c, d⟩ := q
  obtain ⟨h0, h1, h2, h3⟩ := hq
  have h := step_0 a b c d ws k _ _ w h0 h1 h2 h3 hl (by omega) (by omega) hK hR.c0 hR.c1
  exact h
theorem stepq_1 (q : Q) (ws : List Nat) (k g : Nat) (w : World) (hq : OkQ q) (hl : ws.length = 16) (hk : k < 16) (hK : KT w) (hR : RB g w) :
    Calls Tryd.prog 66 #[.agg (q4 q), .agg (rd1 (g + 2) (g + 3)), .int .i64 (16 + k), .agg (wc ws)] w fun e w' => e = .returned (.agg (q4 (stepN ws (16 + k) q))) ∧ Below w.heap.size w w' := by
  obtain ⟨a, b, c, d⟩ := q
  obtain ⟨h0, h1, h2, h3⟩ := hq
  have h := step_1 a b c d ws (16 + k) _ _ w h0 h1 h2 h3 hl (by omega) (by omega) hK hR.c2 hR.c3
  rw [Int.natCast_add, show (((16 : Nat)) : Int) = 16 from rfl] at h
  exact h
theorem stepq_2 (q : Q) (ws : List Nat) (k g : Nat) (w : World) (hq : OkQ q) (hl : ws.length = 16) (hk : k < 16) (hK : KT w) (hR : RB g w) :
    Calls Tryd.prog 66 #[.agg (q4 q), .agg (rd2 (g + 4) (g + 5)), .int .i64 (32 + k), .agg (wc ws)] w fun e w' => e = .returned (.agg (q4 (stepN ws (32 + k) q))) ∧ Below w.heap.size w w' := by
  obtain ⟨a, b, c, d⟩ := q
  obtain ⟨h0, h1, h2, h3⟩ := hq
  have h := step_2 a b c d ws (32 + k) _ _ w h0 h1 h2 h3 hl (by omega) (by omega) hK hR.c4 hR.c5
  rw [Int.natCast_add, show (((32 : Nat)) : Int) = 32 from rfl] at h
  exact h
theorem stepq_3 (q : Q) (ws : List Nat) (k g : Nat) (w : World) (hq : OkQ q) (hl : ws.length = 16) (hk : k < 16) (hK : KT w) (hR : RB g w) :
    Calls Tryd.prog 66 #[.agg (q4 q), .agg (rd3 (g + 6) (g + 7)), .int .i64 (48 + k), .agg (wc ws)] w fun e w' => e = .returned (.agg (q4 (stepN ws (48 + k) q))) ∧ Below w.heap.size w w' := by
  obtain ⟨a, b, c, d⟩ := q
  obtain ⟨h0, h1, h2, h3⟩ := hq
  have h := step_3 a b c d ws (48 + k) _ _ w h0 h1 h2 h3 hl (by omega) (by omega) hK hR.c6 hR.c7
  rw [Int.natCast_add, show (((48 : Nat)) : Int) = 48 from rfl] at h
  exact h
set_option maxRecDepth 100000 in
set_option maxHeartbeats 4000000 in
theorem change_any (b : Nat) (q : Q) (L : Int) (R : List UInt8) (ws : List Nat) (w : World) (hq : OkQ q) (hl : ws.length = 16) (hK : KT w) (hP : Fr w b (pg q L R) 60) :
    Calls Tryd.prog 51 #[.pointer (some ⟨b, 0, none⟩), .agg (wc ws)] w fun e w' => e = .returned (.tuple #[]) ∧ Fr w' b (pg (addQ (stepsN ws q 64) q) L R) 60 ∧ w.grownBy w' (some b) := by
  have hlt := hP.lt
  have p0 : ∀ o, (w.alloc o).cell? ⟨b, 0, none⟩ = some (.int .u32 q.1) := fun o => hP.old.cell 0
  have p1 : ∀ o, (w.alloc o).cell? ⟨b, 1, none⟩ = some (.int .u32 q.2.1) := fun o => hP.old.cell 1
  have p2 : ∀ o, (w.alloc o).cell? ⟨b, 2, none⟩ = some (.int .u32 q.2.2.1) := fun o => hP.old.cell 2
  have p3 : ∀ o, (w.alloc o).cell? ⟨b, 3, none⟩ = some (.int .u32 q.2.2.2) := fun o => hP.old.cell 3
  obtain ⟨g, hg⟩ : ∃ g, w.heap.size + 1 + 1 + 1 = g := ⟨_, rfl⟩
  have i0 := rx0 g
  have i1 := rx1 g
  have i2 := rx2 g
  have i3 := rx3 g
  go_enter Tryd.func51, Tryd.ntmps51
  go_wp2_with fail
  refine (rounds_at _ g (by simp; omega)).mono ?_
  rintro e w1 ⟨rfl, hrb, hb1⟩
  have hs : CS w g b ws q L R q w1 := ⟨by omega, hlt, (Fr.old (Fr.new rfl)).call hb1, (Fr.new (by simp)).call hb1, (hP.old.old).call hb1, hrb, (hK.step (((Below.refl _ _).alloc (Nat.le_refl _) _).alloc (by simp) _)).step hb1, (((Below.refl _ _).alloc (Nat.le_refl _) _).alloc (by simp) _).trans (hb1.mono (by simp; omega))⟩
  clear hrb hb1 p0 p1 p2 p3 hP hK
  go_wp2_with fail
  refine wp_loop_rounds 6 ?_
  rw [rounds_succ]
  go_wp2_with fail
  have hwl := hs.hC.lt
  have h0 : CS w g b ws q L R (stepsN ws q 0) (w1.alloc (.cells (rd0 g (g + 1)) 105)) := hs.step ((Below.refl _ _).alloc (Nat.le_refl _) _)
  go_loopg [7, 18] 16 (fun r jv cv W => ∃ (k : Nat) (q' : Q), r = 16 - k ∧ cv = .int .i64 k ∧ k ≤ 16 ∧ CS w g b ws q L R q' W ∧ q' = stepsN ws q k ∧ Fr W w1.heap.size (rd0 g (g + 1)) 105 ∧ (k = 16 → jv = .int .i64 15))
  case atStart => exact ⟨0, _, rfl, rfl, by omega, h0, rfl, Fr.new rfl, fun h => by omega⟩
  case round =>
    obtain ⟨k, q', rfl, rfl, hk, hc, hq', hf, hj⟩ := hrel
    by_cases hlt16 : k < 16
    · have hst := fun W (h : CS w g b ws q L R q' W) => stepq_0 q' ws k g W (hq' ▸ stepsN_ok hq _) hl hlt16 h.hK h.hR
      have hb16 : (k : Int) < 16 := by omega
      have hd := hc.hD
      have hcc := hc.hC
      have HC := Lib.hid (And.intro hc hq')
      clear hj hc hq' hk
      go_wp2_with (first | (refine wpList_load_row rfl 58 _ rfl _ rfl _ _ _ _ hcc Tryd.underlying58 rfl size58 ?_) | (refine wpList_load_row rfl 105 _ rfl _ rfl _ _ _ _ hf Tryd.underlying105 rfl size105 ?_) | (refine wpList_load_row rfl 100 _ rfl _ rfl _ _ _ _ hd Tryd.underlying100 rfl (size100.trans (by rw [wc_size hl])) ?_))
      refine (hst _ HC.out.1).mono ?_
      rintro e wn ⟨rfl, hbn⟩
      have hc2 := HC.out.1.step hbn
      have hf2 := hf.call hbn
      have hcc2 := hc2.hC
      go_wp2_with (refine wpList_store_row rfl 58 _ _ rfl _ _ rfl rfl _ _ hcc2 size58 rfl (one4 _) ?_)
      go_roundg (16 - (k + 1))
      case measure => omega
      case rel => exact ⟨k + 1, _, rfl, by go_num, by omega, hc2.put _, by rw [HC.out.2]; rfl, (setRow_other _ _ _ _ (by omega)).trans hf2, fun h => congrArg (fun j : Nat => Value.int .i64 (j : Int)) (show k = 15 by omega)⟩
    · obtain rfl : k = 16 := by omega
      have hjv := hj rfl
      subst hjv
      have hq' : q' = stepsN ws q 16 := hq'
      rename World => w2
      have hs : CS w g b ws q L R (stepsN ws q 16) w2 := hq' ▸ hc
      clear hj hc hq' hk hf h0
      go_wp2_with fail
      rw [rounds_succ]
      go_wp2_with fail
      have hwl := hs.hC.lt
      have h0 : CS w g b ws q L R (stepsN ws q 16) (w2.alloc (.cells (rd1 (g + 2) (g + 3)) 105)) := hs.step ((Below.refl _ _).alloc (Nat.le_refl _) _)
      go_loopg [7, 18] 16 (fun r jv cv W => ∃ (k : Nat) (q' : Q), r = 16 - k ∧ cv = .int .i64 k ∧ k ≤ 16 ∧ CS w g b ws q L R q' W ∧ q' = stepsN ws q (16 + k) ∧ Fr W w2.heap.size (rd1 (g + 2) (g + 3)) 105 ∧ (k = 16 → jv = .int .i64 15))
      case atStart => exact ⟨0, _, rfl, rfl, by omega, h0, rfl, Fr.new rfl, fun h => by omega⟩
      case round =>
        obtain ⟨k, q', rfl, rfl, hk, hc, hq', hf, hj⟩ := hrel
        by_cases hlt16 : k < 16
        · have hst := fun W (h : CS w g b ws q L R q' W) => stepq_1 q' ws k g W (hq' ▸ stepsN_ok hq _) hl hlt16 h.hK h.hR
          have hb16 : (k : Int) < 16 := by omega
          have hd := hc.hD
          have hcc := hc.hC
          have HC := Lib.hid (And.intro hc hq')
          clear hj hc hq' hk
          go_wp2_with (first | (refine wpList_load_row rfl 58 _ rfl _ rfl _ _ _ _ hcc Tryd.underlying58 rfl size58 ?_) | (refine wpList_load_row rfl 105 _ rfl _ rfl _ _ _ _ hf Tryd.underlying105 rfl size105 ?_) | (refine wpList_load_row rfl 100 _ rfl _ rfl _ _ _ _ hd Tryd.underlying100 rfl (size100.trans (by rw [wc_size hl])) ?_))
          refine (hst _ HC.out.1).mono ?_
          rintro e wn ⟨rfl, hbn⟩
          have hc2 := HC.out.1.step hbn
          have hf2 := hf.call hbn
          have hcc2 := hc2.hC
          go_wp2_with (refine wpList_store_row rfl 58 _ _ rfl _ _ rfl rfl _ _ hcc2 size58 rfl (one4 _) ?_)
          go_roundg (16 - (k + 1))
          case measure => omega
          case rel => exact ⟨k + 1, _, rfl, by go_num, by omega, hc2.put _, by rw [HC.out.2]; rfl, (setRow_other _ _ _ _ (by omega)).trans hf2, fun h => congrArg (fun j : Nat => Value.int .i64 (j : Int)) (show k = 15 by omega)⟩
        · obtain rfl : k = 16 := by omega
          have hjv := hj rfl
          subst hjv
          have hq' : q' = stepsN ws q 32 := hq'
          rename World => w3
          have hs : CS w g b ws q L R (stepsN ws q 32) w3 := hq' ▸ hc
          clear hj hc hq' hk hf h0
          go_wp2_with fail
          rw [rounds_succ]
          go_wp2_with fail
          have hwl := hs.hC.lt
          have h0 : CS w g b ws q L R (stepsN ws q 32) (w3.alloc (.cells (rd2 (g + 4) (g + 5)) 105)) := hs.step ((Below.refl _ _).alloc (Nat.le_refl _) _)
          go_loopg [7, 18] 16 (fun r jv cv W => ∃ (k : Nat) (q' : Q), r = 16 - k ∧ cv = .int .i64 k ∧ k ≤ 16 ∧ CS w g b ws q L R q' W ∧ q' = stepsN ws q (32 + k) ∧ Fr W w3.heap.size (rd2 (g + 4) (g + 5)) 105 ∧ (k = 16 → jv = .int .i64 15))
          case atStart => exact ⟨0, _, rfl, rfl, by omega, h0, rfl, Fr.new rfl, fun h => by omega⟩
          case round =>
            obtain ⟨k, q', rfl, rfl, hk, hc, hq', hf, hj⟩ := hrel
            by_cases hlt16 : k < 16
            · have hst := fun W (h : CS w g b ws q L R q' W) => stepq_2 q' ws k g W (hq' ▸ stepsN_ok hq _) hl hlt16 h.hK h.hR
              have hb16 : (k : Int) < 16 := by omega
              have hd := hc.hD
              have hcc := hc.hC
              have HC := Lib.hid (And.intro hc hq')
              clear hj hc hq' hk
              go_wp2_with (first | (refine wpList_load_row rfl 58 _ rfl _ rfl _ _ _ _ hcc Tryd.underlying58 rfl size58 ?_) | (refine wpList_load_row rfl 105 _ rfl _ rfl _ _ _ _ hf Tryd.underlying105 rfl size105 ?_) | (refine wpList_load_row rfl 100 _ rfl _ rfl _ _ _ _ hd Tryd.underlying100 rfl (size100.trans (by rw [wc_size hl])) ?_))
              refine (hst _ HC.out.1).mono ?_
              rintro e wn ⟨rfl, hbn⟩
              have hc2 := HC.out.1.step hbn
              have hf2 := hf.call hbn
              have hcc2 := hc2.hC
              go_wp2_with (refine wpList_store_row rfl 58 _ _ rfl _ _ rfl rfl _ _ hcc2 size58 rfl (one4 _) ?_)
              go_roundg (16 - (k + 1))
              case measure => omega
              case rel => exact ⟨k + 1, _, rfl, by go_num, by omega, hc2.put _, by rw [HC.out.2]; rfl, (setRow_other _ _ _ _ (by omega)).trans hf2, fun h => congrArg (fun j : Nat => Value.int .i64 (j : Int)) (show k = 15 by omega)⟩
            · obtain rfl : k = 16 := by omega
              have hjv := hj rfl
              subst hjv
              have hq' : q' = stepsN ws q 48 := hq'
              rename World => w4
              have hs : CS w g b ws q L R (stepsN ws q 48) w4 := hq' ▸ hc
              clear hj hc hq' hk hf h0
              go_wp2_with fail
              rw [rounds_succ]
              go_wp2_with fail
              have hwl := hs.hC.lt
              have h0 : CS w g b ws q L R (stepsN ws q 48) (w4.alloc (.cells (rd3 (g + 6) (g + 7)) 105)) := hs.step ((Below.refl _ _).alloc (Nat.le_refl _) _)
              go_loopg [7, 18] 16 (fun r jv cv W => ∃ (k : Nat) (q' : Q), r = 16 - k ∧ cv = .int .i64 k ∧ k ≤ 16 ∧ CS w g b ws q L R q' W ∧ q' = stepsN ws q (48 + k) ∧ Fr W w4.heap.size (rd3 (g + 6) (g + 7)) 105 ∧ (k = 16 → jv = .int .i64 15))
              case atStart => exact ⟨0, _, rfl, rfl, by omega, h0, rfl, Fr.new rfl, fun h => by omega⟩
              case round =>
                obtain ⟨k, q', rfl, rfl, hk, hc, hq', hf, hj⟩ := hrel
                by_cases hlt16 : k < 16
                · have hst := fun W (h : CS w g b ws q L R q' W) => stepq_3 q' ws k g W (hq' ▸ stepsN_ok hq _) hl hlt16 h.hK h.hR
                  have hb16 : (k : Int) < 16 := by omega
                  have hd := hc.hD
                  have hcc := hc.hC
                  have HC := Lib.hid (And.intro hc hq')
                  clear hj hc hq' hk
                  go_wp2_with (first | (refine wpList_load_row rfl 58 _ rfl _ rfl _ _ _ _ hcc Tryd.underlying58 rfl size58 ?_) | (refine wpList_load_row rfl 105 _ rfl _ rfl _ _ _ _ hf Tryd.underlying105 rfl size105 ?_) | (refine wpList_load_row rfl 100 _ rfl _ rfl _ _ _ _ hd Tryd.underlying100 rfl (size100.trans (by rw [wc_size hl])) ?_))
                  refine (hst _ HC.out.1).mono ?_
                  rintro e wn ⟨rfl, hbn⟩
                  have hc2 := HC.out.1.step hbn
                  have hf2 := hf.call hbn
                  have hcc2 := hc2.hC
                  go_wp2_with (refine wpList_store_row rfl 58 _ _ rfl _ _ rfl rfl _ _ hcc2 size58 rfl (one4 _) ?_)
                  go_roundg (16 - (k + 1))
                  case measure => omega
                  case rel => exact ⟨k + 1, _, rfl, by go_num, by omega, hc2.put _, by rw [HC.out.2]; rfl, (setRow_other _ _ _ _ (by omega)).trans hf2, fun h => congrArg (fun j : Nat => Value.int .i64 (j : Int)) (show k = 15 by omega)⟩
                · obtain rfl : k = 16 := by omega
                  have hjv := hj rfl
                  subst hjv
                  have hq' : q' = stepsN ws q 64 := hq'
                  rename World => w5
                  have hs : CS w g b ws q L R (stepsN ws q 64) w5 := hq' ▸ hc
                  clear hj hc hq' hk hf h0
                  go_wp2_with fail
                  rw [rounds_succ]
                  obtain ⟨⟨a', b', c', d'⟩, hqe⟩ : ∃ x, stepsN ws q 64 = x := ⟨_, rfl⟩
                  obtain ⟨a, b0, c, d⟩ := q
                  have hcc := hs.hC
                  rw [hqe] at hcc
                  have c0 := hs.hP.cell 0
                  have c1 := hs.hP.cell 1
                  have c2 := hs.hP.cell 2
                  have c3 := hs.hP.cell 3
                  have x0 := qx0 (a', b', c', d')
                  have x1 := qx1 (a', b', c', d')
                  have x2 := qx2 (a', b', c', d')
                  have x3 := qx3 (a', b', c', d')
                  have f0 := hs.hP.frozen 0
                  have f1 := hs.hP.frozen 1
                  have f2 := hs.hP.frozen 2
                  have f3 := hs.hP.frozen 3
                  have HS := Lib.hid (And.intro hs hqe)
                  clear hs hqe i0 i1 i2 i3 hwl
                  go_wp2_with (refine wpList_load_row rfl 58 _ rfl _ rfl _ _ _ _ hcc Tryd.underlying58 rfl size58 ?_)
                  clear hcc
                  refine wp_loop_rounds 6 ?_
                  rw [rounds_succ]
                  go_wp2_with fail
                  go_region
                  go_wp2_with fail
                  rw [rounds_succ]
                  go_wp2_with fail
                  go_region
                  go_wp2_with fail
                  rw [rounds_succ]
                  go_wp2_with fail
                  go_region
                  go_wp2_with fail
                  rw [rounds_succ]
                  go_wp2_with fail
                  go_region
                  go_wp2_with fail
                  rw [rounds_succ]
                  go_wp2_with fail
                  go_end0
                  rw [HS.out.2, addQ_eq]
                  refine ⟨rfl, ?_, ?_⟩
                  · have hF := ((((((HS.out.1.hP.set (o := 0) (v := .int .u32 (((a : Int) + a') % 4294967296))).drew.set (o := 1) (v := .int .u32 (((b0 : Int) + b') % 4294967296))).drew).set (o := 2) (v := .int .u32 (((c : Int) + c') % 4294967296))).drew).set (o := 3) (v := .int .u32 (((d : Int) + d') % 4294967296))).drew
                    exact hF
                  · have hB := HS.out.1.hB
                    have hg0 : w.grownBy w5 (some b) := ⟨hB.os, hB.tape, hB.output, hB.size, fun k hk _ => hB.block k hk⟩
                    exact og_drew (og_setCell (og_drew (og_setCell (og_drew (og_setCell (og_drew (og_setCell hg0 _ _)) _ _)) _ _)) _ _)
end Go.Proofs.YtlimkbnnjhjcgaaDoor
