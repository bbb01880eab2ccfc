/- Contracts: the signed numbers. -/
import Derived.Test.YtdobcaabebepaaaGreatDoorTxtA
namespace Go.Proofs.YtdobcaabebepaaaGreatDoor
open Go.RowKit Vd

/-- the number of a magnitude, below 0 or not -/
def sgn (n : Nat) (b : Bool) : Int := if b then -(n : Int) else (n : Int)
theorem sgn_neg (n : Nat) (b : Bool) : decide (sgn n b < 0) = (b && !decide (wlen B64 n = 0)) := by
  have h := wlen_eq_zero (b := B64) two_le_B (n := n)
  unfold sgn
  cases b
  · simp
  · by_cases hn : n = 0
    · subst hn
      simp [wlen_zero]
    · have h2 : ¬ wlen B64 n = 0 := fun e => hn (h.1 e)
      simp [h2]; omega
theorem sgn_abs (n : Nat) (b : Bool) : (sgn n b).natAbs = n := by unfold sgn; split <;> simp
theorem sgn_self (z : Int) : sgn z.natAbs (decide (z < 0)) = z := by
  unfold sgn
  by_cases h : z < 0
  · rw [if_pos (by simpa using h)]; omega
  · rw [if_neg (by simpa using h)]; omega

/-- a variable that holds a signed number -/
def BoxS (W : World) (b : Nat) : Prop := ∃ A n c k, W.heap[b]? = some (.cells #[.slice A n c, .bool k] 87 (0, 0))
theorem BoxS.alloc (w : World) (A : Option Addr) (n c : Nat) (k : Bool) : BoxS (w.alloc (.cells #[.slice A n c, .bool k] 87)) w.heap.size :=
  ⟨A, n, c, k, by show (w.heap.push _)[w.heap.size]? = _; simp⟩
theorem BoxS.lt {W : World} {b : Nat} (h : BoxS W b) : b < W.heap.size := by
  obtain ⟨A, n, c, k, h⟩ := h
  rcases Nat.lt_or_ge b W.heap.size with h1 | h1
  · exact h1
  · rw [Array.getElem?_eq_none h1] at h; cases h
theorem BoxS.below {W W' : World} {b B : Nat} (h : BoxS W b) (hb : Below B W W') (hB : b < B) : BoxS W' b := by
  obtain ⟨A, n, c, k, h⟩ := h
  exact ⟨A, n, c, k, (hb.block b hB).trans h⟩
theorem BoxS.facts {W : World} {b : Nat} (h : BoxS W b) : (∃ u, W.cell? ⟨b, 0, none⟩ = some u) ∧ (∃ u, W.cell? ⟨b, 1, none⟩ = some u) ∧ W.frozen? ⟨b, 0, none⟩ = false ∧ W.frozen? ⟨b, 1, none⟩ = false := by
  obtain ⟨A, n, c, k, h⟩ := h
  refine ⟨⟨_, by rw [cell_of_row W b 0 _ _ (0, 0) h]; rfl⟩, ⟨_, by rw [cell_of_row W b 1 _ _ (0, 0) h]; rfl⟩, ?_, ?_⟩ <;> simp [World.frozen?, h]
theorem BoxS.mag {W : World} {b : Nat} (h : BoxS W b) {m : Value} {n : Nat} (hm : MagV W m n) (u v : Value) : MagV ((W.setCell ⟨b, 0, none⟩ u).setCell ⟨b, 1, none⟩ v) m n := by
  obtain ⟨A', n', c', k', h⟩ := h
  obtain ⟨A, c, e, h1, h2, h3⟩ := hm
  have hne : ∀ g o, A = some ⟨g, o, none⟩ → 0 < wlen B64 n → g ≠ b := by
    intro g o e hn eg
    subst eg
    obtain ⟨g2, o2, e2, _, hc⟩ := h3.2 hn
    rw [e] at e2
    injection e2 with e2
    injection e2 with e2 e3
    subst e2
    have hc0 := hc 0 hn
    rw [cell_of_row W g (o2 + 0) _ _ (0, 0) h] at hc0
    unfold U at hc0
    rcases o2 with _ | _ | o2
    · simp at hc0
    · simp at hc0
    · simp at hc0
  exact ⟨A, c, e, h1, h2, (h3.far (p := ⟨b, 0, none⟩) hne u).far (p := ⟨b, 1, none⟩) hne v⟩

set_option maxRecDepth 100000 in
set_option maxHeartbeats 1000000 in
theorem signed_any (m : Value) (n : Nat) (b : Bool) (w : World) (hm : MagV w m n) :
    Calls Tryz.prog 123 #[m, .bool b] w fun e w' => ∃ v, e = .returned v ∧ SgV w' v (sgn n b) ∧ Below w.heap.size w w' := by
  have hm0 := hm
  obtain ⟨A, c, rfl, _, _⟩ := hm.ok_len
  have hz := fun W => isZero_any A (wlen B64 n) c W
  have hs := sgn_neg n b
  have HS := Lib.hid (And.intro hs (And.intro (sgn_abs n b) hm0))
  obtain ⟨k, hk⟩ : ∃ k, k = decide (wlen B64 n = 0) := ⟨_, rfl⟩
  rw [← hk] at hz
  have HK := Lib.hid hk
  clear hs hm hm0 hk
  cases b
  · go_enter Tryz.func123, Tryz.ntmps123
    go_wp2_with fail
    refine bodyPost_ret (v := .agg #[.slice A (wlen B64 n) c, .bool false]) (by simp [results, Tryz.results123, go_sem]) rfl ⟨_, rfl, ⟨_, by rw [HS.out.1]; rfl, ?_⟩, ?_⟩
    · rw [HS.out.2.1]
      exact HS.out.2.2.below ((Below.refl _ _).alloc (Nat.le_refl _) _)
    · exact (Below.refl _ _).alloc (Nat.le_refl _) _
  · go_enter Tryz.func123, Tryz.ntmps123
    go_wp2_with (go_at_call 53; refine (hz _).mono ?_; rintro e w1 ⟨rfl, rfl⟩)
    refine bodyPost_ret (v := .agg #[.slice A (wlen B64 n) c, .bool (!k)]) (by simp [results, Tryz.results123, go_sem]) rfl ⟨_, rfl, ⟨_, by rw [HS.out.1, ← HK.out]; rfl, ?_⟩, ?_⟩
    · rw [HS.out.2.1]
      exact HS.out.2.2.below ((Below.refl _ _).alloc (Nat.le_refl _) _)
    · exact (Below.refl _ _).alloc (Nat.le_refl _) _

def signZ (z : Int) : Int := if z = 0 then 0 else if z < 0 then -1 else 1

set_option maxRecDepth 100000 in
set_option maxHeartbeats 1000000 in
theorem sign_any (v : Value) (z : Int) (w : World) (hv : SgV w v z) :
    Calls Tryz.prog 60 #[v] w fun e w' => e = .returned (.int .i64 (signZ z)) ∧ Below w.heap.size w w' := by
  obtain ⟨m, rfl, hm⟩ := hv
  obtain ⟨A, c, rfl, _, _⟩ := hm.ok_len
  have hz := fun W => isZero_any A (wlen B64 z.natAbs) c W
  obtain ⟨b, hb⟩ : ∃ b, b = decide (z < 0) := ⟨_, rfl⟩
  have ho := fun W => order_any b W
  have hw := wlen_eq_zero (b := B64) two_le_B (n := z.natAbs)
  rw [← hb]
  by_cases h0 : z = 0
  · have hk : decide (wlen B64 z.natAbs = 0) = true := by simp; exact hw.2 (by omega)
    rw [hk] at hz
    have HS : Hid (signZ z = 0) := Lib.hid (by unfold signZ; rw [if_pos h0])
    clear hm hw h0 hk
    go_enter Tryz.func60, Tryz.ntmps60
    go_wp2_with (go_at_call 53; refine (hz _).mono ?_; rintro e w1 ⟨rfl, rfl⟩)
    go_ret
    exact ⟨by rw [HS.out]; rfl, (Below.refl _ _).alloc (Nat.le_refl _) _⟩
  · have hk : decide (wlen B64 z.natAbs = 0) = false := by simp; intro h; have := hw.1 h; omega
    rw [hk] at hz
    have HS : Hid (signZ z = if b then -1 else 1) := Lib.hid (by unfold signZ; rw [if_neg h0, hb]; simp)
    clear hm hw h0 hk hb
    cases b
    all_goals
      go_enter Tryz.func60, Tryz.ntmps60
      go_wp2_with (first | (go_at_call 53; refine (hz _).mono ?_; rintro e w1 ⟨rfl, rfl⟩) | (go_at_call 98; refine (ho _).mono ?_; rintro e w1 ⟨rfl, rfl⟩))
      go_ret
      exact ⟨by rw [HS.out]; rfl, (Below.refl _ _).alloc (Nat.le_refl _) _⟩

set_option maxRecDepth 100000 in
set_option maxHeartbeats 1000000 in
theorem negative_any (v : Value) (z : Int) (w : World) (hv : SgV w v z) :
    Calls Tryz.prog 99 #[v] w fun e w' => ∃ x, e = .returned x ∧ SgV w' x (-z) ∧ Below w.heap.size w w' := by
  obtain ⟨m, rfl, hm⟩ := hv
  obtain ⟨b, hb⟩ : ∃ b, b = decide (z < 0) := ⟨_, rfl⟩
  have hsg := fun W (hbl : Below w.heap.size w W) => signed_any m z.natAbs (!b) W (hm.below hbl)
  have HE : Hid (∀ W x, SgV W x (sgn z.natAbs (!b)) → SgV W x (-z)) := Lib.hid (fun W x h => by
    by_cases h0 : z = 0
    · subst h0
      rw [show sgn (Int.natAbs 0) (!b) = -0 by unfold sgn; split <;> rfl] at h
      exact h
    · rw [show sgn z.natAbs (!b) = -z by
        unfold sgn
        rw [hb]
        by_cases h1 : z < 0
        · simp [h1]; omega
        · simp [h1]; omega] at h
      exact h)
  rw [← hb]
  clear hb
  go_enter Tryz.func99, Tryz.ntmps99
  go_wp2_with fail
  have hbW : Below w.heap.size w ((w.alloc (.cells #[m, .bool b] 87)).alloc (.cells #[.slice none 0 0, .bool false] 87)) := ((Below.refl _ _).alloc (Nat.le_refl _) _).alloc (by simp) _
  have hbx := BoxS.alloc (w.alloc (.cells #[m, .bool b] 87)) none 0 0 false
  rw [World.size_alloc] at hbx
  refine (hsg _ hbW).mono ?_
  rintro e w2 ⟨x, rfl, ⟨m', rfl, hm'⟩, hb2⟩
  have hM := hm'
  obtain ⟨A', c', rfl, _, _⟩ := hm'.ok_len
  obtain ⟨l', hl'⟩ : ∃ l, l = wlen B64 (sgn z.natAbs (!b)).natAbs := ⟨_, rfl⟩
  rw [← hl'] at hM ⊢
  have hbx2 := hbx.below hb2 (by simp)
  obtain ⟨⟨q0, hc0⟩, ⟨q1, hc1⟩, hf0, hf1⟩ := hbx2.facts
  obtain ⟨b', hb'⟩ : ∃ b', b' = decide (sgn z.natAbs (!b) < 0) := ⟨_, rfl⟩
  rw [← hb']
  have HB := Lib.hid hb'
  clear hb' hl' hm'
  go_wp2_with fail
  refine bodyPost_ret (v := .agg #[.slice A' l' c', .bool b']) (by simp [results, Tryz.results99, go_sem, hc0, hc1]) rfl ⟨_, rfl, HE.out _ _ ⟨_, by rw [HB.out], hbx2.mag hM _ _⟩, ?_⟩
  exact ((hbW.trans (hb2.mono hbW.size)).setCell (by simp) _).setCell (by simp) _

end Go.Proofs.YtdobcaabebepaaaGreatDoor
