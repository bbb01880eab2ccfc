/- Contract: quotient and rest of signed numbers. -/
import Derived.Test.YtdkgifkmkghggaaGreatDoorSgnG
namespace Go.Proofs.YtdkgifkmkghggaaGreatDoor
open Go.RowKit Vd

theorem BoxS.far {W : World} {b : Nat} (h : BoxS W b) {p : Addr} (hp : b ≠ p.block) (u : Value) : BoxS (W.setCell p u) b := by
  obtain ⟨A, n, c, k, h⟩ := h
  exact ⟨A, n, c, k, (Below.heap_setCell W p u b hp).trans h⟩
theorem SgV.sets {W : World} {b : Nat} {v : Value} {z : Int} (h : SgV W v z) (hb : BoxS W b) (u u' : Value) : SgV ((W.setCell ⟨b, 0, none⟩ u).setCell ⟨b, 1, none⟩ u') v z := by
  obtain ⟨m, e, hm⟩ := h
  exact ⟨m, e, hb.mag hm u u'⟩
theorem SgV.open {w : World} {v : Value} {z : Int} (h : SgV w v z) : ∃ (A : Option Addr) (n c : Nat) (k : Bool), v = .agg #[.slice A n c, .bool k] := by
  obtain ⟨m, rfl, hm⟩ := h
  obtain ⟨A, c, rfl, _, _⟩ := hm.ok_len
  exact ⟨A, _, c, _, rfl⟩

/-- both results' boxes stay, both arguments' boxes are kept, and the world grows only above w -/
structure OvS (w : World) (m1 m2 : Value) (k1 k2 : Bool) (W : World) : Prop where
  b1 : BoxS W (w.heap.size + 1 + 1)
  b2 : BoxS W (w.heap.size + 1 + 1 + 1)
  bel : Below w.heap.size w W
  c1 : W.cell? ⟨w.heap.size, 0, none⟩ = some m1
  c2 : W.cell? ⟨w.heap.size, 1, none⟩ = some (.bool k1)
  c3 : W.cell? ⟨w.heap.size + 1, 0, none⟩ = some m2
  c4 : W.cell? ⟨w.heap.size + 1, 1, none⟩ = some (.bool k2)

theorem ov_step {w W w1 : World} {m1 m2 : Value} {k1 k2 : Bool} (h : OvS w m1 m2 k1 k2 W) (hb : Below W.heap.size W w1) : OvS w m1 m2 k1 k2 w1 := by
  have hlt := h.b2.lt
  have hc : ∀ b o, b < w.heap.size + 1 + 1 → w1.cell? ⟨b, o, none⟩ = W.cell? ⟨b, o, none⟩ := fun b o hbl => hb.cell (p := ⟨b, o, none⟩) (by show b < W.heap.size; omega)
  refine ⟨h.b1.below hb (by omega), h.b2.below hb hlt, h.bel.trans (hb.mono (by omega)), ?_, ?_, ?_, ?_⟩
  · rw [hc _ _ (by omega)]; exact h.c1
  · rw [hc _ _ (by omega)]; exact h.c2
  · rw [hc _ _ (by omega)]; exact h.c3
  · rw [hc _ _ (by omega)]; exact h.c4

theorem ov_start (w : World) (m1 m2 : Value) (k1 k2 : Bool) : OvS w m1 m2 k1 k2 ((((w.alloc (.cells #[m1, .bool k1] 80)).alloc (.cells #[m2, .bool k2] 80)).alloc (.cells #[.slice none 0 0, .bool false] 80)).alloc (.cells #[.slice none 0 0, .bool false] 80)) := by
  have hb := BoxS.alloc ((w.alloc (.cells #[m1, .bool k1] 80)).alloc (.cells #[m2, .bool k2] 80)) none 0 0 false
  have hb2 := BoxS.alloc (((w.alloc (.cells #[m1, .bool k1] 80)).alloc (.cells #[m2, .bool k2] 80)).alloc (.cells #[.slice none 0 0, .bool false] 80)) none 0 0 false
  rw [World.size_alloc, World.size_alloc] at hb
  rw [World.size_alloc, World.size_alloc, World.size_alloc] at hb2
  refine ⟨hb.below (B := w.heap.size + 1 + 1 + 1) ((Below.refl _ _).alloc (by simp) _) (by omega), hb2, ((((Below.refl _ _).alloc (Nat.le_refl _) _).alloc (by simp) _).alloc (by simp; omega) _).alloc (by simp; omega) _, ?_, ?_, ?_, ?_⟩ <;> simp [go_sem]

theorem ov_end {w W : World} {m1 m2 : Value} {k1 k2 : Bool} (h : OvS w m1 m2 k1 k2 W) (u0 u1 u2 u3 : Value) {v : Value} {z : Int} (hv : SgV W v z) :
    SgV ((((W.setCell ⟨w.heap.size + 1 + 1, 0, none⟩ u0).setCell ⟨w.heap.size + 1 + 1, 1, none⟩ u1).setCell ⟨w.heap.size + 1 + 1 + 1, 0, none⟩ u2).setCell ⟨w.heap.size + 1 + 1 + 1, 1, none⟩ u3) v z ∧
    Below w.heap.size w ((((W.setCell ⟨w.heap.size + 1 + 1, 0, none⟩ u0).setCell ⟨w.heap.size + 1 + 1, 1, none⟩ u1).setCell ⟨w.heap.size + 1 + 1 + 1, 0, none⟩ u2).setCell ⟨w.heap.size + 1 + 1 + 1, 1, none⟩ u3) := by
  refine ⟨?_, (((h.bel.setCell (by simp; omega) _).setCell (by simp; omega) _).setCell (by simp; omega) _).setCell (by simp; omega) _⟩
  have h2 : BoxS ((W.setCell ⟨w.heap.size + 1 + 1, 0, none⟩ u0).setCell ⟨w.heap.size + 1 + 1, 1, none⟩ u1) (w.heap.size + 1 + 1 + 1) := (h.b2.far (by simp) _).far (by simp) _
  exact (hv.sets h.b1 _ _).sets h2 _ _

set_option maxRecDepth 100000 in
set_option maxHeartbeats 2000000 in
theorem over_any (v1 v2 : Value) (x y : Int) (w : World) (h1 : SgV w v1 x) (h2 : SgV w v2 y) (b1 : wlen B64 x.natAbs + 2 ≤ maxW) (b2 : wlen B64 y.natAbs + 2 ≤ maxW) (hy : y ≠ 0) :
    Calls Tryz.prog 68 #[v1, v2] w fun e w' => ∃ x1 x2, e = .returned (.tuple #[x1, x2]) ∧ SgV w' x1 (x / y) ∧ SgV w' x2 (x % y) ∧ Below w.heap.size w w' := by
  obtain ⟨m1, rfl, hm1⟩ := h1
  obtain ⟨m2, rfl, hm2⟩ := h2
  have hyp : 0 < y.natAbs := Int.natAbs_pos.2 hy
  obtain ⟨hE1, hE2⟩ := over_eq x y hy
  have hdiv : Hid (∀ W, OvS w m1 m2 (decide (x < 0)) (decide (y < 0)) W → Calls Tryz.prog 95 #[m1, m2] W fun e w' => ∃ (A1 : Option Addr) (n1 c1 : Nat) (A2 : Option Addr) (c2 : Nat), e = .returned (.tuple #[.slice A1 n1 c1, .slice A2 (wlen B64 (x.natAbs % y.natAbs)) c2]) ∧ MagV w' (.slice A1 n1 c1) (x.natAbs / y.natAbs) ∧ MagV w' (.slice A2 (wlen B64 (x.natAbs % y.natAbs)) c2) (x.natAbs % y.natAbs) ∧ OvS w m1 m2 (decide (x < 0)) (decide (y < 0)) w') := Lib.hid (fun W hS => (divide_any m1 m2 _ _ W (hm1.below hS.bel) (hm2.below hS.bel) (by omega) (by omega) hyp).mono fun e w' ⟨q, r, he, hq, hr, hb⟩ => by
    obtain ⟨A1, c1, rfl, _, _⟩ := hq.ok_len
    obtain ⟨A2, c2, rfl, _, _⟩ := hr.ok_len
    exact ⟨A1, _, c1, A2, c2, he, hq, hr, ov_step hS hb⟩)
  have hsg : Hid (∀ W m N b, MagV W m N → OvS w m1 m2 (decide (x < 0)) (decide (y < 0)) W → Calls Tryz.prog 89 #[m, .bool b] W fun e w' => ∃ (A : Option Addr) (n c : Nat) (k : Bool), e = .returned (.agg #[.slice A n c, .bool k]) ∧ SgV w' (.agg #[.slice A n c, .bool k]) (sgn N b) ∧ Below W.heap.size W w' ∧ OvS w m1 m2 (decide (x < 0)) (decide (y < 0)) w') := Lib.hid (fun W m N b hm hS => (signed_any m N b W hm).mono fun e w' ⟨v, he, hv, hb⟩ => by
    obtain ⟨A, n, c, k, rfl⟩ := hv.open
    exact ⟨A, n, c, k, he, hv, hb, ov_step hS hb⟩)
  have hq1 : wlen B64 (x.natAbs / y.natAbs) ≤ wlen B64 x.natAbs := wlen_mono two_le_B (Nat.div_le_self _ _)
  have hr1 : x.natAbs % y.natAbs ≤ y.natAbs := Nat.le_of_lt (Nat.mod_lt _ hyp)
  have hS0 := ov_start w m1 m2 (decide (x < 0)) (decide (y < 0))
  have hdf : Hid (∀ W r, MagV W r (x.natAbs % y.natAbs) → OvS w m1 m2 (decide (x < 0)) (decide (y < 0)) W → Calls Tryz.prog 98 #[m2, r] W fun e w' => ∃ (A : Option Addr) (n c : Nat), e = .returned (.slice A n c) ∧ MagV w' (.slice A n c) (y.natAbs - x.natAbs % y.natAbs) ∧ Below W.heap.size W w' ∧ OvS w m1 m2 (decide (x < 0)) (decide (y < 0)) w') := Lib.hid (fun W r hr hS => (diff_any m2 r _ _ W (hm2.below hS.bel) hr (by omega) hr1).mono fun e w' ⟨v, he, hm, hb⟩ => by
    obtain ⟨A, c, rfl, _, _⟩ := hm.ok_len
    exact ⟨A, _, c, he, hm, hb, ov_step hS hb⟩)
  have hsu : Hid (∀ W q o, MagV W q (x.natAbs / y.natAbs) → MagV W o 1 → OvS w m1 m2 (decide (x < 0)) (decide (y < 0)) W → Calls Tryz.prog 96 #[q, o] W fun e w' => ∃ (A : Option Addr) (n c : Nat), e = .returned (.slice A n c) ∧ MagV w' (.slice A n c) (x.natAbs / y.natAbs + 1) ∧ Below W.heap.size W w' ∧ OvS w m1 m2 (decide (x < 0)) (decide (y < 0)) w') := Lib.hid (fun W q o hq ho hS => (sum_any q o _ _ W hq ho (by omega) (by have := wlen_le_one (b := B64) two_le_B (n := 1) (by decide); omega)).mono fun e w' ⟨v, he, hm, hb⟩ => by
    obtain ⟨A, c, rfl, _, _⟩ := hm.ok_len
    exact ⟨A, _, c, he, hm, hb, ov_step hS hb⟩)
  have hfw : Hid (∀ W, OvS w m1 m2 (decide (x < 0)) (decide (y < 0)) W → Calls Tryz.prog 97 #[.int .u64 1] W fun e w' => ∃ (A : Option Addr) (n c : Nat), e = .returned (.slice A n c) ∧ MagV w' (.slice A n c) 1 ∧ Below W.heap.size W w' ∧ OvS w m1 m2 (decide (x < 0)) (decide (y < 0)) w') := Lib.hid (fun W hS => (fromWord_any 1 (by decide) W).mono fun e w' ⟨v, he, hm, hb⟩ => by
    obtain ⟨A, c, rfl, _, _⟩ := hm.ok_len
    exact ⟨A, _, c, he, hm, hb, ov_step hS hb⟩)
  obtain ⟨k2, hk2⟩ : ∃ k, k = decide (y < 0) := ⟨_, rfl⟩
  have hz := fun A c W => isZero_any A (wlen B64 (x.natAbs % y.natAbs)) c W
  have hw0 := wlen_eq_zero (b := B64) two_le_B (n := x.natAbs % y.natAbs)
  rw [← hk2] at hdiv hsg hS0 hdf hsu hfw hE1 ⊢
  obtain ⟨k1, hk1⟩ : ∃ k, k = decide (x < 0) := ⟨_, rfl⟩
  rw [← hk1] at hdiv hsg hS0 hdf hsu hfw hE1 hE2 ⊢
  obtain ⟨Q, hQ⟩ : ∃ q, q = x.natAbs / y.natAbs := ⟨_, rfl⟩
  obtain ⟨R, hR⟩ : ∃ q, q = x.natAbs % y.natAbs := ⟨_, rfl⟩
  rw [← hQ] at hdiv hsu hE1
  rw [← hR] at hdiv hdf hE1 hE2 hz hw0
  obtain ⟨Y, hY⟩ : ∃ q, q = y.natAbs := ⟨_, rfl⟩
  rw [← hY] at hdf hE2
  clear hm1 hm2 b1 b2 hy hyp hq1 hr1 hQ hR hk2 hk1
  by_cases hk : k1 = true ∧ R ≠ 0
  · obtain ⟨rfl, h0⟩ := hk
    have hd : decide (wlen B64 R = 0) = false := by simp; exact fun e => h0 (hw0.1 e)
    rw [hd] at hz
    have HE : Hid ((∀ b, b = (true != k2) → sgn (Q + 1) b = x / y) ∧ sgn (Y - R) false = x % y) := Lib.hid ⟨fun b hb => by rw [hb, ← hE1]; simp [h0], by rw [← hE2]; simp [h0, sgn]⟩
    clear hE1 hE2 hd h0 hw0 hY
    go_enter Tryz.func68, Tryz.ntmps68
    go_wp2_with fail
    refine (hdiv.out _ hS0).mono ?_
    rintro e w1 ⟨A1, n1, c1, A2, c2, rfl, hq, hr, hS1⟩
    have e2 := hS1.c2
    go_wp2_with (go_at_call 67; refine (hz _ _ _).mono ?_; rintro e w1 ⟨rfl, rfl⟩)
    refine (hfw.out _ hS1).mono ?_
    rintro e w1a ⟨A5, n5, c5, rfl, hone, hb1a, hS1a⟩
    go_wp2_with fail
    refine (hsu.out _ _ _ (hq.below hb1a) hone hS1a).mono ?_
    rintro e w1b ⟨A6, n6, c6, rfl, hq', hb1b, hS1b⟩
    have e3 := hS1b.c3
    go_wp2_with fail
    refine (hdf.out _ _ ((hr.below hb1a).below hb1b) hS1b).mono ?_
    rintro e w1c ⟨A7, n7, c7, rfl, hr', hb1c, hS1c⟩
    have e2' := hS1c.c2
    have e4 := hS1c.c4
    go_wp2_with fail
    refine (hsg.out _ _ _ _ (hq'.below hb1c) hS1c).mono ?_
    rintro e w2 ⟨A3, n3, c3, k3, rfl, hv3, hb3, hS2⟩
    go_wp2_with fail
    refine (hsg.out _ _ _ _ (hr'.below hb3) hS2).mono ?_
    rintro e w3 ⟨A4, n4, c4, k4, rfl, hv4, hb4, hS3⟩
    have hv3' := hv3.below hb4
    obtain ⟨⟨q0, hc0⟩, ⟨q1, hc1⟩, hf0, hf1⟩ := hS3.b1.facts
    obtain ⟨⟨q2, hc2⟩, ⟨q3, hc3⟩, hf2, hf3⟩ := hS3.b2.facts
    go_wp2_with fail
    refine bodyPost_ret (v := .tuple #[.agg #[.slice A3 n3 c3, .bool k3], .agg #[.slice A4 n4 c4, .bool k4]]) (by simp [results, Tryz.results68, go_sem, hc0, hc1, hc2, hc3]) rfl ⟨_, _, rfl, ?_, ?_, ?_⟩
    · rw [← HE.out.1 (!k2) (by cases k2 <;> rfl)]; exact (ov_end hS3 _ _ _ _ hv3').1
    · rw [← HE.out.2]; exact (ov_end hS3 _ _ _ _ hv4).1
    · exact (ov_end hS3 _ _ _ _ hv4).2
  · have HE : Hid ((∀ b, b = (k1 != k2) → sgn Q b = x / y) ∧ sgn R false = x % y) := Lib.hid (by
      have hc : (k1 && !decide (R = 0)) = false := by
        cases k1
        · rfl
        · have : R = 0 := Classical.byContradiction fun h => hk ⟨rfl, h⟩
          simp [this]
      rw [hc] at hE1 hE2
      exact ⟨fun b hb => by rw [hb, ← hE1]; rfl, by rw [← hE2]; rfl⟩)
    have hd : k1 = false ∨ (k1 = true ∧ decide (wlen B64 R = 0) = true) := by
      cases k1
      · exact Or.inl rfl
      · have : R = 0 := Classical.byContradiction fun h => hk ⟨rfl, h⟩
        exact Or.inr ⟨rfl, by simp; exact hw0.2 this⟩
    clear hE1 hE2 hw0 hY hk hdf hsu hfw
    rcases hd with rfl | ⟨rfl, hd⟩
    case' inr => rw [hd] at hz; clear hd
    all_goals
      go_enter Tryz.func68, Tryz.ntmps68
      go_wp2_with fail
      refine (hdiv.out _ hS0).mono ?_
      rintro e w1 ⟨A1, n1, c1, A2, c2, rfl, hq, hr, hS1⟩
      have e2 := hS1.c2
      have e4 := hS1.c4
      go_wp2_with (go_at_call 67; refine (hz _ _ _).mono ?_; rintro e w1 ⟨rfl, rfl⟩)
      refine (hsg.out _ _ _ _ hq hS1).mono ?_
      rintro e w2 ⟨A3, n3, c3, k3, rfl, hv3, hb3, hS2⟩
      go_wp2_with fail
      refine (hsg.out _ _ _ _ (hr.below hb3) hS2).mono ?_
      rintro e w3 ⟨A4, n4, c4, k4, rfl, hv4, hb4, hS3⟩
      have hv3' := hv3.below hb4
      obtain ⟨⟨q0, hc0⟩, ⟨q1, hc1⟩, hf0, hf1⟩ := hS3.b1.facts
      obtain ⟨⟨q2, hc2⟩, ⟨q3, hc3⟩, hf2, hf3⟩ := hS3.b2.facts
      go_wp2_with fail
      refine bodyPost_ret (v := .tuple #[.agg #[.slice A3 n3 c3, .bool k3], .agg #[.slice A4 n4 c4, .bool k4]]) (by simp [results, Tryz.results68, go_sem, hc0, hc1, hc2, hc3]) rfl ⟨_, _, rfl, ?_, ?_, ?_⟩
      · first
          | (rw [← HE.out.1 (!k2) (by cases k2 <;> rfl)]; exact (ov_end hS3 _ _ _ _ hv3').1)
          | (rw [← HE.out.1 k2 (by cases k2 <;> rfl)]; exact (ov_end hS3 _ _ _ _ hv3').1)
      · rw [← HE.out.2]; exact (ov_end hS3 _ _ _ _ hv4).1
      · exact (ov_end hS3 _ _ _ _ hv4).2

end Go.Proofs.YtdkgifkmkghggaaGreatDoor
