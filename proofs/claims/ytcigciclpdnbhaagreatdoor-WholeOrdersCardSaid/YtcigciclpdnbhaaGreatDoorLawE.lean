/- WholeOrders: for every two drafts and every two values of int the law returns true, and every argument reads behind the call as it read before. CONDITIONS: none on the arguments; the five package-level variables that the row lists read, when the call begins, as the text of the program lays them. -/
import Derived.Test.YtcigciclpdnbhaaGreatDoorLawA
import Derived.Test.YtcigciclpdnbhaaGreatDoorCardA
namespace Go.Proofs.YtcigciclpdnbhaaGreatDoor
open Go.RowKit Vd
attribute [local go_sem ↓] Go.wp_at_zero Go.wp_at_succ

/-- the boxes of two drafts are kept -/
abbrev TwoD (w : World) (b1 s1 z1 b2 s2 z2 : Value) (W : World) : Prop :=
  (Below w.heap.size w W ∧ Gnd W) ∧ W.cell? ⟨w.heap.size, 0, none⟩ = some b1 ∧ W.cell? ⟨w.heap.size, 1, none⟩ = some s1 ∧ W.cell? ⟨w.heap.size, 2, none⟩ = some z1 ∧ W.cell? ⟨w.heap.size + 1, 0, none⟩ = some b2 ∧ W.cell? ⟨w.heap.size + 1, 1, none⟩ = some s2 ∧ W.cell? ⟨w.heap.size + 1, 2, none⟩ = some z2
theorem twoD_step {w : World} {b1 s1 z1 b2 s2 z2 : Value} (W W' : World) (h : TwoD w b1 s1 z1 b2 s2 z2 W) (hb : Below W.heap.size W W') : TwoD w b1 s1 z1 b2 s2 z2 W' := by
  have hc : ∀ p u, W.cell? p = some u → W'.cell? p = some u := fun p u hu => (hb.cell (World.block_lt_of_cell? W _ hu)).trans hu
  exact ⟨⟨h.1.1.trans (hb.mono h.1.1.size), h.1.2.below hb⟩, hc _ _ h.2.1, hc _ _ h.2.2.1, hc _ _ h.2.2.2.1, hc _ _ h.2.2.2.2.1, hc _ _ h.2.2.2.2.2.1, hc _ _ h.2.2.2.2.2.2⟩

/-- what the sign of a difference tells -/
theorem cmp_cases (x y : Int) : (cmpZ x y = -1 ∧ signZ (x - y) = -1 ∧ signZ (-(x - y)) = 1 ∧ x ≠ y) ∨ (cmpZ x y = 0 ∧ signZ (x - y) = 0 ∧ signZ (-(x - y)) = 0 ∧ x = y) ∨ (cmpZ x y = 1 ∧ signZ (x - y) = 1 ∧ signZ (-(x - y)) = -1 ∧ x ≠ y) := by
  unfold cmpZ signZ
  rcases Int.lt_trichotomy x y with h | h | h
  · left
    rw [if_pos h, if_neg (by omega), if_pos (by omega), if_neg (by omega), if_neg (by omega)]
    exact ⟨rfl, rfl, rfl, by omega⟩
  · right; left
    subst h
    simp
  · right; right
    rw [if_neg (by omega), if_pos h, if_neg (by omega), if_neg (by omega), if_neg (by omega), if_pos (by omega)]
    exact ⟨rfl, rfl, rfl, by omega⟩

set_option maxRecDepth 100000 in
set_option maxHeartbeats 8000000 in
theorem orders_core (b1 : Bool) (A1 : Option Addr) (n1 c1 z1 : Nat) (xs1 : List Nat) (b2 : Bool) (A2 : Option Addr) (n2 c2 z2 : Nat) (xs2 : List Nat) (m n : Int) (w : World) (hg : Gnd w) (h1 : DraftIn w b1 A1 n1 c1 z1 xs1) (h2 : DraftIn w b2 A2 n2 c2 z2 xs2)
    (m0 : -9223372036854775808 ≤ m) (m1 : m ≤ 9223372036854775807) (n0 : -9223372036854775808 ≤ n) (nn1 : n ≤ 9223372036854775807) :
    Calls Tryz.prog 10 #[.agg #[.bool b1, .slice A1 n1 c1, .int .u16 (z1 : Int)], .agg #[.bool b2, .slice A2 n2 c2, .int .u16 (z2 : Int)], .int .i64 m, .int .i64 n] w fun e w' => e = .returned (.bool true) ∧ Below w.heap.size w w' := by
  have hT0 : TwoD w (.bool b1) (.slice A1 n1 c1) (.int .u16 (z1 : Int)) (.bool b2) (.slice A2 n2 c2) (.int .u16 (z2 : Int)) ((w.alloc (.cells #[.bool b1, .slice A1 n1 c1, .int .u16 (z1 : Int)] 25)).alloc (.cells #[.bool b2, .slice A2 n2 c2, .int .u16 (z2 : Int)] 25)) := by
    have hb : Below w.heap.size w ((w.alloc (.cells #[.bool b1, .slice A1 n1 c1, .int .u16 (z1 : Int)] 25)).alloc (.cells #[.bool b2, .slice A2 n2 c2, .int .u16 (z2 : Int)] 25)) := ((Below.refl _ _).alloc (Nat.le_refl _) _).alloc (by simp) _
    refine ⟨⟨hb, hg.below hb⟩, ?_, ?_, ?_, ?_, ?_, ?_⟩ <;> simp [go_sem]
  have hwk := works_any _ hT0.1.2
  have K1 : Hid (∀ W, TwoD w (.bool b1) (.slice A1 n1 c1) (.int .u16 (z1 : Int)) (.bool b2) (.slice A2 n2 c2) (.int .u16 (z2 : Int)) W → Calls Tryz.prog 41 #[.agg #[.bool b1, .slice A1 n1 c1, .int .u16 (z1 : Int)]] W fun e w' => ∃ l : List UInt8, e = .returned (.string ⟨l.toArray⟩) ∧ (∃ x : Int, l = wr x ∧ x.natAbs < 10 ^ 185) ∧ TwoD w (.bool b1) (.slice A1 n1 c1) (.int .u16 (z1 : Int)) (.bool b2) (.slice A2 n2 c2) (.int .u16 (z2 : Int)) w') := Lib.hid (short_keep (w0 := w) twoD_step (fun W h => h.1.1) h1)
  have K2 : Hid (∀ W, TwoD w (.bool b1) (.slice A1 n1 c1) (.int .u16 (z1 : Int)) (.bool b2) (.slice A2 n2 c2) (.int .u16 (z2 : Int)) W → Calls Tryz.prog 41 #[.agg #[.bool b2, .slice A2 n2 c2, .int .u16 (z2 : Int)]] W fun e w' => ∃ l : List UInt8, e = .returned (.string ⟨l.toArray⟩) ∧ (∃ x : Int, l = wr x ∧ x.natAbs < 10 ^ 185) ∧ TwoD w (.bool b1) (.slice A1 n1 c1) (.int .u16 (z1 : Int)) (.bool b2) (.slice A2 n2 c2) (.int .u16 (z2 : Int)) w') := Lib.hid (short_keep (w0 := w) twoD_step (fun W h => h.1.1) h2)
  have HM := Lib.hid (And.intro m0 (And.intro m1 (And.intro n0 nn1)))
  clear h1 h2 hg m0 m1 n0 nn1
  go_enter Tryz.func10, Tryz.ntmps10
  go_wp2_with fail
  refine hwk.mono ?_
  rintro e w1 ⟨rfl, hb1⟩
  have hT1 := twoD_step _ _ hT0 hb1
  clear hT0 hwk hb1
  go_wp2_with fail
  go_region_held3 (fun W => (Below w.heap.size w W ∧ Gnd W) ∧ W.cell? ⟨w.heap.size, 0, none⟩ = some (.bool b1) ∧ W.cell? ⟨w.heap.size, 1, none⟩ = some (.slice A1 n1 c1) ∧ W.cell? ⟨w.heap.size, 2, none⟩ = some (.int .u16 (z1 : Int)) ∧ W.cell? ⟨w.heap.size + 1, 0, none⟩ = some (.bool b2) ∧ W.cell? ⟨w.heap.size + 1, 1, none⟩ = some (.slice A2 n2 c2) ∧ W.cell? ⟨w.heap.size + 1, 2, none⟩ = some (.int .u16 (z2 : Int))) (first | with_reducible assumption | exact ⟨⟨hT1.1.1.drew, hT1.1.2.below ((Below.refl _ _).drew)⟩, hT1.2⟩)
    (first
      | (go_at_call 41; with_reducible refine (K1.out _ ?_).mono ?_; with_reducible assumption; rintro e w2 ⟨l1, rfl, hl1, hS2⟩)
      | (go_at_call 41; with_reducible refine (K2.out _ ?_).mono ?_; with_reducible assumption; rintro e w3 ⟨l2, rfl, hl2, hS3⟩))
  obtain ⟨x, hlx, hx⟩ := hl1
  obtain ⟨y, hly, hy⟩ := hl2
  have rx : rd l1 = some x := by rw [hlx]; exact rd_wr (rd_short hx (by omega))
  have ry : rd l2 = some y := by rw [hly]; exact rd_wr (rd_short hy (by omega))
  obtain ⟨ld, hld⟩ : ∃ l, l = wr (x - y) := ⟨_, rfl⟩
  obtain ⟨ln, hln⟩ : ∃ l, l = wr (-(x - y)) := ⟨_, rfl⟩
  have hds : small (x - y) := sub_small hx hy (by omega)
  have hns : small (-(x - y)) := small_of_le hds (by rw [Int.natAbs_neg]; exact Nat.le_refl _)
  have rdd : rd ld = some (x - y) := by rw [hld]; exact rd_wr hds
  have rdn : rd ln = some (-(x - y)) := by rw [hln]; exact rd_wr hns
  have c1 := fun W => wcmp_some l1 l2 x y W rx ry
  have c2 := fun W => wsub_some l1 l2 x y W rx ry
  have c3 := fun W => wsign_some ld _ W rdd
  have c4 := fun W => wneg_some ld _ W rdd
  have c5 := fun W => wsign_some ln _ W rdn
  rw [outV_rd rdd] at c2
  rw [outV_rd rdn] at c4
  have hl12 : x ≠ y → (l1 == l2) = false := fun e => by rw [beq_eq_false_iff_ne, hlx, hly]; exact wr_ne e
  have hl21 : x = y → l1 = l2 := fun e => by rw [hlx, hly, e]
  have hS := hS3.1
  have hcc := cmp_cases x y
  obtain ⟨lm, hlm⟩ : ∃ l, l = wr m := ⟨_, rfl⟩
  obtain ⟨lk, hlk⟩ : ∃ l, l = wr n := ⟨_, rfl⟩
  obtain ⟨m0, m1, n0, nn1⟩ := HM.out
  have rm : rd lm = some m := by rw [hlm]; exact rd_wr (rd_short (k := 20) (by omega) (by omega))
  have rk : rd lk = some n := by rw [hlk]; exact rd_wr (rd_short (k := 20) (by omega) (by omega))
  have O1 : Hid (∀ W, Gnd W → Calls Tryz.prog 12 #[.int .i64 m] W fun e w' => e = .returned (.string ⟨lm.toArray⟩) ∧ Below W.heap.size W w') := Lib.hid (fun W hg => by rw [hlm]; exact wof_any m W hg m0 m1)
  have O2 : Hid (∀ W, Gnd W → Calls Tryz.prog 12 #[.int .i64 n] W fun e w' => e = .returned (.string ⟨lk.toArray⟩) ∧ Below W.heap.size W w') := Lib.hid (fun W hg => by rw [hlk]; exact wof_any n W hg n0 nn1)
  have O3 : Hid (∀ W, Calls Tryz.prog 19 #[.string ⟨lm.toArray⟩, .string ⟨lk.toArray⟩] W fun e w' => e = .returned (.tuple #[.int .i64 (cmpZ m n), .int .i64 0]) ∧ Below W.heap.size W w') := Lib.hid (fun W => wcmp_some lm lk m n W rm rk)
  have O4 : Hid (∀ W, Calls Tryz.prog 15 #[.string ⟨lm.toArray⟩] W fun e w' => e = .returned (.tuple #[.int .i64 m, .int .i64 0]) ∧ Below W.heap.size W w') := Lib.hid (fun W => wint_some lm m W rm m0 m1)
  clear hlm hlk m0 m1 n0 nn1 rm rk HM
  clear hS2 hS3 hT1 K1 K2 hlx hly hx hy rx ry hld hln hds hns rdd rdn
  rcases hcc with ⟨e1, e2, e3, e4⟩ | ⟨e1, e2, e3, e4⟩ | ⟨e1, e2, e3, e4⟩
  · rw [e1] at c1
    rw [e2] at c3
    rw [e3] at c5
    have hne := hl12 e4
    have HC := Lib.hid (And.intro c1 (And.intro c2 (And.intro c3 (And.intro c4 c5))))
    clear c1 c2 c3 c4 c5 e1 e2 e3 e4 hl12 hl21
    go_wp2_with fail
    refine (wstep (w := w) hS (HC.out.1 _)).mono ?_
    rintro e w4 ⟨rfl, hS4⟩
    go_wp2_with fail
    refine (wstep (w := w) hS4 (HC.out.2.1 _)).mono ?_
    rintro e w5 ⟨rfl, hS5⟩
    go_wp2_with fail
    refine (wstep (w := w) hS5 (HC.out.2.2.1 _)).mono ?_
    rintro e w6 ⟨rfl, hS6⟩
    go_wp2_with fail
    refine (wstep (w := w) hS6 (HC.out.2.2.2.1 _)).mono ?_
    rintro e w7 ⟨rfl, hS7⟩
    go_wp2_with fail
    refine (wstep (w := w) hS7 (HC.out.2.2.2.2 _)).mono ?_
    rintro e w8 ⟨rfl, hS8⟩
    clear hS hS4 hS5 hS6 hS7 HC
    rcases Int.lt_trichotomy m n with hmn | hmn | hmn
    case' inl => have hcm : cmpZ m n = -1 := by unfold cmpZ; rw [if_pos hmn]
    case' inr.inl => have hcm : cmpZ m n = 0 := by unfold cmpZ; rw [if_neg (by omega), if_neg (by omega)]
    case' inr.inr => have hcm : cmpZ m n = 1 := by unfold cmpZ; rw [if_neg (by omega), if_pos (by omega)]
    case' inr.inl => have k1 : ¬ m < n := by omega
    case' inr.inl => have k2 : ¬ n < m := by omega
    case' inr.inr => have k1 : ¬ m < n := by omega
    all_goals
      have O3' := O3.out
      rw [hcm] at O3'
      have O5 := Lib.hid O3'
      clear O3' hcm
    case' inr.inl => clear hmn
    all_goals
      go_wp2_with fail
      refine (says_any w _ _ hS8).mono ?_
      rintro e w9 ⟨p, rfl, hp, hS9⟩
      go_wp2_with fail
      refine (wstepc hS9 hp (O1.out _ hS9.2)).mono ?_
      clear hp
      rintro e w10 ⟨rfl, hp, hS10⟩
      go_wp2_with fail
      refine (wstepc hS10 hp (O2.out _ hS10.2)).mono ?_
      clear hp
      rintro e w11 ⟨rfl, hp, hS11⟩
      go_wp2_with fail
      refine (wstepc hS11 hp (O5.out _)).mono ?_
      clear hp
      rintro e w12 ⟨rfl, hp, hS12⟩
      go_wp2_with fail
      refine (says_fn _ _ _ hp).mono ?_
      clear hp
      rintro e w0 ⟨rfl, rfl⟩
      go_wp2_with fail
      refine (says_any w _ _ hS12).mono ?_
      rintro e w13 ⟨p2, rfl, hp, hS13⟩
      go_wp2_with fail
      refine (wstepc hS13 hp (O1.out _ hS13.2)).mono ?_
      clear hp
      rintro e w14 ⟨rfl, hp, hS14⟩
      go_wp2_with fail
      refine (wstepc hS14 hp (O4.out _)).mono ?_
      clear hp
      rintro e w15 ⟨rfl, hp, hS15⟩
      go_wp2_with fail
      refine (says_fn _ _ _ hp).mono ?_
      clear hp
      rintro e w0 ⟨rfl, rfl⟩
      go_wp2_with fail
      go_ret
      exact ⟨rfl, hS15.1⟩
  · rw [e1] at c1
    rw [e2] at c3
    rw [e3] at c5
    have heq := hl21 e4
    subst heq
    have HC := Lib.hid (And.intro c1 (And.intro c2 (And.intro c3 (And.intro c4 c5))))
    clear c1 c2 c3 c4 c5 e1 e2 e3 e4 hl12 hl21
    go_wp2_with fail
    refine (wstep (w := w) hS (HC.out.1 _)).mono ?_
    rintro e w4 ⟨rfl, hS4⟩
    go_wp2_with fail
    refine (wstep (w := w) hS4 (HC.out.2.1 _)).mono ?_
    rintro e w5 ⟨rfl, hS5⟩
    go_wp2_with fail
    refine (wstep (w := w) hS5 (HC.out.2.2.1 _)).mono ?_
    rintro e w6 ⟨rfl, hS6⟩
    go_wp2_with fail
    refine (wstep (w := w) hS6 (HC.out.2.2.2.1 _)).mono ?_
    rintro e w7 ⟨rfl, hS7⟩
    go_wp2_with fail
    refine (wstep (w := w) hS7 (HC.out.2.2.2.2 _)).mono ?_
    rintro e w8 ⟨rfl, hS8⟩
    clear hS hS4 hS5 hS6 hS7 HC
    rcases Int.lt_trichotomy m n with hmn | hmn | hmn
    case' inl => have hcm : cmpZ m n = -1 := by unfold cmpZ; rw [if_pos hmn]
    case' inr.inl => have hcm : cmpZ m n = 0 := by unfold cmpZ; rw [if_neg (by omega), if_neg (by omega)]
    case' inr.inr => have hcm : cmpZ m n = 1 := by unfold cmpZ; rw [if_neg (by omega), if_pos (by omega)]
    case' inr.inl => have k1 : ¬ m < n := by omega
    case' inr.inl => have k2 : ¬ n < m := by omega
    case' inr.inr => have k1 : ¬ m < n := by omega
    all_goals
      have O3' := O3.out
      rw [hcm] at O3'
      have O5 := Lib.hid O3'
      clear O3' hcm
    case' inr.inl => clear hmn
    all_goals
      go_wp2_with fail
      refine (says_any w _ _ hS8).mono ?_
      rintro e w9 ⟨p, rfl, hp, hS9⟩
      go_wp2_with fail
      refine (wstepc hS9 hp (O1.out _ hS9.2)).mono ?_
      clear hp
      rintro e w10 ⟨rfl, hp, hS10⟩
      go_wp2_with fail
      refine (wstepc hS10 hp (O2.out _ hS10.2)).mono ?_
      clear hp
      rintro e w11 ⟨rfl, hp, hS11⟩
      go_wp2_with fail
      refine (wstepc hS11 hp (O5.out _)).mono ?_
      clear hp
      rintro e w12 ⟨rfl, hp, hS12⟩
      go_wp2_with fail
      refine (says_fn _ _ _ hp).mono ?_
      clear hp
      rintro e w0 ⟨rfl, rfl⟩
      go_wp2_with fail
      refine (says_any w _ _ hS12).mono ?_
      rintro e w13 ⟨p2, rfl, hp, hS13⟩
      go_wp2_with fail
      refine (wstepc hS13 hp (O1.out _ hS13.2)).mono ?_
      clear hp
      rintro e w14 ⟨rfl, hp, hS14⟩
      go_wp2_with fail
      refine (wstepc hS14 hp (O4.out _)).mono ?_
      clear hp
      rintro e w15 ⟨rfl, hp, hS15⟩
      go_wp2_with fail
      refine (says_fn _ _ _ hp).mono ?_
      clear hp
      rintro e w0 ⟨rfl, rfl⟩
      go_wp2_with fail
      go_ret
      exact ⟨rfl, hS15.1⟩
  · rw [e1] at c1
    rw [e2] at c3
    rw [e3] at c5
    have hne := hl12 e4
    have HC := Lib.hid (And.intro c1 (And.intro c2 (And.intro c3 (And.intro c4 c5))))
    clear c1 c2 c3 c4 c5 e1 e2 e3 e4 hl12 hl21
    go_wp2_with fail
    refine (wstep (w := w) hS (HC.out.1 _)).mono ?_
    rintro e w4 ⟨rfl, hS4⟩
    go_wp2_with fail
    refine (wstep (w := w) hS4 (HC.out.2.1 _)).mono ?_
    rintro e w5 ⟨rfl, hS5⟩
    go_wp2_with fail
    refine (wstep (w := w) hS5 (HC.out.2.2.1 _)).mono ?_
    rintro e w6 ⟨rfl, hS6⟩
    go_wp2_with fail
    refine (wstep (w := w) hS6 (HC.out.2.2.2.1 _)).mono ?_
    rintro e w7 ⟨rfl, hS7⟩
    go_wp2_with fail
    refine (wstep (w := w) hS7 (HC.out.2.2.2.2 _)).mono ?_
    rintro e w8 ⟨rfl, hS8⟩
    clear hS hS4 hS5 hS6 hS7 HC
    rcases Int.lt_trichotomy m n with hmn | hmn | hmn
    case' inl => have hcm : cmpZ m n = -1 := by unfold cmpZ; rw [if_pos hmn]
    case' inr.inl => have hcm : cmpZ m n = 0 := by unfold cmpZ; rw [if_neg (by omega), if_neg (by omega)]
    case' inr.inr => have hcm : cmpZ m n = 1 := by unfold cmpZ; rw [if_neg (by omega), if_pos (by omega)]
    case' inr.inl => have k1 : ¬ m < n := by omega
    case' inr.inl => have k2 : ¬ n < m := by omega
    case' inr.inr => have k1 : ¬ m < n := by omega
    all_goals
      have O3' := O3.out
      rw [hcm] at O3'
      have O5 := Lib.hid O3'
      clear O3' hcm
    case' inr.inl => clear hmn
    all_goals
      go_wp2_with fail
      refine (says_any w _ _ hS8).mono ?_
      rintro e w9 ⟨p, rfl, hp, hS9⟩
      go_wp2_with fail
      refine (wstepc hS9 hp (O1.out _ hS9.2)).mono ?_
      clear hp
      rintro e w10 ⟨rfl, hp, hS10⟩
      go_wp2_with fail
      refine (wstepc hS10 hp (O2.out _ hS10.2)).mono ?_
      clear hp
      rintro e w11 ⟨rfl, hp, hS11⟩
      go_wp2_with fail
      refine (wstepc hS11 hp (O5.out _)).mono ?_
      clear hp
      rintro e w12 ⟨rfl, hp, hS12⟩
      go_wp2_with fail
      refine (says_fn _ _ _ hp).mono ?_
      clear hp
      rintro e w0 ⟨rfl, rfl⟩
      go_wp2_with fail
      refine (says_any w _ _ hS12).mono ?_
      rintro e w13 ⟨p2, rfl, hp, hS13⟩
      go_wp2_with fail
      refine (wstepc hS13 hp (O1.out _ hS13.2)).mono ?_
      clear hp
      rintro e w14 ⟨rfl, hp, hS14⟩
      go_wp2_with fail
      refine (wstepc hS14 hp (O4.out _)).mono ?_
      clear hp
      rintro e w15 ⟨rfl, hp, hS15⟩
      go_wp2_with fail
      refine (says_fn _ _ _ hp).mono ?_
      clear hp
      rintro e w0 ⟨rfl, rfl⟩
      go_wp2_with fail
      go_ret
      exact ⟨rfl, hS15.1⟩

end Go.Proofs.YtcigciclpdnbhaaGreatDoor

namespace Go.Proofs.YtcigciclpdnbhaaGreatDoor.orders
open Go.ChangeShapes Go.WideShapes Go.ChangeAt Go.RowKit Vd

/-- The door's own heap meets the row's list. -/
theorem door_met (os : Os) (args : Array Value) : laidMetH Tryz.prog Rows.wholeOrdersRow.laid ((World.doorLaid Tryz.prog 400 os).forCall (fun _ _ => 0) ⟨#[], args, []⟩).memory :=
  laidMetH_of_parts3 (fuel := 8) (laidMet_of_run' 8 (by kernel_rfl) (by kernel_rfl)) (by kernel_rfl) (by kernel_rfl)

theorem laidOutHere : laidOutB Tryz.prog = true := by kernel_rfl

def wit : Array Value := #[.agg #[.bool false, .slice none 0 0, .int .u16 0], .agg #[.bool false, .slice none 0 0, .int .u16 0], .int .i64 0, .int .i64 0]

set_option maxRecDepth 100000 in
theorem lifted (os : Os) (started : os.Started) (H : Type) (enc : TypeId × Value → H) :
    ReturnsInHanded {} Tryz.checked os 10 .any (fun w args => (Rows.wholeOrdersSpec.pre enc Tryz.prog Tryz.f10 [] false w args ∧ laidMetH Tryz.prog Rows.wholeOrdersRow.laid w) ∧ sizedMet enc Tryz.prog Tryz.f10 (OpenSpec.ofChange Rows.wholeOrdersSpec) false w args)
      (Rows.wholeOrdersSpec.post enc Tryz.prog Tryz.f10 false true false false) := by
  refine returnsInHanded_of_change_and (C := Tryz.checked) (X := fun w _ => laidMetH Tryz.prog Rows.wholeOrdersRow.laid w) (fun _ _ _ hh h => h.of_heap hh) ownKnobNone started (by kernel_rfl) Tryz.func10
    (ChangeSpec.witness_shaped (enc := enc) (C := Tryz.checked) (os := os) (X := fun w _ => laidMetH Tryz.prog Rows.wholeOrdersRow.laid w) false (World.doorLaid Tryz.prog 400 os) wit 8 rfl (World.shaped_of_RefB (by kernel_rfl) (by kernel_rfl)) (by kernel_rfl) (by kernel_rfl) (by kernel_rfl) (door_met os _)) ?_
  intro W base args ds gs before hval0 hW _ _ hL _
  have hval : ∀ (j : Nat) t v, Tryz.f10.params[j]? = some t → args[j]? = some v → Value.okWide Tryz.prog W .any base t v := hval0
  have hW' := hW
  obtain ⟨p, q, hA0, hV, rfl, hfz, hnd⟩ := hW
  have hA : DataW.TrodAll enc Tryz.prog W 0 (fun _ => true) true Tryz.f10.params.toList args.toList ds p := hA0
  rw [Tryz.params10] at hA hval
  obtain ⟨v0, v1, v2, v3, d0, d1, d2, d3, p0, p1, p2, p3, rfl, rfl, rfl, h0, h1, h2, h3⟩ := trodAll_four hA
  obtain ⟨rfl, rfl⟩ := trodVars_none hV
  obtain ⟨b1, A1, n1, c1, z1, xs1, rfl, D1⟩ := open_draft (hval 0 _ _ rfl rfl) h0
  obtain ⟨b2, A2, n2, c2, z2, xs2, rfl, D2⟩ := open_draft (hval 1 _ _ rfl rfl) h1
  obtain ⟨m, rfl, rfl, rfl, wm⟩ := open_int Tryz.underlying3 (hval 2 _ _ rfl rfl) h2
  obtain ⟨n, rfl, rfl, rfl, wn⟩ := open_int Tryz.underlying3 (hval 3 _ _ rfl rfl) h3
  have im := (Lit.wf_int_iff .i64 m).1 wm
  have jn := (Lit.wf_int_iff .i64 n).1 wn
  rw [IntKind.min_i64, IntKind.max_i64] at im jn
  refine (orders_core b1 A1 n1 c1 z1 xs1 b2 A2 n2 c2 z2 xs2 m n W (gnd_of_laid hL) D1 D2 im.1 im.2 jn.1 jn.2).mono fun e W' ⟨he, hb⟩ => ?_
  subst he
  exact ⟨_, rfl, post_true (tb := 4) laidOutHere (by kernel_rfl) Tryz.underlying4 (by kernel_rfl) rfl rfl hW' hb⟩

theorem said : Rows.WholeOrdersSaid :=
  OpenClaim.holds_of_wide 10 Tryz.f10 rfl rfl rfl rfl rfl rfl rfl ⟨rfl, rfl, rfl, rfl, rfl⟩ rfl rfl rfl rfl rfl (by kernel_rfl) Tryz.func10 (by kernel_rfl)
    (of_decide_eq_true (by kernel_rfl)) (by unfold Func.isWrapper; first | (rw [if_pos (by decide +kernel)]; kernel_rfl) | (rw [if_neg (by decide +kernel)]; exact ⟨rfl, rfl⟩))
    (fun os started H enc _ => lifted os started H enc)

theorem plain (f : FuncId) (fn : Func) (hf : Tryz.pinned.checked.prog.funcNamed "verdigris/verdigrislaw01.WholeOrders" = some f) (hfn : Tryz.pinned.checked.prog.funcs[f]? = some fn) :
    true = Tryz.pinned.checked.prog.looks [] ∧ ∀ (j : Nat) t, fn.params[j]? = some t → Tryz.pinned.checked.prog.wantsStandIn t = false := by
  obtain rfl : f = 10 := Option.some.inj ((show Tryz.prog.funcNamed "verdigris/verdigrislaw01.WholeOrders" = some 10 by kernel_rfl).symm.trans hf) |>.symm
  obtain rfl : fn = Tryz.f10 := (Option.some.inj (Tryz.func10.symm.trans hfn)).symm
  refine ⟨by kernel_rfl, fun j t ht => ?_⟩
  rw [Tryz.params10] at ht
  have : t = 25 ∨ t = 3 := by simpa using Array.mem_of_getElem? ht
  rcases this with rfl | rfl
  · exact (show Tryz.prog.wantsStandIn 25 = false by kernel_rfl)
  · exact (show Tryz.prog.wantsStandIn 3 = false by kernel_rfl)

/-- THE CARD. -/
theorem card : Rows.WholeOrdersCardSaid :=
  Claim7.holds_tied_plain_at .later [] _ _ _ _ said (fun _ h => by cases h) (by kernel_rfl) (fun _ h => by cases h) wholeOrders_row_tie rfl ⟨rfl, rfl⟩ (by kernel_rfl) rfl plain (by kernel_rfl)
#print axioms card
end Go.Proofs.YtcigciclpdnbhaaGreatDoor.orders
