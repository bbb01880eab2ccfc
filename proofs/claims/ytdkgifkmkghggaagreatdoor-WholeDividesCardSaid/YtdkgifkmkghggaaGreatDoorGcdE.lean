/- Contract: Common. -/
import Derived.Test.YtdkgifkmkghggaaGreatDoorGcdD
namespace Go.Proofs.YtdkgifkmkghggaaGreatDoor
open Go.RowKit Vd

theorem apply_any (v1 v2 : Value) (X Y p q fA fB nA nB cnt H α β a b : Nat) (w : World) (h1 : MagV w v1 a) (h2 : MagV w v2 b) (b1 : wlen B64 a ≤ maxW) (b2 : wlen B64 b ≤ maxW)
    (hS : StepsW X Y p q fA fB nA nB cnt) (hα : α < H) (hβ : β < H) (ha : a = X * H + α) (hb : b = Y * H + β) (hle : b ≤ a) :
    Calls Tryz.prog 156 #[.agg (stepCells fA fB nA nB cnt), v1, v2] w fun e w' => ∃ x y a' b', e = .returned (.tuple #[x, y]) ∧ MagV w' x a' ∧ MagV w' y b' ∧ a' ≤ a ∧ b' ≤ a' ∧ Nat.gcd a' b' = Nat.gcd a b ∧ (0 < cnt → b' < b) ∧ Below w.heap.size w w' := by
  obtain ⟨a', b', g1, g2, g3, g4, g5, g6⟩ := steps_apply hS.st hα hβ ha hb hle
  rcases Nat.mod_two_eq_zero_or_one cnt with hc | hc
  · obtain ⟨e1, e2, e3, e4⟩ := g5 hc
    refine (apply_even v1 v2 a b fA fB nA nB cnt w h1 h2 b1 b2 hS.fAl hS.fBl hS.nAl hS.nBl hc e1 (by omega) e3 (by omega)).mono ?_
    rintro e w' ⟨x, y, he, hx, hy, hw⟩
    exact ⟨x, y, a', b', he, by rw [e2]; exact hx, by rw [e4]; exact hy, g1, g2, g3, g4, hw⟩
  · obtain ⟨e1, e2, e3, e4⟩ := g6 hc
    refine (apply_odd v1 v2 a b fA fB nA nB cnt w h1 h2 b1 b2 hS.fAl hS.fBl hS.nAl hS.nBl hc e1 (by omega) e3 (by omega)).mono ?_
    rintro e w' ⟨x, y, he, hx, hy, hw⟩
    exact ⟨x, y, a', b', he, by rw [e2]; exact hx, by rw [e4]; exact hy, g1, g2, g3, g4, hw⟩

/-- the parts of a digit's place -/
theorem lead_le {x y H α β a b : Nat} (hα : α < H) (ha : a = x * H + α) (hb : b = y * H + β) (hle : b ≤ a) : y ≤ x := by
  rcases Nat.lt_or_ge x y with h | h
  · have h2 : (x + 1) * H ≤ y * H := Nat.mul_le_mul_right _ h
    rw [Nat.add_mul, Nat.one_mul] at h2
    omega
  · exact h

/-- what the loop of 'Common' keeps -/
structure ComR (w : World) (m o : Nat) (g : Nat) (x y : Value) (W : World) (a : Nat) : Prop where
  hx : MagV W x a
  hy : MagV W y g
  le : g ≤ a
  la : wlen B64 a + 1 ≤ maxW
  gc : Nat.gcd a g = Nat.gcd m o
  hb : Below w.heap.size w W

set_option maxRecDepth 100000 in
set_option maxHeartbeats 2000000 in
theorem common_any (v1 v2 : Value) (m o : Nat) (w : World) (h1 : MagV w v1 m) (h2 : MagV w v2 o) (b1 : wlen B64 m + 1 ≤ maxW) (b2 : wlen B64 o + 1 ≤ maxW) :
    Calls Tryz.prog 140 #[v1, v2] w fun e w' => ∃ v, e = .returned v ∧ MagV w' v (Nat.gcd m o) ∧ Below w.heap.size w w' := by
  have hcmp := compare_any v1 v2 m o w h1 h2 (by omega)
  obtain ⟨cv, hcv⟩ : ∃ z, z = cmpN m o := ⟨_, rfl⟩
  rw [← hcv] at hcmp
  have Hc := Lib.hid hcv
  clear hcv
  go_enter Tryz.func140, Tryz.ntmps140
  go_upto_if 17 with (go_at_call 87; refine hcmp.mono ?_; rintro e w1 ⟨rfl, d, rfl⟩)
  go_cut [5, 6] (fun x y wx => ∃ a g : Nat, ComR w m o g x y wx a)
  case first =>
    by_cases hlt : m < o
    · have k1 : cv = -1 := by rw [Hc.out]; unfold cmpN; rw [if_pos hlt]
      have k2 : cv < 0 := by omega
      have k3 : decide (cv < 0) = true := by simp; omega
      have R : ComR w m o m v2 v1 (w.drewN d) o := ⟨h2.drewN d, h1.drewN d, by omega, b2, Nat.gcd_comm _ _, below_drewN (Below.refl _ _) d⟩
      clear k1
      go_wp2_with fail
      go_meet
      exact ⟨o, m, R⟩
    · have k1 : ¬ cv < 0 := by rw [Hc.out]; unfold cmpN; rw [if_neg (by omega)]; split <;> omega
      have k2 : decide (cv < 0) = false := by simp; omega
      have R : ComR w m o o v1 v2 (w.drewN d) m := ⟨h1.drewN d, h2.drewN d, by omega, b1, rfl, below_drewN (Below.refl _ _) d⟩
      go_wp2_with fail
      go_meet
      exact ⟨m, o, R⟩
  case rest =>
    clear hcmp Hc
    obtain ⟨a0, g0, hR⟩ := hcut
    go_wp2_with fail
    go_loopg [5, 6] g0 (fun g x y W => ∃ a, ComR w m o g x y W a)
    case atStart => exact ⟨a0, hR⟩
    case round =>
      clear hR
      obtain ⟨a, hR⟩ := hrel
      obtain ⟨gx, gy, gle, gla, ggc, gbel⟩ := hR
      have gl2 : wlen B64 gk ≤ wlen B64 a := wlen_mono (b := B64) two_le_B gle
      obtain ⟨A2, c2, rfl, _, s2⟩ := gy.ok_len
      by_cases hlen : 1 < wlen B64 gk
      · obtain ⟨t, ht⟩ : ∃ t, wlen B64 a = t + 2 := ⟨wlen B64 a - 2, by omega⟩
        have hl := leading_any _ _ a gk t _ gx gy ht gle (by omega)
        have k1 : (1 : Int) < ((wlen B64 gk : Nat) : Int) := by omega
        have HH := Lib.hid (And.intro gle (And.intro gla (And.intro ggc (And.intro ht gl2))))
        clear gle gla ggc ht gl2 hlen
        go_wp2_with (go_at_call 155; refine hl.mono ?_; rintro e w1 ⟨x, y, H, α, β, rfl, hx, hy, hH, hα, hβ, ea, eb, d, rfl⟩; have He := Lib.hid (And.intro ea (And.intro eb (And.intro hα (And.intro hβ hH)))); clear ea eb hα hβ hH)
        have hyx := lead_le He.out.2.2.1 He.out.1 He.out.2.1 HH.out.1
        refine (stepsOf_any x y (wr.drewN d) hx hyx).mono ?_
        rintro e w1 ⟨p, q, fA, fB, nA, nB, cnt, rfl, hst, hb1⟩
        have hb1' : Below wr.heap.size wr w1 := below_of_drewN hb1
        have gx1 := gx.below hb1'
        have gy1 := gy.below hb1'
        have Hs := Lib.hid hst
        clear hst hyx hx hy hl
        have gpos : 0 < gk := by
          rcases Nat.eq_zero_or_pos gk with h0 | h0
          · rw [h0, wlen_zero] at k1; omega
          · exact h0
        have hwB : ∀ o : Obj, Below w1.heap.size w1 (w1.alloc o) := fun o => (Below.refl _ _).alloc (Nat.le_refl _) o
        have hall : Below w.heap.size w w1 := gbel.trans (hb1'.mono gbel.size)
        by_cases hc : cnt = 0
        · have k2 : ((cnt : Int) == 0) = true := by rw [beq_iff_eq]; omega
          unfold stepCells
          have hdv := fun W (hb : Below w1.heap.size w1 W) => divide_any _ _ a gk W (gx1.below hb) (gy1.below hb) HH.out.2.1 (Nat.le_trans HH.out.2.2.2.2 (Nat.le_of_succ_le HH.out.2.1)) gpos
          clear hc
          go_wp2_with fail
          refine (hdv _ (hwB _)).mono ?_
          rintro e w2 ⟨qq, rr, rfl, hqq, hrr, hb2⟩
          have hb2' : Below w1.heap.size w1 w2 := (hwB _).trans (hb2.mono (hwB _).size)
          have gy2 := gy1.below hb2'
          go_wp2_with fail
          go_roundg (a % gk)
          case measure => exact Nat.mod_lt _ gpos
          case rel =>
            refine ⟨gk, gy2, hrr, Nat.le_of_lt (Nat.mod_lt _ gpos), ?_, ?_, hall.trans (hb2'.mono hall.size)⟩
            · have := HH.out; omega
            · rw [← HH.out.2.2.1, Nat.gcd_comm gk, ← Nat.gcd_rec, Nat.gcd_comm]
        · have k2 : ((cnt : Int) == 0) = false := by rw [beq_eq_false_iff_ne]; omega
          have hap := fun W (hb : Below w1.heap.size w1 W) => apply_any _ _ x y p q fA fB nA nB cnt H α β a gk W (gx1.below hb) (gy1.below hb) (Nat.le_of_succ_le HH.out.2.1) (Nat.le_trans HH.out.2.2.2.2 (Nat.le_of_succ_le HH.out.2.1)) Hs.out He.out.2.2.1 He.out.2.2.2.1 He.out.1 He.out.2.1 HH.out.1
          unfold stepCells at hap ⊢
          have Hcp := Lib.hid (show 0 < cnt by omega)
          clear hc
          go_wp2_with fail
          refine (hap _ (hwB _)).mono ?_
          rintro e w2 ⟨xx, yy, a', b', rfl, hxx, hyy, c1, c2', c3, c4, hb2⟩
          have hb2' : Below w1.heap.size w1 w2 := (hwB _).trans (hb2.mono (hwB _).size)
          have HC := Lib.hid (And.intro c1 (And.intro c2' (And.intro c3 c4)))
          clear c1 c2' c3 c4
          go_wp2_with fail
          go_roundg b'
          case measure => exact HC.out.2.2.2 Hcp.out
          case rel =>
            refine ⟨a', hxx, hyy, HC.out.2.1, ?_, ?_, hall.trans (hb2'.mono hall.size)⟩
            · exact Nat.le_trans (Nat.succ_le_succ (wlen_mono (b := B64) two_le_B HC.out.1)) HH.out.2.1
            · rw [HC.out.2.2.1, HH.out.2.2.1]
      · have hgl : gk < B64 := by have := (wlen_le_iff two_le_B gk 1).1 (by omega); simpa using this
        have k1 : ¬ (1 : Int) < ((wlen B64 gk : Nat) : Int) := by omega
        by_cases h0 : gk = 0
        · subst h0
          rw [wlen_zero] at s2 gy ⊢
          rw [Nat.gcd_zero_right] at ggc
          have hz := isZero_any A2 0 c2
          clear k1 hlen gl2
          go_wp2_with (go_at_call 67; refine (hz _).mono ?_; rintro e w1 ⟨rfl, rfl⟩)
          go_ret
          exact ⟨_, rfl, by rw [← ggc]; exact gx, gbel⟩
        · have hw1 : wlen B64 gk = 1 := by
            rcases Nat.eq_zero_or_pos (wlen B64 gk) with hz | hz
            · rw [wlen_eq_zero two_le_B] at hz; exact absurd hz h0
            · omega
          have hgp : 0 < gk := Nat.pos_of_ne_zero h0
          have hdw := divWord_any _ a gk wr gx (Nat.le_of_succ_le gla) hgp hgl
          have hrl : a % gk < B64 := Nat.lt_trans (Nat.mod_lt _ hgp) hgl
          have hcw := fun W => commonOfWords_any gk (a % gk) W hgl hrl
          rw [show Nat.gcd gk (a % gk) = Nat.gcd m o by rw [← ggc, Nat.gcd_comm gk, ← Nat.gcd_rec, Nat.gcd_comm]] at hcw
          have hgm : Nat.gcd m o < B64 := by
            rw [← ggc]; exact Nat.lt_of_le_of_lt (Nat.gcd_le_right _ hgp) hgl
          have hfw := fun W => fromWord_any (Nat.gcd m o) hgm W
          obtain ⟨G, hG⟩ : ∃ G, G = Nat.gcd m o := ⟨_, rfl⟩
          simp only [← hG] at hfw
          have HG := Lib.hid hG
          simp only [← hG] at hcw
          obtain ⟨rr, hrr⟩ : ∃ r, r = a % gk := ⟨_, rfl⟩
          rw [← hrr] at hdw
          simp only [← hrr] at hcw
          rw [hw1] at s2 gy ⊢
          obtain ⟨g2, o2, rfl, hg2, hcy⟩ := s2.at_ (by omega)
          have hc0 := hcy 0 (by omega)
          rw [ws_one two_le_B hgl h0, show nth [gk] 0 = gk from rfl] at hc0
          unfold U at hc0
          rw [Nat.add_zero] at hc0
          have hz := isZero_any (some ⟨g2, o2, none⟩) 1 c2
          have hcS := hc0
          clear k1 hlen gl2 hrr hG hrl hgm ggc h0 hw1 hcy
          go_wp2_with (go_at_call 67; refine (hz _).mono ?_; rintro e w1 ⟨rfl, rfl⟩)
          refine hdw.mono ?_
          rintro e w2 ⟨qq, rfl, hqq, hb2⟩
          have hc2 : w2.cell? ⟨g2, o2, none⟩ = some (.int .u64 (gk : Int)) := by rw [hb2.cell (p := ⟨g2, o2, none⟩) hg2]; exact hc0
          go_wp2_with fail
          refine (hcw w2).mono ?_
          rintro e w3 ⟨rfl, d, rfl⟩
          go_wp2_with fail
          refine (hfw _).mono ?_
          rintro e w4 ⟨vv, rfl, hvv, hb4⟩
          have hb4' : Below w2.heap.size w2 w4 := below_of_drewN hb4
          go_wp2_with fail
          go_ret
          exact ⟨_, rfl, by rw [← HG.out]; exact hvv, gbel.trans ((hb2.trans (hb4'.mono hb2.size)).mono gbel.size)⟩

end Go.Proofs.YtdkgifkmkghggaaGreatDoor
