/- WholeRing: for every three drafts the law returns true, and every argument reads behind the call as it read before. CONDITIONS: none on the arguments; the five package-level variables that the row lists read, when the call begins, as the text of the program lays them. -/
import Derived.Test.YtcigciclpdnbhaaGreatDoorLawA
import Derived.Test.YtcigciclpdnbhaaGreatDoorCardA
namespace Go.Proofs.YtcigciclpdnbhaaGreatDoor
open Go.RowKit Vd
attribute [local go_sem ↓] Go.wp_at_zero Go.wp_at_succ

theorem mod_sign (x : Int) {z : Int} (hz : z ≠ 0) : (signZ (x % z) = 0 ∨ signZ (x % z) = 1) ∧ cmpZ (x % z) (z.natAbs : Int) = -1 := by
  have h0 := Int.emod_nonneg x hz
  have h1 := Int.emod_lt x hz
  refine ⟨?_, ?_⟩
  · unfold signZ
    rcases Int.lt_or_eq_of_le h0 with h | h
    · right; rw [if_neg (by omega), if_neg (by omega)]
    · left; rw [if_pos h.symm]
  · unfold cmpZ; rw [if_pos h1]

/-- what the library answers along WholeRing, in the order of its calls -/
theorem ring_said (l1 l2 l3 : List UInt8) (x y z : Int) (h1 : l1 = wr x) (h2 : l2 = wr y) (h3 : l3 = wr z) (hx : x.natAbs < 10 ^ 185) (hy : y.natAbs < 10 ^ 185) (hz : z.natAbs < 10 ^ 185) :
    ∃ ls lp lr lu : List UInt8,
      (∀ W, Calls Tryz.prog 27 #[.string ⟨l1.toArray⟩, .string ⟨l2.toArray⟩] W fun e w' => e = .returned (.tuple #[.string ⟨ls.toArray⟩, .int .i64 0]) ∧ Below W.heap.size W w') ∧
      (∀ W, Calls Tryz.prog 27 #[.string ⟨l2.toArray⟩, .string ⟨l1.toArray⟩] W fun e w' => e = .returned (.tuple #[.string ⟨ls.toArray⟩, .int .i64 0]) ∧ Below W.heap.size W w') ∧
      (∀ W, Calls Tryz.prog 29 #[.string ⟨ls.toArray⟩, .string ⟨l2.toArray⟩] W fun e w' => e = .returned (.tuple #[.string ⟨l1.toArray⟩, .int .i64 0]) ∧ Below W.heap.size W w') ∧
      (∀ W, Calls Tryz.prog 31 #[.string ⟨l1.toArray⟩, .string ⟨l3.toArray⟩] W fun e w' => e = .returned (.tuple #[.string ⟨lp.toArray⟩, .int .i64 0]) ∧ Below W.heap.size W w') ∧
      (∀ W, Calls Tryz.prog 31 #[.string ⟨l3.toArray⟩, .string ⟨l1.toArray⟩] W fun e w' => e = .returned (.tuple #[.string ⟨lp.toArray⟩, .int .i64 0]) ∧ Below W.heap.size W w') ∧
      (∀ W, Calls Tryz.prog 31 #[.string ⟨l2.toArray⟩, .string ⟨l3.toArray⟩] W fun e w' => e = .returned (.tuple #[.string ⟨lr.toArray⟩, .int .i64 0]) ∧ Below W.heap.size W w') ∧
      (∀ W, Calls Tryz.prog 27 #[.string ⟨lp.toArray⟩, .string ⟨lr.toArray⟩] W fun e w' => e = .returned (.tuple #[.string ⟨lu.toArray⟩, .int .i64 0]) ∧ Below W.heap.size W w') ∧
      (∀ W, Calls Tryz.prog 31 #[.string ⟨ls.toArray⟩, .string ⟨l3.toArray⟩] W fun e w' => e = .returned (.tuple #[.string ⟨lu.toArray⟩, .int .i64 0]) ∧ Below W.heap.size W w') ∧
      ((z = 0 ∧ l3 = [48]) ∨ ((l3 == [48]) = false ∧ ∃ (lo lm lq la : List UInt8) (sg : Int), (sg = 0 ∨ sg = 1) ∧
        (∀ W, Calls Tryz.prog 33 #[.string ⟨lp.toArray⟩, .string ⟨l3.toArray⟩] W fun e w' => e = .returned (.tuple #[.string ⟨l1.toArray⟩, .string ⟨#[48]⟩, .int .i64 0]) ∧ Below W.heap.size W w') ∧
        (∀ W, Calls Tryz.prog 25 #[.string ⟨l3.toArray⟩] W fun e w' => e = .returned (.tuple #[.string ⟨la.toArray⟩, .int .i64 0]) ∧ Below W.heap.size W w') ∧
        (∀ W, Calls Tryz.prog 33 #[.string ⟨l1.toArray⟩, .string ⟨l3.toArray⟩] W fun e w' => e = .returned (.tuple #[.string ⟨lo.toArray⟩, .string ⟨lm.toArray⟩, .int .i64 0]) ∧ Below W.heap.size W w') ∧
        (∀ W, Calls Tryz.prog 31 #[.string ⟨lo.toArray⟩, .string ⟨l3.toArray⟩] W fun e w' => e = .returned (.tuple #[.string ⟨lq.toArray⟩, .int .i64 0]) ∧ Below W.heap.size W w') ∧
        (∀ W, Calls Tryz.prog 27 #[.string ⟨lq.toArray⟩, .string ⟨lm.toArray⟩] W fun e w' => e = .returned (.tuple #[.string ⟨l1.toArray⟩, .int .i64 0]) ∧ Below W.heap.size W w') ∧
        (∀ W, Calls Tryz.prog 17 #[.string ⟨lm.toArray⟩] W fun e w' => e = .returned (.tuple #[.int .i64 sg, .int .i64 0]) ∧ Below W.heap.size W w') ∧
        (∀ W, Calls Tryz.prog 19 #[.string ⟨lm.toArray⟩, .string ⟨la.toArray⟩] W fun e w' => e = .returned (.tuple #[.int .i64 (-1), .int .i64 0]) ∧ Below W.heap.size W w'))) := by
  have r1 : rd l1 = some x := by rw [h1]; exact rd_wr (rd_short hx (by omega))
  have r2 : rd l2 = some y := by rw [h2]; exact rd_wr (rd_short hy (by omega))
  have r3 : rd l3 = some z := by rw [h3]; exact rd_wr (rd_short hz (by omega))
  have rs : rd (wr (x + y)) = some (x + y) := rd_wr (rd_short (add_low hx hy) (by omega))
  have rp : rd (wr (x * z)) = some (x * z) := rd_wr (rd_short (mul_low hx hz) (by omega))
  have rr : rd (wr (y * z)) = some (y * z) := rd_wr (rd_short (mul_low hy hz) (by omega))
  have m1 := mul_low hx hz
  have m2 := mul_low hy hz
  have m3 := add_low m1 m2
  have ru : rd (wr (x * z + y * z)) = some (x * z + y * z) := rd_wr (rd_short m3 (by omega))
  refine ⟨wr (x + y), wr (x * z), wr (y * z), wr (x * z + y * z), ?_, ?_, ?_, ?_, ?_, ?_, ?_, ?_, ?_⟩
  · intro W; have h := wadd_some l1 l2 x y W r1 r2; rwa [outV_rd rs] at h
  · intro W; have h := wadd_some l2 l1 y x W r2 r1; rwa [Int.add_comm y x, outV_rd rs] at h
  · intro W; have h := wsub_some _ l2 (x + y) y W rs r2; rwa [Int.add_sub_cancel, outV_rd r1] at h
  · intro W; have h := wmul_some l1 l3 x z W r1 r3; rwa [outV_rd rp] at h
  · intro W; have h := wmul_some l3 l1 z x W r3 r1; rwa [Int.mul_comm z x, outV_rd rp] at h
  · intro W; have h := wmul_some l2 l3 y z W r2 r3; rwa [outV_rd rr] at h
  · intro W; have h := wadd_some _ _ _ _ W rp rr; rwa [outV_rd ru] at h
  · intro W; have h := wmul_some _ l3 _ z W rs r3; rwa [Int.add_mul, outV_rd ru] at h
  by_cases h0 : z = 0
  · left; subst h0; exact ⟨rfl, by rw [h3]; decide +kernel⟩
  right
  have e0 : (wr 0 : List UInt8) = [48] := by decide +kernel
  have d1 : x / z * z + x % z = x := by rw [Int.mul_comm]; exact Int.mul_ediv_add_emod x z
  have bo : (x / z).natAbs < 10 ^ 185 := Nat.lt_of_le_of_lt (Int.natAbs_ediv_le_natAbs x z) hx
  have bm : (x % z).natAbs < 10 ^ 185 := by
    have g0 := Int.emod_nonneg x h0
    have g1 := Int.emod_lt x h0
    omega
  have ro : rd (wr (x / z)) = some (x / z) := rd_wr (rd_short bo (by omega))
  have rm : rd (wr (x % z)) = some (x % z) := rd_wr (rd_short bm (by omega))
  have rq : rd (wr (x / z * z)) = some (x / z * z) := rd_wr (rd_short (mul_low bo hz) (by omega))
  have ra : rd (wr (z.natAbs : Int)) = some (z.natAbs : Int) := rd_wr (rd_short (k := 185) (by rw [Int.natAbs_natCast]; exact hz) (by omega))
  obtain ⟨g1, g2⟩ := mod_sign x h0
  refine ⟨by rw [beq_eq_false_iff_ne, h3, ← e0]; exact wr_ne h0, wr (x / z), wr (x % z), wr (x / z * z), wr (z.natAbs : Int), signZ (x % z), g1, ?_, ?_, ?_, ?_, ?_, ?_, ?_⟩
  · intro W; have h := wdiv_some _ l3 _ z W rp r3 h0; rwa [Int.mul_ediv_cancel x h0, Int.mul_emod_left, ← h1, e0] at h
  · intro W; have h := wabs_some l3 z W r3; rwa [outV_rd ra] at h
  · intro W; exact wdiv_some l1 l3 x z W r1 r3 h0
  · intro W; have h := wmul_some _ l3 _ z W ro r3; rwa [outV_rd rq] at h
  · intro W; have h := wadd_some _ _ _ _ W rq rm; rwa [d1, outV_rd r1] at h
  · intro W; exact wsign_some _ _ W rm
  · intro W; have h := wcmp_some _ _ _ _ W rm ra; rwa [g2] at h

set_option maxRecDepth 100000 in
set_option maxHeartbeats 8000000 in
theorem ring_core (b1 : Bool) (A1 : Option Addr) (n1 c1 z1 : Nat) (xs1 : List Nat) (b2 : Bool) (A2 : Option Addr) (n2 c2 z2 : Nat) (xs2 : List Nat) (b3 : Bool) (A3 : Option Addr) (n3 c3 z3 : Nat) (xs3 : List Nat) (w : World) (hg : Gnd w) (h1 : DraftIn w b1 A1 n1 c1 z1 xs1) (h2 : DraftIn w b2 A2 n2 c2 z2 xs2) (h3 : DraftIn w b3 A3 n3 c3 z3 xs3) :
    Calls Tryz.prog 7 #[.agg #[.bool b1, .slice A1 n1 c1, .int .u16 (z1 : Int)], .agg #[.bool b2, .slice A2 n2 c2, .int .u16 (z2 : Int)], .agg #[.bool b3, .slice A3 n3 c3, .int .u16 (z3 : Int)]] w fun e w' => e = .returned (.bool true) ∧ Below w.heap.size w w' := by
  have hT0 : ThreeD w (.bool b1) (.slice A1 n1 c1) (.int .u16 (z1 : Int)) (.bool b2) (.slice A2 n2 c2) (.int .u16 (z2 : Int)) (.bool b3) (.slice A3 n3 c3) (.int .u16 (z3 : Int)) (((w.alloc (.cells #[.bool b1, .slice A1 n1 c1, .int .u16 (z1 : Int)] 25)).alloc (.cells #[.bool b2, .slice A2 n2 c2, .int .u16 (z2 : Int)] 25)).alloc (.cells #[.bool b3, .slice A3 n3 c3, .int .u16 (z3 : Int)] 25)) := by
    have hb : Below w.heap.size w (((w.alloc (.cells #[.bool b1, .slice A1 n1 c1, .int .u16 (z1 : Int)] 25)).alloc (.cells #[.bool b2, .slice A2 n2 c2, .int .u16 (z2 : Int)] 25)).alloc (.cells #[.bool b3, .slice A3 n3 c3, .int .u16 (z3 : Int)] 25)) := (((Below.refl _ _).alloc (Nat.le_refl _) _).alloc (by simp) _).alloc (by simp; omega) _
    refine ⟨⟨hb, hg.below hb⟩, ?_, ?_, ?_, ?_, ?_, ?_, ?_, ?_, ?_⟩ <;> simp [go_sem]
  have hwk := works_any _ hT0.1.2
  have K1 : Hid (∀ W, ThreeD w (.bool b1) (.slice A1 n1 c1) (.int .u16 (z1 : Int)) (.bool b2) (.slice A2 n2 c2) (.int .u16 (z2 : Int)) (.bool b3) (.slice A3 n3 c3) (.int .u16 (z3 : Int)) W → Calls Tryz.prog 41 #[.agg #[.bool b1, .slice A1 n1 c1, .int .u16 (z1 : Int)]] W fun e w' => ∃ l : List UInt8, e = .returned (.string ⟨l.toArray⟩) ∧ (∃ x : Int, l = wr x ∧ x.natAbs < 10 ^ 185) ∧ ThreeD w (.bool b1) (.slice A1 n1 c1) (.int .u16 (z1 : Int)) (.bool b2) (.slice A2 n2 c2) (.int .u16 (z2 : Int)) (.bool b3) (.slice A3 n3 c3) (.int .u16 (z3 : Int)) w') := Lib.hid (short_keep (w0 := w) threeD_step (fun W h => h.1.1) h1)
  have K2 : Hid (∀ W, ThreeD w (.bool b1) (.slice A1 n1 c1) (.int .u16 (z1 : Int)) (.bool b2) (.slice A2 n2 c2) (.int .u16 (z2 : Int)) (.bool b3) (.slice A3 n3 c3) (.int .u16 (z3 : Int)) W → Calls Tryz.prog 41 #[.agg #[.bool b2, .slice A2 n2 c2, .int .u16 (z2 : Int)]] W fun e w' => ∃ l : List UInt8, e = .returned (.string ⟨l.toArray⟩) ∧ (∃ x : Int, l = wr x ∧ x.natAbs < 10 ^ 185) ∧ ThreeD w (.bool b1) (.slice A1 n1 c1) (.int .u16 (z1 : Int)) (.bool b2) (.slice A2 n2 c2) (.int .u16 (z2 : Int)) (.bool b3) (.slice A3 n3 c3) (.int .u16 (z3 : Int)) w') := Lib.hid (short_keep (w0 := w) threeD_step (fun W h => h.1.1) h2)
  have K3 : Hid (∀ W, ThreeD w (.bool b1) (.slice A1 n1 c1) (.int .u16 (z1 : Int)) (.bool b2) (.slice A2 n2 c2) (.int .u16 (z2 : Int)) (.bool b3) (.slice A3 n3 c3) (.int .u16 (z3 : Int)) W → Calls Tryz.prog 41 #[.agg #[.bool b3, .slice A3 n3 c3, .int .u16 (z3 : Int)]] W fun e w' => ∃ l : List UInt8, e = .returned (.string ⟨l.toArray⟩) ∧ (∃ x : Int, l = wr x ∧ x.natAbs < 10 ^ 185) ∧ ThreeD w (.bool b1) (.slice A1 n1 c1) (.int .u16 (z1 : Int)) (.bool b2) (.slice A2 n2 c2) (.int .u16 (z2 : Int)) (.bool b3) (.slice A3 n3 c3) (.int .u16 (z3 : Int)) w') := Lib.hid (short_keep (w0 := w) threeD_step (fun W h => h.1.1) h3)
  clear h1 h2 h3 hg
  go_enter Tryz.func7, Tryz.ntmps7
  go_wp2_with fail
  refine hwk.mono ?_
  rintro e w1 ⟨rfl, hb1⟩
  have hT1 := threeD_step _ _ hT0 hb1
  clear hT0 hwk hb1
  go_wp2_with fail
  go_region_held3 (fun W => (Below w.heap.size w W ∧ Gnd W) ∧ W.cell? ⟨w.heap.size, 0, none⟩ = some (.bool b1) ∧ W.cell? ⟨w.heap.size, 1, none⟩ = some (.slice A1 n1 c1) ∧ W.cell? ⟨w.heap.size, 2, none⟩ = some (.int .u16 (z1 : Int)) ∧ W.cell? ⟨w.heap.size + 1, 0, none⟩ = some (.bool b2) ∧ W.cell? ⟨w.heap.size + 1, 1, none⟩ = some (.slice A2 n2 c2) ∧ W.cell? ⟨w.heap.size + 1, 2, none⟩ = some (.int .u16 (z2 : Int)) ∧ W.cell? ⟨w.heap.size + 2, 0, none⟩ = some (.bool b3) ∧ W.cell? ⟨w.heap.size + 2, 1, none⟩ = some (.slice A3 n3 c3) ∧ W.cell? ⟨w.heap.size + 2, 2, none⟩ = some (.int .u16 (z3 : Int))) (first | with_reducible assumption | exact ⟨⟨hT1.1.1.drew, hT1.1.2.below ((Below.refl _ _).drew)⟩, hT1.2⟩)
    (first
      | (go_at_call 41; with_reducible refine (K1.out _ ?_).mono ?_; with_reducible assumption; rintro e w2 ⟨l1, rfl, hl1, hS2⟩)
      | (go_at_call 41; with_reducible refine (K2.out _ ?_).mono ?_; with_reducible assumption; rintro e w3 ⟨l2, rfl, hl2, hS3⟩)
      | (go_at_call 41; with_reducible refine (K3.out _ ?_).mono ?_; with_reducible assumption; rintro e w4 ⟨l3, rfl, hl3, hS4⟩))
  obtain ⟨x, hlx, hx⟩ := hl1
  obtain ⟨y, hly, hy⟩ := hl2
  obtain ⟨z, hlz, hz⟩ := hl3
  have hS := hS4.1
  clear hS2 hS3 hS4 hT1 K1 K2 K3
  obtain ⟨ls, lp, lr, lu, k1, k2, k3, k4, k5, k6, k7, k8, hk⟩ := ring_said l1 l2 l3 x y z hlx hly hlz hx hy hz
  have C1 := Lib.hid k1
  have C2 := Lib.hid k2
  have C3 := Lib.hid k3
  have C4 := Lib.hid k4
  have C5 := Lib.hid k5
  have C6 := Lib.hid k6
  have C7 := Lib.hid k7
  have C8 := Lib.hid k8
  have HK := Lib.hid hk
  clear k1 k2 k3 k4 k5 k6 k7 k8 hk hlx hly hlz hx hy hz
  go_wp2_with fail
  refine (wstep (w := w) hS (C1.out _)).mono ?_
  rintro e vC1 ⟨rfl, hT1⟩
  clear hS
  go_wp2_with fail
  refine (wstep (w := w) hT1 (C2.out _)).mono ?_
  rintro e vC2 ⟨rfl, hT2⟩
  clear hT1
  go_wp2_with fail
  refine (wstep (w := w) hT2 (C3.out _)).mono ?_
  rintro e vC3 ⟨rfl, hT3⟩
  clear hT2
  go_wp2_with fail
  refine (wstep (w := w) hT3 (C4.out _)).mono ?_
  rintro e vC4 ⟨rfl, hT4⟩
  clear hT3
  go_wp2_with fail
  refine (wstep (w := w) hT4 (C5.out _)).mono ?_
  rintro e vC5 ⟨rfl, hT5⟩
  clear hT4
  go_wp2_with fail
  refine (wstep (w := w) hT5 (C6.out _)).mono ?_
  rintro e vC6 ⟨rfl, hT6⟩
  clear hT5
  go_wp2_with fail
  refine (wstep (w := w) hT6 (C7.out _)).mono ?_
  rintro e vC7 ⟨rfl, hT7⟩
  clear hT6
  go_wp2_with fail
  refine (wstep (w := w) hT7 (C8.out _)).mono ?_
  rintro e vC8 ⟨rfl, hT8⟩
  clear hT7
  rcases HK.out with ⟨_, hl0⟩ | ⟨hne, lo, lm, lq, la, sg, hsg, k1, k2, k3, k4, k5, k6, k7⟩
  · subst hl0
    clear HK
    go_wp2_with fail
    go_ret
    exact ⟨rfl, hT8.1⟩
  · have E1 := Lib.hid k1
    have E2 := Lib.hid k2
    have E3 := Lib.hid k3
    have E4 := Lib.hid k4
    have E5 := Lib.hid k5
    have E6 := Lib.hid k6
    have E7 := Lib.hid k7
    clear k1 k2 k3 k4 k5 k6 k7 HK
    go_wp2_with fail
    refine (wstep (w := w) hT8 (E1.out _)).mono ?_
    rintro e vE1 ⟨rfl, hE1⟩
    clear hT8
    go_wp2_with fail
    refine (wstep (w := w) hE1 (E2.out _)).mono ?_
    rintro e vE2 ⟨rfl, hE2⟩
    clear hE1
    go_wp2_with fail
    refine (wstep (w := w) hE2 (E3.out _)).mono ?_
    rintro e vE3 ⟨rfl, hE3⟩
    clear hE2
    go_wp2_with fail
    refine (wstep (w := w) hE3 (E4.out _)).mono ?_
    rintro e vE4 ⟨rfl, hE4⟩
    clear hE3
    go_wp2_with fail
    refine (wstep (w := w) hE4 (E5.out _)).mono ?_
    rintro e vE5 ⟨rfl, hE5⟩
    clear hE4
    go_wp2_with fail
    refine (wstep (w := w) hE5 (E6.out _)).mono ?_
    rintro e vE6 ⟨rfl, hE6⟩
    clear hE5
    go_wp2_with fail
    refine (wstep (w := w) hE6 (E7.out _)).mono ?_
    rintro e vE7 ⟨rfl, hE7⟩
    clear hE6
    rcases hsg with rfl | rfl
    all_goals
      go_wp2_with fail
      go_ret
      exact ⟨rfl, hE7.1⟩

end Go.Proofs.YtcigciclpdnbhaaGreatDoor

namespace Go.Proofs.YtcigciclpdnbhaaGreatDoor.ring
open Go.ChangeShapes Go.WideShapes Go.ChangeAt Go.RowKit Vd

/-- The door's own heap meets the row's list. -/
theorem door_met (os : Os) (args : Array Value) : laidMetH Tryz.prog Rows.wholeRingRow.laid ((World.doorLaid Tryz.prog 400 os).forCall (fun _ _ => 0) ⟨#[], args, []⟩).memory :=
  laidMetH_of_parts3 (fuel := 8) (laidMet_of_run' 8 (by kernel_rfl) (by kernel_rfl)) (by kernel_rfl) (by kernel_rfl)

theorem laidOutHere : laidOutB Tryz.prog = true := by kernel_rfl

def wit : Array Value := #[.agg #[.bool false, .slice none 0 0, .int .u16 0], .agg #[.bool false, .slice none 0 0, .int .u16 0], .agg #[.bool false, .slice none 0 0, .int .u16 0]]

set_option maxRecDepth 100000 in
theorem lifted (os : Os) (started : os.Started) (H : Type) (enc : TypeId × Value → H) :
    ReturnsInHanded {} Tryz.checked os 7 .any (fun w args => (Rows.wholeRingSpec.pre enc Tryz.prog Tryz.f7 [] false w args ∧ laidMetH Tryz.prog Rows.wholeRingRow.laid w) ∧ sizedMet enc Tryz.prog Tryz.f7 (OpenSpec.ofChange Rows.wholeRingSpec) false w args)
      (Rows.wholeRingSpec.post enc Tryz.prog Tryz.f7 false true false false) := by
  refine returnsInHanded_of_change_and (C := Tryz.checked) (X := fun w _ => laidMetH Tryz.prog Rows.wholeRingRow.laid w) (fun _ _ _ hh h => h.of_heap hh) ownKnobNone started (by kernel_rfl) Tryz.func7
    (ChangeSpec.witness_shaped (enc := enc) (C := Tryz.checked) (os := os) (X := fun w _ => laidMetH Tryz.prog Rows.wholeRingRow.laid w) false (World.doorLaid Tryz.prog 400 os) wit 8 rfl (World.shaped_of_RefB (by kernel_rfl) (by kernel_rfl)) (by kernel_rfl) (by kernel_rfl) (by kernel_rfl) (door_met os _)) ?_
  intro W base args ds gs before hval0 hW _ _ hL _
  have hval : ∀ (j : Nat) t v, Tryz.f7.params[j]? = some t → args[j]? = some v → Value.okWide Tryz.prog W .any base t v := hval0
  have hW' := hW
  obtain ⟨p, q, hA0, hV, rfl, hfz, hnd⟩ := hW
  have hA : DataW.TrodAll enc Tryz.prog W 0 (fun _ => true) true Tryz.f7.params.toList args.toList ds p := hA0
  rw [Tryz.params7] at hA hval
  obtain ⟨v0, vs0, d0, ds0, p0, q0, hargs, rfl, rfl, h0, r0⟩ := trodAll_cons hA
  obtain ⟨v1, vs1, d1, ds1, p1, q1, rfl, rfl, rfl, h1, r1⟩ := trodAll_cons r0
  obtain ⟨v2, vs2, d2, ds2, p2, q2, rfl, rfl, rfl, h2, r2⟩ := trodAll_cons r1
  obtain ⟨rfl, rfl, rfl⟩ := trodAll_nil r2
  obtain rfl : args = #[v0, v1, v2] := by cases args; simp_all
  obtain ⟨rfl, rfl⟩ := trodVars_none hV
  obtain ⟨b1, A1, n1, c1, z1, xs1, rfl, D1⟩ := open_draft (hval 0 _ _ rfl rfl) h0
  obtain ⟨b2, A2, n2, c2, z2, xs2, rfl, D2⟩ := open_draft (hval 1 _ _ rfl rfl) h1
  obtain ⟨b3, A3, n3, c3, z3, xs3, rfl, D3⟩ := open_draft (hval 2 _ _ rfl rfl) h2
  refine (ring_core b1 A1 n1 c1 z1 xs1 b2 A2 n2 c2 z2 xs2 b3 A3 n3 c3 z3 xs3 W (gnd_of_laid hL) D1 D2 D3).mono fun e W' ⟨he, hb⟩ => ?_
  subst he
  exact ⟨_, rfl, post_true (tb := 4) laidOutHere (by kernel_rfl) Tryz.underlying4 (by kernel_rfl) rfl rfl hW' hb⟩

theorem said : Rows.WholeRingSaid :=
  OpenClaim.holds_of_wide 7 Tryz.f7 rfl rfl rfl rfl rfl rfl rfl ⟨rfl, rfl, rfl, rfl, rfl⟩ rfl rfl rfl rfl rfl (by kernel_rfl) Tryz.func7 (by kernel_rfl)
    (of_decide_eq_true (by kernel_rfl)) (by unfold Func.isWrapper; first | (rw [if_pos (by decide +kernel)]; kernel_rfl) | (rw [if_neg (by decide +kernel)]; exact ⟨rfl, rfl⟩))
    (fun os started H enc _ => lifted os started H enc)

theorem plain (f : FuncId) (fn : Func) (hf : Tryz.pinned.checked.prog.funcNamed "verdigris/verdigrislaw01.WholeRing" = some f) (hfn : Tryz.pinned.checked.prog.funcs[f]? = some fn) :
    true = Tryz.pinned.checked.prog.looks [] ∧ ∀ (j : Nat) t, fn.params[j]? = some t → Tryz.pinned.checked.prog.wantsStandIn t = false := by
  obtain rfl : f = 7 := Option.some.inj ((show Tryz.prog.funcNamed "verdigris/verdigrislaw01.WholeRing" = some 7 by kernel_rfl).symm.trans hf) |>.symm
  obtain rfl : fn = Tryz.f7 := (Option.some.inj (Tryz.func7.symm.trans hfn)).symm
  refine ⟨by kernel_rfl, fun j t ht => ?_⟩
  rw [Tryz.params7] at ht
  obtain rfl : t = 25 := by simpa using Array.mem_of_getElem? ht
  exact (show Tryz.prog.wantsStandIn 25 = false by kernel_rfl)

/-- THE CARD. -/
theorem card : Rows.WholeRingCardSaid :=
  Claim7.holds_tied_plain_at .later [] _ _ _ _ said (fun _ h => by cases h) (by kernel_rfl) (fun _ h => by cases h) wholeRing_row_tie rfl ⟨rfl, rfl⟩ (by kernel_rfl) rfl plain (by kernel_rfl)
#print axioms card
end Go.Proofs.YtcigciclpdnbhaaGreatDoor.ring
