/- WholeDivides: for every three drafts the law returns true, and every argument reads behind the call as it read before. CONDITIONS: none on the arguments; the five package-level variables that the row lists read, when the call begins, as the text of the program lays them. -/
import Derived.Test.YtcigciclpdnbhaaGreatDoorLawA
import Derived.Test.YtcigciclpdnbhaaGreatDoorCardA
namespace Go.Proofs.YtcigciclpdnbhaaGreatDoor
open Go.RowKit Vd
attribute [local go_sem ↓] Go.wp_at_zero Go.wp_at_succ

theorem gcd_low {x y : Int} {k : Nat} (hx : x.natAbs < 10 ^ k) (hy : y.natAbs < 10 ^ k) : ((Nat.gcd x.natAbs y.natAbs : Nat) : Int).natAbs < 10 ^ k := by
  rw [Int.natAbs_natCast]
  rcases Nat.eq_zero_or_pos x.natAbs with h | h
  · rw [h, Nat.gcd_zero_left]; exact hy
  · exact Nat.lt_of_le_of_lt (Nat.le_of_dvd h (Nat.gcd_dvd_left _ _)) hx

/-- what the greatest common divisor leaves of both numbers -/
theorem gcd_parts (x y : Int) (h : Nat.gcd x.natAbs y.natAbs ≠ 0) : ∃ u v : Int, x = ((Nat.gcd x.natAbs y.natAbs : Nat) : Int) * u ∧ y = ((Nat.gcd x.natAbs y.natAbs : Nat) : Int) * v ∧ Nat.gcd u.natAbs v.natAbs = 1 ∧ u.natAbs ≤ x.natAbs ∧ v.natAbs ≤ y.natAbs := by
  obtain ⟨u, hu⟩ : ((Nat.gcd x.natAbs y.natAbs : Nat) : Int) ∣ x := Int.ofNat_dvd_left.2 (Nat.gcd_dvd_left _ _)
  obtain ⟨v, hv⟩ : ((Nat.gcd x.natAbs y.natAbs : Nat) : Int) ∣ y := Int.ofNat_dvd_left.2 (Nat.gcd_dvd_right _ _)
  have au : x.natAbs = Nat.gcd x.natAbs y.natAbs * u.natAbs := by
    have := congrArg Int.natAbs hu
    rwa [Int.natAbs_mul, Int.natAbs_natCast] at this
  have av : y.natAbs = Nat.gcd x.natAbs y.natAbs * v.natAbs := by
    have := congrArg Int.natAbs hv
    rwa [Int.natAbs_mul, Int.natAbs_natCast] at this
  refine ⟨u, v, hu, hv, ?_, ?_, ?_⟩
  · have e : Nat.gcd x.natAbs y.natAbs * Nat.gcd u.natAbs v.natAbs = Nat.gcd x.natAbs y.natAbs * 1 := by
      rw [← Nat.gcd_mul_left, ← au, ← av, Nat.mul_one]
    exact Nat.eq_of_mul_eq_mul_left (Nat.pos_of_ne_zero h) e
  · exact Nat.le_trans (Nat.le_mul_of_pos_left _ (Nat.pos_of_ne_zero h)) (Nat.le_of_eq au.symm)
  · exact Nat.le_trans (Nat.le_mul_of_pos_left _ (Nat.pos_of_ne_zero h)) (Nat.le_of_eq av.symm)

theorem gcd_none {x y : Int} (h : Nat.gcd x.natAbs y.natAbs = 0) : x = 0 ∧ y = 0 := by
  have h1 := Nat.eq_zero_of_gcd_eq_zero_left h
  have h2 := Nat.eq_zero_of_gcd_eq_zero_right h
  omega

/-- what the library answers along WholeDivides, in the order of its calls -/
theorem divides_said (l1 l2 l3 : List UInt8) (x y z : Int) (h1 : l1 = wr x) (h2 : l2 = wr y) (h3 : l3 = wr z) (hx : x.natAbs < 10 ^ 185) (hy : y.natAbs < 10 ^ 185) (hz : z.natAbs < 10 ^ 185) :
    ∃ lg : List UInt8,
      (∀ W, Calls Tryz.prog 35 #[.string ⟨l1.toArray⟩, .string ⟨l2.toArray⟩] W fun e w' => e = .returned (.tuple #[.string ⟨lg.toArray⟩, .int .i64 0]) ∧ Below W.heap.size W w') ∧
      ((lg = [48] ∧ l1 = [48] ∧ l2 = [48]) ∨ ((lg == [48]) = false ∧ ∃ lp lq lm ln lk lw : List UInt8,
        (∀ W, Calls Tryz.prog 33 #[.string ⟨l1.toArray⟩, .string ⟨lg.toArray⟩] W fun e w' => e = .returned (.tuple #[.string ⟨lp.toArray⟩, .string ⟨#[48]⟩, .int .i64 0]) ∧ Below W.heap.size W w') ∧
        (∀ W, Calls Tryz.prog 33 #[.string ⟨l2.toArray⟩, .string ⟨lg.toArray⟩] W fun e w' => e = .returned (.tuple #[.string ⟨lq.toArray⟩, .string ⟨#[48]⟩, .int .i64 0]) ∧ Below W.heap.size W w') ∧
        (∀ W, Calls Tryz.prog 35 #[.string ⟨lp.toArray⟩, .string ⟨lq.toArray⟩] W fun e w' => e = .returned (.tuple #[.string ⟨#[49]⟩, .int .i64 0]) ∧ Below W.heap.size W w') ∧
        (∀ W, Calls Tryz.prog 31 #[.string ⟨l1.toArray⟩, .string ⟨l3.toArray⟩] W fun e w' => e = .returned (.tuple #[.string ⟨lm.toArray⟩, .int .i64 0]) ∧ Below W.heap.size W w') ∧
        (∀ W, Calls Tryz.prog 31 #[.string ⟨l2.toArray⟩, .string ⟨l3.toArray⟩] W fun e w' => e = .returned (.tuple #[.string ⟨ln.toArray⟩, .int .i64 0]) ∧ Below W.heap.size W w') ∧
        (∀ W, Calls Tryz.prog 35 #[.string ⟨lm.toArray⟩, .string ⟨ln.toArray⟩] W fun e w' => e = .returned (.tuple #[.string ⟨lk.toArray⟩, .int .i64 0]) ∧ Below W.heap.size W w') ∧
        (∀ W, Calls Tryz.prog 31 #[.string ⟨lg.toArray⟩, .string ⟨l3.toArray⟩] W fun e w' => e = .returned (.tuple #[.string ⟨lw.toArray⟩, .int .i64 0]) ∧ Below W.heap.size W w') ∧
        (∀ W, Calls Tryz.prog 25 #[.string ⟨lw.toArray⟩] W fun e w' => e = .returned (.tuple #[.string ⟨lk.toArray⟩, .int .i64 0]) ∧ Below W.heap.size W w'))) := by
  have r1 : rd l1 = some x := by rw [h1]; exact rd_wr (rd_short hx (by omega))
  have r2 : rd l2 = some y := by rw [h2]; exact rd_wr (rd_short hy (by omega))
  have r3 : rd l3 = some z := by rw [h3]; exact rd_wr (rd_short hz (by omega))
  have gl := gcd_low hx hy
  have e0 : (wr 0 : List UInt8) = [48] := by decide +kernel
  have e1 : (wr 1 : List UInt8) = [49] := by decide +kernel
  have q1 : rd [49] = some 1 := by decide +kernel
  have hgx := gcd_parts x y
  have hgn : Nat.gcd x.natAbs y.natAbs = 0 → x = 0 ∧ y = 0 := gcd_none
  have hmm : Nat.gcd (x * z).natAbs (y * z).natAbs = Nat.gcd x.natAbs y.natAbs * z.natAbs := by rw [Int.natAbs_mul, Int.natAbs_mul, Nat.gcd_mul_right]
  have G0 : ∀ W, Calls Tryz.prog 35 #[.string ⟨l1.toArray⟩, .string ⟨l2.toArray⟩] W fun e w' => e = .returned (outV ((Nat.gcd x.natAbs y.natAbs : Nat) : Int)) ∧ Below W.heap.size W w' := fun W => wgcd_some l1 l2 x y W r1 r2
  generalize Nat.gcd x.natAbs y.natAbs = g at *
  have rg : rd (wr (g : Int)) = some (g : Int) := rd_wr (rd_short gl (by omega))
  refine ⟨wr (g : Int), ?_, ?_⟩
  · intro W; have h := G0 W; rwa [outV_rd rg] at h
  by_cases h0 : g = 0
  · left
    obtain ⟨rfl, rfl⟩ := hgn h0
    subst h0
    exact ⟨e0, h1.trans e0, h2.trans e0⟩
  right
  obtain ⟨u, v, hu, hv, huv, bu, bv⟩ := hgx h0
  have gz : (g : Int) ≠ 0 := by omega
  have du : x / (g : Int) = u := by rw [hu]; exact Int.mul_ediv_cancel_left u gz
  have dv : y / (g : Int) = v := by rw [hv]; exact Int.mul_ediv_cancel_left v gz
  have mu : x % (g : Int) = 0 := by rw [hu]; exact Int.mul_emod_right _ _
  have mv : y % (g : Int) = 0 := by rw [hv]; exact Int.mul_emod_right _ _
  have ru : rd (wr u) = some u := rd_wr (rd_short (Nat.lt_of_le_of_lt bu hx) (by omega))
  have rv : rd (wr v) = some v := rd_wr (rd_short (Nat.lt_of_le_of_lt bv hy) (by omega))
  have rm : rd (wr (x * z)) = some (x * z) := rd_wr (rd_short (mul_low hx hz) (by omega))
  have rn : rd (wr (y * z)) = some (y * z) := rd_wr (rd_short (mul_low hy hz) (by omega))
  have bw := mul_low gl hz
  have rw' : rd (wr ((g : Int) * z)) = some ((g : Int) * z) := rd_wr (rd_short bw (by omega))
  have ek : (((g : Int) * z).natAbs : Int) = ((g * z.natAbs : Nat) : Int) := by rw [Int.natAbs_mul, Int.natAbs_natCast]
  have rk : rd (wr ((g * z.natAbs : Nat) : Int)) = some ((g * z.natAbs : Nat) : Int) := rd_wr (rd_short (k := 185 + 185) (by rw [← ek, Int.natAbs_natCast]; exact bw) (by omega))
  refine ⟨by rw [beq_eq_false_iff_ne, ← e0]; exact wr_ne gz, wr u, wr v, wr (x * z), wr (y * z), wr ((g * z.natAbs : Nat) : Int), wr ((g : Int) * z), ?_, ?_, ?_, ?_, ?_, ?_, ?_, ?_⟩
  · intro W; have h := wdiv_some l1 _ x _ W r1 rg gz; rwa [du, mu, e0] at h
  · intro W; have h := wdiv_some l2 _ y _ W r2 rg gz; rwa [dv, mv, e0] at h
  · intro W; have h := wgcd_some _ _ u v W ru rv; rwa [huv, outV_rd (show rd [49] = some ((1 : Nat) : Int) from q1)] at h
  · intro W; have h := wmul_some l1 l3 x z W r1 r3; rwa [outV_rd rm] at h
  · intro W; have h := wmul_some l2 l3 y z W r2 r3; rwa [outV_rd rn] at h
  · intro W; have h := wgcd_some _ _ _ _ W rm rn; rwa [hmm, outV_rd rk] at h
  · intro W; have h := wmul_some _ l3 _ z W rg r3; rwa [outV_rd rw'] at h
  · intro W; have h := wabs_some _ _ W rw'; rwa [ek, outV_rd rk] at h

set_option maxRecDepth 100000 in
set_option maxHeartbeats 8000000 in
theorem divides_core (b1 : Bool) (A1 : Option Addr) (n1 c1 z1 : Nat) (xs1 : List Nat) (b2 : Bool) (A2 : Option Addr) (n2 c2 z2 : Nat) (xs2 : List Nat) (b3 : Bool) (A3 : Option Addr) (n3 c3 z3 : Nat) (xs3 : List Nat) (w : World) (hg : Gnd w) (h1 : DraftIn w b1 A1 n1 c1 z1 xs1) (h2 : DraftIn w b2 A2 n2 c2 z2 xs2) (h3 : DraftIn w b3 A3 n3 c3 z3 xs3) :
    Calls Tryz.prog 8 #[.agg #[.bool b1, .slice A1 n1 c1, .int .u16 (z1 : Int)], .agg #[.bool b2, .slice A2 n2 c2, .int .u16 (z2 : Int)], .agg #[.bool b3, .slice A3 n3 c3, .int .u16 (z3 : Int)]] w fun e w' => e = .returned (.bool true) ∧ Below w.heap.size w w' := by
  have hT0 : ThreeD w (.bool b1) (.slice A1 n1 c1) (.int .u16 (z1 : Int)) (.bool b2) (.slice A2 n2 c2) (.int .u16 (z2 : Int)) (.bool b3) (.slice A3 n3 c3) (.int .u16 (z3 : Int)) (((w.alloc (.cells #[.bool b1, .slice A1 n1 c1, .int .u16 (z1 : Int)] 25)).alloc (.cells #[.bool b2, .slice A2 n2 c2, .int .u16 (z2 : Int)] 25)).alloc (.cells #[.bool b3, .slice A3 n3 c3, .int .u16 (z3 : Int)] 25)) := by
    have hb : Below w.heap.size w (((w.alloc (.cells #[.bool b1, .slice A1 n1 c1, .int .u16 (z1 : Int)] 25)).alloc (.cells #[.bool b2, .slice A2 n2 c2, .int .u16 (z2 : Int)] 25)).alloc (.cells #[.bool b3, .slice A3 n3 c3, .int .u16 (z3 : Int)] 25)) := (((Below.refl _ _).alloc (Nat.le_refl _) _).alloc (by simp) _).alloc (by simp; omega) _
    refine ⟨⟨hb, hg.below hb⟩, ?_, ?_, ?_, ?_, ?_, ?_, ?_, ?_, ?_⟩ <;> simp [go_sem]
  have hwk := works_any _ hT0.1.2
  have K1 : Hid (∀ W, ThreeD w (.bool b1) (.slice A1 n1 c1) (.int .u16 (z1 : Int)) (.bool b2) (.slice A2 n2 c2) (.int .u16 (z2 : Int)) (.bool b3) (.slice A3 n3 c3) (.int .u16 (z3 : Int)) W → Calls Tryz.prog 41 #[.agg #[.bool b1, .slice A1 n1 c1, .int .u16 (z1 : Int)]] W fun e w' => ∃ l : List UInt8, e = .returned (.string ⟨l.toArray⟩) ∧ (∃ x : Int, l = wr x ∧ x.natAbs < 10 ^ 185) ∧ ThreeD w (.bool b1) (.slice A1 n1 c1) (.int .u16 (z1 : Int)) (.bool b2) (.slice A2 n2 c2) (.int .u16 (z2 : Int)) (.bool b3) (.slice A3 n3 c3) (.int .u16 (z3 : Int)) w') := Lib.hid (short_keep (w0 := w) threeD_step (fun W h => h.1.1) h1)
  have K2 : Hid (∀ W, ThreeD w (.bool b1) (.slice A1 n1 c1) (.int .u16 (z1 : Int)) (.bool b2) (.slice A2 n2 c2) (.int .u16 (z2 : Int)) (.bool b3) (.slice A3 n3 c3) (.int .u16 (z3 : Int)) W → Calls Tryz.prog 41 #[.agg #[.bool b2, .slice A2 n2 c2, .int .u16 (z2 : Int)]] W fun e w' => ∃ l : List UInt8, e = .returned (.string ⟨l.toArray⟩) ∧ (∃ x : Int, l = wr x ∧ x.natAbs < 10 ^ 185) ∧ ThreeD w (.bool b1) (.slice A1 n1 c1) (.int .u16 (z1 : Int)) (.bool b2) (.slice A2 n2 c2) (.int .u16 (z2 : Int)) (.bool b3) (.slice A3 n3 c3) (.int .u16 (z3 : Int)) w') := Lib.hid (short_keep (w0 := w) threeD_step (fun W h => h.1.1) h2)
  have K3 : Hid (∀ W, ThreeD w (.bool b1) (.slice A1 n1 c1) (.int .u16 (z1 : Int)) (.bool b2) (.slice A2 n2 c2) (.int .u16 (z2 : Int)) (.bool b3) (.slice A3 n3 c3) (.int .u16 (z3 : Int)) W → Calls Tryz.prog 41 #[.agg #[.bool b3, .slice A3 n3 c3, .int .u16 (z3 : Int)]] W fun e w' => ∃ l : List UInt8, e = .returned (.string ⟨l.toArray⟩) ∧ (∃ x : Int, l = wr x ∧ x.natAbs < 10 ^ 185) ∧ ThreeD w (.bool b1) (.slice A1 n1 c1) (.int .u16 (z1 : Int)) (.bool b2) (.slice A2 n2 c2) (.int .u16 (z2 : Int)) (.bool b3) (.slice A3 n3 c3) (.int .u16 (z3 : Int)) w') := Lib.hid (short_keep (w0 := w) threeD_step (fun W h => h.1.1) h3)
  clear h1 h2 h3 hg
  go_enter Tryz.func8, Tryz.ntmps8
  go_wp2_with fail
  refine hwk.mono ?_
  rintro e w1 ⟨rfl, hb1⟩
  have hT1 := threeD_step _ _ hT0 hb1
  clear hT0 hwk hb1
  go_wp2_with fail
  go_region_held3 (fun W => (Below w.heap.size w W ∧ Gnd W) ∧ W.cell? ⟨w.heap.size, 0, none⟩ = some (.bool b1) ∧ W.cell? ⟨w.heap.size, 1, none⟩ = some (.slice A1 n1 c1) ∧ W.cell? ⟨w.heap.size, 2, none⟩ = some (.int .u16 (z1 : Int)) ∧ W.cell? ⟨w.heap.size + 1, 0, none⟩ = some (.bool b2) ∧ W.cell? ⟨w.heap.size + 1, 1, none⟩ = some (.slice A2 n2 c2) ∧ W.cell? ⟨w.heap.size + 1, 2, none⟩ = some (.int .u16 (z2 : Int)) ∧ W.cell? ⟨w.heap.size + 2, 0, none⟩ = some (.bool b3) ∧ W.cell? ⟨w.heap.size + 2, 1, none⟩ = some (.slice A3 n3 c3) ∧ W.cell? ⟨w.heap.size + 2, 2, none⟩ = some (.int .u16 (z3 : Int))) (first | with_reducible assumption | exact ⟨⟨hT1.1.1.drew, hT1.1.2.below ((Below.refl _ _).drew)⟩, hT1.2⟩)
    (first
      | (go_at_call 41; with_reducible refine (K1.out _ ?_).mono ?_; with_reducible assumption; rintro e w2 ⟨l1, rfl, hl1, hS2⟩)
      | (go_at_call 41; with_reducible refine (K2.out _ ?_).mono ?_; with_reducible assumption; rintro e w3 ⟨l2, rfl, hl2, hS3⟩)
      | (go_at_call 41; with_reducible refine (K3.out _ ?_).mono ?_; with_reducible assumption; rintro e w4 ⟨l3, rfl, hl3, hS4⟩))
  obtain ⟨x, hlx, hx⟩ := hl1
  obtain ⟨y, hly, hy⟩ := hl2
  obtain ⟨z, hlz, hz⟩ := hl3
  have hS := hS4.1
  clear hS2 hS3 hS4 hT1 K1 K2 K3
  obtain ⟨lg, k0, hk⟩ := divides_said l1 l2 l3 x y z hlx hly hlz hx hy hz
  have C0 := Lib.hid k0
  have HK := Lib.hid hk
  clear k0 hk hlx hly hlz hx hy hz
  go_wp2_with fail
  refine (wstep (w := w) hS (C0.out _)).mono ?_
  rintro e vC0 ⟨rfl, hTC0⟩
  clear hS
  rcases HK.out with ⟨hg0, ha0, hb0⟩ | ⟨hne, lp, lq, lm, ln, lk, lw, k1, k2, k3, k4, k5, k6, k7, k8⟩
  · subst hg0 ha0 hb0
    clear HK
    go_wp2_with fail
    go_ret
    exact ⟨rfl, hTC0.1⟩
  · have E1 := Lib.hid k1
    have E2 := Lib.hid k2
    have E3 := Lib.hid k3
    have E4 := Lib.hid k4
    have E5 := Lib.hid k5
    have E6 := Lib.hid k6
    have E7 := Lib.hid k7
    have E8 := Lib.hid k8
    clear k1 k2 k3 k4 k5 k6 k7 k8 HK
    go_wp2_with fail
    refine (wstep (w := w) hTC0 (E1.out _)).mono ?_
    rintro e vE1 ⟨rfl, hTE1⟩
    clear hTC0
    go_wp2_with fail
    refine (wstep (w := w) hTE1 (E2.out _)).mono ?_
    rintro e vE2 ⟨rfl, hTE2⟩
    clear hTE1
    go_wp2_with fail
    refine (wstep (w := w) hTE2 (E3.out _)).mono ?_
    rintro e vE3 ⟨rfl, hTE3⟩
    clear hTE2
    go_wp2_with fail
    refine (wstep (w := w) hTE3 (E4.out _)).mono ?_
    rintro e vE4 ⟨rfl, hTE4⟩
    clear hTE3
    go_wp2_with fail
    refine (wstep (w := w) hTE4 (E5.out _)).mono ?_
    rintro e vE5 ⟨rfl, hTE5⟩
    clear hTE4
    go_wp2_with fail
    refine (wstep (w := w) hTE5 (E6.out _)).mono ?_
    rintro e vE6 ⟨rfl, hTE6⟩
    clear hTE5
    go_wp2_with fail
    refine (wstep (w := w) hTE6 (E7.out _)).mono ?_
    rintro e vE7 ⟨rfl, hTE7⟩
    clear hTE6
    go_wp2_with fail
    refine (wstep (w := w) hTE7 (E8.out _)).mono ?_
    rintro e vE8 ⟨rfl, hTE8⟩
    clear hTE7
    go_wp2_with fail
    go_ret
    exact ⟨rfl, hTE8.1⟩

end Go.Proofs.YtcigciclpdnbhaaGreatDoor

namespace Go.Proofs.YtcigciclpdnbhaaGreatDoor.divides
open Go.ChangeShapes Go.WideShapes Go.ChangeAt Go.RowKit Vd

/-- The door's own heap meets the row's list. -/
theorem door_met (os : Os) (args : Array Value) : laidMetH Tryz.prog Rows.wholeDividesRow.laid ((World.doorLaid Tryz.prog 400 os).forCall (fun _ _ => 0) ⟨#[], args, []⟩).memory :=
  laidMetH_of_parts3 (fuel := 8) (laidMet_of_run' 8 (by kernel_rfl) (by kernel_rfl)) (by kernel_rfl) (by kernel_rfl)

theorem laidOutHere : laidOutB Tryz.prog = true := by kernel_rfl

def wit : Array Value := #[.agg #[.bool false, .slice none 0 0, .int .u16 0], .agg #[.bool false, .slice none 0 0, .int .u16 0], .agg #[.bool false, .slice none 0 0, .int .u16 0]]

set_option maxRecDepth 100000 in
theorem lifted (os : Os) (started : os.Started) (H : Type) (enc : TypeId × Value → H) :
    ReturnsInHanded {} Tryz.checked os 8 .any (fun w args => (Rows.wholeDividesSpec.pre enc Tryz.prog Tryz.f8 [] false w args ∧ laidMetH Tryz.prog Rows.wholeDividesRow.laid w) ∧ sizedMet enc Tryz.prog Tryz.f8 (OpenSpec.ofChange Rows.wholeDividesSpec) false w args)
      (Rows.wholeDividesSpec.post enc Tryz.prog Tryz.f8 false true false false) := by
  refine returnsInHanded_of_change_and (C := Tryz.checked) (X := fun w _ => laidMetH Tryz.prog Rows.wholeDividesRow.laid w) (fun _ _ _ hh h => h.of_heap hh) ownKnobNone started (by kernel_rfl) Tryz.func8
    (ChangeSpec.witness_shaped (enc := enc) (C := Tryz.checked) (os := os) (X := fun w _ => laidMetH Tryz.prog Rows.wholeDividesRow.laid w) false (World.doorLaid Tryz.prog 400 os) wit 8 rfl (World.shaped_of_RefB (by kernel_rfl) (by kernel_rfl)) (by kernel_rfl) (by kernel_rfl) (by kernel_rfl) (door_met os _)) ?_
  intro W base args ds gs before hval0 hW _ _ hL _
  have hval : ∀ (j : Nat) t v, Tryz.f8.params[j]? = some t → args[j]? = some v → Value.okWide Tryz.prog W .any base t v := hval0
  have hW' := hW
  obtain ⟨p, q, hA0, hV, rfl, hfz, hnd⟩ := hW
  have hA : DataW.TrodAll enc Tryz.prog W 0 (fun _ => true) true Tryz.f8.params.toList args.toList ds p := hA0
  rw [Tryz.params8] at hA hval
  obtain ⟨v0, vs0, d0, ds0, p0, q0, hargs, rfl, rfl, h0, r0⟩ := trodAll_cons hA
  obtain ⟨v1, vs1, d1, ds1, p1, q1, rfl, rfl, rfl, h1, r1⟩ := trodAll_cons r0
  obtain ⟨v2, vs2, d2, ds2, p2, q2, rfl, rfl, rfl, h2, r2⟩ := trodAll_cons r1
  obtain ⟨rfl, rfl, rfl⟩ := trodAll_nil r2
  obtain rfl : args = #[v0, v1, v2] := by cases args; simp_all
  obtain ⟨rfl, rfl⟩ := trodVars_none hV
  obtain ⟨b1, A1, n1, c1, z1, xs1, rfl, D1⟩ := open_draft (hval 0 _ _ rfl rfl) h0
  obtain ⟨b2, A2, n2, c2, z2, xs2, rfl, D2⟩ := open_draft (hval 1 _ _ rfl rfl) h1
  obtain ⟨b3, A3, n3, c3, z3, xs3, rfl, D3⟩ := open_draft (hval 2 _ _ rfl rfl) h2
  refine (divides_core b1 A1 n1 c1 z1 xs1 b2 A2 n2 c2 z2 xs2 b3 A3 n3 c3 z3 xs3 W (gnd_of_laid hL) D1 D2 D3).mono fun e W' ⟨he, hb⟩ => ?_
  subst he
  exact ⟨_, rfl, post_true (tb := 4) laidOutHere (by kernel_rfl) Tryz.underlying4 (by kernel_rfl) rfl rfl hW' hb⟩

theorem said : Rows.WholeDividesSaid :=
  OpenClaim.holds_of_wide 8 Tryz.f8 rfl rfl rfl rfl rfl rfl rfl ⟨rfl, rfl, rfl, rfl, rfl⟩ rfl rfl rfl rfl rfl (by kernel_rfl) Tryz.func8 (by kernel_rfl)
    (of_decide_eq_true (by kernel_rfl)) (by unfold Func.isWrapper; first | (rw [if_pos (by decide +kernel)]; kernel_rfl) | (rw [if_neg (by decide +kernel)]; exact ⟨rfl, rfl⟩))
    (fun os started H enc _ => lifted os started H enc)

theorem plain (f : FuncId) (fn : Func) (hf : Tryz.pinned.checked.prog.funcNamed "verdigris/verdigrislaw01.WholeDivides" = some f) (hfn : Tryz.pinned.checked.prog.funcs[f]? = some fn) :
    true = Tryz.pinned.checked.prog.looks [] ∧ ∀ (j : Nat) t, fn.params[j]? = some t → Tryz.pinned.checked.prog.wantsStandIn t = false := by
  obtain rfl : f = 8 := Option.some.inj ((show Tryz.prog.funcNamed "verdigris/verdigrislaw01.WholeDivides" = some 8 by kernel_rfl).symm.trans hf) |>.symm
  obtain rfl : fn = Tryz.f8 := (Option.some.inj (Tryz.func8.symm.trans hfn)).symm
  refine ⟨by kernel_rfl, fun j t ht => ?_⟩
  rw [Tryz.params8] at ht
  obtain rfl : t = 25 := by simpa using Array.mem_of_getElem? ht
  exact (show Tryz.prog.wantsStandIn 25 = false by kernel_rfl)

/-- THE CARD. -/
theorem card : Rows.WholeDividesCardSaid :=
  Claim7.holds_tied_plain_at .later [] _ _ _ _ said (fun _ h => by cases h) (by kernel_rfl) (fun _ h => by cases h) wholeDivides_row_tie rfl ⟨rfl, rfl⟩ (by kernel_rfl) rfl plain (by kernel_rfl)
#print axioms card
end Go.Proofs.YtcigciclpdnbhaaGreatDoor.divides
