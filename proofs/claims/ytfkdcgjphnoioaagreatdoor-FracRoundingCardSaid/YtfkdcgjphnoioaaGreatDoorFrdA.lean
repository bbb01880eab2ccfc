/- Contracts: package frac: Make. -/
import Derived.Test.YtfkdcgjphnoioaaGreatDoorFraK
namespace Go.Proofs.YtfkdcgjphnoioaaGreatDoor
open Go.RowKit Vd
attribute [local go_sem ↓] Go.wp_at_zero Go.wp_at_succ

set_option maxRecDepth 100000 in
set_option maxHeartbeats 2000000 in
theorem fmake_some (l1 l2 : List UInt8) (x y : Int) (w : World) (h1 : rd l1 = some x) (h2 : rd l2 = some y) (hy : y ≠ 0) :
    Calls Tryz.prog 15 #[.string ⟨l1.toArray⟩, .string ⟨l2.toArray⟩] w fun e w' => e = .returned (outF (Rat.divInt x y)) ∧ Below w.heap.size w w' := by
  have r1 := fun W => frw_some l1 x W h1
  have r2 := fun W => frw_some l2 y W h2
  have hbW : Below w.heap.size w (w.alloc (.cells #[.string ⟨#[]⟩, .string ⟨#[]⟩] 24)) := (Below.refl _ _).alloc (Nat.le_refl _) _
  have hE1 : Fr (w.alloc (.cells #[.string ⟨#[]⟩, .string ⟨#[]⟩] 24)) w.heap.size #[.string ⟨#[]⟩, .string ⟨#[]⟩] 24 := Fr.new rfl
  have wn := rd_wlen h1
  have wd := rd_wlen h2
  have hF : Fz (Rat.divInt x y) 1000000 := (Fz.divInt (K := 1000000) hy (by omega) (by omega))
  have hk : decide (wlen B64 y.natAbs = 0) = false := by
    simp; intro h; exact hy (by have := (wlen_eq_zero (b := B64) two_le_B).1 h; omega)
  have hz := fun A c W => isZero_any A (wlen B64 y.natAbs) c W
  rw [hk] at hz
  obtain ⟨L, hL⟩ : ∃ L, L = wlen B64 y.natAbs := ⟨_, rfl⟩
  rw [← hL] at hz
  obtain ⟨s, t, k, hsk⟩ := outF_open (Rat.divInt x y)
  rw [hsk]
  have HB := Lib.hid (And.intro hbW (And.intro hE1 (And.intro wn (And.intro wd (And.intro hF (And.intro hsk (And.intro hy hL)))))))
  clear h1 h2 hbW hE1 wn wd hF hsk hk hL hy
  go_enter Tryz.func15, Tryz.ntmps15
  go_wp2_with fail
  refine (r1 _).mono ?_
  rintro e w1 ⟨A1, n1, c1, k1, rfl, hv1, hb1⟩
  have HB1 := Lib.hid (And.intro hb1 hv1)
  clear r1 hb1 hv1
  go_wp2_with fail
  refine (r2 _).mono ?_
  rintro e w2 ⟨A2, n2, c2, k2, rfl, hv2, hb2⟩
  have hb1 := HB1.out.1
  have hba : Below w1.heap.size w1 (w1.alloc (.cells #[.slice A1 n1 c1, .bool k1] 87)) := (Below.refl _ _).alloc (Nat.le_refl _) _
  have hn2 : n2 = L := by
    obtain ⟨m, e, A, c, e2, _⟩ := hv2
    rw [HB.out.2.2.2.2.2.2.2]
    injection e with e
    simp at e
    rw [← e.1] at e2
    injection e2
  subst hn2
  have F6 : Fr w2 w1.heap.size #[.slice A1 n1 c1, .bool k1] 87 := (Fr.new rfl).call hb2
  have hlt : w1.heap.size < w2.heap.size := F6.lt
  have hne : w1.heap.size ≠ w2.heap.size := Nat.ne_of_lt hlt
  obtain ⟨p6, q6, -, -⟩ := F6.cells2a
  have hlo := lowest_any _ _ x y (w2.alloc (.cells #[.slice A2 n2 c2, .bool k2] 87)) ((HB1.out.2.old.below hb2).old) hv2.old (Nat.le_trans (Nat.add_le_add_right HB.out.2.2.1 2) (by unfold maxW; omega)) (Nat.le_trans (Nat.add_le_add_right HB.out.2.2.2.1 2) (by unfold maxW; omega)) HB.out.2.2.2.2.2.2.1
  have hE2 := (((HB.out.2.1.call hb1).old (u := .cells #[.slice A1 n1 c1, .bool k1] 87)).call hb2).old (u := .cells #[.slice A2 n2 c2, .bool k2] 87)
  have hB2 : Below w.heap.size w (w2.alloc (.cells #[.slice A2 n2 c2, .bool k2] 87)) := by
    have s0 := HB.out.1.size
    have s1 := hb1.size
    have s2 := hb2.size
    have s3 := hba.size
    exact belowt (belowt (belowt (belowt HB.out.1 s0 hb1) (by omega) hba) (by omega) hb2) (by omega) ((Below.refl _ _).alloc (Nat.le_refl _) _)
  have HB2 := Lib.hid (And.intro hE2 hB2)
  clear r2 hb2 hv2 hb1 hba F6 hE2 hB2
  go_wp2_with (go_at_call 64; refine (hz _ _ _).mono ?_; rintro e w9 ⟨rfl, rfl⟩)
  refine hlo.mono ?_
  rintro e w3 ⟨v, rfl, hv, hb3⟩
  have hw := fwrite_any v _ w3 hv HB.out.2.2.2.2.1
  rw [HB.out.2.2.2.2.2.1] at hw
  obtain ⟨A3, n3, c3, k3, A4, n4, c4, k4, rfl, _, _⟩ := hv.open
  have HB3 := Lib.hid hb3
  clear hlo hb3 hv
  go_wp2_with fail
  refine hw.mono ?_
  rintro e w4 ⟨rfl, hb4⟩
  have hF1 := (HB2.out.1.call HB3.out).call hb4
  obtain ⟨p0, p1, z0, z1⟩ := hF1.cells2
  have s2 := HB2.out.2.size
  have s3 := HB3.out.size
  have hbel := belowt (belowt HB2.out.2 s2 HB3.out) (by omega) hb4
  have HZ := Lib.hid hbel
  clear hw hb4 hF1 s2 s3 hbel
  go_wp2_with fail
  exact bodyPost_ret (v := .tuple #[.agg #[.string s, .string t], .int .i64 k]) (by simp [results, Tryz.results15, go_sem, p0, p1]) rfl ⟨rfl, (HZ.out.setCell (by simp) _).setCell (by simp) _⟩

end Go.Proofs.YtfkdcgjphnoioaaGreatDoor
