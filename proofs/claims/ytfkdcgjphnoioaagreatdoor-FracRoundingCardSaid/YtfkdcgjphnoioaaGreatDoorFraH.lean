/- Contracts: package frac: a fraction read. -/
import Derived.Test.YtfkdcgjphnoioaaGreatDoorFraG
namespace Go.Proofs.YtfkdcgjphnoioaaGreatDoor
open Go.RowKit Vd
attribute [local go_sem ↓] Go.wp_at_zero Go.wp_at_succ

theorem wlen_1 : wlen B64 1 ≤ maxW := Nat.le_trans (wlen_le_one two_le_B (by decide)) (by unfold maxW; omega)
/-- no ratio -/
def raNone : Value := .agg #[.slice none 0 0, .bool false, .slice none 0 0, .bool false]

set_option maxRecDepth 100000 in
set_option maxHeartbeats 2000000 in
theorem rread_none1 (ln ld : List UInt8) (w : World) (h1 : rd ln = none) :
    Calls Tryz.prog 126 #[.agg #[.string ⟨ln.toArray⟩, .string ⟨ld.toArray⟩]] w fun e w' => e = .returned (.tuple #[raNone, .bool false]) ∧ Below w.heap.size w w' := by
  obtain ⟨W0, hW0⟩ : ∃ W0, W0 = (w.alloc (.cells #[.string ⟨ln.toArray⟩, .string ⟨ld.toArray⟩] 24)).alloc (.cells #[.slice none 0 0, .bool false, .slice none 0 0, .bool false] 89) := ⟨_, rfl⟩
  have hbW : Below w.heap.size w W0 := by rw [hW0]; exact ((Below.refl _ _).alloc (Nat.le_refl _) _).alloc (by simp) _
  have hE0 : Fr W0 w.heap.size #[.string ⟨ln.toArray⟩, .string ⟨ld.toArray⟩] 24 := by rw [hW0]; exact (Fr.new rfl).old
  have hE1 : BoxR W0 (w.heap.size + 1) := by rw [hW0]; exact Fr.boxR (Fr.new (by simp))
  have hrb := ra_built
  have hrb0 := ra_built0
  have hr1 := read600_none ln W0 h1
  rw [hW0] at hr1
  have hr2 : ∀ W, Calls Tryz.prog 117 #[.string ⟨ld.toArray⟩, .int .i64 600] W fun e w' => ∃ (A : Option Addr) (n c : Nat) (k ok : Bool), e = .returned (.tuple #[.agg #[.slice A n c, .bool k], .bool ok]) ∧ Below W.heap.size W w' := fun W => by
    cases h : rd ld with
    | none => exact (read600_none ld W h).mono fun e w' ⟨A, n, c, k, he, hb⟩ => ⟨A, n, c, k, false, he, hb⟩
    | some z => exact (read600_some ld z W h).mono fun e w' ⟨A, n, c, k, he, _, hb⟩ => ⟨A, n, c, k, true, he, hb⟩
  have HB := Lib.hid (And.intro hbW (And.intro hE0 hE1))
  clear h1 hbW hE0 hE1
  unfold raNone
  go_enter Tryz.func126, Tryz.ntmps126
  go_wp2_with fail
  refine hr1.mono ?_
  rw [← hW0]
  rintro e w1 ⟨A1, n1, c1, k1, rfl, hb1⟩
  have hF1 := HB.out.2.1.call hb1
  obtain ⟨a0, a1, -, -⟩ := hF1.cells2a
  have HB1 := Lib.hid hb1
  clear hr1 hb1 hF1 hW0
  go_wp2_with fail
  refine (hr2 _).mono ?_
  rintro e w2 ⟨A2, n2, c2, k2, ok, rfl, hb2⟩
  have hba : Below w1.heap.size w1 w2 := ((Below.refl _ _).alloc (Nat.le_refl _) _).trans (hb2.mono (by simp))
  have hF4 : Fr w2 w1.heap.size #[.slice A1 n1 c1, .bool k1] 87 := (Fr.new rfl).call hb2
  have hB2 := (HB.out.2.2.call HB1.out).call hba
  have hbw := belowt (belowt HB.out.1 HB.out.1.size HB1.out) (by have := HB.out.1.size; have := (HB1.out).size; omega) hba
  have hB3 := hB2.old (u := .cells #[.slice A2 n2 c2, .bool k2] 87)
  obtain ⟨⟨q0, y0⟩, ⟨q1, y1⟩, ⟨q2, y2⟩, ⟨q3, y3⟩, y4, y5, y6, y7⟩ := hB3.facts
  have hbz := hbw.alloc hbw.size (.cells #[.slice A2 n2 c2, .bool k2] 87)
  have hF4a := hF4.old (u := .cells #[.slice A2 n2 c2, .bool k2] 87)
  obtain ⟨u0, u1, -, -⟩ := hF4a.cells2
  clear hb2 hba hF4 hB2 hB3 hbw hF4a a0 a1
  go_wp2_with fail
  exact bodyPost_ret (v := .tuple #[.agg #[.slice none 0 0, .bool false, .slice none 0 0, .bool false], .bool false]) (by simp [results, Tryz.results126, go_sem, y0, y1, y2, y3]) rfl ⟨rfl, below_set4 hbz (by omega)⟩

set_option maxRecDepth 100000 in
set_option maxHeartbeats 2000000 in
theorem rread_none2 (ln ld : List UInt8) (n : Int) (w : World) (h1 : rd ln = some n) (h2 : rd ld = none) :
    Calls Tryz.prog 126 #[.agg #[.string ⟨ln.toArray⟩, .string ⟨ld.toArray⟩]] w fun e w' => e = .returned (.tuple #[raNone, .bool false]) ∧ Below w.heap.size w w' := by
  obtain ⟨W0, hW0⟩ : ∃ W0, W0 = (w.alloc (.cells #[.string ⟨ln.toArray⟩, .string ⟨ld.toArray⟩] 24)).alloc (.cells #[.slice none 0 0, .bool false, .slice none 0 0, .bool false] 89) := ⟨_, rfl⟩
  have hbW : Below w.heap.size w W0 := by rw [hW0]; exact ((Below.refl _ _).alloc (Nat.le_refl _) _).alloc (by simp) _
  have hE0 : Fr W0 w.heap.size #[.string ⟨ln.toArray⟩, .string ⟨ld.toArray⟩] 24 := by rw [hW0]; exact (Fr.new rfl).old
  have hE1 : BoxR W0 (w.heap.size + 1) := by rw [hW0]; exact Fr.boxR (Fr.new (by simp))
  have hrb := ra_built
  have hrb0 := ra_built0
  have hr1 := read600_some ln n W0 h1
  rw [hW0] at hr1
  have hr2 := fun W => read600_none ld W h2
  have HB := Lib.hid (And.intro hbW (And.intro hE0 hE1))
  clear h1 h2 hbW hE0 hE1
  unfold raNone
  go_enter Tryz.func126, Tryz.ntmps126
  go_wp2_with fail
  refine hr1.mono ?_
  rw [← hW0]
  rintro e w1 ⟨A1, n1, c1, k1, rfl, hv1, hb1⟩
  have hF1 := HB.out.2.1.call hb1
  obtain ⟨a0, a1, -, -⟩ := hF1.cells2a
  have HB1 := Lib.hid (And.intro hb1 hv1)
  clear hr1 hb1 hv1 hF1 hW0
  go_wp2_with fail
  refine (hr2 _).mono ?_
  rintro e w2 ⟨A2, n2, c2, k2, rfl, hb2⟩
  have hba : Below w1.heap.size w1 w2 := ((Below.refl _ _).alloc (Nat.le_refl _) _).trans (hb2.mono (by simp))
  have hF4 : Fr w2 w1.heap.size #[.slice A1 n1 c1, .bool k1] 87 := (Fr.new rfl).call hb2
  have hB2 := (HB.out.2.2.call HB1.out.1).call hba
  have hbw := belowt (belowt HB.out.1 HB.out.1.size HB1.out.1) (by have := HB.out.1.size; have := (HB1.out.1).size; omega) hba
  have hB3 := hB2.old (u := .cells #[.slice A2 n2 c2, .bool k2] 87)
  obtain ⟨⟨q0, y0⟩, ⟨q1, y1⟩, ⟨q2, y2⟩, ⟨q3, y3⟩, y4, y5, y6, y7⟩ := hB3.facts
  have hbz := hbw.alloc hbw.size (.cells #[.slice A2 n2 c2, .bool k2] 87)
  have hF4a := hF4.old (u := .cells #[.slice A2 n2 c2, .bool k2] 87)
  obtain ⟨u0, u1, -, -⟩ := hF4a.cells2
  clear hb2 hba hF4 hB2 hB3 hbw hF4a a0 a1
  go_wp2_with fail
  exact bodyPost_ret (v := .tuple #[.agg #[.slice none 0 0, .bool false, .slice none 0 0, .bool false], .bool false]) (by simp [results, Tryz.results126, go_sem, y0, y1, y2, y3]) rfl ⟨rfl, below_set4 hbz (by omega)⟩

set_option maxRecDepth 100000 in
set_option maxHeartbeats 2000000 in
theorem rread_none3 (ln ld : List UInt8) (n d : Int) (w : World) (h1 : rd ln = some n) (h2 : rd ld = some d) (hd : ¬ 0 < d) :
    Calls Tryz.prog 126 #[.agg #[.string ⟨ln.toArray⟩, .string ⟨ld.toArray⟩]] w fun e w' => e = .returned (.tuple #[raNone, .bool false]) ∧ Below w.heap.size w w' := by
  obtain ⟨W0, hW0⟩ : ∃ W0, W0 = (w.alloc (.cells #[.string ⟨ln.toArray⟩, .string ⟨ld.toArray⟩] 24)).alloc (.cells #[.slice none 0 0, .bool false, .slice none 0 0, .bool false] 89) := ⟨_, rfl⟩
  have hbW : Below w.heap.size w W0 := by rw [hW0]; exact ((Below.refl _ _).alloc (Nat.le_refl _) _).alloc (by simp) _
  have hE0 : Fr W0 w.heap.size #[.string ⟨ln.toArray⟩, .string ⟨ld.toArray⟩] 24 := by rw [hW0]; exact (Fr.new rfl).old
  have hE1 : BoxR W0 (w.heap.size + 1) := by rw [hW0]; exact Fr.boxR (Fr.new (by simp))
  have hrb := ra_built
  have hrb0 := ra_built0
  have hr1 := read600_some ln n W0 h1
  rw [hW0] at hr1
  have hr2 := fun W => read600_some ld d W h2
  obtain ⟨sg, hsgE⟩ : ∃ s, s = signZ d := ⟨_, rfl⟩
  have hsgl : sg < 1 := by rw [hsgE]; unfold signZ; split <;> (try split) <;> omega
  have HSG := Lib.hid hsgE
  have HB := Lib.hid (And.intro hbW (And.intro hE0 hE1))
  clear h1 h2 hbW hE0 hE1 hd hsgE
  unfold raNone
  go_enter Tryz.func126, Tryz.ntmps126
  go_wp2_with fail
  refine hr1.mono ?_
  rw [← hW0]
  rintro e w1 ⟨A1, n1, c1, k1, rfl, hv1, hb1⟩
  have hF1 := HB.out.2.1.call hb1
  obtain ⟨a0, a1, -, -⟩ := hF1.cells2a
  have HB1 := Lib.hid (And.intro hb1 hv1)
  clear hr1 hb1 hv1 hF1 hW0
  go_wp2_with fail
  refine (hr2 _).mono ?_
  rintro e w2 ⟨A2, n2, c2, k2, rfl, hv2, hb2⟩
  have hba : Below w1.heap.size w1 w2 := ((Below.refl _ _).alloc (Nat.le_refl _) _).trans (hb2.mono (by simp))
  have hF4 : Fr w2 w1.heap.size #[.slice A1 n1 c1, .bool k1] 87 := (Fr.new rfl).call hb2
  have hB2 := (HB.out.2.2.call HB1.out.1).call hba
  have hbw := belowt (belowt HB.out.1 HB.out.1.size HB1.out.1) (by have := HB.out.1.size; have := (HB1.out.1).size; omega) hba
  have hv2a := hv2.old (u := .cells #[.slice A2 n2 c2, .bool k2] 87)
  have hsg := sign_any _ d _ hv2a
  rw [← HSG.out] at hsg
  have hF6 : Fr (w2.alloc (.cells #[.slice A2 n2 c2, .bool k2] 87)) w2.heap.size #[.slice A2 n2 c2, .bool k2] 87 := Fr.new rfl
  have HC := Lib.hid (And.intro hba (And.intro (hF4.old (u := .cells #[.slice A2 n2 c2, .bool k2] 87)) (And.intro (hB2.old (u := .cells #[.slice A2 n2 c2, .bool k2] 87)) (And.intro (hbw.alloc hbw.size (.cells #[.slice A2 n2 c2, .bool k2] 87)) (And.intro hF6 (And.intro hv2a (And.intro hb2 (And.intro hbw.size hF4.lt))))))))
  clear hb2 hv2 hba hF4 hB2 hbw hF6 a0 a1 hv2a hr2
  go_wp2_with fail
  refine hsg.mono ?_
  rintro e w3 ⟨rfl, hb3⟩
  obtain ⟨hba, hF4, hB2, hbw, hF6, hv2a, hb2, hsz, hlt4⟩ := HC.out
  have hB3 := hB2.call hb3
  obtain ⟨⟨q0, y0⟩, ⟨q1, y1⟩, ⟨q2, y2⟩, ⟨q3, y3⟩, y4, y5, y6, y7⟩ := hB3.facts
  have hbz := belowt hbw hbw.size hb3
  clear hba hF4 hB2 hbw hF6 hv2a hb2 hB3 hb3 hsg
  go_wp2_with fail
  exact bodyPost_ret (v := .tuple #[.agg #[.slice none 0 0, .bool false, .slice none 0 0, .bool false], .bool false]) (by simp [results, Tryz.results126, go_sem, y0, y1, y2, y3]) rfl ⟨rfl, below_set4 hbz (by omega)⟩

set_option maxRecDepth 100000 in
set_option maxHeartbeats 2000000 in
theorem rread_none4 (ln ld : List UInt8) (n d : Int) (w : World) (h1 : rd ln = some n) (h2 : rd ld = some d) (hd : 0 < d) (hg : Nat.gcd n.natAbs d.natAbs ≠ 1) :
    Calls Tryz.prog 126 #[.agg #[.string ⟨ln.toArray⟩, .string ⟨ld.toArray⟩]] w fun e w' => e = .returned (.tuple #[raNone, .bool false]) ∧ Below w.heap.size w w' := by
  obtain ⟨W0, hW0⟩ : ∃ W0, W0 = (w.alloc (.cells #[.string ⟨ln.toArray⟩, .string ⟨ld.toArray⟩] 24)).alloc (.cells #[.slice none 0 0, .bool false, .slice none 0 0, .bool false] 89) := ⟨_, rfl⟩
  have hbW : Below w.heap.size w W0 := by rw [hW0]; exact ((Below.refl _ _).alloc (Nat.le_refl _) _).alloc (by simp) _
  have hE0 : Fr W0 w.heap.size #[.string ⟨ln.toArray⟩, .string ⟨ld.toArray⟩] 24 := by rw [hW0]; exact (Fr.new rfl).old
  have hE1 : BoxR W0 (w.heap.size + 1) := by rw [hW0]; exact Fr.boxR (Fr.new (by simp))
  have hrb := ra_built
  have hrb0 := ra_built0
  have hr1 := read600_some ln n W0 h1
  rw [hW0] at hr1
  have hr2 := fun W => read600_some ld d W h2
  have hsgE : signZ d = 1 := by unfold signZ; rw [if_neg (by omega), if_neg (by omega)]
  have HSG := Lib.hid hsgE
  have HR := Lib.hid (And.intro h1 h2)
  obtain ⟨G, hG⟩ : ∃ G : Int, G = ((Nat.gcd n.natAbs d.natAbs : Nat) : Int) := ⟨_, rfl⟩
  have hGw : wlen B64 ((Nat.gcd n.natAbs d.natAbs : Nat) : Int).natAbs ≤ maxW := by
    rw [Int.natAbs_natCast]
    exact Nat.le_trans (wlen_mono two_le_B (Nat.gcd_le_right _ (by omega))) (Nat.le_trans (rd_wlen h2) (by unfold maxW; omega))
  obtain ⟨o, hoE⟩ : ∃ o : Int, o = cmpZ ((Nat.gcd n.natAbs d.natAbs : Nat) : Int) 1 := ⟨_, rfl⟩
  have hon : ¬ o = 0 := by rw [hoE]; unfold cmpZ; split <;> (try split) <;> omega
  have hob : (o != 0) = true := by rw [bne_iff_ne]; exact hon
  have HO := Lib.hid (And.intro hoE hGw)
  have HB := Lib.hid (And.intro hbW (And.intro hE0 hE1))
  clear h1 h2 hbW hE0 hE1 hd hsgE hg hG hGw hoE
  unfold raNone
  go_enter Tryz.func126, Tryz.ntmps126
  go_wp2_with fail
  refine hr1.mono ?_
  rw [← hW0]
  rintro e w1 ⟨A1, n1, c1, k1, rfl, hv1, hb1⟩
  have hF1 := HB.out.2.1.call hb1
  obtain ⟨a0, a1, -, -⟩ := hF1.cells2a
  have HB1 := Lib.hid (And.intro hb1 hv1)
  clear hr1 hb1 hv1 hF1 hW0
  go_wp2_with fail
  refine (hr2 _).mono ?_
  rintro e w2 ⟨A2, n2, c2, k2, rfl, hv2, hb2⟩
  have hba : Below w1.heap.size w1 w2 := ((Below.refl _ _).alloc (Nat.le_refl _) _).trans (hb2.mono (by simp))
  have hF4 : Fr w2 w1.heap.size #[.slice A1 n1 c1, .bool k1] 87 := (Fr.new rfl).call hb2
  have hB2 := (HB.out.2.2.call HB1.out.1).call hba
  have hbw := belowt (belowt HB.out.1 HB.out.1.size HB1.out.1) (by have := HB.out.1.size; have := (HB1.out.1).size; omega) hba
  have hv2a := hv2.old (u := .cells #[.slice A2 n2 c2, .bool k2] 87)
  have hsg := sign_any _ d _ hv2a
  rw [HSG.out] at hsg
  have hF6 : Fr (w2.alloc (.cells #[.slice A2 n2 c2, .bool k2] 87)) w2.heap.size #[.slice A2 n2 c2, .bool k2] 87 := Fr.new rfl
  have HC := Lib.hid (And.intro hba (And.intro (hF4.old (u := .cells #[.slice A2 n2 c2, .bool k2] 87)) (And.intro (hB2.old (u := .cells #[.slice A2 n2 c2, .bool k2] 87)) (And.intro (hbw.alloc hbw.size (.cells #[.slice A2 n2 c2, .bool k2] 87)) (And.intro hF6 (And.intro hv2a (And.intro hb2 (And.intro hbw.size hF4.lt))))))))
  clear hb2 hv2 hba hF4 hB2 hbw hF6 a0 a1 hv2a hr2
  go_wp2_with fail
  refine hsg.mono ?_
  rintro e w3 ⟨rfl, hb3⟩
  obtain ⟨hba, hF4, hB2, hbw, hF6, hv2a, hb2, hsz, hlt4⟩ := HC.out
  have hF43 := hF4.call hb3
  have hF63 := hF6.call hb3
  obtain ⟨u0, u1, -, -⟩ := hF43.cells2
  obtain ⟨u2, u3, -, -⟩ := hF63.cells2
  have hb13 : Below w1.heap.size w1 w3 := (hba.alloc hba.size _).trans (hb3.mono (by have := hba.size; simp; omega))
  have hdv := divisor_any _ _ n d w3 (HB1.out.2.below hb13) (hv2a.below hb3) (Nat.le_trans (Nat.add_le_add_right (rd_wlen HR.out.1) 1) (by unfold maxW; omega)) (Nat.le_trans (Nat.add_le_add_right (rd_wlen HR.out.2) 1) (by unfold maxW; omega))
  have hB3 := hB2.call hb3
  have hbz := belowt hbw hbw.size hb3
  have HD := Lib.hid (And.intro hF43 (And.intro hF63 (And.intro hB3 (And.intro hbz (And.intro (HB1.out.2.below hb13) (hv2a.below hb3))))))
  clear hba hF4 hB2 hbw hF6 hv2a hb2 hb3 hsg hF43 hF63 hb13 hB3 hbz HC
  go_wp2_with fail
  refine hdv.mono ?_
  rintro e w4 ⟨dv, rfl, hdv4, hb4⟩
  obtain ⟨A4, n4, c4, k4, rfl⟩ := hdv4.open
  have hof := numOf_any 1 w4 (by omega) (by omega)
  have HE := Lib.hid (And.intro hdv4 hb4)
  clear hdv hdv4 hb4 u0 u1 u2 u3
  go_wp2_with fail
  refine hof.mono ?_
  rintro e w5 ⟨A5, n5, c5, k5, rfl, hv5, hb5⟩
  have hor := orderZ_any _ _ _ _ w5 (HE.out.1.below hb5) hv5 HO.out.2 wlen_1
  rw [← HO.out.1] at hor
  have HG := Lib.hid hb5
  clear hof hb5 hv5
  go_wp2_with fail
  refine hor.mono ?_
  rintro e w6 ⟨rfl, hb6⟩
  obtain ⟨hF43, hF63, hB3, hbz, hn3, hd3⟩ := HD.out
  have hb36 : Below w3.heap.size w3 w6 := belowt (belowt HE.out.2 HE.out.2.size HG.out) (by have := HE.out.2.size; have := HG.out.size; omega) hb6
  have hB6 := hB3.call hb36
  obtain ⟨⟨q0, y0⟩, ⟨q1, y1⟩, ⟨q2, y2⟩, ⟨q3, y3⟩, y4, y5, y6, y7⟩ := hB6.facts
  have hbe := belowt hbz hbz.size hb36
  clear hF43 hF63 hB3 hbz hn3 hd3 hb36 hB6 hb6 hor
  go_wp2_with fail
  exact bodyPost_ret (v := .tuple #[.agg #[.slice none 0 0, .bool false, .slice none 0 0, .bool false], .bool false]) (by simp [results, Tryz.results126, go_sem, y0, y1, y2, y3]) rfl ⟨rfl, below_set4 hbe (by omega)⟩

set_option maxRecDepth 100000 in
set_option maxHeartbeats 2000000 in
theorem rread_some (ln ld : List UInt8) (q : Rat) (w : World) (h : rdF ln ld = some q) :
    Calls Tryz.prog 126 #[.agg #[.string ⟨ln.toArray⟩, .string ⟨ld.toArray⟩]] w fun e w' => ∃ v, e = .returned (.tuple #[v, .bool true]) ∧ RaV w' v q ∧ Below w.heap.size w w' := by
  obtain ⟨h1, h2⟩ := rdF_some h
  obtain ⟨hd, hg⟩ := rat_coprime q
  obtain ⟨n, hn⟩ : ∃ n, n = q.num := ⟨_, rfl⟩
  obtain ⟨d, hdE⟩ : ∃ d : Int, d = (q.den : Int) := ⟨_, rfl⟩
  rw [← hn] at h1 hg
  rw [← hdE] at h2 hd hg
  obtain ⟨W0, hW0⟩ : ∃ W0, W0 = (w.alloc (.cells #[.string ⟨ln.toArray⟩, .string ⟨ld.toArray⟩] 24)).alloc (.cells #[.slice none 0 0, .bool false, .slice none 0 0, .bool false] 89) := ⟨_, rfl⟩
  have hbW : Below w.heap.size w W0 := by rw [hW0]; exact ((Below.refl _ _).alloc (Nat.le_refl _) _).alloc (by simp) _
  have hE0 : Fr W0 w.heap.size #[.string ⟨ln.toArray⟩, .string ⟨ld.toArray⟩] 24 := by rw [hW0]; exact (Fr.new rfl).old
  have hE1 : BoxR W0 (w.heap.size + 1) := by rw [hW0]; exact Fr.boxR (Fr.new (by simp))
  have hrb := ra_built
  have hrb0 := ra_built0
  have hr1 := read600_some ln n W0 h1
  rw [hW0] at hr1
  have hr2 := fun W => read600_some ld d W h2
  have hsgE : signZ d = 1 := by unfold signZ; rw [if_neg (by omega), if_neg (by omega)]
  have HSG := Lib.hid hsgE
  have HR := Lib.hid (And.intro h1 h2)
  have hGw : wlen B64 ((Nat.gcd n.natAbs d.natAbs : Nat) : Int).natAbs ≤ maxW := by
    rw [Int.natAbs_natCast, hg]; exact wlen_1
  have hoE : cmpZ ((Nat.gcd n.natAbs d.natAbs : Nat) : Int) 1 = 0 := by rw [hg]; decide
  have HO := Lib.hid (And.intro hoE hGw)
  have HN := Lib.hid (And.intro hn hdE)
  have HB := Lib.hid (And.intro hbW (And.intro hE0 hE1))
  clear h h1 h2 hbW hE0 hE1 hd hsgE hg hGw hoE hn hdE
  go_enter Tryz.func126, Tryz.ntmps126
  go_wp2_with fail
  refine hr1.mono ?_
  rw [← hW0]
  rintro e w1 ⟨A1, n1, c1, k1, rfl, hv1, hb1⟩
  have hF1 := HB.out.2.1.call hb1
  obtain ⟨a0, a1, -, -⟩ := hF1.cells2a
  have HB1 := Lib.hid (And.intro hb1 hv1)
  clear hr1 hb1 hv1 hF1 hW0
  go_wp2_with fail
  refine (hr2 _).mono ?_
  rintro e w2 ⟨A2, n2, c2, k2, rfl, hv2, hb2⟩
  have hba : Below w1.heap.size w1 w2 := ((Below.refl _ _).alloc (Nat.le_refl _) _).trans (hb2.mono (by simp))
  have hF4 : Fr w2 w1.heap.size #[.slice A1 n1 c1, .bool k1] 87 := (Fr.new rfl).call hb2
  have hB2 := (HB.out.2.2.call HB1.out.1).call hba
  have hbw := belowt (belowt HB.out.1 HB.out.1.size HB1.out.1) (by have := HB.out.1.size; have := (HB1.out.1).size; omega) hba
  have hv2a := hv2.old (u := .cells #[.slice A2 n2 c2, .bool k2] 87)
  have hsg := sign_any _ d _ hv2a
  rw [HSG.out] at hsg
  have hF6 : Fr (w2.alloc (.cells #[.slice A2 n2 c2, .bool k2] 87)) w2.heap.size #[.slice A2 n2 c2, .bool k2] 87 := Fr.new rfl
  have HC := Lib.hid (And.intro hba (And.intro (hF4.old (u := .cells #[.slice A2 n2 c2, .bool k2] 87)) (And.intro (hB2.old (u := .cells #[.slice A2 n2 c2, .bool k2] 87)) (And.intro (hbw.alloc hbw.size (.cells #[.slice A2 n2 c2, .bool k2] 87)) (And.intro hF6 (And.intro hv2a (And.intro hb2 (And.intro hbw.size hF4.lt))))))))
  clear hb2 hv2 hba hF4 hB2 hbw hF6 a0 a1 hv2a hr2
  go_wp2_with fail
  refine hsg.mono ?_
  rintro e w3 ⟨rfl, hb3⟩
  obtain ⟨hba, hF4, hB2, hbw, hF6, hv2a, hb2, hsz, hlt4⟩ := HC.out
  have hF43 := hF4.call hb3
  have hF63 := hF6.call hb3
  obtain ⟨u0, u1, -, -⟩ := hF43.cells2
  obtain ⟨u2, u3, -, -⟩ := hF63.cells2
  have hb13 : Below w1.heap.size w1 w3 := (hba.alloc hba.size _).trans (hb3.mono (by have := hba.size; simp; omega))
  have hdv := divisor_any _ _ n d w3 (HB1.out.2.below hb13) (hv2a.below hb3) (Nat.le_trans (Nat.add_le_add_right (rd_wlen HR.out.1) 1) (by unfold maxW; omega)) (Nat.le_trans (Nat.add_le_add_right (rd_wlen HR.out.2) 1) (by unfold maxW; omega))
  have hB3 := hB2.call hb3
  have hbz := belowt hbw hbw.size hb3
  have HD := Lib.hid (And.intro hF43 (And.intro hF63 (And.intro hB3 (And.intro hbz (And.intro (HB1.out.2.below hb13) (hv2a.below hb3))))))
  clear hba hF4 hB2 hbw hF6 hv2a hb2 hb3 hsg hF43 hF63 hb13 hB3 hbz HC
  go_wp2_with fail
  refine hdv.mono ?_
  rintro e w4 ⟨dv, rfl, hdv4, hb4⟩
  obtain ⟨A4, n4, c4, k4, rfl⟩ := hdv4.open
  have hof := numOf_any 1 w4 (by omega) (by omega)
  have HE := Lib.hid (And.intro hdv4 hb4)
  clear hdv hdv4 hb4 u0 u1 u2 u3
  go_wp2_with fail
  refine hof.mono ?_
  rintro e w5 ⟨A5, n5, c5, k5, rfl, hv5, hb5⟩
  have hor := orderZ_any _ _ _ _ w5 (HE.out.1.below hb5) hv5 HO.out.2 wlen_1
  rw [HO.out.1] at hor
  have HG := Lib.hid hb5
  clear hof hb5 hv5
  go_wp2_with fail
  refine hor.mono ?_
  rintro e w6 ⟨rfl, hb6⟩
  obtain ⟨hF43, hF63, hB3, hbz, hn3, hd3⟩ := HD.out
  have hb36 : Below w3.heap.size w3 w6 := belowt (belowt HE.out.2 HE.out.2.size HG.out) (by have := HE.out.2.size; have := HG.out.size; omega) hb6
  have hB6 := hB3.call hb36
  obtain ⟨⟨q0, y0⟩, ⟨q1, y1⟩, ⟨q2, y2⟩, ⟨q3, y3⟩, y4, y5, y6, y7⟩ := hB6.facts
  have hbe := belowt hbz hbz.size hb36
  have hF46 := hF43.call hb36
  have hF66 := hF63.call hb36
  obtain ⟨u0, u1, -, -⟩ := hF46.cells2
  obtain ⟨u2, u3, -, -⟩ := hF66.cells2
  have hn6 := hn3.below hb36
  have hd6 := hd3.below hb36
  rw [HN.out.1] at hn6
  rw [HN.out.2] at hd6
  have HZ := Lib.hid (And.intro hB6 (And.intro hn6 (And.intro hd6 hbe)))
  clear hF43 hF63 hB3 hbz hn3 hd3 hb36 hB6 hb6 hor hF46 hF66 hn6 hd6 hbe
  go_wp2_with fail
  obtain ⟨hB6, hn6, hd6, hbe⟩ := HZ.out
  exact bodyPost_ret (v := .tuple #[.agg #[.slice A1 n1 c1, .bool k1, .slice A2 n2 c2, .bool k2], .bool true]) (by simp [results, Tryz.results126, go_sem, y0, y1, y2, y3]) rfl ⟨_, rfl, RaV.fin hB6 hn6 hd6, below_set4 hbe (by omega)⟩

theorem rread_none (ln ld : List UInt8) (w : World) (h : rdF ln ld = none) :
    Calls Tryz.prog 126 #[.agg #[.string ⟨ln.toArray⟩, .string ⟨ld.toArray⟩]] w fun e w' => e = .returned (.tuple #[raNone, .bool false]) ∧ Below w.heap.size w w' := by
  rcases rdF_none h with h1 | h2 | ⟨n, d, h1, h2, hc⟩
  · exact rread_none1 ln ld w h1
  · cases h1 : rd ln with
    | none => exact rread_none1 ln ld w h1
    | some n => exact rread_none2 ln ld n w h1 h2
  · by_cases hd : 0 < d
    · exact rread_none4 ln ld n d w h1 h2 hd (fun hg => hc ⟨hd, hg⟩)
    · exact rread_none3 ln ld n d w h1 h2 hd

set_option maxRecDepth 100000 in
set_option maxHeartbeats 2000000 in
theorem fread_some (ln ld : List UInt8) (q : Rat) (w : World) (h : rdF ln ld = some q) :
    Calls Tryz.prog 73 #[.agg #[.string ⟨ln.toArray⟩, .string ⟨ld.toArray⟩]] w fun e w' => ∃ v, e = .returned (.tuple #[v, .int .i64 0]) ∧ RaV w' v q ∧ Below w.heap.size w w' := by
  obtain ⟨W0, hW0⟩ : ∃ W0, W0 = (w.alloc (.cells #[.string ⟨ln.toArray⟩, .string ⟨ld.toArray⟩] 24)).alloc (.cells #[.slice none 0 0, .bool false, .slice none 0 0, .bool false] 89) := ⟨_, rfl⟩
  have hbW : Below w.heap.size w W0 := by rw [hW0]; exact ((Below.refl _ _).alloc (Nat.le_refl _) _).alloc (by simp) _
  have hE1 : BoxR W0 (w.heap.size + 1) := by rw [hW0]; exact Fr.boxR (Fr.new (by simp))
  have hr := rread_some ln ld q W0 h
  rw [hW0] at hr
  have hrb0 := ra_built0
  have HB := Lib.hid (And.intro hbW hE1)
  clear h hbW hE1
  go_enter Tryz.func73, Tryz.ntmps73
  go_wp2_with fail
  refine hr.mono ?_
  rw [← hW0]
  rintro e w1 ⟨v, rfl, hv, hb1⟩
  obtain ⟨A1, n1, c1, k1, A2, n2, c2, k2, rfl, hv1, hv2⟩ := hv.open
  have hB1 := HB.out.2.call hb1
  have hbw := belowt HB.out.1 HB.out.1.size hb1
  obtain ⟨_, _, _, _, _, _, _, _, hF⟩ := hB1
  obtain ⟨y0, y1, y2, y3, y4, y5, y6, y7⟩ := hF.cells4a
  have HC := Lib.hid (And.intro hF (And.intro hbw (And.intro hv1 hv2)))
  clear hr hW0 hv hv1 hv2 hb1 hF hbw
  go_wp2_with fail
  obtain ⟨hF, hbw, hv1, hv2⟩ := HC.out
  exact bodyPost_ret (v := .tuple #[.agg #[.slice A1 n1 c1, .bool k1, .slice A2 n2 c2, .bool k2], .int .i64 0]) (by simp [results, Tryz.results73, go_sem, y0, y1, y2, y3]) rfl ⟨_, rfl, RaV.fin hF.old.boxR hv1.old hv2.old, below_set4 (hbw.alloc hbw.size _) (by omega)⟩

set_option maxRecDepth 100000 in
set_option maxHeartbeats 2000000 in
theorem fread_none (ln ld : List UInt8) (w : World) (h : rdF ln ld = none) :
    Calls Tryz.prog 73 #[.agg #[.string ⟨ln.toArray⟩, .string ⟨ld.toArray⟩]] w fun e w' => e = .returned (.tuple #[raNone, .int .i64 20]) ∧ Below w.heap.size w w' := by
  obtain ⟨W0, hW0⟩ : ∃ W0, W0 = (w.alloc (.cells #[.string ⟨ln.toArray⟩, .string ⟨ld.toArray⟩] 24)).alloc (.cells #[.slice none 0 0, .bool false, .slice none 0 0, .bool false] 89) := ⟨_, rfl⟩
  have hbW : Below w.heap.size w W0 := by rw [hW0]; exact ((Below.refl _ _).alloc (Nat.le_refl _) _).alloc (by simp) _
  have hE1 : BoxR W0 (w.heap.size + 1) := by rw [hW0]; exact Fr.boxR (Fr.new (by simp))
  have hr := rread_none ln ld W0 h
  rw [hW0] at hr
  have hrb0 := ra_built0
  have HB := Lib.hid (And.intro hbW hE1)
  clear h hbW hE1
  unfold raNone at hr ⊢
  go_enter Tryz.func73, Tryz.ntmps73
  go_wp2_with fail
  refine hr.mono ?_
  rw [← hW0]
  rintro e w1 ⟨rfl, hb1⟩
  have hB1 := HB.out.2.call hb1
  have hbw := belowt HB.out.1 HB.out.1.size hb1
  obtain ⟨_, _, _, _, _, _, _, _, hF⟩ := hB1
  obtain ⟨y0, y1, y2, y3, y4, y5, y6, y7⟩ := hF.cells4a
  have HC := Lib.hid hbw
  clear hr hW0 hb1 hF hbw
  go_wp2_with fail
  exact bodyPost_ret (v := .tuple #[.agg #[.slice none 0 0, .bool false, .slice none 0 0, .bool false], .int .i64 20]) (by simp [results, Tryz.results73, go_sem, y0, y1, y2, y3]) rfl ⟨rfl, below_set4 (HC.out.alloc HC.out.size _) (by omega)⟩

end Go.Proofs.YtfkdcgjphnoioaaGreatDoor
