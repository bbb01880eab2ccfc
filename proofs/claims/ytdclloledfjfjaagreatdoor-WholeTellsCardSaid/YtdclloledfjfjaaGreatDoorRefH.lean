/- Contracts of the reference: order, difference. Contracts of the reference: Right, In, Integer. Contracts of the reference: In, Integer of negative numbers. Contracts of the reference: Turn, Plus, Minus, Order, Integer of negative numbers. -/
import Derived.Test.YtdclloledfjfjaaGreatDoorRefE
import Derived.Deep.RegionHeld3
import Derived.Deep.DrawnRows
namespace Go.Proofs.YtdclloledfjfjaaGreatDoor
open Go.RowKit Vd
attribute [local go_sem ↓] Go.wp_at_zero Go.wp_at_succ

/-- what 'order' answers -/
def OrdP (a b : Nat) (w : World) (e : Ending) (w' : World) : Prop := ∃ d : Int, e = .returned (.int .i64 d) ∧ (d < 0 ↔ a < b) ∧ (d = 0 ↔ a = b) ∧ ∃ q, w' = w.drewN q

theorem ordP_lt {a b : Nat} {w w' : World} {e : Ending} (d : Int) (he : e = .returned (.int .i64 d)) (hd : d < 0) (h : a < b) (hw : ∃ q, w' = w.drewN q) : OrdP a b w e w' :=
  ⟨d, he, ⟨fun _ => h, fun _ => hd⟩, ⟨fun h0 => by omega, fun h0 => by omega⟩, hw⟩
theorem ordP_gt {a b : Nat} {w w' : World} {e : Ending} (d : Int) (he : e = .returned (.int .i64 d)) (hd : 0 < d) (h : b < a) (hw : ∃ q, w' = w.drewN q) : OrdP a b w e w' :=
  ⟨d, he, ⟨fun h0 => by omega, fun h0 => by omega⟩, ⟨fun h0 => by omega, fun h0 => by omega⟩, hw⟩
theorem ordP_eq {a b : Nat} {w w' : World} {e : Ending} (he : e = .returned (.int .i64 0)) (h : a = b) (hw : ∃ q, w' = w.drewN q) : OrdP a b w e w' :=
  ⟨0, he, ⟨fun h0 => by omega, fun h0 => by omega⟩, ⟨fun _ => h, fun _ => rfl⟩, hw⟩

set_option maxRecDepth 100000 in
set_option maxHeartbeats 1000000 in
theorem order4_same (A1 A2 : Option Addr) (n c1 c2 : Nat) (xs ys : List Nat) (w : World) (hx : Sl w I8 A1 n xs) (hy : Sl w I8 A2 n ys) (ox : Ok B4 xs) (oy : Ok B4 ys) (hn : n ≤ 1000000000) :
    Calls Tryz.prog 184 #[.slice A1 n c1, .slice A2 n c2] w (OrdP (val B4 xs) (val B4 ys) w) := by
  have HX := Lib.hid hx.len
  have HY := Lib.hid hy.len
  have hne : (!((n : Int) == (n : Int))) = false := by simp
  go_enter Tryz.func184, Tryz.ntmps184
  go_wp2
  go_loopw [5] (fun i wr => ∃ k : Nat, k ≤ n ∧ i = .int .i64 ((k : Int) - 1) ∧ xs.drop k = ys.drop k ∧ ∃ d, wr = w.drewN d) (fun i _ => ((intOf i) + 1).toNat)
  case atStart => exact ⟨n, Nat.le_refl _, rfl, by rw [List.drop_eq_nil_of_le (by rw [HX.out]; omega), List.drop_eq_nil_of_le (by rw [HY.out]; omega)], 0, rfl⟩
  case round =>
    obtain ⟨k, hk, rfl, hdr, d, rfl⟩ := hrel
    cases k with
    | zero =>
      rw [show (((0 : Nat) : Int) - 1) = -1 from rfl]
      have e : xs = ys := by simpa using hdr
      clear hdr hx hy
      go_wp2
      go_ret
      subst e
      exact ordP_eq rfl rfl ⟨d, rfl⟩
    | succ j =>
      rw [show (((j + 1 : Nat) : Int) - 1) = (j : Int) from by omega]
      have Hd := Lib.hid hdr
      clear hdr
      obtain ⟨g, o, rfl, hg, hcx⟩ := hx.at_ (by omega)
      obtain ⟨g2, o2, rfl, hg2, hcy⟩ := hy.at_ (by omega)
      have h1 := hcx j (by omega)
      have h2 := hcy j (by omega)
      unfold I8 at h1 h2
      have hj : (j : Int) < (n : Int) := by omega
      have hj0 : (0 : Int) ≤ (j : Int) := by omega
      clear hcx hcy hx hy
      by_cases he : nth xs j = nth ys j
      · have hb : ((nth xs j : Int) != (nth ys j : Int)) = false := by rw [he]; simp
        have He := Lib.hid he
        clear he
        go_wp2
        go_quiet (fail)
        go_wp2
        refine ⟨⟨j, by omega, rfl, drop_eq_step (by rw [HX.out, HY.out]) (by rw [HX.out]; omega) Hd.out He.out, _, rfl⟩, by simp [intOf]⟩
      · have hb : ((nth xs j : Int) != (nth ys j : Int)) = true := by rw [bne_iff_ne]; omega
        have hxk := ox.get two_le_B4 j
        have hyk := oy.get two_le_B4 j
        rw [B4_eq] at hxk hyk
        have k1 : IntKind.i64.wrap ((nth xs j : Int) - (nth ys j : Int)) = (nth xs j : Int) - (nth ys j : Int) := by rw [IntKind.wrap_i64]; omega
        have He := Lib.hid (And.intro he (And.intro hxk hyk))
        clear he hxk hyk
        go_wp2
        go_quiet (fail)
        go_wp2
        go_quiet (fail)
        go_wp2
        go_ret
        simp only [World.drewN_drewN]
        have hl := HX.out
        have hl2 := HY.out
        rcases Nat.lt_or_ge (nth xs j) (nth ys j) with h | h
        · exact ordP_lt _ rfl (by omega) (val_lt_of_top (by rw [HX.out, HY.out]) ox (by omega) Hd.out h) ⟨_, rfl⟩
        · have := He.out.1
          exact ordP_gt _ rfl (by omega) (val_lt_of_top (by rw [HX.out, HY.out]) oy (by omega) Hd.out.symm (by omega)) ⟨_, rfl⟩

set_option maxRecDepth 100000 in
set_option maxHeartbeats 1000000 in
theorem order4_len (A1 A2 : Option Addr) (n1 n2 c1 c2 : Nat) (w : World) (hne : n1 ≠ n2) (b1 : n1 ≤ 1000000000) (b2 : n2 ≤ 1000000000) :
    Calls Tryz.prog 184 #[.slice A1 n1 c1, .slice A2 n2 c2] w fun e w' => e = .returned (.int .i64 ((n1 : Int) - (n2 : Int))) ∧ w = w' := by
  have hb : ((n1 : Int) != (n2 : Int)) = true := by rw [bne_iff_ne]; omega
  have k1 : IntKind.i64.wrap ((n1 : Int) - (n2 : Int)) = (n1 : Int) - (n2 : Int) := by rw [IntKind.wrap_i64]; omega
  have i1 : (0 : Int) ≤ (n1 : Int) := by omega
  have i2 : (n1 : Int) ≤ 1000000000 := by omega
  have i3 : (0 : Int) ≤ (n2 : Int) := by omega
  have i4 : (n2 : Int) ≤ 1000000000 := by omega
  clear hne
  go_enter Tryz.func184, Tryz.ntmps184
  go_wp2_with fail
  go_ret
  exact ⟨rfl, rfl⟩

theorem order4_any (v1 v2 : Value) (m o : Nat) (w : World) (h1 : DigV w v1 m) (h2 : DigV w v2 o) (b1 : wlen B4 m ≤ 1000000000) (b2 : wlen B4 o ≤ 1000000000) :
    Calls Tryz.prog 184 #[v1, v2] w (OrdP m o w) := by
  obtain ⟨A1, c1, rfl, _, _, s1⟩ := h1
  obtain ⟨A2, c2, rfl, _, _, s2⟩ := h2
  by_cases he : wlen B4 m = wlen B4 o
  · rw [he] at s1 ⊢
    have h := order4_same A1 A2 _ c1 c2 _ _ w s1 s2 (ok_ws _) (ok_ws _) b2
    rwa [val_ws two_le_B4, val_ws two_le_B4] at h
  · refine (order4_len A1 A2 _ _ c1 c2 w he b1 b2).mono ?_
    rintro e w' ⟨rfl, rfl⟩
    rcases Nat.lt_or_ge (wlen B4 m) (wlen B4 o) with h | h
    · exact ordP_lt _ rfl (by omega) (lt_of_wlen_lt two_le_B4 h) ⟨0, rfl⟩
    · exact ordP_gt _ rfl (by omega) (lt_of_wlen_lt two_le_B4 (by omega)) ⟨0, rfl⟩

theorem dif_step {xs ys zs : List Nat} {k br br' D : Nat} (hl : zs.length = k) (h : val B4 zs + val B4 (ys.take k) = val B4 (xs.take k) + br * B4 ^ k) (e : D + nth ys k + br = nth xs k + B4 * br') :
    val B4 (zs ++ [D]) + val B4 (ys.take (k + 1)) = val B4 (xs.take (k + 1)) + br' * B4 ^ (k + 1) := by
  rw [val_snoc, hl, val_take_succ, val_take_succ, Nat.pow_succ, Nat.mul_comm (B4 ^ k) D]
  exact borrow_step _ _ _ _ _ _ _ _ _ _ h e

/-- what the loop of 'difference' keeps -/
structure DifR (w : World) (n1 : Nat) (xs ys : List Nat) (k br : Nat) (zs : List Nat) (v : Value) (W : World) : Prop where
  kl : k ≤ n1
  cl : br ≤ 1
  len : zs.length = k
  ok : Ok B4 zs
  val : val B4 zs + val B4 (ys.take k) = val B4 (xs.take k) + br * B4 ^ k
  own : W.ownsRow w.heap.size 3 1 v k (zs.map I8)
  bel : Below w.heap.size w W

theorem DifR.step {w : World} {n1 : Nat} {xs ys : List Nat} {k br br' D : Nat} {zs : List Nat} {v : Value} {W : World} (h : DifR w n1 xs ys k br zs v W) (hk : k < n1) (hD : D < B4) (hb : br' ≤ 1) (e : D + nth ys k + br = nth xs k + B4 * br')
    {v' : Value} {w1 : World} {t : TypeId} (hown' : w1.ownsRow w.heap.size 3 1 v' (k + 1) (zs.map I8 ++ [.int .i64 (D : Int)])) (hg : (W.alloc (.cells #[.int .i64 (D : Int)] t)).grownBy w1 v.ownBlock) :
    DifR w n1 xs ys (k + 1) br' (zs ++ [D]) v' w1 := by
  refine ⟨by omega, hb, by rw [List.length_append, h.len]; rfl, h.ok.app (Ok.cons hD Ok.nil), dif_step h.len h.val e, ?_, ?_⟩
  · rw [List.map_append]; exact hown'
  · have hB := h.bel.size
    exact below_own (h.bel.alloc hB _) (h.own.alloc _) hg (Nat.le_refl _) (by simp; omega)

set_option maxRecDepth 100000 in
set_option maxHeartbeats 4000000 in
theorem difference4_core (A1 A2 : Option Addr) (n1 n2 c1 c2 : Nat) (xs ys : List Nat) (w : World) (hx : Sl w I8 A1 n1 xs) (hy : Sl w I8 A2 n2 ys) (ox : Ok B4 xs) (oy : Ok B4 ys) (b1 : n1 ≤ 1000000000) (hle : n2 ≤ n1) (hv : val B4 ys ≤ val B4 xs) :
    Calls Tryz.prog 185 #[.slice A1 n1 c1, .slice A2 n2 c2] w fun e w' => ∃ A n c, e = .returned (.slice A n c) ∧ DigV w' (.slice A n c) (val B4 xs - val B4 ys) ∧ Below w.heap.size w w' := by
  obtain ⟨i0, hi, hz0, hz1, hz2⟩ := info_parts infoI
  have HI := Lib.hid (And.intro hi (And.intro hz0 (And.intro hz1 hz2)))
  have HX := Lib.hid (And.intro hx.len (And.intro hy.len (And.intro hle hv)))
  clear hi hz0 hz1 hz2 hv hle
  go_enter Tryz.func185, Tryz.ntmps185
  go_wp2_with fail
  go_loopg [5, 6, 7] n1 (fun r v cv iv W => ∃ (k br : Nat) (zs : List Nat) (dv : Value), dv = v ∧ r = n1 - k ∧ iv = .int .i64 (k : Int) ∧ cv = .int .i64 (br : Int) ∧ DifR w n1 xs ys k br zs v W)
  case atStart => exact ⟨0, 0, [], _, rfl, rfl, rfl, rfl, ⟨Nat.zero_le _, Nat.zero_le _, rfl, Ok.nil, by simp [val_nil], World.ownsRow_nil _ _ _ _, Below.refl _ _⟩⟩
  case round =>
    obtain ⟨k, br, zs, dv, hdv, rfl, rfl, rfl, hR⟩ := hrel
    subst hdv
    have hxk := ox.get two_le_B4 k
    have hyk := oy.get two_le_B4 k
    rw [B4_eq] at hxk hyk
    have hcl := hR.cl
    have p1 : (0 : Int) ≤ (br : Int) := by omega
    have p2 : (br : Int) ≤ 1 := by omega
    have p3 : (0 : Int) ≤ (nth xs k : Int) := by omega
    have p4 : (nth xs k : Int) ≤ 9999 := by omega
    have p5 : (0 : Int) ≤ (nth ys k : Int) := by omega
    have p6 : (nth ys k : Int) ≤ 9999 := by omega
    have p7 : (0 : Int) ≤ (k : Int) := by omega
    have hkl := hR.kl
    have p8 : (k : Int) ≤ 1000000001 := by omega
    have hown := hR.own
    have hB := hR.bel.size
    by_cases ha : k < n1
    · have hka : (k : Int) < (n1 : Int) := by omega
      have hl9 : k + 1 ≤ 1000000002 := by omega
      obtain ⟨g1, o1, rfl, hg1, hc1⟩ := hx.at_ (by omega)
      have hca := (hR.bel.cell (p := ⟨g1, o1 + k, none⟩) hg1).trans (hc1 k ha)
      unfold I8 at hca
      obtain ⟨D, br', hD, hbr', e, hsgn, hneg⟩ : ∃ D br' : Nat, D < B4 ∧ br' ≤ 1 ∧ D + nth ys k + br = nth xs k + B4 * br' ∧ (br' = 0 → (nth xs k : Int) - br - nth ys k = D ∧ ¬ (D : Int) < 0) ∧ (br' = 1 → (nth xs k : Int) - br - nth ys k + 10000 = D ∧ (nth xs k : Int) - br - nth ys k < 0) := by
        by_cases hn : nth ys k + br ≤ nth xs k
        · exact ⟨nth xs k - (nth ys k + br), 0, by rw [B4_eq]; omega, by omega, by omega, fun _ => by omega, fun h => by omega⟩
        · exact ⟨nth xs k + 10000 - (nth ys k + br), 1, by rw [B4_eq]; omega, by omega, by rw [B4_eq]; omega, fun h => by omega, fun _ => by omega⟩
      have hnew := news_one wr (.int .i64 (D : Int)) 3 rfl
      have hownA := hown.alloc (.cells #[.int .i64 (D : Int)] 3)
      by_cases hb : k < n2
      · have hkb : (k : Int) < (n2 : Int) := by omega
        obtain ⟨g2, o2, rfl, hg2, hc2⟩ := hy.at_ (by omega)
        have hcb := (hR.bel.cell (p := ⟨g2, o2 + k, none⟩) hg2).trans (hc2 k hb)
        unfold I8 at hcb
        have HV := Lib.hid (And.intro hR (And.intro ha (And.intro hD e)))
        clear hR hkl hown ha hb hxk hyk hcl hD e hc1 hc2
        rcases Nat.lt_or_ge 0 br' with h0 | h0
        · obtain rfl : br' = 1 := by omega
          obtain ⟨e1, e2⟩ := hneg rfl
          clear h0 hsgn hneg hbr'
          go_wp2_with (at_builtin; refine wpList_append_own _ rfl (.tmp 35) (.tmp 37) 90 rfl w.heap.size 3 i0 (.int .i64 0) 1 8 Tryz.underlying90 HI.out.1 HI.out.2.1 HI.out.2.2.1 HI.out.2.2.2 rfl (by decide) dv k (zs.map I8) rfl hownA ⟨wr.heap.size, 0, none⟩ 1 1 [.int .i64 (D : Int)] rfl rfl hnew.1 hnew.2 (by unfold maxLen; omega) (by omega) (by simp; omega) ?_; intro v' w1 hown' hgrow _)
          go_wp2_with fail
          go_roundg (n1 - (k + 1))
          case measure => have := HV.out.2.1; omega
          case rel => exact ⟨k + 1, 1, _, _, rfl, rfl, by go_num, rfl, HV.out.1.step HV.out.2.1 HV.out.2.2.1 (by omega) HV.out.2.2.2 hown' hgrow⟩
        · obtain rfl : br' = 0 := by omega
          obtain ⟨e1, e2⟩ := hsgn rfl
          clear h0 hsgn hneg hbr'
          go_wp2_with (at_builtin; refine wpList_append_own _ rfl (.tmp 35) (.tmp 37) 90 rfl w.heap.size 3 i0 (.int .i64 0) 1 8 Tryz.underlying90 HI.out.1 HI.out.2.1 HI.out.2.2.1 HI.out.2.2.2 rfl (by decide) dv k (zs.map I8) rfl hownA ⟨wr.heap.size, 0, none⟩ 1 1 [.int .i64 (D : Int)] rfl rfl hnew.1 hnew.2 (by unfold maxLen; omega) (by omega) (by simp; omega) ?_; intro v' w1 hown' hgrow _)
          go_wp2_with fail
          go_roundg (n1 - (k + 1))
          case measure => have := HV.out.2.1; omega
          case rel => exact ⟨k + 1, 0, _, _, rfl, rfl, by go_num, rfl, HV.out.1.step HV.out.2.1 HV.out.2.2.1 (by omega) HV.out.2.2.2 hown' hgrow⟩
      · have hkb : ¬ (k : Int) < (n2 : Int) := by omega
        have hy0 : nth ys k = 0 := nth_ge (by have := HX.out.2.1; omega)
        rw [hy0] at hsgn hneg
        rw [show (((0 : Nat)) : Int) = 0 from rfl, Int.sub_zero] at hsgn hneg
        have HV := Lib.hid (And.intro hR (And.intro ha (And.intro hD e)))
        clear hR hkl hown ha hb hxk hyk hcl hD e hc1 hy0 p5 p6
        rcases Nat.lt_or_ge 0 br' with h0 | h0
        · obtain rfl : br' = 1 := by omega
          obtain ⟨e1, e2⟩ := hneg rfl
          clear h0 hsgn hneg hbr'
          go_wp2_with (at_builtin; refine wpList_append_own _ rfl (.tmp 35) (.tmp 37) 90 rfl w.heap.size 3 i0 (.int .i64 0) 1 8 Tryz.underlying90 HI.out.1 HI.out.2.1 HI.out.2.2.1 HI.out.2.2.2 rfl (by decide) dv k (zs.map I8) rfl hownA ⟨wr.heap.size, 0, none⟩ 1 1 [.int .i64 (D : Int)] rfl rfl hnew.1 hnew.2 (by unfold maxLen; omega) (by omega) (by simp; omega) ?_; intro v' w1 hown' hgrow _)
          go_wp2_with fail
          go_roundg (n1 - (k + 1))
          case measure => have := HV.out.2.1; omega
          case rel => exact ⟨k + 1, 1, _, _, rfl, rfl, by go_num, rfl, HV.out.1.step HV.out.2.1 HV.out.2.2.1 (by omega) HV.out.2.2.2 hown' hgrow⟩
        · obtain rfl : br' = 0 := by omega
          obtain ⟨e1, e2⟩ := hsgn rfl
          clear h0 hsgn hneg hbr'
          go_wp2_with (at_builtin; refine wpList_append_own _ rfl (.tmp 35) (.tmp 37) 90 rfl w.heap.size 3 i0 (.int .i64 0) 1 8 Tryz.underlying90 HI.out.1 HI.out.2.1 HI.out.2.2.1 HI.out.2.2.2 rfl (by decide) dv k (zs.map I8) rfl hownA ⟨wr.heap.size, 0, none⟩ 1 1 [.int .i64 (D : Int)] rfl rfl hnew.1 hnew.2 (by unfold maxLen; omega) (by omega) (by simp; omega) ?_; intro v' w1 hown' hgrow _)
          go_wp2_with fail
          go_roundg (n1 - (k + 1))
          case measure => have := HV.out.2.1; omega
          case rel => exact ⟨k + 1, 0, _, _, rfl, rfl, by go_num, rfl, HV.out.1.step HV.out.2.1 HV.out.2.2.1 (by omega) HV.out.2.2.2 hown' hgrow⟩
    · obtain rfl : k = n1 := by omega
      have hka : ¬ (k : Int) < (k : Int) := by omega
      obtain ⟨A, c, rfl, hnc, hcm, hsl⟩ := owns_sl hown
      have hval := hR.val
      rw [List.take_of_length_le (by have := HX.out.2.1; have := HX.out.2.2.1; omega), List.take_of_length_le (by rw [HX.out.1]; exact Nat.le_refl _)] at hval
      have hz : val B4 zs = val B4 xs - val B4 ys := by
        have hlt := val_lt hR.ok
        rw [hR.len] at hlt
        have := HX.out.2.2.2
        rcases Nat.lt_or_ge 0 br with h0 | h0
        · have h1 : B4 ^ k ≤ br * B4 ^ k := Nat.le_mul_of_pos_left _ h0
          omega
        · have h1 : br = 0 := by omega
          subst h1
          omega
      have hcut := cut4_dig A k c zs wr hsl hR.ok hnc hcm
      rw [hz] at hcut
      have HB := Lib.hid hR.bel
      clear hR hval hz hown hsl hnc hcm hxk hyk hcl hkl ha hB
      go_wp2_with fail
      refine hcut.mono ?_
      rintro e w2 ⟨n, rfl, hn, hd, rfl⟩
      clear hn hcut
      go_wp2_with fail
      go_ret
      exact ⟨A, n, c, rfl, hd, HB.out⟩

theorem difference4_any (m1 m2 : Value) (a b : Nat) (w : World) (h1 : DigV w m1 a) (h2 : DigV w m2 b) (b1 : wlen B4 a ≤ 1000000000) (h : b ≤ a) :
    Calls Tryz.prog 185 #[m1, m2] w fun e w' => ∃ A n c, e = .returned (.slice A n c) ∧ DigV w' (.slice A n c) (a - b) ∧ Below w.heap.size w w' := by
  obtain ⟨A1, c1, rfl, _, _, s1⟩ := h1
  obtain ⟨A2, c2, rfl, _, _, s2⟩ := h2
  have hr := difference4_core A1 A2 _ _ c1 c2 _ _ w s1 s2 (ok_ws _) (ok_ws _) b1 (wlen_mono two_le_B4 h) (by rw [val_ws two_le_B4, val_ws two_le_B4]; exact h)
  rwa [val_ws two_le_B4, val_ws two_le_B4] at hr

end Go.Proofs.YtdclloledfjfjaaGreatDoor

namespace Go.Proofs.YtdclloledfjfjaaGreatDoor
open Go.RowKit Vd
attribute [local go_sem ↓] Go.wp_at_zero Go.wp_at_succ

/-- whether a text is a whole number -/
def okB (l : List UInt8) : Bool := (rd l).isSome
theorem okB_no {l : List UInt8} (h : 600 < (cutm l).1.length ∨ (cutm l).1 = [] ∨ ((cutm l).1.head? = some 48 ∧ l ≠ [48]) ∨ (cutm l).1.all isDig = false) : okB l = false := by
  unfold okB
  by_cases hl : 600 < (cutm l).1.length
  · have : rd l = none := by unfold rd; rw [if_neg (by rw [maxDigits_eq]; omega)]
    rw [this]; rfl
  · have hn : rdAny l = none := rdAny_none_head (h.resolve_left hl)
    have : rd l = none := by unfold rd; rw [hn]; split <;> rfl
    rw [this]; rfl
theorem okB_yes {l : List UInt8} (h0 : (cutm l).1.length ≤ 600) (h1 : (cutm l).1 ≠ []) (h2 : (cutm l).1.all isDig = true) (h3 : (cutm l).1.head? = some 48 → l = [48]) : okB l = true := by
  obtain ⟨z, hz, _⟩ := rdAny_good h1 h2 h3
  have : rd l = some z := by unfold rd; rw [if_pos (by rw [maxDigits_eq]; exact h0), hz]
  unfold okB; rw [this]; rfl
theorem okB_some {l : List UInt8} (h : okB l = true) : ∃ z, rd l = some z := Option.isSome_iff_exists.1 h
theorem okB_none {l : List UInt8} (h : okB l = false) : rd l = none := by
  unfold okB at h
  cases hr : rd l with
  | none => rfl
  | some z => rw [hr] at h; cases h
theorem cutm_pos {l : List UInt8} (h : l.head? ≠ some 45) : (cutm l).1 = l.drop 0 ∧ (cutm l).2 = false := by unfold cutm; rw [if_neg h]; exact ⟨rfl, rfl⟩
theorem cutm_neg {l : List UInt8} (h : l.head? = some 45) : (cutm l).1 = l.drop 1 ∧ (cutm l).2 = true := by unfold cutm; rw [if_pos h]; exact ⟨by simp, rfl⟩

theorem byte_ne {x : UInt8} {k : Nat} (hk : k < 256) (h : x ≠ UInt8.ofNat k) : ((x.toNat : Int) == (k : Int)) = false := by
  rw [beq_eq_false_iff_ne]
  intro e
  refine h (UInt8.toNat_inj.1 ?_)
  rw [UInt8.toNat_ofNat', Nat.mod_eq_of_lt hk]
  omega
theorem all_snoc {l : List UInt8} {i : Nat} {x : UInt8} (h : (l.take i).all isDig = true) (hx : l[i]? = some x) (hd : isDig x = true) : (l.take (i + 1)).all isDig = true := by
  rw [take_snoc hx, List.all_append, h]
  simp [hd]
theorem all_no {l : List UInt8} {i : Nat} {x : UInt8} (hx : l[i]? = some x) (hd : isDig x = false) : l.all isDig = false := by
  rw [Bool.eq_false_iff]
  intro h
  rw [List.all_eq_true] at h
  have := h x (List.mem_of_getElem? hx)
  rw [hd] at this; cases this
theorem isDig_no {x : UInt8} (h : isDig x = false) : x.toNat < 48 ∨ 57 < x.toNat := by
  rcases Nat.lt_or_ge x.toNat 48 with h1 | h1
  · exact Or.inl h1
  · rcases Nat.lt_or_ge 57 x.toNat with h2 | h2
    · exact Or.inr h2
    · rw [isDig_iff.2 ⟨h1, h2⟩] at h; cases h


set_option maxRecDepth 100000 in
set_option maxHeartbeats 1000000 in
theorem right_pos (l : List UInt8) (hl : l.length ≤ 1000000) (h0 : 0 < l.length) (hm : l.head? ≠ some 45) (w : World) :
    Calls Tryz.prog 76 #[.string ⟨l.toArray⟩] w fun e w' => e = .returned (.bool (okB l)) ∧ w = w' := by
  obtain ⟨hc1, hc2⟩ := cutm_pos hm
  obtain ⟨x0, hx0⟩ : ∃ x, l[0]? = some x := ⟨l[0], List.getElem?_eq_getElem h0⟩
  have hgx0 := getB h0 x0 hx0 h0
  have h0' : (0 : Int) < (l.length : Int) := by omega
  have hh : l.head? = some x0 := by rw [List.head?_eq_getElem?]; exact hx0
  rw [hh] at hm
  have K0 : ((x0.toNat : Int) == 45) = false := by exact byte_ne (k := 45) (by omega) (fun e => hm (by rw [e]; rfl))
  have hcl : (cutm l).1.length = l.length := by rw [hc1, List.length_drop]; rfl
  have hlI : (l.length : Int) ≤ 1000000 := by omega
  have HC := Lib.hid (And.intro hc1 (And.intro True.intro hcl))
  have HL := Lib.hid hl
  clear hm hh hc1 hc2 hcl hl
  have hz : ¬ l.length = 0 := by omega
  have i1 : ¬ (l.length : Int) < 1 := by omega
  by_cases hlong : 600 < l.length
  · have i2 : (600 : Int) < (l.length : Int) := by omega
    have HE := Lib.hid (okB_no (l := l) (Or.inl (by rw [HC.out.2.2]; exact hlong)))
    clear hz hlong
    go_enter Tryz.func76, Tryz.ntmps76
    go_wp2_with fail
    go_ret
    exact ⟨by rw [HE.out]; rfl, rfl⟩
  have i2 : ¬ (600 : Int) < (l.length : Int) := by omega
  have hgt : 0 < l.length := by omega
  have hgt' : (0 : Int) < (l.length : Int) := by omega
  have HZ := Lib.hid (And.intro hz (And.intro hlong (And.intro hx0 True.intro)))
  clear hz hlong hx0
  go_enter Tryz.func76, Tryz.ntmps76
  go_wp2_with fail
  go_loopg [5] (l.length - 0) (fun r iv W => ∃ i : Nat, r = l.length - i ∧ iv = .int .i64 (i : Int) ∧ 0 ≤ i ∧ i ≤ l.length ∧ ((l.drop 0).take (i - 0)).all isDig = true ∧ W = w)
  case atStart => exact ⟨0, rfl, rfl, Nat.le_refl _, by omega, rfl, rfl⟩
  case round =>
    obtain ⟨i, rfl, rfl, hi1, hi2, hall, rfl⟩ := hrel
    by_cases ha : i < l.length
    · have hka : (i : Int) < (l.length : Int) := by omega
      have hk0 : (0 : Int) ≤ (i : Int) := by omega
      have hkm : (i : Int) ≤ 1000000 := by have := HL.out; omega
      have hkb : i < (⟨l.toArray⟩ : ByteArray).size := ha
      obtain ⟨x, hx⟩ : ∃ x, l[i]? = some x := ⟨l[i], List.getElem?_eq_getElem ha⟩
      have hgx := getB ha x hx hkb
      have hxd : (l.drop 0)[i - 0]? = some x := by rw [List.getElem?_drop, show 0 + (i - 0) = i by omega]; exact hx
      by_cases hd : isDig x = true
      · have hd2 := isDig_iff.1 hd
        have j1 : ¬ (x.toNat : Int) < 48 := by omega
        have j2 : ¬ 57 < (x.toNat : Int) := by omega
        have hall' := all_snoc hall hxd hd
        rw [show i - 0 + 1 = i + 1 - 0 by omega] at hall'
        have HA := Lib.hid (And.intro hall' (And.intro hi1 ha))
        clear hd hd2 hall hall' hxd hx hi1 hi2 ha
        go_wp2_with fail
        go_roundg (l.length - (i + 1))
        case measure => have := HA.out.2.2; omega
        case rel => exact ⟨i + 1, rfl, by go_num, by have := HA.out.2.1; omega, by have := HA.out.2.2; omega, HA.out.1, rfl⟩
      · have hd' : isDig x = false := by simpa using hd
        have HE := Lib.hid (okB_no (l := l) (Or.inr (Or.inr (Or.inr (by rw [HC.out.1]; exact all_no hxd hd')))))
        rcases isDig_no hd' with h1 | h1
        · have j1 : (x.toNat : Int) < 48 := by omega
          clear hd hd' hall hxd hx hi1 hi2 ha h1
          go_wp2_with fail
          go_ret
          exact ⟨by rw [HE.out]; rfl, rfl⟩
        · have j1 : ¬ (x.toNat : Int) < 48 := by omega
          have j2 : 57 < (x.toNat : Int) := by omega
          clear hd hd' hall hxd hx hi1 hi2 ha h1
          go_wp2_with fail
          go_ret
          exact ⟨by rw [HE.out]; rfl, rfl⟩
    · obtain rfl : i = l.length := by omega
      have hka : ¬ (l.length : Int) < (l.length : Int) := by omega
      have hall2 : (l.drop 0).all isDig = true := by
        rw [List.take_of_length_le (by rw [List.length_drop]; exact Nat.le_refl _)] at hall
        exact hall
      rw [← HC.out.1] at hall2
      have hne : (cutm l).1 ≠ [] := fun e => HZ.out.1 (by rw [← HC.out.2.2, e]; rfl)
      have hle : (cutm l).1.length ≤ 600 := by rw [HC.out.2.2]; have := HZ.out.2.1; omega
      have hhd : (cutm l).1.head? = some x0 := by rw [HC.out.1, List.head?_eq_getElem?, List.getElem?_drop]; exact HZ.out.2.2.1
      by_cases h48 : x0 = 48
      · have J1 : ((x0.toNat : Int) != 48) = false := by rw [h48]; decide
        by_cases h1 : l.length = 1
        · have J2 : ((l.length : Int) == 1) = true := by rw [beq_iff_eq]; omega
          have hl1 : l = [48] := by
            obtain ⟨a, rfl⟩ := List.length_eq_one_iff.1 h1
            have := HZ.out.2.2.1
            simp at this
            rw [this, h48]
          have HE := Lib.hid (okB_yes hle hne hall2 (fun _ => hl1))
          clear hall hall2 hne hle hhd h48 ha hi1 hi2 hl1 h1
          go_wp2_with fail
          go_ret
          exact ⟨by rw [HE.out]; rfl, rfl⟩
        · have J2 : ((l.length : Int) == 1) = false := by rw [beq_eq_false_iff_ne]; omega
          have HE := Lib.hid (okB_no (l := l) (Or.inr (Or.inr (Or.inl ⟨by rw [hhd, h48], fun e => h1 (by rw [e]; rfl)⟩))))
          clear hall hall2 hne hle hhd h48 ha hi1 hi2 h1
          go_wp2_with fail
          go_ret
          exact ⟨by rw [HE.out]; rfl, rfl⟩
      · have J1 : ((x0.toNat : Int) != 48) = true := by
          have := byte_ne (x := x0) (k := 48) (by omega) h48
          rw [bne, show (48 : Int) = ((48 : Nat) : Int) from rfl, this]; rfl
        have HE := Lib.hid (okB_yes hle hne hall2 (fun h => by rw [hhd] at h; injection h with h; exact absurd h h48))
        clear hall hall2 hne hle hhd h48 ha hi1 hi2
        go_wp2_with fail
        go_ret
        exact ⟨by rw [HE.out]; rfl, rfl⟩


set_option maxRecDepth 100000 in
set_option maxHeartbeats 1000000 in
theorem right_neg (l : List UInt8) (hl : l.length ≤ 1000000) (h0 : 0 < l.length) (hm : l.head? = some 45) (w : World) :
    Calls Tryz.prog 76 #[.string ⟨l.toArray⟩] w fun e w' => e = .returned (.bool (okB l)) ∧ w = w' := by
  obtain ⟨hc1, hc2⟩ := cutm_neg hm
  obtain ⟨x0, hx0⟩ : ∃ x, l[0]? = some x := ⟨l[0], List.getElem?_eq_getElem h0⟩
  have hgx0 := getB h0 x0 hx0 h0
  have h0' : (0 : Int) < (l.length : Int) := by omega
  have hh : l.head? = some x0 := by rw [List.head?_eq_getElem?]; exact hx0
  rw [hh] at hm
  have K0 : ((x0.toNat : Int) == 45) = true := by injection hm with hm; rw [hm]; decide
  obtain ⟨L, hL⟩ : ∃ L, L = l.length - 1 := ⟨_, rfl⟩
  have hcl : (cutm l).1.length = L := by rw [hc1, List.length_drop, hL]
  have E1 : (l.length : Int) - 1 = (L : Int) := by omega
  have hlI : (l.length : Int) ≤ 1000000 := by omega
  have HC := Lib.hid (And.intro hc1 (And.intro hL hcl))
  have HL := Lib.hid hl
  clear hm hh hx0 hc1 hc2 hcl hl
  by_cases hz : L = 0
  · have i1 : (L : Int) < 1 := by omega
    have HE := Lib.hid (okB_no (l := l) (Or.inr (Or.inl (List.eq_nil_of_length_eq_zero (by rw [HC.out.2.2]; exact hz)))))
    clear hz hL
    go_enter Tryz.func76, Tryz.ntmps76
    go_wp2_with fail
    go_ret
    exact ⟨by rw [HE.out]; rfl, rfl⟩
  have i1 : ¬ (L : Int) < 1 := by omega
  by_cases hlong : 600 < L
  · have i2 : (600 : Int) < (L : Int) := by omega
    have HE := Lib.hid (okB_no (l := l) (Or.inl (by rw [HC.out.2.2]; exact hlong)))
    clear hz hL hlong
    go_enter Tryz.func76, Tryz.ntmps76
    go_wp2_with fail
    go_ret
    exact ⟨by rw [HE.out]; rfl, rfl⟩
  have i2 : ¬ (600 : Int) < (L : Int) := by omega
  have hgt : 1 < l.length := by omega
  obtain ⟨y0, hy0⟩ : ∃ x, l[1]? = some x := ⟨l[1], List.getElem?_eq_getElem hgt⟩
  have hgy0 := getB hgt y0 hy0 hgt
  have hgt' : (1 : Int) < (l.length : Int) := by omega
  have HZ := Lib.hid (And.intro hz (And.intro hlong (And.intro hy0 hL)))
  clear hz hlong hy0 hL
  go_enter Tryz.func76, Tryz.ntmps76
  go_wp2_with fail
  go_loopg [5] (l.length - 1) (fun r iv W => ∃ i : Nat, r = l.length - i ∧ iv = .int .i64 (i : Int) ∧ 1 ≤ i ∧ i ≤ l.length ∧ ((l.drop 1).take (i - 1)).all isDig = true ∧ W = w)
  case atStart => exact ⟨1, rfl, rfl, Nat.le_refl _, by omega, rfl, rfl⟩
  case round =>
    obtain ⟨i, rfl, rfl, hi1, hi2, hall, rfl⟩ := hrel
    by_cases ha : i < l.length
    · have hka : (i : Int) < (l.length : Int) := by omega
      have hk0 : (0 : Int) ≤ (i : Int) := by omega
      have hkm : (i : Int) ≤ 1000000 := by have := HL.out; omega
      have hkb : i < (⟨l.toArray⟩ : ByteArray).size := ha
      obtain ⟨x, hx⟩ : ∃ x, l[i]? = some x := ⟨l[i], List.getElem?_eq_getElem ha⟩
      have hgx := getB ha x hx hkb
      have hxd : (l.drop 1)[i - 1]? = some x := by rw [List.getElem?_drop, show 1 + (i - 1) = i by omega]; exact hx
      by_cases hd : isDig x = true
      · have hd2 := isDig_iff.1 hd
        have j1 : ¬ (x.toNat : Int) < 48 := by omega
        have j2 : ¬ 57 < (x.toNat : Int) := by omega
        have hall' := all_snoc hall hxd hd
        rw [show i - 1 + 1 = i + 1 - 1 by omega] at hall'
        have HA := Lib.hid (And.intro hall' (And.intro hi1 ha))
        clear hd hd2 hall hall' hxd hx hi1 hi2 ha
        go_wp2_with fail
        go_roundg (l.length - (i + 1))
        case measure => have := HA.out.2.2; omega
        case rel => exact ⟨i + 1, rfl, by go_num, by have := HA.out.2.1; omega, by have := HA.out.2.2; omega, HA.out.1, rfl⟩
      · have hd' : isDig x = false := by simpa using hd
        have HE := Lib.hid (okB_no (l := l) (Or.inr (Or.inr (Or.inr (by rw [HC.out.1]; exact all_no hxd hd')))))
        rcases isDig_no hd' with h1 | h1
        · have j1 : (x.toNat : Int) < 48 := by omega
          clear hd hd' hall hxd hx hi1 hi2 ha h1
          go_wp2_with fail
          go_ret
          exact ⟨by rw [HE.out]; rfl, rfl⟩
        · have j1 : ¬ (x.toNat : Int) < 48 := by omega
          have j2 : 57 < (x.toNat : Int) := by omega
          clear hd hd' hall hxd hx hi1 hi2 ha h1
          go_wp2_with fail
          go_ret
          exact ⟨by rw [HE.out]; rfl, rfl⟩
    · obtain rfl : i = l.length := by omega
      have hka : ¬ (l.length : Int) < (l.length : Int) := by omega
      have hall2 : (l.drop 1).all isDig = true := by
        rw [List.take_of_length_le (by rw [List.length_drop]; exact Nat.le_refl _)] at hall
        exact hall
      rw [← HC.out.1] at hall2
      have hne : (cutm l).1 ≠ [] := fun e => HZ.out.1 (by rw [← HC.out.2.2, e]; rfl)
      have hle : (cutm l).1.length ≤ 600 := by rw [HC.out.2.2]; have := HZ.out.2.1; omega
      have hhd : (cutm l).1.head? = some y0 := by rw [HC.out.1, List.head?_eq_getElem?, List.getElem?_drop]; exact HZ.out.2.2.1
      by_cases h48 : y0 = 48
      · have J1 : ((y0.toNat : Int) != 48) = false := by rw [h48]; decide
        have J2 : ((l.length : Int) == 1) = false := by rw [beq_eq_false_iff_ne]; omega
        have HE := Lib.hid (okB_no (l := l) (Or.inr (Or.inr (Or.inl ⟨by rw [hhd, h48], fun e => by rw [e] at hgt; simp at hgt⟩))))
        clear hall hall2 hne hle hhd h48 ha hi1 hi2
        go_wp2_with fail
        go_ret
        exact ⟨by rw [HE.out]; rfl, rfl⟩
      · have J1 : ((y0.toNat : Int) != 48) = true := by
          have := byte_ne (x := y0) (k := 48) (by omega) h48
          rw [bne, show (48 : Int) = ((48 : Nat) : Int) from rfl, this]; rfl
        have HE := Lib.hid (okB_yes hle hne hall2 (fun h => by rw [hhd] at h; injection h with h; exact absurd h h48))
        clear hall hall2 hne hle hhd h48 ha hi1 hi2
        go_wp2_with fail
        go_ret
        exact ⟨by rw [HE.out]; rfl, rfl⟩


set_option maxRecDepth 100000 in
set_option maxHeartbeats 1000000 in
theorem right_nil (w : World) :
    Calls Tryz.prog 76 #[.string ⟨#[]⟩] w fun e w' => e = .returned (.bool false) ∧ w = w' := by
  go_enter Tryz.func76, Tryz.ntmps76
  go_wp2_with fail
  go_ret
  exact ⟨rfl, rfl⟩

theorem right_any (l : List UInt8) (hl : l.length ≤ 1000000) (w : World) :
    Calls Tryz.prog 76 #[.string ⟨l.toArray⟩] w fun e w' => e = .returned (.bool (okB l)) ∧ w = w' := by
  rcases Nat.eq_zero_or_pos l.length with h | h
  · obtain rfl := List.eq_nil_of_length_eq_zero h
    exact right_nil w
  · by_cases hm : l.head? = some 45
    · exact right_neg l hl h hm w
    · exact right_pos l hl h hm w

end Go.Proofs.YtdclloledfjfjaaGreatDoor

namespace Go.Proofs.YtdclloledfjfjaaGreatDoor
open Go.RowKit Vd
attribute [local go_sem ↓] Go.wp_at_zero Go.wp_at_succ

theorem in_step {t : List UInt8} {k m s : Nat} {zs : List Nat} (hm : m = t.length - 4 * k) (hs : s = m - 4) (hl : zs.length = k) (h : val B4 zs + B4 ^ k * dval (t.take m) = dval t) :
    val B4 (zs ++ [dval ((t.drop s).take (m - s))]) + B4 ^ (k + 1) * dval (t.take (t.length - 4 * (k + 1))) = dval t := by
  have e1 : t.length - 4 * (k + 1) = s := by omega
  have hmt : m ≤ t.length := by omega
  have e2 : t.take m = t.take s ++ (t.drop s).take (m - s) := by
    rw [show m = s + (m - s) by omega, List.take_add]
    congr 2
    omega
  rw [e2, dval_append, List.length_take, List.length_drop, Nat.min_eq_left (by omega)] at h
  rw [val_snoc, hl, e1, Nat.pow_succ]
  rw [← h]
  rcases Nat.lt_or_ge m 4 with h4 | h4
  · have h0 : s = 0 := by omega
    subst h0
    simp [dval_nil]
  · have h0 : m - s = 4 := by omega
    rw [h0, show (10 : Nat) ^ 4 = B4 from rfl, Nat.mul_add, Nat.mul_assoc, Nat.mul_comm B4]
    omega

theorem grp_lt {t : List UInt8} (h : t.all isDig = true) (b n : Nat) (hn : n ≤ 4) : dval ((t.drop b).take n) < 10000 := by
  have h1 : ((t.drop b).take n).all isDig = true := by
    rw [List.all_eq_true] at h ⊢
    intro x hx
    exact h x (List.mem_of_mem_drop (List.mem_of_mem_take hx))
  have h2 := dval_lt h1
  have h3 : ((t.drop b).take n).length ≤ 4 := by rw [List.length_take]; omega
  exact Nat.lt_of_lt_of_le h2 (Nat.pow_le_pow_right (by decide) h3)

theorem grp_step {l : List UInt8} {b i : Nat} {x : UInt8} (hbi : b ≤ i) (hx : l[i]? = some x) : dval ((l.drop b).take (i + 1 - b)) = dval ((l.drop b).take (i - b)) * 10 + (x.toNat - 48) := by
  rw [show i + 1 - b = i - b + 1 by omega, take_snoc (x := x) (by rw [List.getElem?_drop, show b + (i - b) = i by omega]; exact hx), dval_snoc]

theorem rd_parts {l : List UInt8} {z : Int} (h : rd l = some z) : (cutm l).1 ≠ [] ∧ (cutm l).1.all isDig = true ∧ (cutm l).1.length ≤ 600 ∧ sgn (dval (cutm l).1) (cutm l).2 = z := by
  unfold rd at h
  split at h
  · rename_i hl
    unfold rdAny at h
    split at h
    · rename_i hc
      injection h with h
      exact ⟨hc.1, hc.2.1, by rw [maxDigits_eq] at hl; exact hl, h⟩
    · cases h
  · cases h


set_option maxRecDepth 100000 in
set_option maxHeartbeats 4000000 in
theorem in_pos (l : List UInt8) (z : Int) (w : World) (hr : rd l = some z) (hm : l.head? ≠ some 45) :
    Calls Tryz.prog 78 #[.string ⟨l.toArray⟩] w fun e w' => ∃ v, e = .returned v ∧ PlV w' v z ∧ Below w.heap.size w w' := by
  obtain ⟨i0, hi, hz0, hz1, hz2⟩ := info_parts infoI
  have HI := Lib.hid (And.intro hi (And.intro hz0 (And.intro hz1 hz2)))
  clear hi hz0 hz1 hz2
  obtain ⟨hc1, hc2⟩ := cutm_pos hm
  obtain ⟨p1, p2, p3, p4⟩ := rd_parts hr
  rw [hc1] at p1 p2 p3 p4
  rw [hc2] at p4
  have h0 : 0 < l.length := by
    rcases Nat.lt_or_ge 0 l.length with h | h
    · exact h
    · exact absurd (List.drop_eq_nil_of_le h) p1
  have hl0 : 0 < l.length := by omega
  obtain ⟨x0, hx0⟩ : ∃ x, l[0]? = some x := ⟨l[0], List.getElem?_eq_getElem hl0⟩
  have hgx0 := getB hl0 x0 hx0 hl0
  have h0' : (0 : Int) < (l.length : Int) := by omega
  have hh : l.head? = some x0 := by rw [List.head?_eq_getElem?]; exact hx0
  rw [hh] at hm
  have K0 : ((x0.toNat : Int) == 45) = false := by exact byte_ne (k := 45) (by omega) (fun e => hm (by rw [e]; rfl))
  rw [List.length_drop] at p3
  have hlI : (l.length : Int) ≤ 601 := by omega
  have hbx := BoxP.alloc w none 0 0 false
  have hbW : Below w.heap.size w (w.alloc (.cells #[.bool false, .slice none 0 0] 92)) := (Below.refl _ _).alloc (Nat.le_refl _) _
  have HP := Lib.hid (And.intro p2 (And.intro p3 (And.intro p4 h0)))
  clear hm hh hx0 hc1 hc2 p1 p2 p3 p4 h0 hr
  go_enter Tryz.func78, Tryz.ntmps78
  go_wp2_with fail
  go_loopg [4, 5] (l.length - 0) (fun r dvv ev W => ∃ (k : Nat) (E : Int) (zs : List Nat) (dv : Value), dv = dvv ∧ ev = .int .i64 E ∧ E = (l.length : Int) - 4 * (k : Int) ∧ r = (l.length - 0) - 4 * k ∧ k ≤ 151 ∧ zs.length = k ∧ Ok B4 zs ∧ val B4 zs + B4 ^ k * dval ((l.drop 0).take (l.length - 0 - 4 * k)) = dval (l.drop 0) ∧ W.ownsRow (w.heap.size + 1) 3 1 dvv k (zs.map I8) ∧ BoxP W w.heap.size ∧ Below w.heap.size w W ∧ w.heap.size + 1 ≤ W.heap.size)
  case atStart => exact ⟨0, _, [], _, rfl, rfl, by simp, rfl, by omega, rfl, Ok.nil, by rw [val_nil, Nat.mul_zero, Nat.sub_zero, List.take_of_length_le (by rw [List.length_drop]; exact Nat.le_refl _)]; simp, World.ownsRow_nil _ _ _ _, hbx, hbW, by simp⟩
  case round =>
    clear hbx hbW
    obtain ⟨k, E, zs, dv, hdv, rfl, hE, rfl, hk, hlz, hok, hval, hown, hbx, hbel, hsz⟩ := hrel
    subst hdv
    by_cases ha : 4 * k < l.length - 0
    · obtain ⟨m, hm⟩ : ∃ m, m = l.length - 0 - 4 * k := ⟨_, rfl⟩
      obtain ⟨s, hs⟩ : ∃ s, s = m - 4 := ⟨_, rfl⟩
      obtain ⟨e, he⟩ : ∃ e, e = 0 + m := ⟨_, rfl⟩
      obtain ⟨b, hb⟩ : ∃ b, b = 0 + s := ⟨_, rfl⟩
      have heE : E = (e : Int) := by omega
      subst heE
      have i1 : (0 : Int) < (e : Int) := by omega
      have i2 : (e : Int) ≤ 601 := by omega
      have M1 : max ((e : Int) - 4) 0 = (b : Int) := by omega
      have hstep := in_step (t := l.drop 0) (k := k) (m := m) (s := s) (zs := zs) (by rw [List.length_drop]; exact hm) hs hlz (by rw [← hm] at hval; exact hval)
      rw [List.length_drop, List.drop_drop, ← hb, show m - s = e - b by omega] at hstep
      have hglt := grp_lt (t := l.drop 0) HP.out.1 s (e - b) (by omega)
      rw [List.drop_drop, ← hb] at hglt
      have HK := Lib.hid (And.intro hstep (And.intro hglt (And.intro hk (And.intro hlz (And.intro hok (And.intro ha (And.intro hE (And.intro (show b ≤ e ∧ e ≤ l.length ∧ 0 ≤ b ∧ e ≤ b + 4 by omega) hval))))))))
      have HM := Lib.hid (And.intro hown (And.intro hbx (And.intro hbel hsz)))
      clear hm hs he hb hstep hglt hk hlz hok ha hE hval hown hbx hbel hsz
      go_wp2_with fail
      go_loopg [6, 7] (e - b) (fun r nv iv W => ∃ (i M : Nat), iv = .int .i64 (i : Int) ∧ nv = .int .i64 (M : Int) ∧ r = e - i ∧ b ≤ i ∧ i ≤ e ∧ M = dval ((l.drop b).take (i - b)) ∧ W = wr)
      case atStart => exact ⟨b, 0, rfl, rfl, rfl, Nat.le_refl _, HK.out.2.2.2.2.2.2.2.1.1, by rw [Nat.sub_self]; rfl, rfl⟩
      case round =>
        obtain ⟨i, M, rfl, rfl, rfl, hi1, hi2, hM, rfl⟩ := hrel
        by_cases hc : i < e
        · have hka : (i : Int) < (e : Int) := by omega
          have hil : i < l.length := by have := HK.out.2.2.2.2.2.2.2.1; omega
          have hkl : (i : Int) < (l.length : Int) := by omega
          have hk0 : (0 : Int) ≤ (i : Int) := by omega
          have hkb : i < (⟨l.toArray⟩ : ByteArray).size := hil
          obtain ⟨x, hx⟩ : ∃ x, l[i]? = some x := ⟨l[i], List.getElem?_eq_getElem hil⟩
          have hgx := getB hil x hx hkb
          have hxm : x ∈ l.drop 0 := by
            refine List.mem_of_getElem? (i := i - 0) ?_
            have := HK.out.2.2.2.2.2.2.2.1
            rw [List.getElem?_drop, show 0 + (i - 0) = i by omega]; exact hx
          have hxd : isDig x = true := List.all_eq_true.1 HP.out.1 x hxm
          obtain ⟨d, hd9, hd, hde⟩ := digit_of hxd
          have hst := grp_step hi1 hx
          rw [← hM, hd] at hst
          have hMl : M ≤ 999 := by
            have h1 : ((l.drop b).take (i - b)).all isDig = true := by
              rw [List.all_eq_true]
              intro y hy
              have h2 := List.mem_of_mem_take hy
              have := HK.out.2.2.2.2.2.2.2.1
              have h3 : y ∈ l.drop 0 := by
                rw [show b = 0 + (b - 0) by omega, ← List.drop_drop] at h2
                exact List.mem_of_mem_drop h2
              exact List.all_eq_true.1 HP.out.1 y h3
            have h2 := dval_lt h1
            rw [← hM] at h2
            have := HK.out.2.2.2.2.2.2.2.1
            have h3 : ((l.drop b).take (i - b)).length ≤ 3 := by rw [List.length_take]; omega
            have h4 : (10 : Nat) ^ ((l.drop b).take (i - b)).length ≤ 10 ^ 3 := Nat.pow_le_pow_right (by decide) h3
            omega
          have j1 : (0 : Int) ≤ (M : Int) := by omega
          have j2 : (M : Int) ≤ 999 := by omega
          have j3 : (0 : Int) ≤ (d : Int) := by omega
          have j4 : (d : Int) ≤ 9 := by omega
          have E3 : IntKind.u8.wrap ((x.toNat : Int) - 48) = (d : Int) := by rw [IntKind.wrap_u8]; exact hde
          have HX := Lib.hid (And.intro hst (And.intro hi1 hc))
          clear hst hi1 hi2 hc hM hMl hd hd9 hxd hxm hx hil
          go_wp2_with fail
          go_roundg (e - (i + 1))
          case measure => have := HX.out.2.2; omega
          case rel => exact ⟨i + 1, M * 10 + d, by go_num, by go_num, rfl, by have := HX.out.2.1; omega, by have := HX.out.2.2; omega, HX.out.1.symm, rfl⟩
        · obtain rfl : i = e := by omega
          have hka : ¬ (i : Int) < (i : Int) := by omega
          have hglt := HK.out.2.1
          rw [← hM] at hglt
          have hstep := HK.out.1
          rw [← hM] at hstep
          have hnew := news_one wr (.int .i64 (M : Int)) 3 rfl
          have hownA := HM.out.1.alloc (.cells #[.int .i64 (M : Int)] 3)
          have hk151 := HK.out.2.2.1
          have hsz := HM.out.2.2.2
          have HX := Lib.hid (And.intro hglt hstep)
          clear hglt hstep hM hi1 hi2 hc
          go_wp2_with (at_builtin; refine wpList_append_own _ rfl (.tmp 35) (.tmp 37) 90 rfl (w.heap.size + 1) 3 i0 (.int .i64 0) 1 8 Tryz.underlying90 HI.out.1 HI.out.2.1 HI.out.2.2.1 HI.out.2.2.2 rfl (by decide) dv k (zs.map I8) rfl hownA ⟨wr.heap.size, 0, none⟩ 1 1 [.int .i64 (M : Int)] rfl rfl hnew.1 hnew.2 (by unfold maxLen; omega) (by omega) (by simp; omega) ?_; intro v' w1 hown' hgrow _)
          have hwr : Below wr.heap.size wr (wr.alloc (.cells #[.int .i64 (M : Int)] 3)) := (Below.refl _ _).alloc (Nat.le_refl _) _
          have hb1 : Below (w.heap.size + 1) (wr.alloc (.cells #[.int .i64 (M : Int)] 3)) w1 := below_own (Below.refl _ _) hownA hgrow (Nat.le_refl _) (by simp; omega)
          have hb0 := Lib.hid ((hwr.mono hsz).trans hb1)
          have hown2 : w1.ownsRow (w.heap.size + 1) 3 1 v' (k + 1) ((zs ++ [M]).map I8) := by
            rw [List.map_append]; exact hown'
          have HO := Lib.hid hown2
          clear hwr hsz hb1 hown2 hown' hgrow hownA hnew
          go_wp2_with fail
          go_roundg (l.length - 0 - 4 * (k + 1))
          case measure => have := HK.out.2.2.2.2.2.1; omega
          case rel =>
            obtain ⟨_, _, hk, hlz, hok, ha, hE, hbd, hval⟩ := HK.out
            obtain ⟨hown, hbx, hbel, hsz⟩ := HM.out
            have hb0 := hb0.out
            exact ⟨k + 1, _, _, _, rfl, rfl, by omega, rfl, by have := HP.out.2.1; omega, by rw [List.length_append, hlz]; rfl, hok.app (Ok.cons HX.out.1 Ok.nil), HX.out.2, HO.out, hbx.below hb0 (by omega), hbel.trans (hb0.mono (by omega)), Nat.le_trans hsz hb0.size⟩
    · have i1 : ¬ (0 : Int) < E := by omega
      rw [show l.length - 0 - 4 * k = 0 by omega, List.take_zero, dval_nil, Nat.mul_zero, Nat.add_zero] at hval
      obtain ⟨A, c, rfl, hnc, hcm, hsl⟩ := owns_sl hown
      have hmd := made_any false A k c zs wr hsl hok hnc hcm
      rw [hval, HP.out.2.2.1] at hmd
      have hlt := hbx.lt
      clear hval hown hok hk hlz hE ha hsl hnc hcm
      go_wp2_with fail
      refine hmd.mono ?_
      rintro e w2 ⟨v, rfl, hv, hb2⟩
      obtain ⟨A2, n2, c2, k2, rfl⟩ := hv.open
      have hbx2 := hbx.below hb2 hbx.lt
      obtain ⟨⟨q0, hc0⟩, ⟨q1, hc1⟩, hf0, hf1⟩ := hbx2.facts
      clear hmd
      go_wp2_with fail
      exact bodyPost_ret (v := .agg #[.bool k2, .slice A2 n2 c2]) (by simp [results, Tryz.results78, go_sem, hc0, hc1]) rfl ⟨_, rfl, hv.sets hbx2 _ _, ((hbel.trans (hb2.mono hbel.size)).setCell (Nat.le_refl _) _).setCell (Nat.le_refl _) _⟩


set_option maxRecDepth 100000 in
set_option maxHeartbeats 4000000 in
theorem in_neg (l : List UInt8) (z : Int) (w : World) (hr : rd l = some z) (hm : l.head? = some 45) :
    Calls Tryz.prog 78 #[.string ⟨l.toArray⟩] w fun e w' => ∃ v, e = .returned v ∧ PlV w' v z ∧ Below w.heap.size w w' := by
  obtain ⟨i0, hi, hz0, hz1, hz2⟩ := info_parts infoI
  have HI := Lib.hid (And.intro hi (And.intro hz0 (And.intro hz1 hz2)))
  clear hi hz0 hz1 hz2
  obtain ⟨hc1, hc2⟩ := cutm_neg hm
  obtain ⟨p1, p2, p3, p4⟩ := rd_parts hr
  rw [hc1] at p1 p2 p3 p4
  rw [hc2] at p4
  have h0 : 1 < l.length := by
    rcases Nat.lt_or_ge 1 l.length with h | h
    · exact h
    · exact absurd (List.drop_eq_nil_of_le h) p1
  have hl0 : 0 < l.length := by omega
  obtain ⟨x0, hx0⟩ : ∃ x, l[0]? = some x := ⟨l[0], List.getElem?_eq_getElem hl0⟩
  have hgx0 := getB hl0 x0 hx0 hl0
  have h0' : (0 : Int) < (l.length : Int) := by omega
  have hh : l.head? = some x0 := by rw [List.head?_eq_getElem?]; exact hx0
  rw [hh] at hm
  have K0 : ((x0.toNat : Int) == 45) = true := by injection hm with hm; rw [hm]; decide
  rw [List.length_drop] at p3
  have hlI : (l.length : Int) ≤ 601 := by omega
  have hbx := BoxP.alloc w none 0 0 false
  have hbW : Below w.heap.size w (w.alloc (.cells #[.bool false, .slice none 0 0] 92)) := (Below.refl _ _).alloc (Nat.le_refl _) _
  have HP := Lib.hid (And.intro p2 (And.intro p3 (And.intro p4 h0)))
  clear hm hh hx0 hc1 hc2 p1 p2 p3 p4 h0 hr
  go_enter Tryz.func78, Tryz.ntmps78
  go_wp2_with fail
  go_loopg [4, 5] (l.length - 1) (fun r dvv ev W => ∃ (k : Nat) (E : Int) (zs : List Nat) (dv : Value), dv = dvv ∧ ev = .int .i64 E ∧ E = (l.length : Int) - 4 * (k : Int) ∧ r = (l.length - 1) - 4 * k ∧ k ≤ 151 ∧ zs.length = k ∧ Ok B4 zs ∧ val B4 zs + B4 ^ k * dval ((l.drop 1).take (l.length - 1 - 4 * k)) = dval (l.drop 1) ∧ W.ownsRow (w.heap.size + 1) 3 1 dvv k (zs.map I8) ∧ BoxP W w.heap.size ∧ Below w.heap.size w W ∧ w.heap.size + 1 ≤ W.heap.size)
  case atStart => exact ⟨0, _, [], _, rfl, rfl, by simp, rfl, by omega, rfl, Ok.nil, by rw [val_nil, Nat.mul_zero, Nat.sub_zero, List.take_of_length_le (by rw [List.length_drop]; exact Nat.le_refl _)]; simp, World.ownsRow_nil _ _ _ _, hbx, hbW, by simp⟩
  case round =>
    clear hbx hbW
    obtain ⟨k, E, zs, dv, hdv, rfl, hE, rfl, hk, hlz, hok, hval, hown, hbx, hbel, hsz⟩ := hrel
    subst hdv
    by_cases ha : 4 * k < l.length - 1
    · obtain ⟨m, hm⟩ : ∃ m, m = l.length - 1 - 4 * k := ⟨_, rfl⟩
      obtain ⟨s, hs⟩ : ∃ s, s = m - 4 := ⟨_, rfl⟩
      obtain ⟨e, he⟩ : ∃ e, e = 1 + m := ⟨_, rfl⟩
      obtain ⟨b, hb⟩ : ∃ b, b = 1 + s := ⟨_, rfl⟩
      have heE : E = (e : Int) := by omega
      subst heE
      have i1 : (1 : Int) < (e : Int) := by omega
      have i2 : (e : Int) ≤ 601 := by omega
      have M1 : max ((e : Int) - 4) 1 = (b : Int) := by omega
      have hstep := in_step (t := l.drop 1) (k := k) (m := m) (s := s) (zs := zs) (by rw [List.length_drop]; exact hm) hs hlz (by rw [← hm] at hval; exact hval)
      rw [List.length_drop, List.drop_drop, ← hb, show m - s = e - b by omega] at hstep
      have hglt := grp_lt (t := l.drop 1) HP.out.1 s (e - b) (by omega)
      rw [List.drop_drop, ← hb] at hglt
      have HK := Lib.hid (And.intro hstep (And.intro hglt (And.intro hk (And.intro hlz (And.intro hok (And.intro ha (And.intro hE (And.intro (show b ≤ e ∧ e ≤ l.length ∧ 1 ≤ b ∧ e ≤ b + 4 by omega) hval))))))))
      have HM := Lib.hid (And.intro hown (And.intro hbx (And.intro hbel hsz)))
      clear hm hs he hb hstep hglt hk hlz hok ha hE hval hown hbx hbel hsz
      go_wp2_with fail
      go_loopg [6, 7] (e - b) (fun r nv iv W => ∃ (i M : Nat), iv = .int .i64 (i : Int) ∧ nv = .int .i64 (M : Int) ∧ r = e - i ∧ b ≤ i ∧ i ≤ e ∧ M = dval ((l.drop b).take (i - b)) ∧ W = wr)
      case atStart => exact ⟨b, 0, rfl, rfl, rfl, Nat.le_refl _, HK.out.2.2.2.2.2.2.2.1.1, by rw [Nat.sub_self]; rfl, rfl⟩
      case round =>
        obtain ⟨i, M, rfl, rfl, rfl, hi1, hi2, hM, rfl⟩ := hrel
        by_cases hc : i < e
        · have hka : (i : Int) < (e : Int) := by omega
          have hil : i < l.length := by have := HK.out.2.2.2.2.2.2.2.1; omega
          have hkl : (i : Int) < (l.length : Int) := by omega
          have hk0 : (0 : Int) ≤ (i : Int) := by omega
          have hkb : i < (⟨l.toArray⟩ : ByteArray).size := hil
          obtain ⟨x, hx⟩ : ∃ x, l[i]? = some x := ⟨l[i], List.getElem?_eq_getElem hil⟩
          have hgx := getB hil x hx hkb
          have hxm : x ∈ l.drop 1 := by
            refine List.mem_of_getElem? (i := i - 1) ?_
            have := HK.out.2.2.2.2.2.2.2.1
            rw [List.getElem?_drop, show 1 + (i - 1) = i by omega]; exact hx
          have hxd : isDig x = true := List.all_eq_true.1 HP.out.1 x hxm
          obtain ⟨d, hd9, hd, hde⟩ := digit_of hxd
          have hst := grp_step hi1 hx
          rw [← hM, hd] at hst
          have hMl : M ≤ 999 := by
            have h1 : ((l.drop b).take (i - b)).all isDig = true := by
              rw [List.all_eq_true]
              intro y hy
              have h2 := List.mem_of_mem_take hy
              have := HK.out.2.2.2.2.2.2.2.1
              have h3 : y ∈ l.drop 1 := by
                rw [show b = 1 + (b - 1) by omega, ← List.drop_drop] at h2
                exact List.mem_of_mem_drop h2
              exact List.all_eq_true.1 HP.out.1 y h3
            have h2 := dval_lt h1
            rw [← hM] at h2
            have := HK.out.2.2.2.2.2.2.2.1
            have h3 : ((l.drop b).take (i - b)).length ≤ 3 := by rw [List.length_take]; omega
            have h4 : (10 : Nat) ^ ((l.drop b).take (i - b)).length ≤ 10 ^ 3 := Nat.pow_le_pow_right (by decide) h3
            omega
          have j1 : (0 : Int) ≤ (M : Int) := by omega
          have j2 : (M : Int) ≤ 999 := by omega
          have j3 : (0 : Int) ≤ (d : Int) := by omega
          have j4 : (d : Int) ≤ 9 := by omega
          have E3 : IntKind.u8.wrap ((x.toNat : Int) - 48) = (d : Int) := by rw [IntKind.wrap_u8]; exact hde
          have HX := Lib.hid (And.intro hst (And.intro hi1 hc))
          clear hst hi1 hi2 hc hM hMl hd hd9 hxd hxm hx hil
          go_wp2_with fail
          go_roundg (e - (i + 1))
          case measure => have := HX.out.2.2; omega
          case rel => exact ⟨i + 1, M * 10 + d, by go_num, by go_num, rfl, by have := HX.out.2.1; omega, by have := HX.out.2.2; omega, HX.out.1.symm, rfl⟩
        · obtain rfl : i = e := by omega
          have hka : ¬ (i : Int) < (i : Int) := by omega
          have hglt := HK.out.2.1
          rw [← hM] at hglt
          have hstep := HK.out.1
          rw [← hM] at hstep
          have hnew := news_one wr (.int .i64 (M : Int)) 3 rfl
          have hownA := HM.out.1.alloc (.cells #[.int .i64 (M : Int)] 3)
          have hk151 := HK.out.2.2.1
          have hsz := HM.out.2.2.2
          have HX := Lib.hid (And.intro hglt hstep)
          clear hglt hstep hM hi1 hi2 hc
          go_wp2_with (at_builtin; refine wpList_append_own _ rfl (.tmp 35) (.tmp 37) 90 rfl (w.heap.size + 1) 3 i0 (.int .i64 0) 1 8 Tryz.underlying90 HI.out.1 HI.out.2.1 HI.out.2.2.1 HI.out.2.2.2 rfl (by decide) dv k (zs.map I8) rfl hownA ⟨wr.heap.size, 0, none⟩ 1 1 [.int .i64 (M : Int)] rfl rfl hnew.1 hnew.2 (by unfold maxLen; omega) (by omega) (by simp; omega) ?_; intro v' w1 hown' hgrow _)
          have hwr : Below wr.heap.size wr (wr.alloc (.cells #[.int .i64 (M : Int)] 3)) := (Below.refl _ _).alloc (Nat.le_refl _) _
          have hb1 : Below (w.heap.size + 1) (wr.alloc (.cells #[.int .i64 (M : Int)] 3)) w1 := below_own (Below.refl _ _) hownA hgrow (Nat.le_refl _) (by simp; omega)
          have hb0 := Lib.hid ((hwr.mono hsz).trans hb1)
          have hown2 : w1.ownsRow (w.heap.size + 1) 3 1 v' (k + 1) ((zs ++ [M]).map I8) := by
            rw [List.map_append]; exact hown'
          have HO := Lib.hid hown2
          clear hwr hsz hb1 hown2 hown' hgrow hownA hnew
          go_wp2_with fail
          go_roundg (l.length - 1 - 4 * (k + 1))
          case measure => have := HK.out.2.2.2.2.2.1; omega
          case rel =>
            obtain ⟨_, _, hk, hlz, hok, ha, hE, hbd, hval⟩ := HK.out
            obtain ⟨hown, hbx, hbel, hsz⟩ := HM.out
            have hb0 := hb0.out
            exact ⟨k + 1, _, _, _, rfl, rfl, by omega, rfl, by have := HP.out.2.1; omega, by rw [List.length_append, hlz]; rfl, hok.app (Ok.cons HX.out.1 Ok.nil), HX.out.2, HO.out, hbx.below hb0 (by omega), hbel.trans (hb0.mono (by omega)), Nat.le_trans hsz hb0.size⟩
    · have i1 : ¬ (1 : Int) < E := by omega
      rw [show l.length - 1 - 4 * k = 0 by omega, List.take_zero, dval_nil, Nat.mul_zero, Nat.add_zero] at hval
      obtain ⟨A, c, rfl, hnc, hcm, hsl⟩ := owns_sl hown
      have hmd := made_any true A k c zs wr hsl hok hnc hcm
      rw [hval, HP.out.2.2.1] at hmd
      have hlt := hbx.lt
      clear hval hown hok hk hlz hE ha hsl hnc hcm
      go_wp2_with fail
      refine hmd.mono ?_
      rintro e w2 ⟨v, rfl, hv, hb2⟩
      obtain ⟨A2, n2, c2, k2, rfl⟩ := hv.open
      have hbx2 := hbx.below hb2 hbx.lt
      obtain ⟨⟨q0, hc0⟩, ⟨q1, hc1⟩, hf0, hf1⟩ := hbx2.facts
      clear hmd
      go_wp2_with fail
      exact bodyPost_ret (v := .agg #[.bool k2, .slice A2 n2 c2]) (by simp [results, Tryz.results78, go_sem, hc0, hc1]) rfl ⟨_, rfl, hv.sets hbx2 _ _, ((hbel.trans (hb2.mono hbel.size)).setCell (Nat.le_refl _) _).setCell (Nat.le_refl _) _⟩


theorem in_any (l : List UInt8) (z : Int) (w : World) (hr : rd l = some z) :
    Calls Tryz.prog 78 #[.string ⟨l.toArray⟩] w fun e w' => ∃ v, e = .returned v ∧ PlV w' v z ∧ Below w.heap.size w w' := by
  by_cases hm : l.head? = some 45
  · exact in_neg l z w hr hm
  · exact in_pos l z w hr hm

end Go.Proofs.YtdclloledfjfjaaGreatDoor

namespace Go.Proofs.YtdclloledfjfjaaGreatDoor
open Go.RowKit Vd
attribute [local go_sem ↓] Go.wp_at_zero Go.wp_at_succ

theorem sgn_turn {x : Int} : sgn x.natAbs (!decide (x < 0)) = -x := by
  unfold sgn
  by_cases h : x < 0
  · simp [h]; omega
  · simp [h]; omega

set_option maxRecDepth 100000 in
set_option maxHeartbeats 1000000 in
theorem turn4_any (v : Value) (x : Int) (w : World) (h : PlV w v x) :
    Calls Tryz.prog 165 #[v] w fun e w' => ∃ v, e = .returned v ∧ PlV w' v (-x) ∧ Below w.heap.size w w' := by
  obtain ⟨m, rfl, hm⟩ := h
  obtain ⟨k, hk⟩ : ∃ k, k = decide (x < 0) := ⟨_, rfl⟩
  have hE := sgn_turn (x := x)
  rw [← hk] at hE ⊢
  have hbx := BoxP.alloc (w.alloc (.cells #[.bool k, m] 92)) none 0 0 false
  rw [World.size_alloc] at hbx
  have hbW : Below w.heap.size w ((w.alloc (.cells #[.bool k, m] 92)).alloc (.cells #[.bool false, .slice none 0 0] 92)) := ((Below.refl _ _).alloc (Nat.le_refl _) _).alloc (by simp) _
  have hmd := made4_any (!k) m _ _ (hm.below hbW).l
  rw [hE] at hmd
  have HB := Lib.hid (And.intro hbx hbW)
  clear hm hE hk hbx hbW
  go_enter Tryz.func165, Tryz.ntmps165
  go_wp2_with fail
  refine hmd.mono ?_
  rintro e w1 ⟨A, n, c, k', rfl, hp, hb⟩
  have hbx1 := HB.out.1.below hb (by simp)
  obtain ⟨⟨q0, hc0⟩, ⟨q1, hc1⟩, hf0, hf1⟩ := hbx1.facts
  have hbl := HB.out.2.trans (hb.mono HB.out.2.size)
  have HL := Lib.hid hbl
  clear hbl hb hmd
  go_wp2_with fail
  exact bodyPost_ret (v := .agg #[.bool k', .slice A n c]) (by simp [results, Tryz.results165, go_sem, hc0, hc1]) rfl ⟨_, rfl, hp.sets hbx1 _ _, (HL.out.setCell (by simp) _).setCell (by simp) _⟩

theorem plb_drew {w W : World} {m1 m2 : Value} {k1 k2 : Bool} (h : PlB w m1 m2 k1 k2 W) : PlB w m1 m2 k1 k2 W.drew := ⟨⟨h.1.1, h.1.2.drew⟩, h.2⟩
theorem plb_drewN {w W : World} {m1 m2 : Value} {k1 k2 : Bool} (h : PlB w m1 m2 k1 k2 W) (q : Nat) : PlB w m1 m2 k1 k2 (W.drewN q) := ⟨⟨h.1.1, below_drewN h.1.2 q⟩, h.2⟩

theorem plb_made {w : World} {m1 m2 : Value} {k1 k2 : Bool} (b : Bool) (n : Nat) (z : Int) (hz : sgn n b = z) (W : World) (m : Value) (hm : DigL W m n) (hS : PlB w m1 m2 k1 k2 W) :
    Calls Tryz.prog 139 #[.bool b, m] W fun e w' => ∃ (A : Option Addr) (n c : Nat) (k : Bool), e = .returned (.agg #[.bool k, .slice A n c]) ∧ PlV w' (.agg #[.bool k, .slice A n c]) z ∧ PlB w m1 m2 k1 k2 w' :=
  (made4_any b m n W hm).mono fun e w' ⟨A, n, c, k, he, hp, hb⟩ => ⟨A, n, c, k, he, by rw [← hz]; exact hp, plb_step hS hb⟩

set_option maxRecDepth 100000 in
set_option maxHeartbeats 2000000 in
theorem plus4_same (m1 m2 : Value) (k1 k2 : Bool) (a b : Nat) (z : Int) (w : World) (hm1 : DigV w m1 a) (hm2 : DigV w m2 b) (b1 : wlen B4 a ≤ 1000000000) (b2 : wlen B4 b ≤ 1000000000) (hk : (k1 == k2) = true) (hz : sgn (a + b) k1 = z) :
    Calls Tryz.prog 140 #[.agg #[.bool k1, m1], .agg #[.bool k2, m2]] w fun e w' => ∃ v, e = .returned v ∧ PlV w' v z ∧ Below w.heap.size w w' := by
  have hpr : Hid (∀ W, PlB w m1 m2 k1 k2 W → Calls Tryz.prog 183 #[m1, m2] W fun e w' => ∃ (A : Option Addr) (n c : Nat), e = .returned (.slice A n c) ∧ DigL w' (.slice A n c) (a + b) ∧ PlB w m1 m2 k1 k2 w') := Lib.hid (fun W hS => (sum4_any m1 m2 _ _ W (hm1.below hS.1.2) (hm2.below hS.1.2) b1 b2).mono fun _ _ ⟨A, n, c, he, hm, hb⟩ => ⟨A, n, c, he, hm, plb_step hS hb⟩)
  have hsg : Hid (∀ W m, DigL W m (a + b) → PlB w m1 m2 k1 k2 W → Calls Tryz.prog 139 #[.bool k1, m] W fun e w' => ∃ (A : Option Addr) (n c : Nat) (k : Bool), e = .returned (.agg #[.bool k, .slice A n c]) ∧ PlV w' (.agg #[.bool k, .slice A n c]) z ∧ PlB w m1 m2 k1 k2 w') := Lib.hid (fun W m hm hS => plb_made k1 _ z hz W m hm hS)
  have hS0 := plb_start w m1 m2 k1 k2
  clear hm1 hm2 b1 b2 hz
  go_enter Tryz.func140, Tryz.ntmps140
  go_wp2_with fail
  go_region_held3 (fun W => (BoxP W (w.heap.size + 1 + 1) ∧ Below w.heap.size w W) ∧ W.cell? ⟨w.heap.size, 0, none⟩ = some (.bool k1) ∧ W.cell? ⟨w.heap.size, 1, none⟩ = some m1 ∧ W.cell? ⟨w.heap.size + 1, 0, none⟩ = some (.bool k2) ∧ W.cell? ⟨w.heap.size + 1, 1, none⟩ = some m2) (first | with_reducible assumption | exact plb_drew hS0 | (refine plb_store ?_ _ _ _ _; with_reducible assumption))
    (first
      | (go_at_call 183; refine (hpr.out _ ?_).mono ?_; with_reducible assumption; rintro e w1 ⟨A1, n1, c1, rfl, hx1, hS1⟩)
      | (go_at_call 139; refine (hsg.out _ _ ?_ ?_).mono ?_; with_reducible assumption; with_reducible assumption; rintro e w2 ⟨A, n, c, k, rfl, hp, hS2⟩; obtain ⟨⟨q0, hc0⟩, ⟨q1, hc1⟩, hf0, hf1⟩ := hS2.1.1.facts))
  go_wp2
  exact bodyPost_ret (v := .agg #[.bool k, .slice A n c]) (by simp [results, Tryz.results140, go_sem, hc0, hc1]) rfl ⟨_, rfl, hp.sets hS2.1.1 _ _, (plb_store hS2 A n c k).1.2⟩

set_option maxRecDepth 100000 in
set_option maxHeartbeats 2000000 in
theorem plus4_ge (m1 m2 : Value) (k1 k2 : Bool) (a b : Nat) (z : Int) (w : World) (hm1 : DigV w m1 a) (hm2 : DigV w m2 b) (b1 : wlen B4 a ≤ 1000000000) (b2 : wlen B4 b ≤ 1000000000) (hk : (k1 == k2) = false) (hlt : b ≤ a) (hz : sgn (a - b) k1 = z) :
    Calls Tryz.prog 140 #[.agg #[.bool k1, m1], .agg #[.bool k2, m2]] w fun e w' => ∃ v, e = .returned v ∧ PlV w' v z ∧ Below w.heap.size w w' := by
  have hor : Hid (∀ W, PlB w m1 m2 k1 k2 W → Calls Tryz.prog 184 #[m1, m2] W fun e w' => ∃ d : Int, e = .returned (.int .i64 d) ∧ 0 ≤ d ∧ PlB w m1 m2 k1 k2 w') := Lib.hid (fun W hS => (order4_any m1 m2 a b W (hm1.below hS.1.2) (hm2.below hS.1.2) b1 b2).mono fun e w' ⟨d, he, hl, h0, q, hw⟩ => ⟨d, he, by omega, by rw [hw]; exact plb_drewN hS q⟩)
  have hpr : Hid (∀ W, PlB w m1 m2 k1 k2 W → Calls Tryz.prog 185 #[m1, m2] W fun e w' => ∃ (A : Option Addr) (n c : Nat), e = .returned (.slice A n c) ∧ DigL w' (.slice A n c) (a - b) ∧ PlB w m1 m2 k1 k2 w') := Lib.hid (fun W hS => (difference4_any m1 m2 _ _ W (hm1.below hS.1.2) (hm2.below hS.1.2) b1 hlt).mono fun _ _ ⟨A, n, c, he, hm, hb⟩ => ⟨A, n, c, he, hm.l, plb_step hS hb⟩)
  have hsg : Hid (∀ W m, DigL W m (a - b) → PlB w m1 m2 k1 k2 W → Calls Tryz.prog 139 #[.bool k1, m] W fun e w' => ∃ (A : Option Addr) (n c : Nat) (k : Bool), e = .returned (.agg #[.bool k, .slice A n c]) ∧ PlV w' (.agg #[.bool k, .slice A n c]) z ∧ PlB w m1 m2 k1 k2 w') := Lib.hid (fun W m hm hS => plb_made k1 _ z hz W m hm hS)
  have hS0 := plb_start w m1 m2 k1 k2
  clear hm1 hm2 b1 b2 hz hlt
  go_enter Tryz.func140, Tryz.ntmps140
  go_wp2_with fail
  refine (hor.out _ hS0).mono ?_
  rintro e w0 ⟨d, rfl, hd, hS00⟩
  clear hor hS0
  have hS0 := hS00
  obtain ⟨_, hq1, hq2, hq3, hq4⟩ := hS00
  go_wp2_with fail
  clear hq1 hq2 hq3 hq4
  go_region_held3 (fun W => (BoxP W (w.heap.size + 1 + 1) ∧ Below w.heap.size w W) ∧ W.cell? ⟨w.heap.size, 0, none⟩ = some (.bool k1) ∧ W.cell? ⟨w.heap.size, 1, none⟩ = some m1 ∧ W.cell? ⟨w.heap.size + 1, 0, none⟩ = some (.bool k2) ∧ W.cell? ⟨w.heap.size + 1, 1, none⟩ = some m2) (first | with_reducible assumption | exact plb_drew hS0 | (refine plb_store ?_ _ _ _ _; with_reducible assumption))
    (first
      | (go_at_call 185; refine (hpr.out _ ?_).mono ?_; with_reducible assumption; rintro e w1 ⟨A1, n1, c1, rfl, hx1, hS1⟩)
      | (go_at_call 139; refine (hsg.out _ _ ?_ ?_).mono ?_; with_reducible assumption; with_reducible assumption; rintro e w2 ⟨A, n, c, k, rfl, hp, hS2⟩; obtain ⟨⟨q0, hc0⟩, ⟨q1, hc1⟩, hf0, hf1⟩ := hS2.1.1.facts))
  go_wp2
  exact bodyPost_ret (v := .agg #[.bool k, .slice A n c]) (by simp [results, Tryz.results140, go_sem, hc0, hc1]) rfl ⟨_, rfl, hp.sets hS2.1.1 _ _, (plb_store hS2 A n c k).1.2⟩

set_option maxRecDepth 100000 in
set_option maxHeartbeats 2000000 in
theorem plus4_lt (m1 m2 : Value) (k1 k2 : Bool) (a b : Nat) (z : Int) (w : World) (hm1 : DigV w m1 a) (hm2 : DigV w m2 b) (b1 : wlen B4 a ≤ 1000000000) (b2 : wlen B4 b ≤ 1000000000) (hk : (k1 == k2) = false) (hlt : a < b) (hz : sgn (b - a) k2 = z) :
    Calls Tryz.prog 140 #[.agg #[.bool k1, m1], .agg #[.bool k2, m2]] w fun e w' => ∃ v, e = .returned v ∧ PlV w' v z ∧ Below w.heap.size w w' := by
  have hor : Hid (∀ W, PlB w m1 m2 k1 k2 W → Calls Tryz.prog 184 #[m1, m2] W fun e w' => ∃ d : Int, e = .returned (.int .i64 d) ∧ d < 0 ∧ PlB w m1 m2 k1 k2 w') := Lib.hid (fun W hS => (order4_any m1 m2 a b W (hm1.below hS.1.2) (hm2.below hS.1.2) b1 b2).mono fun e w' ⟨d, he, hl, h0, q, hw⟩ => ⟨d, he, by omega, by rw [hw]; exact plb_drewN hS q⟩)
  have hpr : Hid (∀ W, PlB w m1 m2 k1 k2 W → Calls Tryz.prog 185 #[m2, m1] W fun e w' => ∃ (A : Option Addr) (n c : Nat), e = .returned (.slice A n c) ∧ DigL w' (.slice A n c) (b - a) ∧ PlB w m1 m2 k1 k2 w') := Lib.hid (fun W hS => (difference4_any m2 m1 _ _ W (hm2.below hS.1.2) (hm1.below hS.1.2) b2 (Nat.le_of_lt hlt)).mono fun _ _ ⟨A, n, c, he, hm, hb⟩ => ⟨A, n, c, he, hm.l, plb_step hS hb⟩)
  have hsg : Hid (∀ W m, DigL W m (b - a) → PlB w m1 m2 k1 k2 W → Calls Tryz.prog 139 #[.bool k2, m] W fun e w' => ∃ (A : Option Addr) (n c : Nat) (k : Bool), e = .returned (.agg #[.bool k, .slice A n c]) ∧ PlV w' (.agg #[.bool k, .slice A n c]) z ∧ PlB w m1 m2 k1 k2 w') := Lib.hid (fun W m hm hS => plb_made k2 _ z hz W m hm hS)
  have hS0 := plb_start w m1 m2 k1 k2
  clear hm1 hm2 b1 b2 hz hlt
  go_enter Tryz.func140, Tryz.ntmps140
  go_wp2_with fail
  refine (hor.out _ hS0).mono ?_
  rintro e w0 ⟨d, rfl, hd, hS00⟩
  clear hor hS0
  have hS0 := hS00
  obtain ⟨_, hq1, hq2, hq3, hq4⟩ := hS00
  go_wp2_with fail
  clear hq1 hq2 hq3 hq4
  go_region_held3 (fun W => (BoxP W (w.heap.size + 1 + 1) ∧ Below w.heap.size w W) ∧ W.cell? ⟨w.heap.size, 0, none⟩ = some (.bool k1) ∧ W.cell? ⟨w.heap.size, 1, none⟩ = some m1 ∧ W.cell? ⟨w.heap.size + 1, 0, none⟩ = some (.bool k2) ∧ W.cell? ⟨w.heap.size + 1, 1, none⟩ = some m2) (first | with_reducible assumption | exact plb_drew hS0 | (refine plb_store ?_ _ _ _ _; with_reducible assumption))
    (first
      | (go_at_call 185; refine (hpr.out _ ?_).mono ?_; with_reducible assumption; rintro e w1 ⟨A1, n1, c1, rfl, hx1, hS1⟩)
      | (go_at_call 139; refine (hsg.out _ _ ?_ ?_).mono ?_; with_reducible assumption; with_reducible assumption; rintro e w2 ⟨A, n, c, k, rfl, hp, hS2⟩; obtain ⟨⟨q0, hc0⟩, ⟨q1, hc1⟩, hf0, hf1⟩ := hS2.1.1.facts))
  go_wp2
  exact bodyPost_ret (v := .agg #[.bool k, .slice A n c]) (by simp [results, Tryz.results140, go_sem, hc0, hc1]) rfl ⟨_, rfl, hp.sets hS2.1.1 _ _, (plb_store hS2 A n c k).1.2⟩

theorem plus4_any (v1 v2 : Value) (x y : Int) (w : World) (h1 : PlV w v1 x) (h2 : PlV w v2 y) (b1 : wlen B4 x.natAbs ≤ 1000000000) (b2 : wlen B4 y.natAbs ≤ 1000000000) :
    Calls Tryz.prog 140 #[v1, v2] w fun e w' => ∃ v, e = .returned v ∧ PlV w' v (x + y) ∧ Below w.heap.size w w' := by
  obtain ⟨m1, rfl, hm1⟩ := h1
  obtain ⟨m2, rfl, hm2⟩ := h2
  by_cases hk : (decide (x < 0) == decide (y < 0)) = true
  · refine plus4_same m1 m2 _ _ _ _ _ w hm1 hm2 b1 b2 hk ?_
    rw [beq_iff_eq, decide_eq_decide] at hk
    unfold sgn
    by_cases h : x < 0
    · simp [h]; omega
    · simp [h]; omega
  · have hk' : (decide (x < 0) == decide (y < 0)) = false := by simpa using hk
    rw [beq_iff_eq, decide_eq_decide] at hk
    rcases Nat.lt_or_ge x.natAbs y.natAbs with hlt | hlt
    · refine plus4_lt m1 m2 _ _ _ _ _ w hm1 hm2 b1 b2 hk' hlt ?_
      unfold sgn
      by_cases h : y < 0
      · simp [h]; omega
      · simp [h]; omega
    · refine plus4_ge m1 m2 _ _ _ _ _ w hm1 hm2 b1 b2 hk' hlt ?_
      unfold sgn
      by_cases h : x < 0
      · simp [h]; omega
      · simp [h]; omega

set_option maxRecDepth 100000 in
set_option maxHeartbeats 1000000 in
theorem minus4_any (v1 v2 : Value) (x y : Int) (w : World) (h1 : PlV w v1 x) (h2 : PlV w v2 y) (b1 : wlen B4 x.natAbs ≤ 1000000000) (b2 : wlen B4 y.natAbs ≤ 1000000000) :
    Calls Tryz.prog 147 #[v1, v2] w fun e w' => ∃ (A : Option Addr) (n c : Nat) (k : Bool), e = .returned (.agg #[.bool k, .slice A n c]) ∧ PlV w' (.agg #[.bool k, .slice A n c]) (x - y) ∧ Below w.heap.size w w' := by
  obtain ⟨m1, rfl, hm1⟩ := h1
  obtain ⟨m2, rfl, hm2⟩ := h2
  obtain ⟨k1, hk1⟩ : ∃ k, k = decide (x < 0) := ⟨_, rfl⟩
  obtain ⟨k2, hk2⟩ : ∃ k, k = decide (y < 0) := ⟨_, rfl⟩
  rw [← hk1, ← hk2]
  have b2' : wlen B4 (-y).natAbs ≤ 1000000000 := by rw [Int.natAbs_neg]; exact b2
  have hng : Hid (∀ W, PlB w m1 m2 k1 k2 W → Calls Tryz.prog 165 #[.agg #[.bool k2, m2]] W fun e w' => ∃ x, e = .returned x ∧ PlV w' x (-y) ∧ PlB w m1 m2 k1 k2 w') := Lib.hid (fun W hS => (turn4_any _ y W ⟨m2, by rw [hk2], hm2.below hS.1.2⟩).mono fun e w' ⟨v, he, hv, hb⟩ => ⟨v, he, hv, plb_step hS hb⟩)
  have hpl : Hid (∀ W v2, PlV W v2 (-y) → PlB w m1 m2 k1 k2 W → Calls Tryz.prog 140 #[.agg #[.bool k1, m1], v2] W fun e w' => ∃ (A : Option Addr) (n c : Nat) (k : Bool), e = .returned (.agg #[.bool k, .slice A n c]) ∧ PlV w' (.agg #[.bool k, .slice A n c]) (x - y) ∧ PlB w m1 m2 k1 k2 w') := Lib.hid (fun W v2 h2 hS => (plus4_any _ v2 x (-y) W ⟨m1, by rw [hk1], hm1.below hS.1.2⟩ h2 b1 b2').mono fun e w' ⟨v, he, hv, hb⟩ => by
    obtain ⟨A, n, c, k, rfl⟩ := hv.open
    exact ⟨A, n, c, k, he, by rw [Int.sub_eq_add_neg]; exact hv, plb_step hS hb⟩)
  have hS0 := plb_start w m1 m2 k1 k2
  clear hm1 hm2 b1 b2 b2' hk1 hk2
  go_enter Tryz.func147, Tryz.ntmps147
  go_wp2_with fail
  go_region_held3 (fun W => (BoxP W (w.heap.size + 1 + 1) ∧ Below w.heap.size w W) ∧ W.cell? ⟨w.heap.size, 0, none⟩ = some (.bool k1) ∧ W.cell? ⟨w.heap.size, 1, none⟩ = some m1 ∧ W.cell? ⟨w.heap.size + 1, 0, none⟩ = some (.bool k2) ∧ W.cell? ⟨w.heap.size + 1, 1, none⟩ = some m2) (first | with_reducible assumption | exact plb_drew hS0 | (refine plb_store ?_ _ _ _ _; with_reducible assumption))
    (first
      | (go_at_call 165; refine (hng.out _ ?_).mono ?_; with_reducible assumption; rintro e w1 ⟨x1, rfl, hx1, hS1⟩)
      | (go_at_call 140; refine (hpl.out _ _ ?_ ?_).mono ?_; with_reducible assumption; with_reducible assumption; rintro e w2 ⟨A, n, c, k, rfl, hp, hS2⟩; obtain ⟨⟨q0, hc0⟩, ⟨q1, hc1⟩, hf0, hf1⟩ := hS2.1.1.facts))
  go_wp2
  exact bodyPost_ret (v := .agg #[.bool k, .slice A n c]) (by simp [results, Tryz.results147, go_sem, hc0, hc1]) rfl ⟨A, n, c, k, rfl, hp.sets hS2.1.1 _ _, (plb_store hS2 A n c k).1.2⟩

/-- Order: -1, 0 or 1 -/
theorem order4z_cells {w : World} {A : Option Addr} {n c : Nat} {k : Bool} {z : Int} (h : PlV w (.agg #[.bool k, .slice A n c]) z) : k = decide (z < 0) ∧ n = wlen B4 z.natAbs := by
  obtain ⟨m, e, A', c', rfl, _⟩ := h
  simp at e
  exact ⟨e.1, e.2.2.1⟩

set_option maxRecDepth 100000 in
set_option maxHeartbeats 1000000 in
theorem orderZ4_any (v1 v2 : Value) (x y : Int) (w : World) (h1 : PlV w v1 x) (h2 : PlV w v2 y) (b1 : wlen B4 x.natAbs ≤ 1000000000) (b2 : wlen B4 y.natAbs ≤ 1000000000) :
    Calls Tryz.prog 81 #[v1, v2] w fun e w' => e = .returned (.int .i64 (cmpZ x y)) ∧ Below w.heap.size w w' := by
  obtain ⟨A1, n1, c1, k1, rfl⟩ := h1.open
  obtain ⟨A2, n2, c2, k2, rfl⟩ := h2.open
  have hbW : Below w.heap.size w ((w.alloc (.cells #[.bool k1, .slice A1 n1 c1] 92)).alloc (.cells #[.bool k2, .slice A2 n2 c2] 92)) := ((Below.refl _ _).alloc (Nat.le_refl _) _).alloc (by simp) _
  have hmi := minus4_any _ _ x y _ (h1.below hbW) (h2.below hbW) b1 b2
  have HB := Lib.hid hbW
  clear h1 h2 b1 b2 hbW
  go_enter Tryz.func81, Tryz.ntmps81
  go_wp2_with fail
  refine hmi.mono ?_
  rintro e w1 ⟨A, n, c, k, rfl, hp, hb⟩
  obtain ⟨hk, hn⟩ := order4z_cells hp
  have hbl := HB.out.trans (hb.mono HB.out.size)
  have HL := Lib.hid hbl
  have h0 := wlen_eq_zero (b := B4) two_le_B4 (n := (x - y).natAbs)
  rw [← hn] at h0
  cases k
  · have hk' : ¬ x - y < 0 := by simpa using hk.symm
    by_cases hz : n = 0
    · have hxy : x - y = 0 := by have := h0.1 hz; omega
      have HE := Lib.hid (show cmpZ x y = 0 by unfold cmpZ; rw [if_neg (by omega), if_neg (by omega)])
      subst hz
      clear hk hk' hn h0 hp hb hmi hbl hxy
      go_wp2_with fail
      go_ret
      exact ⟨by rw [HE.out]; rfl, HL.out.alloc (by simpa using HL.out.size) _⟩
    · have hxy : x - y ≠ 0 := fun e => hz (h0.2 (by omega))
      have i1 : (0 : Int) < (n : Int) := by omega
      have HE := Lib.hid (show cmpZ x y = 1 by unfold cmpZ; rw [if_neg (by omega), if_pos (by omega)])
      clear hk hk' hn h0 hp hb hmi hbl hxy hz
      go_wp2_with fail
      go_ret
      exact ⟨by rw [HE.out]; rfl, HL.out.alloc (by simpa using HL.out.size) _⟩
  · have hk' : x - y < 0 := by simpa using hk.symm
    have HE := Lib.hid (show cmpZ x y = -1 by unfold cmpZ; rw [if_pos (by omega)])
    clear hk hk' hn h0 hp hb hmi hbl
    go_wp2_with fail
    go_ret
    exact ⟨by rw [HE.out]; rfl, HL.out.alloc (by simpa using HL.out.size) _⟩

theorem tmod_neg4 (m : Nat) : Int.tmod (-(m : Int)) 10000 = -(dLo m : Int) := by rw [Int.neg_tmod, Int.tmod_eq_emod_of_nonneg (by omega), dLo_eq]
theorem tdiv_neg4 (m : Nat) : Int.tdiv (-(m : Int)) 10000 = -(dHi m : Int) := by rw [Int.neg_tdiv, Int.tdiv_eq_ediv_of_nonneg (by omega), dHi_eq]

set_option maxRecDepth 100000 in
set_option maxHeartbeats 1000000 in
theorem integer_neg (n : Nat) (w : World) (hpos : 0 < n) (hn : n ≤ 9223372036854775808) :
    Calls Tryz.prog 73 #[.int .i64 (-(n : Int))] w fun e w' => ∃ v, e = .returned v ∧ PlV w' v (-(n : Int)) ∧ Below w.heap.size w w' := by
  obtain ⟨i0, hi, hz0, hz1, hz2⟩ := info_parts infoI
  have hbx := BoxP.alloc w none 0 0 false
  have hbW : Below w.heap.size w (w.alloc (.cells #[.bool false, .slice none 0 0] 92)) := (Below.refl _ _).alloc (Nat.le_refl _) _
  have i1 : -(n : Int) < 0 := by omega
  have HI := Lib.hid (And.intro hi (And.intro hz0 (And.intro hz1 (And.intro hz2 hn))))
  clear hi hz0 hz1 hz2 hn
  go_enter Tryz.func73, Tryz.ntmps73
  go_wp2_with fail
  go_loopg [0, 3] n (fun m mv v W => ∃ (zs : List Nat) (dv : Value), dv = v ∧ mv = .int .i64 (-(m : Int)) ∧ m ≤ n ∧ Ok B4 zs ∧ val B4 zs + B4 ^ zs.length * m = n ∧ W.ownsRow (w.heap.size + 1) 3 1 v zs.length (zs.map I8) ∧ BoxP W w.heap.size ∧ Below w.heap.size w W ∧ w.heap.size + 1 ≤ W.heap.size)
  case atStart => exact ⟨[], _, rfl, rfl, Nat.le_refl _, Ok.nil, by simp [val_nil], World.ownsRow_nil _ _ _ _, hbx, hbW, by simp⟩
  case round =>
    obtain ⟨zs, dv, hdv, rfl, hm, hok, hval, hown, hbx, hbel, hsz⟩ := hrel
    subst hdv
    by_cases h0 : gk = 0
    · subst h0
      rw [Nat.mul_zero, Nat.add_zero] at hval
      obtain ⟨A, c, rfl, hnc, hcm, hsl⟩ := owns_sl hown
      have hmd := made_any true A zs.length c zs wr hsl hok hnc hcm
      rw [hval, show sgn n true = -(n : Int) from rfl] at hmd
      rw [show (-(((0 : Nat)) : Int)) = 0 from rfl]
      clear hval hown hok hm
      go_wp2_with fail
      refine hmd.mono ?_
      rintro e w2 ⟨v, rfl, hv, hb2⟩
      obtain ⟨A2, n2, c2, k2, rfl⟩ := hv.open
      have hbx2 := hbx.below hb2 hbx.lt
      obtain ⟨⟨q0, hc0⟩, ⟨q1, hc1⟩, hf0, hf1⟩ := hbx2.facts
      go_wp2_with fail
      exact bodyPost_ret (v := .agg #[.bool k2, .slice A2 n2 c2]) (by simp [results, Tryz.results73, go_sem, hc0, hc1]) rfl ⟨_, rfl, hv.sets hbx2 _ _, ((hbel.trans (hb2.mono hbel.size)).setCell (Nat.le_refl _) _).setCell (Nat.le_refl _) _⟩
    · have hp : 0 < gk := Nat.pos_of_ne_zero h0
      have k0 : (-(gk : Int) == 0) = false := by rw [beq_eq_false_iff_ne]; omega
      have k0' : (-(gk : Int) != 0) = true := by rw [bne_iff_ne]; omega
      have hl5 : zs.length < 5 := by
        rcases Nat.lt_or_ge zs.length 5 with h1 | h1
        · exact h1
        · have h2 : B4 ^ 5 ≤ B4 ^ zs.length := Nat.pow_le_pow_right (by decide) h1
          have h3 : B4 ^ zs.length ≤ B4 ^ zs.length * gk := Nat.le_mul_of_pos_right _ hp
          have h4 : B4 ^ 5 = 100000000000000000000 := by decide
          have := HI.out.2.2.2.2
          omega
      obtain ⟨G, hG⟩ : ∃ G : Int, G = -(gk : Int) := ⟨_, rfl⟩
      have e1 := tmod_neg4 gk
      have e2 := tdiv_neg4 gk
      rw [← hG] at e1 e2 k0 k0' ⊢
      have g1 : -9223372036854775808 ≤ G := by have := HI.out.2.2.2.2; omega
      have g2 : G ≤ -1 := by omega
      have d0 := dLo_lt gk
      rw [B4_eq] at d0
      have d1 : (dLo gk : Int) ≤ 9999 := by omega
      have d2 : (0 : Int) ≤ (dLo gk : Int) := by omega
      have d3 : (0 : Int) ≤ (dHi gk : Int) := by omega
      have d4 : (dHi gk : Int) ≤ 922337203685477581 := by have := HI.out.2.2.2.2; unfold dHi; omega
      have hnew := news_one wr (.int .i64 (dLo gk : Int)) 3 rfl
      have hownA := hown.alloc (.cells #[.int .i64 (dLo gk : Int)] 3)
      have HV := Lib.hid (And.intro hval (And.intro hm (And.intro hl5 (And.intro hp (And.intro h0 hG)))))
      clear hval hm hl5 h0 hp hG d0
      by_cases hd0 : dLo gk = 0
      · rw [hd0] at e1 hnew hownA
        rw [show (-(((0 : Nat)) : Int)) = 0 from rfl] at e1
        rw [show ((((0 : Nat)) : Int)) = 0 from rfl] at hnew hownA
        have HD := Lib.hid hd0
        clear hd0 d1 d2
        go_wp2_with (at_builtin; refine wpList_append_own _ rfl (.tmp 16) (.tmp 18) 90 rfl (w.heap.size + 1) 3 i0 (.int .i64 0) 1 8 Tryz.underlying90 HI.out.1 HI.out.2.1 HI.out.2.2.1 HI.out.2.2.2.1 rfl (by decide) dv zs.length (zs.map I8) rfl hownA ⟨wr.heap.size, 0, none⟩ 1 1 [.int .i64 0] rfl rfl hnew.1 hnew.2 (by have := HV.out.2.2.1; unfold maxLen; omega) (by have := HV.out.2.2.1; omega) (by simp; omega) ?_; intro v' w1 hown' hgrow _)
        have hok' : Ok B4 (zs ++ [dLo gk]) := hok.app (Ok.cons (dLo_lt gk) Ok.nil)
        have hval' : val B4 (zs ++ [dLo gk]) + B4 ^ (zs ++ [dLo gk]).length * dHi gk = n := by
          rw [val_snoc, List.length_append, List.length_singleton, Nat.pow_succ, Nat.mul_assoc, Nat.add_assoc, ← Nat.mul_add, d_eq]; exact HV.out.1
        have hown2 : w1.ownsRow (w.heap.size + 1) 3 1 v' (zs ++ [dLo gk]).length ((zs ++ [dLo gk]).map I8) := by
          rw [List.length_append, List.map_append, HD.out]; exact hown'
        have hwr : Below wr.heap.size wr (wr.alloc (.cells #[.int .i64 0] 3)) := (Below.refl _ _).alloc (Nat.le_refl _) _
        have hb1 : Below (w.heap.size + 1) (wr.alloc (.cells #[.int .i64 0] 3)) w1 := below_own (Below.refl _ _) hownA hgrow (Nat.le_refl _) (by simp; omega)
        have hb0 := Lib.hid ((hwr.mono hsz).trans hb1)
        have HO := Lib.hid (And.intro hval' hown2)
        clear hval' hown2 hown' hgrow hwr hb1
        go_wp2_with fail
        go_roundg (dHi gk)
        case measure => unfold dHi; exact Nat.div_lt_self HV.out.2.2.2.1 (by decide)
        case rel => exact ⟨_, _, rfl, rfl, Nat.le_trans (Nat.div_le_self _ _) HV.out.2.1, hok', HO.out.1, HO.out.2, hbx.below hb0.out (by omega), hbel.trans (hb0.out.mono (by omega)), Nat.le_trans hsz hb0.out.size⟩
      · have f1 : -(dLo gk : Int) < 0 := by omega
        have HD := Lib.hid hd0
        clear hd0
        go_wp2_with (at_builtin; refine wpList_append_own _ rfl (.tmp 16) (.tmp 18) 90 rfl (w.heap.size + 1) 3 i0 (.int .i64 0) 1 8 Tryz.underlying90 HI.out.1 HI.out.2.1 HI.out.2.2.1 HI.out.2.2.2.1 rfl (by decide) dv zs.length (zs.map I8) rfl hownA ⟨wr.heap.size, 0, none⟩ 1 1 [.int .i64 (dLo gk : Int)] rfl rfl hnew.1 hnew.2 (by have := HV.out.2.2.1; unfold maxLen; omega) (by have := HV.out.2.2.1; omega) (by simp; omega) ?_; intro v' w1 hown' hgrow _)
        have hok' : Ok B4 (zs ++ [dLo gk]) := hok.app (Ok.cons (dLo_lt gk) Ok.nil)
        have hval' : val B4 (zs ++ [dLo gk]) + B4 ^ (zs ++ [dLo gk]).length * dHi gk = n := by
          rw [val_snoc, List.length_append, List.length_singleton, Nat.pow_succ, Nat.mul_assoc, Nat.add_assoc, ← Nat.mul_add, d_eq]; exact HV.out.1
        have hown2 : w1.ownsRow (w.heap.size + 1) 3 1 v' (zs ++ [dLo gk]).length ((zs ++ [dLo gk]).map I8) := by
          rw [List.length_append, List.map_append]; exact hown'
        have hwr : Below wr.heap.size wr (wr.alloc (.cells #[.int .i64 (dLo gk : Int)] 3)) := (Below.refl _ _).alloc (Nat.le_refl _) _
        have hb1 : Below (w.heap.size + 1) (wr.alloc (.cells #[.int .i64 (dLo gk : Int)] 3)) w1 := below_own (Below.refl _ _) hownA hgrow (Nat.le_refl _) (by simp; omega)
        have hb0 := Lib.hid ((hwr.mono hsz).trans hb1)
        have HO := Lib.hid (And.intro hval' hown2)
        clear hval' hown2 hown' hgrow hwr hb1
        go_wp2_with fail
        go_roundg (dHi gk)
        case measure => unfold dHi; exact Nat.div_lt_self HV.out.2.2.2.1 (by decide)
        case rel => exact ⟨_, _, rfl, rfl, Nat.le_trans (Nat.div_le_self _ _) HV.out.2.1, hok', HO.out.1, HO.out.2, hbx.below hb0.out (by omega), hbel.trans (hb0.out.mono (by omega)), Nat.le_trans hsz hb0.out.size⟩

theorem integerZ_any (n : Int) (w : World) (h0 : -9223372036854775808 ≤ n) (h1 : n ≤ 9223372036854775807) :
    Calls Tryz.prog 73 #[.int .i64 n] w fun e w' => ∃ v, e = .returned v ∧ PlV w' v n ∧ Below w.heap.size w w' := by
  rcases (show n < 0 ∨ 0 ≤ n by omega) with h | h
  · obtain ⟨m, rfl⟩ : ∃ m : Nat, n = -(m : Int) := ⟨n.natAbs, by omega⟩
    exact integer_neg m w (by omega) (by omega)
  · obtain ⟨m, rfl⟩ : ∃ m : Nat, n = (m : Int) := ⟨n.natAbs, by omega⟩
    exact integer_any m w (by omega)

end Go.Proofs.YtdclloledfjfjaaGreatDoor
