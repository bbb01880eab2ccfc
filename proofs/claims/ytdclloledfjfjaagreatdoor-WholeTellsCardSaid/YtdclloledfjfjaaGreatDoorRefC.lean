/- Contract of the reference: sum. -/
import Derived.Test.YtdclloledfjfjaaGreatDoorRefB
namespace Go.Proofs.YtdclloledfjfjaaGreatDoor
open Go.RowKit Vd

theorem sum_step {xs ys zs : List Nat} {k carry : Nat} (hl : zs.length = k) (h : val B4 zs + B4 ^ k * carry = val B4 (xs.take k) + val B4 (ys.take k)) :
    val B4 (zs ++ [dLo (carry + nth xs k + nth ys k)]) + B4 ^ (k + 1) * dHi (carry + nth xs k + nth ys k) = val B4 (xs.take (k + 1)) + val B4 (ys.take (k + 1)) := by
  have hd := d_eq (carry + nth xs k + nth ys k)
  rw [val_snoc, hl, val_take_succ, val_take_succ, Nat.pow_succ]
  obtain ⟨P, hP⟩ : ∃ P, P = B4 ^ k := ⟨_, rfl⟩
  rw [← hP] at h ⊢
  obtain ⟨L, hL⟩ : ∃ L, L = dLo (carry + nth xs k + nth ys k) := ⟨_, rfl⟩
  obtain ⟨H, hH⟩ : ∃ L, L = dHi (carry + nth xs k + nth ys k) := ⟨_, rfl⟩
  rw [← hL, ← hH] at hd ⊢
  have e : P * L + P * B4 * H = P * (L + B4 * H) := by rw [Nat.mul_add, Nat.mul_assoc]
  rw [Nat.add_assoc, e, hd, Nat.mul_add, Nat.mul_add, Nat.mul_comm (nth xs k), Nat.mul_comm (nth ys k)]
  omega

theorem dHi_carry {c x y : Nat} (hc : c ≤ 1) (hx : x < B4) (hy : y < B4) : dHi (c + x + y) ≤ 1 := by
  unfold dHi; rw [B4_eq] at *; omega

/-- what the loop of 'sum' keeps -/
structure SumR (w : World) (n1 n2 : Nat) (xs ys : List Nat) (k carry : Nat) (zs : List Nat) (v : Value) (W : World) : Prop where
  kl : k ≤ max n1 n2 + 1
  cl : carry ≤ 1
  top : max n1 n2 < k → carry = 0
  len : zs.length = k
  ok : Ok B4 zs
  val : val B4 zs + B4 ^ k * carry = val B4 (xs.take k) + val B4 (ys.take k)
  own : W.ownsRow w.heap.size 3 1 v k (zs.map I8)
  bel : Below w.heap.size w W

theorem SumR.step {w : World} {n1 n2 : Nat} {xs ys : List Nat} {k carry : Nat} {zs : List Nat} {v : Value} {W : World} (h : SumR w n1 n2 xs ys k carry zs v W) (ox : Ok B4 xs) (oy : Ok B4 ys) (hx : xs.length = n1) (hy : ys.length = n2)
    (hgo : k < n1 ∨ k < n2 ∨ 0 < carry) {v' : Value} {w1 : World} {t : TypeId} (hown' : w1.ownsRow w.heap.size 3 1 v' (k + 1) (zs.map I8 ++ [.int .i64 (dLo (carry + nth xs k + nth ys k) : Int)])) (hg : (W.alloc (.cells #[.int .i64 (dLo (carry + nth xs k + nth ys k) : Int)] t)).grownBy w1 v.ownBlock) :
    SumR w n1 n2 xs ys (k + 1) (dHi (carry + nth xs k + nth ys k)) (zs ++ [dLo (carry + nth xs k + nth ys k)]) v' w1 := by
  have hk : k ≤ max n1 n2 := by
    rcases Nat.lt_or_ge (max n1 n2) k with h1 | h1
    · have := h.top h1; omega
    · exact h1
  refine ⟨by omega, dHi_carry h.cl (ox.get two_le_B4 k) (oy.get two_le_B4 k), ?_, by rw [List.length_append, h.len]; rfl, h.ok.app (Ok.cons (dLo_lt _) Ok.nil), sum_step h.len h.val, ?_, ?_⟩
  · intro h1
    have e1 : nth xs k = 0 := nth_ge (by omega)
    have e2 : nth ys k = 0 := nth_ge (by omega)
    rw [e1, e2]
    have := h.cl
    unfold dHi; omega
  · rw [List.map_append]; exact hown'
  · have hB := h.bel.size
    exact below_own (h.bel.alloc hB _) (h.own.alloc _) hg (Nat.le_refl _) (by simp; omega)

set_option maxRecDepth 100000 in
set_option maxHeartbeats 2000000 in
theorem sum4_core (A1 A2 : Option Addr) (n1 n2 c1 c2 : Nat) (xs ys : List Nat) (w : World) (hx : Sl w I8 A1 n1 xs) (hy : Sl w I8 A2 n2 ys) (ox : Ok B4 xs) (oy : Ok B4 ys) (b1 : n1 ≤ 1000000000) (b2 : n2 ≤ 1000000000) :
    Calls Tryz.prog 183 #[.slice A1 n1 c1, .slice A2 n2 c2] w fun e w' => ∃ A n c, e = .returned (.slice A n c) ∧ ∃ zs, Sl w' I8 A n zs ∧ Ok B4 zs ∧ val B4 zs = val B4 xs + val B4 ys ∧ n ≤ c ∧ c ≤ 9223372036854775807 ∧ Below w.heap.size w w' := by
  obtain ⟨i0, hi, hz0, hz1, hz2⟩ := info_parts infoI
  have HI := Lib.hid (And.intro hi (And.intro hz0 (And.intro hz1 hz2)))
  have HX := Lib.hid (And.intro hx.len hy.len)
  clear hi hz0 hz1 hz2
  go_enter Tryz.func183, Tryz.ntmps183
  go_wp2_with fail
  go_loopg [5, 6, 7] (max n1 n2 + 1) (fun r v cv iv W => ∃ (k carry : Nat) (zs : List Nat) (dv : Value), dv = v ∧ r = max n1 n2 + 1 - k ∧ iv = .int .i64 (k : Int) ∧ cv = .int .i64 (carry : Int) ∧ SumR w n1 n2 xs ys k carry zs v W)
  case atStart => exact ⟨0, 0, [], _, rfl, rfl, rfl, rfl, ⟨Nat.zero_le _, Nat.zero_le _, fun _ => rfl, rfl, Ok.nil, by simp [val_nil], World.ownsRow_nil _ _ _ _, Below.refl _ _⟩⟩
  case round =>
    obtain ⟨k, carry, zs, dv, hdv, rfl, rfl, rfl, hR⟩ := hrel
    subst hdv
    have hxk := ox.get two_le_B4 k
    have hyk := oy.get two_le_B4 k
    rw [B4_eq] at hxk hyk
    have hcl := hR.cl
    have p1 : (0 : Int) ≤ (carry : Int) := by omega
    have p2 : (carry : Int) ≤ 1 := by omega
    have p3 : (0 : Int) ≤ (nth xs k : Int) := by omega
    have p4 : (nth xs k : Int) ≤ 9999 := by omega
    have p5 : (0 : Int) ≤ (nth ys k : Int) := by omega
    have p6 : (nth ys k : Int) ≤ 9999 := by omega
    have p7 : (0 : Int) ≤ (k : Int) := by omega
    have hkl := hR.kl
    have p8 : (k : Int) ≤ 1000000001 := by omega
    have hown := hR.own
    have hB := hR.bel.size
    obtain ⟨S, hS⟩ : ∃ S, S = carry + nth xs k + nth ys k := ⟨_, rfl⟩
    have hnew := news_one wr (.int .i64 (dLo S : Int)) 3 rfl
    have hownA := hown.alloc (.cells #[.int .i64 (dLo S : Int)] 3)
    have e1 := dLo_eq S
    have e2 := dHi_eq S
    by_cases ha : k < n1
    · have hka : (k : Int) < (n1 : Int) := by omega
      obtain ⟨g1, o1, rfl, hg1, hc1⟩ := hx.at_ (by omega)
      have hca := (hR.bel.cell (p := ⟨g1, o1 + k, none⟩) hg1).trans (hc1 k ha)
      unfold I8 at hca
      by_cases hb : k < n2
      · have hkb : (k : Int) < (n2 : Int) := by omega
        obtain ⟨g2, o2, rfl, hg2, hc2⟩ := hy.at_ (by omega)
        have hcb := (hR.bel.cell (p := ⟨g2, o2 + k, none⟩) hg2).trans (hc2 k hb)
        unfold I8 at hcb
        rw [show (S : Int) = (carry : Int) + (nth xs k : Int) + (nth ys k : Int) by omega] at e1 e2
        have HV := Lib.hid (And.intro hR (And.intro hS (And.intro ha hb)))
        have hl9 : k + 1 ≤ 1000000002 := by omega
        clear hR hS hkl hown ha hb hxk hyk hcl
        go_wp2_with (at_builtin; refine wpList_append_own _ rfl (.tmp 44) (.tmp 47) 90 rfl w.heap.size 3 i0 (.int .i64 0) 1 8 Tryz.underlying90 HI.out.1 HI.out.2.1 HI.out.2.2.1 HI.out.2.2.2 rfl (by decide) dv k (zs.map I8) rfl hownA ⟨wr.heap.size, 0, none⟩ 1 1 [.int .i64 (dLo S : Int)] rfl rfl hnew.1 hnew.2 (by unfold maxLen; omega) (by omega) (by simp; omega) ?_; intro v' w1 hown' hgrow _)
        go_wp2_with fail
        go_roundg (max n1 n2 + 1 - (k + 1))
        case measure => have := HV.out.2.2.1; have := HV.out.2.2.2; omega
        case rel =>
          have hS := HV.out.2.1
          rw [hS] at hown' hgrow e2
          exact ⟨k + 1, _, _, _, rfl, rfl, by go_num, by first | rw [e2] | rw [hS], HV.out.1.step ox oy HX.out.1 HX.out.2 (Or.inl HV.out.2.2.1) hown' hgrow⟩
      · have hkb : ¬ (k : Int) < (n2 : Int) := by omega
        have hy0 : nth ys k = 0 := nth_ge (by have := HX.out.2; omega)
        rw [show (S : Int) = (carry : Int) + (nth xs k : Int) by omega] at e1 e2
        have HV := Lib.hid (And.intro hR (And.intro hS (And.intro ha hb)))
        have hl9 : k + 1 ≤ 1000000002 := by omega
        clear hR hS hkl hown ha hb hxk hyk hcl hy0
        go_wp2_with (at_builtin; refine wpList_append_own _ rfl (.tmp 44) (.tmp 47) 90 rfl w.heap.size 3 i0 (.int .i64 0) 1 8 Tryz.underlying90 HI.out.1 HI.out.2.1 HI.out.2.2.1 HI.out.2.2.2 rfl (by decide) dv k (zs.map I8) rfl hownA ⟨wr.heap.size, 0, none⟩ 1 1 [.int .i64 (dLo S : Int)] rfl rfl hnew.1 hnew.2 (by unfold maxLen; omega) (by omega) (by simp; omega) ?_; intro v' w1 hown' hgrow _)
        go_wp2_with fail
        go_roundg (max n1 n2 + 1 - (k + 1))
        case measure => have := HV.out.2.2.1; have := HV.out.2.2.2; omega
        case rel =>
          have hS := HV.out.2.1
          rw [hS] at hown' hgrow e2
          exact ⟨k + 1, _, _, _, rfl, rfl, by go_num, by first | rw [e2] | rw [hS], HV.out.1.step ox oy HX.out.1 HX.out.2 (Or.inl HV.out.2.2.1) hown' hgrow⟩
    · have hka : ¬ (k : Int) < (n1 : Int) := by omega
      have hx0 : nth xs k = 0 := nth_ge (by have := HX.out.1; omega)
      by_cases hb : k < n2
      · have hkb : (k : Int) < (n2 : Int) := by omega
        obtain ⟨g2, o2, rfl, hg2, hc2⟩ := hy.at_ (by omega)
        have hcb := (hR.bel.cell (p := ⟨g2, o2 + k, none⟩) hg2).trans (hc2 k hb)
        unfold I8 at hcb
        rw [show (S : Int) = (carry : Int) + (nth ys k : Int) by omega] at e1 e2
        have HV := Lib.hid (And.intro hR (And.intro hS (And.intro ha hb)))
        have hl9 : k + 1 ≤ 1000000002 := by omega
        clear hR hS hkl hown ha hb hxk hyk hcl hx0
        go_wp2_with (at_builtin; refine wpList_append_own _ rfl (.tmp 44) (.tmp 47) 90 rfl w.heap.size 3 i0 (.int .i64 0) 1 8 Tryz.underlying90 HI.out.1 HI.out.2.1 HI.out.2.2.1 HI.out.2.2.2 rfl (by decide) dv k (zs.map I8) rfl hownA ⟨wr.heap.size, 0, none⟩ 1 1 [.int .i64 (dLo S : Int)] rfl rfl hnew.1 hnew.2 (by unfold maxLen; omega) (by omega) (by simp; omega) ?_; intro v' w1 hown' hgrow _)
        go_wp2_with fail
        go_roundg (max n1 n2 + 1 - (k + 1))
        case measure => have := HV.out.2.2.1; have := HV.out.2.2.2; omega
        case rel =>
          have hS := HV.out.2.1
          rw [hS] at hown' hgrow e2
          exact ⟨k + 1, _, _, _, rfl, rfl, by go_num, by first | rw [e2] | rw [hS], HV.out.1.step ox oy HX.out.1 HX.out.2 (Or.inr (Or.inl HV.out.2.2.2)) hown' hgrow⟩
      · have hkb : ¬ (k : Int) < (n2 : Int) := by omega
        have hy0 : nth ys k = 0 := nth_ge (by have := HX.out.2; omega)
        by_cases hc : 0 < carry
        · have hkc : (0 : Int) < (carry : Int) := by omega
          have hcn : carry = 1 := by omega
          subst hcn
          have hS1 : S = 1 := by omega
          have HV := Lib.hid (And.intro hR (And.intro hS (And.intro ha (And.intro hb hS1))))
          have hl9 : k + 1 ≤ 1000000002 := by omega
          have hnew' : (∀ j u, [Value.int .i64 1][j]? = some u → (wr.alloc (.cells #[.int .i64 1] 3)).cell? ((⟨wr.heap.size, 0, none⟩ : Addr).add j) = some u) ∧ (∀ u ∈ [Value.int .i64 1], u.oneCell' = true) := news_one wr (.int .i64 1) 3 rfl
          have hownA' := hown.alloc (.cells #[.int .i64 1] 3)
          clear hR hS hkl hown ha hb hxk hyk hcl hx0 hy0 hnew hownA e1 e2 hS1
          go_wp2_with (at_builtin; refine wpList_append_own _ rfl (.tmp 44) (.tmp 47) 90 rfl w.heap.size 3 i0 (.int .i64 0) 1 8 Tryz.underlying90 HI.out.1 HI.out.2.1 HI.out.2.2.1 HI.out.2.2.2 rfl (by decide) dv k (zs.map I8) rfl hownA' ⟨wr.heap.size, 0, none⟩ 1 1 [.int .i64 1] rfl rfl hnew'.1 hnew'.2 (by unfold maxLen; omega) (by omega) (by simp; omega) ?_; intro v' w1 hown' hgrow _)
          go_wp2_with fail
          go_roundg (max n1 n2 + 1 - (k + 1))
          case measure => have := HV.out.1.top; have := HV.out.2.2.1; have := HV.out.2.2.2.1; omega
          case rel =>
            have hS := HV.out.2.1
            have hd : dLo (1 + nth xs k + nth ys k) = 1 := by rw [← hS, HV.out.2.2.2.2]; rfl
            have hh : dHi (1 + nth xs k + nth ys k) = 0 := by rw [← hS, HV.out.2.2.2.2]; rfl
            have hst := HV.out.1.step (t := 3) ox oy HX.out.1 HX.out.2 (Or.inr (Or.inr (by omega))) (by rw [hd]; exact hown') (by rw [hd]; exact hgrow)
            exact ⟨k + 1, _, _, _, rfl, rfl, by go_num, by rw [hh]; rfl, hst⟩
        · have hkc : ¬ (0 : Int) < (carry : Int) := by omega
          have hcn : carry = 0 := by omega
          subst hcn
          obtain ⟨A, c, rfl, hnc, hcm, hsl⟩ := owns_sl hown
          have hv := hR.val
          rw [Nat.mul_zero, Nat.add_zero, List.take_of_length_le (by rw [HX.out.1]; omega), List.take_of_length_le (by rw [HX.out.2]; omega)] at hv
          have HV := Lib.hid (And.intro hv (And.intro hR hS))
          clear hv hR hS hx0 hy0 e1 e2 hown hownA hnew hxk hyk hkl ha hb hc
          go_wp2_with fail
          go_ret
          exact ⟨A, k, c, rfl, zs, hsl, HV.out.2.1.ok, HV.out.1, hnc, hcm, HV.out.2.1.bel⟩

end Go.Proofs.YtdclloledfjfjaaGreatDoor
