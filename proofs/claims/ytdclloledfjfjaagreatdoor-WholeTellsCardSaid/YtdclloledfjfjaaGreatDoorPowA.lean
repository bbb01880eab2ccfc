/- Contracts: Power, length, aboveRoot, nextRoot, Root. Contracts: length, aboveRoot, nextRoot. -/
import Derived.Test.YtdclloledfjfjaaGreatDoorDivG
namespace Go.Proofs.YtdclloledfjfjaaGreatDoor
open Go.RowKit Vd

set_option maxRecDepth 100000 in
set_option maxHeartbeats 1000000 in
theorem power_any (v : Value) (m n : Nat) (w : World) (h : MagV w v m) (hm : wlen B64 m ≤ maxW) (hb : n * wlen B64 m + 1 ≤ maxW) (hn : n ≤ 1000000) :
    Calls Tryz.prog 177 #[v, .int .i64 (n : Int)] w fun e w' => ∃ r, e = .returned r ∧ MagV w' r (m ^ n) ∧ Below w.heap.size w w' := by
  have hfw := fromWord_any 1 (by decide) w
  rw [show ((1 : Nat) : Int) = 1 from rfl] at hfw
  have hn' : (n : Int) ≤ 1000000 := by omega
  have hlen : ∀ k, k < n → wlen B64 (m ^ k) ≤ maxW := fun k hk => by
    have h1 := wlen_pow (b := B64) two_le_B m k
    have h2 := Nat.mul_le_mul_right (wlen B64 m) (Nat.le_of_lt hk)
    omega
  have HB := Lib.hid (And.intro hm hlen)
  clear hm hlen hb
  go_enter Tryz.func177, Tryz.ntmps177
  go_wp2_with fail
  refine hfw.mono ?_
  rintro e w1 ⟨p, rfl, hp, hb1⟩
  go_wp2_with fail
  go_loopg [6, 11] n (fun j a i wr => ∃ k : Nat, k ≤ n ∧ j = n - k ∧ i = .int .i64 k ∧ MagV wr a (m ^ k) ∧ Below w.heap.size w wr)
  case atStart => exact ⟨0, Nat.zero_le _, rfl, rfl, by simpa using hp, hb1⟩
  case round =>
    clear hp
    obtain ⟨k, hk, rfl, rfl, hp, hbel⟩ := hrel
    by_cases hlt : k < n
    · have hlt' : (k : Int) < (n : Int) := by omega
      have hpr := product_any v _ m (m ^ k) wr (h.below hbel) hp HB.out.1 (HB.out.2 k hlt)
      go_wp2_with fail
      refine hpr.mono ?_
      rintro e w2 ⟨r, rfl, hr, hb2⟩
      go_wp2_with fail
      go_roundg (n - (k + 1))
      case measure => omega
      case rel => exact ⟨k + 1, by omega, rfl, by go_num, by rw [Nat.pow_succ, Nat.mul_comm]; exact hr, hbel.trans (hb2.mono hbel.size)⟩
    · obtain rfl : k = n := by omega
      go_wp2_with fail
      go_ret
      exact ⟨_, rfl, hp, hbel⟩

end Go.Proofs.YtdclloledfjfjaaGreatDoor

namespace Go.Proofs.YtdclloledfjfjaaGreatDoor
open Go.RowKit Vd

theorem len64_any (y : Nat) (hy : y < B64) (w : World) :
    Calls Tryz.prog 236 #[.int .u64 (y : Int)] w fun e w' => e = .returned (.int .i64 ((Lib.bitLen y : Nat) : Int)) ∧ w = w' := by
  refine (Tryz.bits_Len64 y w (by omega) (by rw [B64_eq] at hy; omega)).mono ?_
  rintro e w' ⟨he, hw⟩
  rw [Int.toNat_natCast] at he
  exact ⟨he, hw.symm⟩

theorem lt_two_pow_words {m n : Nat} (hn : wlen B64 m = n + 1) : m < 2 ^ (n * 64 + Lib.bitLen (wd B64 m n)) := by
  have e := val_take_succ (b := B64) (ws B64 m) n
  have hl : (ws B64 m).length = n + 1 := hn
  rw [List.take_of_length_le (by omega), val_ws two_le_B, val_take_ws two_le_B] at e
  rw [show nth (ws B64 m) n = wd B64 m n from rfl] at e
  have hlow : m % B64 ^ n < B64 ^ n := Nat.mod_lt _ (Nat.pow_pos (by decide))
  have hb := (blen_spec (wd B64 m n) (wd_lt two_le_B m n)).1
  have eB : B64 ^ n = 2 ^ (n * 64) := by rw [show B64 = 2 ^ 64 from rfl, ← Nat.pow_mul, Nat.mul_comm]
  rw [Nat.pow_add, ← eB]
  have h2 := Nat.mul_le_mul_left (B64 ^ n) (show wd B64 m n + 1 ≤ _ from hb)
  rw [Nat.mul_add, Nat.mul_one, Nat.mul_comm (B64 ^ n) (wd B64 m n)] at h2
  omega

set_option maxRecDepth 100000 in
set_option maxHeartbeats 1000000 in
theorem length_any (v : Value) (m : Nat) (w : World) (h : MagV w v m) (hm : wlen B64 m ≤ 1000000) :
    Calls Tryz.prog 211 #[v] w fun e w' => ∃ L : Nat, e = .returned (.int .i64 (L : Int)) ∧ m < 2 ^ L ∧ L ≤ 64000000 ∧ w = w' := by
  obtain ⟨A, c, rfl, _, s⟩ := h.ok_len
  have hz := isZero_any A (wlen B64 m) c w
  cases hn : wlen B64 m with
  | zero =>
    rw [hn] at hz
    rw [decide_eq_true (show 0 = 0 from rfl)] at hz
    have h0 := (wlen_eq_zero two_le_B).1 hn
    have H0 := Lib.hid h0
    clear h0 hn s h
    go_enter Tryz.func211, Tryz.ntmps211
    go_wp2_with fail
    refine hz.mono ?_
    rintro e w1 ⟨rfl, rfl⟩
    go_wp2_with fail
    go_ret
    exact ⟨0, rfl, by rw [H0.out]; decide, by omega, rfl⟩
  | succ n =>
    rw [hn] at hz s hm
    rw [decide_eq_false (show ¬ n + 1 = 0 by omega)] at hz
    have hlt := lt_two_pow_words hn
    have hl := len64_any (wd B64 m n) (wd_lt two_le_B m n) w
    have hle := blen_le (wd B64 m n) (wd_lt two_le_B m n)
    obtain ⟨g, o, rfl, hg, hc⟩ := s.at_ (by omega)
    have hcn := hc n (by omega)
    rw [show nth (ws B64 m) n = wd B64 m n from rfl] at hcn
    unfold U at hcn
    obtain ⟨b, hb⟩ : ∃ b, b = Lib.bitLen (wd B64 m n) := ⟨_, rfl⟩
    rw [← hb] at hl hle hlt
    have hn' : (n : Int) ≤ 1000000 := by omega
    have hn2 : n ≤ 999999 := by omega
    have hb' : (b : Int) ≤ 64 := by omega
    have i1 : (n : Int) < (n : Int) + 1 := by omega
    clear hb hn hc s h hm hle
    have HL := Lib.hid hlt
    clear hlt
    go_enter Tryz.func211, Tryz.ntmps211
    go_wp2_with fail
    refine hz.mono ?_
    rintro e w1 ⟨rfl, rfl⟩
    go_wp2_with fail
    refine hl.mono ?_
    rintro e w1 ⟨rfl, rfl⟩
    go_wp2_with fail
    go_ret
    exact ⟨n * 64 + b, rfl, HL.out, by omega, rfl⟩

theorem two_pow_words (e : Nat) : ws B64 (2 ^ e) = List.replicate (e / 64) 0 ++ [2 ^ (e % 64)] := by
  have h1 : (2 : Nat) ^ (e % 64) < B64 := by
    have := Nat.pow_lt_pow_right (a := 2) (by omega) (show e % 64 < 64 by omega)
    exact this
  have h2 : val B64 (List.replicate (e / 64) 0 ++ [2 ^ (e % 64)]) = 2 ^ e := by
    rw [val_append, val_replicate, List.length_replicate, val_cons, val_nil, show B64 = 2 ^ 64 from rfl, ← Nat.pow_mul]
    simp only [Nat.mul_zero, Nat.add_zero, Nat.zero_add]
    rw [← Nat.pow_add, Nat.div_add_mod]
  rw [← h2]
  refine ws_val two_le_B ((Ok.rep two_le_B _).app (Ok.cons h1 Ok.nil)) ?_
  intro x hx
  rw [List.getLast?_append] at hx
  simp at hx
  rw [← hx]
  exact Nat.pos_iff_ne_zero.1 (Nat.pow_pos (by omega))
theorem wlen_two_pow (e : Nat) : wlen B64 (2 ^ e) = e / 64 + 1 := by
  rw [← length_ws, two_pow_words]; simp

theorem Row.newRepSet (w : World) (f : Nat → Value) (t : TypeId) (n q x : Nat) : Row (w.alloc (.cells ((Array.replicate n (f 0)).setIfInBounds q (f x)) t)) f w.heap.size t ((List.replicate n 0).set q x) := by
  have h := Row.new w f t ((List.replicate n 0).set q x)
  rw [List.map_set, List.map_replicate] at h
  have e : ((List.replicate n (f 0)).set q (f x)).toArray = (Array.replicate n (f 0)).setIfInBounds q (f x) := by
    rw [← List.setIfInBounds_toArray, List.toArray_replicate]
  rwa [e] at h

/-- a power of 2, under a name that the walk does not open -/
def pw (t : Nat) : Nat := 2 ^ t

set_option maxRecDepth 100000 in
set_option maxHeartbeats 1000000 in
theorem aboveRoot_any (v : Value) (m k : Nat) (w : World) (h : MagV w v m) (hm : wlen B64 m ≤ 1000000) (hk : 1 ≤ k) (hk2 : k ≤ 1000) :
    Calls Tryz.prog 178 #[v, .int .i64 (k : Int)] w fun e w' => ∃ r x, e = .returned r ∧ MagV w' r (2 ^ x) ∧ m < (2 ^ x) ^ k ∧ x ≤ 64001000 ∧ Below w.heap.size w w' := by
  have hl := length_any v m w h hm
  have hk' : (1 : Int) ≤ (k : Int) := by omega
  have hk2' : (k : Int) ≤ 1000 := by omega
  have k0 : ¬ ((k : Int) = 0) := by omega
  go_enter Tryz.func178, Tryz.ntmps178
  go_wp2_with fail
  refine hl.mono ?_
  rintro e w1 ⟨L, rfl, hL, hLb, rfl⟩
  have hLb' : (L : Int) ≤ 64000000 := by omega
  obtain ⟨x, hx⟩ : ∃ x, x = (L + k - 1) / k := ⟨_, rfl⟩
  have hxk : L ≤ x * k := by
    have := Nat.div_add_mod (L + k - 1) k
    have h2 := Nat.mod_lt (L + k - 1) (show 0 < k by omega)
    rw [← hx, Nat.mul_comm] at this
    omega
  have hxb : x ≤ 64001000 := by rw [hx]; exact Nat.le_trans (Nat.div_le_self _ _) (by omega)
  have hmx : m < (2 ^ x) ^ k := by
    rw [← Nat.pow_mul]
    exact Nat.lt_of_lt_of_le hL (Nat.pow_le_pow_right (by omega) hxk)
  have E1 : ((L : Int) + (k : Int) - 1) / (k : Int) = (x : Int) := by
    rw [hx, Int.natCast_ediv]; congr 1; omega
  have HM := Lib.hid hmx
  clear hx hxk hmx hL hl h
  go_upto_region 2 with fail
  rw [E1]
  clear E1
  obtain ⟨q, hq⟩ : ∃ q, q = x / 64 := ⟨_, rfl⟩
  obtain ⟨t, ht⟩ : ∃ t, t = x % 64 := ⟨_, rfl⟩
  have E2 : (x : Int) / 64 = (q : Int) := by omega
  have E3 : (x : Int) % 64 = (t : Int) := by omega
  have ht64 : t < 64 := by omega
  have hqb : q ≤ 1000016 := by omega
  have hptB : 2 ^ t < B64 := by
    have := Nat.pow_lt_pow_right (a := 2) (by omega) ht64
    exact this
  have E4 : IntKind.u64.wrap ((2 : Int) ^ t) = (pw t : Int) := by
    have := wrapU hptB
    unfold pw
    simpa using this
  have hmk := fun W => mkU (q + 1) (by unfold maxW; omega) W
  rw [show (((q + 1 : Nat)) : Int) = (q : Int) + 1 from rfl] at hmk
  have hrow := Row.newRep w U 182 (q + 1)
  have hcs := hrow.cell (i := q) (by simp)
  have hfs := hrow.frozen q
  rw [nth_replicate] at hcs
  have hset := Row.newRepSet w U 182 (q + 1) q (pw t)
  unfold U at hcs
  have h2 : (List.replicate (q + 1) 0).set q (pw t) = ws B64 (2 ^ x) := by
    rw [two_pow_words, ← hq, ← ht, List.replicate_succ', List.set_append_right _ _ (by simp)]
    simp [pw]
  have hw2 := wlen_two_pow x
  rw [← hq] at hw2
  have HW := Lib.hid (And.intro h2 hw2)
  have t0 : (0 : Int) ≤ (t : Int) := by omega
  have t1 : (t : Int) ≤ 63 := by omega
  have qb : (q : Int) ≤ 1000016 := by omega
  have q1 : (q : Int) < (q : Int) + 1 := by omega
  clear hq ht h2 hw2 ht64 hptB hrow
  go_wp2_with fail
  go_ret
  refine ⟨_, x, rfl, ?_, HM.out, hxb, (Below.refl _ _).alloc (Nat.le_refl _) _⟩
  obtain ⟨h2, hw2⟩ := HW.out
  rw [h2] at hset
  have hs := hset.sl0
  rw [length_ws] at hs
  refine ⟨some ⟨w.heap.size, 0, none⟩, q + 1, ?_, by omega, by omega, hs⟩
  rw [hw2]; rfl

set_option maxRecDepth 100000 in
set_option maxHeartbeats 1000000 in
theorem nextRoot_any (v vr : Value) (m r j : Nat) (w : World) (h : MagV w v m) (hr : MagV w vr r) (hm : wlen B64 m ≤ 1000000) (hrb : wlen B64 r ≤ 1001000) (hj : j < 1000) (hr0 : 0 < r) :
    Calls Tryz.prog 179 #[v, vr, .int .i64 ((j : Int) + 1)] w fun e w' => ∃ x, e = .returned x ∧ MagV w' x (newton j m r) ∧ Below w.heap.size w w' := by
  have hjr := Nat.mul_le_mul (Nat.le_of_lt hj) hrb
  have hpl : wlen B64 (r ^ j) ≤ maxW := by
    have := wlen_pow (b := B64) two_le_B r j
    unfold maxW; omega
  have hpow := power_any vr r j w hr (by unfold maxW; omega) (by unfold maxW; omega) (by omega)
  have hp0 : 0 < r ^ j := Nat.pow_pos hr0
  have hjB : j < B64 := by rw [B64_eq]; omega
  have hj1B : j + 1 < B64 := by rw [B64_eq]; omega
  have hj' : (j : Int) ≤ 1000 := by omega
  -- the numbers on the way
  obtain ⟨P, hP⟩ : ∃ P, P = r ^ j := ⟨_, rfl⟩
  obtain ⟨S, hS⟩ : ∃ S, S = m / P := ⟨_, rfl⟩
  obtain ⟨T, hT⟩ : ∃ T, T = r * j := ⟨_, rfl⟩
  have hlS : wlen B64 S ≤ 1000000 := Nat.le_trans (wlen_mono two_le_B (by rw [hS]; exact Nat.div_le_self _ _)) hm
  have hlT : wlen B64 T ≤ 1001001 := by
    have := wlen_mul (b := B64) two_le_B r j
    have := wlen_le_one (b := B64) two_le_B hjB
    rw [hT]; omega
  have hlTS : wlen B64 (T + S) ≤ maxW := by
    have := wlen_add (b := B64) two_le_B T S
    unfold maxW; omega
  have hres : (T + S) / (j + 1) = newton j m r := by unfold newton; rw [hT, hS, hP, Nat.mul_comm r j]
  rw [← hP] at hpow hpl hp0
  have HN := Lib.hid (And.intro hS (And.intro hT hres))
  clear hP hS hT hres hjr
  go_enter Tryz.func179, Tryz.ntmps179
  go_wp2_with fail
  refine hpow.mono ?_
  rintro e w1 ⟨vp, rfl, hvp, hb1⟩
  go_wp2_with fail
  refine (divide_any v vp m P w1 (h.below hb1) hvp (by unfold maxW; omega) hpl hp0).mono ?_
  rintro e w2 ⟨vs, vq, rfl, hvs, hvq, hb2⟩
  rw [← HN.out.1] at hvs
  go_wp2_with fail
  have hb12 := below_tr hb1 hb2
  refine (fromWord_any j hjB w2).mono ?_
  rintro e w3 ⟨vj, rfl, hvj, hb3⟩
  go_wp2_with fail
  have hb13 := below_tr hb12 hb3
  refine (product_any vr vj r j w3 (hr.below hb13) hvj (by unfold maxW; omega) (by have := wlen_le_one (b := B64) two_le_B hjB; unfold maxW; omega)).mono ?_
  rintro e w4 ⟨vt, rfl, hvt, hb4⟩
  rw [← HN.out.2.1] at hvt
  go_wp2_with fail
  have hb14 := below_tr hb13 hb4
  refine (sum_any vt vs T S w4 hvt (hvs.below (below_tr hb3 hb4)) (by unfold maxW; omega) (by unfold maxW; omega)).mono ?_
  rintro e w5 ⟨vu, rfl, hvu, hb5⟩
  go_wp2_with fail
  have hb15 := below_tr hb14 hb5
  have hd := divWord_any vu (T + S) (j + 1) w5 hvu hlTS (by omega) hj1B
  rw [HN.out.2.2] at hd
  rw [show (((j + 1 : Nat)) : Int) = (j : Int) + 1 from rfl] at hd
  refine hd.mono ?_
  rintro e w6 ⟨vx, rfl, hvx, hb6⟩
  go_wp2_with fail
  go_ret
  exact ⟨vx, rfl, hvx, below_tr hb15 hb6⟩

set_option maxRecDepth 100000 in
set_option maxHeartbeats 1000000 in
theorem root_any (v : Value) (m j : Nat) (w : World) (h : MagV w v m) (hm : wlen B64 m ≤ 1000000) (hj : j < 1000) :
    Calls Tryz.prog 136 #[v, .int .i64 ((j : Int) + 1)] w fun e w' => ∃ r s, e = .returned r ∧ IsRoot (j + 1) m s ∧ MagV w' r s ∧ Below w.heap.size w w' := by
  obtain ⟨A, c, rfl, _, sl⟩ := h.ok_len
  have hz := isZero_any A (wlen B64 m) c w
  by_cases hm0 : m = 0
  · rw [decide_eq_true ((wlen_eq_zero two_le_B).2 hm0)] at hz
    have H0 := Lib.hid hm0
    clear hm0
    go_enter Tryz.func136, Tryz.ntmps136
    go_wp2_with fail
    refine hz.mono ?_
    rintro e w1 ⟨rfl, rfl⟩
    go_wp2_with fail
    go_ret
    refine ⟨_, 0, rfl, ?_, ?_, Below.refl _ _⟩
    · rw [H0.out]; exact ⟨by simp, by simp⟩
    · rw [H0.out] at h; rw [H0.out]; exact h
  · rw [decide_eq_false (fun e => hm0 ((wlen_eq_zero two_le_B).1 e))] at hz
    obtain ⟨s, hs⟩ := root_exists (j + 1) m (by omega)
    have habove := aboveRoot_any _ m (j + 1) w h hm (by omega) (by omega)
    rw [show (((j + 1 : Nat)) : Int) = (j : Int) + 1 from rfl] at habove
    have hj' : (j : Int) ≤ 1000 := by omega
    have HS := Lib.hid hs
    clear hs
    go_enter Tryz.func136, Tryz.ntmps136
    go_wp2_with fail
    refine hz.mono ?_
    rintro e w1 ⟨rfl, rfl⟩
    go_wp2_with fail
    refine habove.mono ?_
    rintro e w1 ⟨r0, x, rfl, hr0, hx, hxb, hb1⟩
    have hsx : s < 2 ^ x := by
      rcases Nat.lt_or_ge s (2 ^ x) with h1 | h1
      · exact h1
      · have := Nat.pow_le_pow_left h1 (j + 1)
        have := HS.out.1
        omega
    have HX := Lib.hid hsx
    have hxw := wlen_two_pow x
    have HW := Lib.hid hxw
    clear hx hsx hxw
    go_wp2_with fail
    go_loopg [5] (2 ^ x) (fun g a wr => g ≤ 2 ^ x ∧ 0 < g ∧ s ≤ g ∧ MagV wr a g ∧ Below w.heap.size w wr)
    case atStart => exact ⟨Nat.le_refl _, Nat.pow_pos (by omega), Nat.le_of_lt HX.out, hr0, hb1⟩
    case round =>
      clear hr0 hb1
      obtain ⟨hg1, hg0, hgs, hgv, hbel⟩ := hrel
      have hgw : wlen B64 gk ≤ 1001000 := by
        have := wlen_mono (b := B64) two_le_B hg1
        have := HW.out
        omega
      go_wp2_with fail
      refine (nextRoot_any _ _ m gk j wr (h.below hbel) hgv hm hgw hj hg0).mono ?_
      rintro e w2 ⟨nx, rfl, hnx, hb2⟩
      go_wp2_with fail
      have hcmp := compare_any nx _ (newton j m gk) gk w2 hnx (hgv.below hb2) (by unfold maxW; omega)
      by_cases hlt : newton j m gk < gk
      · rw [show cmpN (newton j m gk) gk = -1 by unfold cmpN; rw [if_pos hlt]] at hcmp
        refine hcmp.mono ?_
        rintro e w3 ⟨rfl, d, rfl⟩
        go_wp2_with fail
        go_roundg (newton j m gk)
        case measure => exact hlt
        case rel =>
          have hge := newton_ge (j := j) hg0 HS.out.1
          refine ⟨by omega, ?_, hge, hnx.drewN d, below_drewN (hbel.trans (hb2.mono hbel.size)) d⟩
          rcases Nat.eq_zero_or_pos (newton j m gk) with h0 | h0
          · exfalso
            rw [h0] at hge
            have hs0 : s = 0 := by omega
            have := HS.out.2
            rw [hs0] at this
            simp at this
            exact hm0 this
          · exact h0
      · obtain ⟨cv, hcv⟩ : ∃ z, z = cmpN (newton j m gk) gk := ⟨_, rfl⟩
        have hcv0 : ¬ cv < 0 := by rw [hcv]; unfold cmpN; rw [if_neg hlt]; split <;> omega
        have hcv1 : (0 : Int) ≤ cv := by omega
        rw [← hcv] at hcmp
        have hst := newton_stop hg0 HS.out hgs (Nat.le_of_not_lt hlt)
        have HT := Lib.hid hst
        clear hst hcv
        refine hcmp.mono ?_
        rintro e w3 ⟨rfl, d, rfl⟩
        go_wp2_with fail
        go_ret
        exact ⟨_, s, rfl, HS.out, by rw [← HT.out]; exact (hgv.below hb2).drewN d, below_drewN (hbel.trans (hb2.mono hbel.size)) d⟩

end Go.Proofs.YtdclloledfjfjaaGreatDoor
