/- Contracts of the reference: four, Text, Out. -/
import Derived.Test.YtdclloledfjfjaaGreatDoorRefE
namespace Go.Proofs.YtdclloledfjfjaaGreatDoor
open Go.RowKit Vd

theorem padd4 (n : Nat) : (padd 4 n).map (·.toNat) = [48 + n / 1000 % 10, 48 + n / 100 % 10, 48 + n / 10 % 10, 48 + n % 10] := by
  have h : padd 4 n = [dig (n / 10 / 10 / 10 % 10), dig (n / 10 / 10 % 10), dig (n / 10 % 10), dig (n % 10)] := rfl
  rw [show n / 10 / 10 / 10 = n / 1000 by omega, show n / 10 / 10 = n / 100 by omega] at h
  rw [h]
  simp only [List.map_cons, List.map_nil]
  rw [dig_toNat (Nat.mod_lt _ (by omega)), dig_toNat (Nat.mod_lt _ (by omega)), dig_toNat (Nat.mod_lt _ (by omega)), dig_toNat (Nat.mod_lt _ (by omega))]

set_option maxRecDepth 100000 in
set_option maxHeartbeats 1000000 in
theorem four_any (n : Nat) (w : World) (hn : n < 10000) :
    Calls Tryz.prog 181 #[.int .i64 (n : Int)] w fun e w' => e = .returned (.string ⟨(padd 4 n).toArray⟩) ∧ Below w.heap.size w w' := by
  obtain ⟨x1, h1⟩ : ∃ x, x = 48 + n / 1000 % 10 := ⟨_, rfl⟩
  obtain ⟨x2, h2⟩ : ∃ x, x = 48 + n / 100 % 10 := ⟨_, rfl⟩
  obtain ⟨x3, h3⟩ : ∃ x, x = 48 + n / 10 % 10 := ⟨_, rfl⟩
  obtain ⟨x4, h4⟩ : ∃ x, x = 48 + n % 10 := ⟨_, rfl⟩
  have hp := padd4 n
  rw [← h1, ← h2, ← h3, ← h4] at hp
  have hcv : ∀ W : World, (convert 203 9 (.slice (some ⟨W.heap.size, 0, none⟩) 4 4)).run Tryz.prog (W.alloc (.cells #[.int .u8 (x1 : Int), .int .u8 (x2 : Int), .int .u8 (x3 : Int), .int .u8 (x4 : Int)] 5)) = .ok (.string ⟨(padd 4 n).toArray⟩) (W.alloc (.cells #[.int .u8 (x1 : Int), .int .u8 (x2 : Int), .int .u8 (x3 : Int), .int .u8 (x4 : Int)] 5)) := fun W =>
    conv_suffix (Row.new W B8 5 [x1, x2, x3, x4]) (by rw [List.drop_zero, hp]) (padd_length 4 n)
  have e1 : IntKind.u8.wrap (48 + (n : Int) / 1000) = (x1 : Int) := by rw [IntKind.wrap_u8]; omega
  have e2 : IntKind.u8.wrap (48 + (n : Int) / 100 % 10) = (x2 : Int) := by rw [IntKind.wrap_u8]; omega
  have e3 : IntKind.u8.wrap (48 + (n : Int) / 10 % 10) = (x3 : Int) := by rw [IntKind.wrap_u8]; omega
  have e4 : IntKind.u8.wrap (48 + (n : Int) % 10) = (x4 : Int) := by rw [IntKind.wrap_u8]; omega
  have k1 : (0 : Int) ≤ (n : Int) := by omega
  have k2 : (n : Int) ≤ 9999 := by omega
  clear h1 h2 h3 h4 hp hn
  go_enter Tryz.func181, Tryz.ntmps181
  go_wp2_with fail
  go_ret
  exact ⟨rfl, (Below.refl _ _).alloc (Nat.le_refl _) _⟩

theorem appB (l k : List UInt8) : (⟨l.toArray⟩ : ByteArray) ++ ⟨k.toArray⟩ = ⟨(l ++ k).toArray⟩ := by
  apply ByteArray.ext
  rw [ByteArray.data_append]
  apply Array.ext'
  simp

/-- the digits of the upper places -/
theorem padd_step {m L j : Nat} (h : j < L) : padd (4 * (L - j)) (m / B4 ^ j) = padd (4 * (L - (j + 1))) (m / B4 ^ (j + 1)) ++ padd 4 (wd B4 m j) := by
  rw [wd_eq two_le_B4, show B4 = 10 ^ 4 from rfl, padd_mod, show 4 * (L - j) = 4 * (L - (j + 1)) + 4 by omega, padd_add, Nat.div_div_eq_div_mul, Nat.pow_succ (10 ^ 4) j]

theorem strip_drop {l : List UInt8} {k : Nat} (h : strip l = strip (l.drop k)) (hk : l[k]? = some 48) : strip l = strip (l.drop (k + 1)) := by
  have hlt : k < l.length := by
    rcases Nat.lt_or_ge k l.length with h1 | h1
    · exact h1
    · rw [List.getElem?_eq_none h1] at hk; cases hk
  rw [h, List.drop_eq_getElem_cons hlt]
  rw [List.getElem?_eq_getElem hlt] at hk
  injection hk with hk
  rw [hk]
  rfl
theorem strip_end {l : List UInt8} {k : Nat} (h : strip l = strip (l.drop k)) (hk : l[k]? ≠ some 48) : strip l = l.drop k := by
  rw [h]
  rcases Nat.lt_or_ge k l.length with h1 | h1
  · rw [List.drop_eq_getElem_cons h1]
    rw [List.getElem?_eq_getElem h1] at hk
    unfold strip
    rw [if_neg (fun e => hk (by rw [e]))]
  · rw [List.drop_eq_nil_of_le h1]; rfl

theorem strip_padd4 {m L : Nat} (hL : wlen B4 m = L) : strip (padd (4 * L) m) = if m = 0 then [] else digs m := by
  rw [strip_digs (padd_all _ _), dval_padd, Nat.mod_eq_of_lt]
  rw [Nat.pow_mul, ← hL]
  exact lt_pow_wlen two_le_B4 m

set_option maxRecDepth 100000 in
set_option maxHeartbeats 2000000 in
theorem text4_any (v : Value) (z : Int) (w : World) (h : PlV w v z) (hb : wlen B4 z.natAbs ≤ 1000000) :
    Calls Tryz.prog 138 #[v] w fun e w' => e = .returned (.string ⟨(wr z).toArray⟩) ∧ Below w.heap.size w w' := by
  obtain ⟨m, rfl, A, c, rfl, hlc, hc, hsl⟩ := h
  obtain ⟨b, hbz⟩ : ∃ b, b = decide (z < 0) := ⟨_, rfl⟩
  obtain ⟨N, hN⟩ : ∃ N, N = z.natAbs := ⟨_, rfl⟩
  rw [← hN] at hlc hsl hb ⊢
  rw [← hbz]
  obtain ⟨L, hL⟩ : ∃ L, wlen B4 N = L := ⟨_, rfl⟩
  rw [hL] at hlc hsl hb ⊢
  have hwr : wr z = if b then 45 :: digs N else digs N := by unfold wr; rw [hbz, hN]; simp
  have hb0 : N = 0 → b = false := by intro h0; rw [hbz]; simp; omega
  have HZ := Lib.hid (And.intro hL (And.intro hwr hb0))
  have hbW : Below w.heap.size w (w.alloc (.cells #[.bool b, .slice A L c] 92)) := (Below.refl _ _).alloc (Nat.le_refl _) _
  have hb1 : World.cell? (w.alloc (.cells #[.bool b, .slice A L c] 92)) ⟨w.heap.size, 0, none⟩ = some (.bool b) := by simp [go_sem]
  have hb2 : World.cell? (w.alloc (.cells #[.bool b, .slice A L c] 92)) ⟨w.heap.size, 1, none⟩ = some (.slice A L c) := by simp [go_sem]
  have hlt0 : w.heap.size < (w.alloc (.cells #[.bool b, .slice A L c] 92)).heap.size := by simp
  have i1 : IntKind.i64.wrap ((L : Int) - 1) = (L : Int) - 1 := by rw [IntKind.wrap_i64]; omega
  clear hbz hN hL hwr hb0 hlc hc
  go_enter Tryz.func138, Tryz.ntmps138
  go_wp2_with fail
  go_loopg [3, 4] L (fun r sv iv W => ∃ (j : Nat) (s : List UInt8), j = r ∧ j ≤ L ∧ iv = .int .i64 ((j : Int) - 1) ∧ sv = .string ⟨s.toArray⟩ ∧ s = padd (4 * (L - j)) (N / B4 ^ j) ∧ W.cell? ⟨w.heap.size, 0, none⟩ = some (.bool b) ∧ W.cell? ⟨w.heap.size, 1, none⟩ = some (.slice A L c) ∧ Below w.heap.size w W ∧ w.heap.size < W.heap.size)
  case atStart => exact ⟨L, [], rfl, Nat.le_refl _, by first | rfl | rw [i1], rfl, by rw [Nat.sub_self]; rfl, hb1, hb2, hbW, hlt0⟩
  case round =>
    clear hb1 hb2 hbW hlt0
    obtain ⟨j, s, rfl, hj, rfl, rfl, hs, hc0, hc1, hbel, hlt⟩ := hrel
    cases j with
    | zero =>
      rw [show (((0 : Nat) : Int) - 1) = -1 from rfl]
      rw [Nat.sub_zero, Nat.pow_zero, Nat.div_one] at hs
      have hstr := strip_padd4 HZ.out.1
      rw [← hs] at hstr
      have hslen : s.length ≤ 4000000 := by rw [hs, padd_length]; omega
      have HS := Lib.hid (And.intro hstr hslen)
      clear hs hstr hslen hj
      go_wp2_with fail
      go_loopg [5] s.length (fun r kv W => ∃ k : Nat, r = s.length - k ∧ kv = .int .i64 (k : Int) ∧ k ≤ s.length ∧ strip s = strip (s.drop k) ∧ W = wr)
      case atStart => exact ⟨0, rfl, rfl, Nat.zero_le _, rfl, rfl⟩
      case round =>
        obtain ⟨k, rfl, rfl, hk, hst, rfl⟩ := hrel
        have hkI : (k : Int) ≤ (s.length : Int) := by omega
        have hk0 : (0 : Int) ≤ (k : Int) := by omega
        have hkm : (k : Int) ≤ 4000000 := by have := HS.out.2; omega
        obtain ⟨t, ht⟩ : ∃ t, t = s.drop k := ⟨_, rfl⟩
        have hex : (⟨s.toArray⟩ : ByteArray).extract k s.length = ⟨t.toArray⟩ := by rw [ht]; exact extB s k
        have htl : t.length ≤ 4000000 := by rw [ht, List.length_drop]; have := HS.out.2; omega
        have hln : ¬ 9223372036854775807 < 1 + t.length := by omega
        have happ : (⟨#[45]⟩ : ByteArray) ++ ⟨t.toArray⟩ = ⟨(45 :: t).toArray⟩ := appB [45] t
        by_cases ha : k < s.length
        · have hka : (k : Int) < (s.length : Int) := by omega
          have hkb : k < (⟨s.toArray⟩ : ByteArray).size := ha
          obtain ⟨x, hx⟩ : ∃ x, s[k]? = some x := ⟨s[k], List.getElem?_eq_getElem ha⟩
          have hgx := getB ha x hx hkb
          by_cases hd : x = 48
          · have K1 : ((x.toNat : Int) == 48) = true := by rw [hd]; decide
            have hst' := strip_drop hst (by rw [hx, hd])
            have HK := Lib.hid (And.intro ha hst')
            clear hx hd hst hst' hk ha happ hln htl hex ht
            go_wp2_with fail
            go_roundg (s.length - (k + 1))
            case measure => have := HK.out.1; omega
            case rel => exact ⟨k + 1, rfl, by go_num, by have := HK.out.1; omega, HK.out.2, rfl⟩
          · have K1 : ((x.toNat : Int) == 48) = false := by
              rw [beq_eq_false_iff_ne]
              intro e
              exact hd (UInt8.toNat_inj.1 (by have : x.toNat = 48 := by omega
                                              rw [this]; rfl))
            have hst' := strip_end hst (by rw [hx]; intro e; injection e with e; exact hd e)
            rw [HS.out.1, ← ht] at hst'
            have htn : t ≠ [] := by rw [ht]; intro e; have := List.drop_eq_nil_iff.1 e; omega
            have hN0 : N ≠ 0 := by intro e; rw [if_pos e] at hst'; exact htn hst'.symm
            rw [if_neg hN0] at hst'
            have E0 : t.isEmpty = false := by cases t with
              | nil => exact absurd rfl htn
              | cons => rfl
            have HK := Lib.hid hst'
            clear hx hd hst hst' hk ha htn hN0 ht
            cases b
            all_goals
              go_wp2_with fail
              first
                | exact bodyPost_ret (v := .string ⟨t.toArray⟩) (by simp [results, Tryz.results138, go_sem]) rfl ⟨by rw [HZ.out.2.1, HK.out]; rfl, hbel⟩
                | exact bodyPost_ret (v := .string ⟨(45 :: t).toArray⟩) (by simp only [← happ]; simp [results, Tryz.results138, go_sem]) rfl ⟨by rw [HZ.out.2.1, HK.out]; rfl, hbel⟩
        · have hka : ¬ (k : Int) < (s.length : Int) := by omega
          have hst' := strip_end hst (by rw [List.getElem?_eq_none (by omega)]; exact fun e => by cases e)
          rw [HS.out.1, List.drop_eq_nil_of_le (by omega)] at hst'
          have hN0 : N = 0 := Classical.byContradiction fun e => by rw [if_neg e] at hst'; exact digs_ne_nil _ hst'
          have htn : t = [] := by rw [ht]; exact List.drop_eq_nil_of_le (by omega)
          have E0 : t.isEmpty = true := by rw [htn]; rfl
          have HK := Lib.hid (And.intro hN0 (HZ.out.2.2 hN0))
          clear hst hst' hk ha htn hN0 ht
          go_wp2_with fail
          exact bodyPost_ret (v := .string ⟨#[48]⟩) (by simp [results, Tryz.results138, go_sem]) rfl ⟨by rw [HZ.out.2.1, HK.out.2, HK.out.1, digs_zero]; rfl, hbel⟩
    | succ j =>
      rw [show (((j + 1 : Nat) : Int) - 1) = (j : Int) from by omega]
      obtain ⟨g, o, rfl, hg, hcell⟩ := hsl.at_ (by omega)
      have hcj := (hbel.cell (p := ⟨g, o + j, none⟩) hg).trans (hcell j (by omega))
      unfold I8 at hcj
      have hD : nth (ws B4 N) j < 10000 := wd_lt two_le_B4 N j
      have hst := padd_step (m := N) (L := L) (j := j) (by omega)
      unfold wd at hst
      obtain ⟨D, hDD⟩ : ∃ D, D = nth (ws B4 N) j := ⟨_, rfl⟩
      rw [← hDD] at hcj hD hst
      have hfo := fun W => four_any D W hD
      obtain ⟨t, ht⟩ : ∃ t, t = padd 4 D := ⟨_, rfl⟩
      have htl : t.length = 4 := by rw [ht, padd_length]
      have hsl2 : s.length ≤ 4000000 := by rw [hs, padd_length]; omega
      have hln : ¬ 9223372036854775807 < s.length + t.length := by omega
      have happ := appB s t
      rw [← hs, ← ht] at hst
      simp only [← ht] at hfo
      have hjL : (j : Int) < (L : Int) := by omega
      have hj0 : (0 : Int) ≤ (j : Int) := by omega
      have hj1 : IntKind.i64.wrap ((j : Int) - 1) = (j : Int) - 1 := by rw [IntKind.wrap_i64]; omega
      have HK := Lib.hid (And.intro hst hj)
      clear hs hst hj hcell hDD ht htl hsl2 hD
      go_wp2_with fail
      refine (hfo _).mono ?_
      rintro e w2 ⟨rfl, hb2⟩
      have hd0 : w2.cell? ⟨w.heap.size, 0, none⟩ = some (.bool b) := by rw [hb2.cell hlt]; exact hc0
      have hd1 : w2.cell? ⟨w.heap.size, 1, none⟩ = some (.slice (some ⟨g, o, none⟩) L c) := by rw [hb2.cell hlt]; exact hc1
      have hbel2 : Below w.heap.size w w2 := hbel.trans (hb2.mono hbel.size)
      have hlt2 : w.heap.size < w2.heap.size := Nat.lt_of_lt_of_le hlt hb2.size
      clear hfo hb2 hbel hlt hc0 hc1 hcj
      go_wp2_with fail
      go_roundg j
      case measure => omega
      case rel => exact ⟨j, s ++ t, rfl, by have := HK.out.2; omega, rfl, by first | rfl | rw [happ], HK.out.1.symm, hd0, hd1, hbel2, hlt2⟩

end Go.Proofs.YtdclloledfjfjaaGreatDoor
