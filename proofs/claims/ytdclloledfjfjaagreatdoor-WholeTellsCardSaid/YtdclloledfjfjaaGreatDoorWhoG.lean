/- Contracts: package whole: Pow, Root. Contracts: package whole: Of, Int. -/
import Derived.Test.YtdclloledfjfjaaGreatDoorWhoF
import Derived.Test.YtdclloledfjfjaaGreatDoorShelfB
import Derived.Lib.AppendIntMem
import Derived.Lib.AtoiErrMem
namespace Go.Proofs.YtdclloledfjfjaaGreatDoor
open Go.RowKit Vd

theorem pow_wlen {z : Int} (n : Nat) (h : wlen B64 z.natAbs ≤ 32) (hn : n ≤ 40) : n * wlen B64 z.natAbs + 1 ≤ 1281 ∧ wlen B64 (z ^ n).natAbs ≤ 1281 := by
  have h1 : n * wlen B64 z.natAbs ≤ 40 * 32 := Nat.mul_le_mul hn h
  have h2 := wlen_pow (b := B64) two_le_B z.natAbs n
  rw [Int.natAbs_pow]
  omega

set_option maxRecDepth 100000 in
set_option maxHeartbeats 1000000 in
theorem wpow_some (l : List UInt8) (z : Int) (n : Nat) (w : World) (h : rd l = some z) (hn : n ≤ 40) :
    Calls Tryz.prog 68 #[.string ⟨l.toArray⟩, .int .i64 (n : Int)] w fun e w' => e = .returned (outV (z ^ n)) ∧ Below w.heap.size w w' := by
  have hr := fun W => wread_some l z W h
  have b1 := rd_wlen h
  obtain ⟨b2, b3⟩ := pow_wlen n b1 hn
  obtain ⟨s, c', hsc⟩ := outV_open (z ^ n)
  have hww := fun v W (hv : SgV W v (z ^ n)) => wwrite_any v (z ^ n) W hv (by omega)
  have htp := fun v W (hv : SgV W v z) => toPower_any v z n W hv (by unfold maxW; omega) (by unfold maxW; omega) (by omega)
  rw [hsc] at hww ⊢
  have i1 : ¬ (n : Int) < 0 := by omega
  have i2 : ¬ (40 : Int) < (n : Int) := by omega
  have H := Lib.hid (And.intro hww htp)
  clear h b1 b2 b3 hsc hww htp hn
  go_enter Tryz.func68, Tryz.ntmps68
  go_wp2_with fail
  refine (hr _).mono ?_
  rintro e w1 ⟨A, m, c, k, rfl, hv, hb⟩
  have hs := H.out.2 _ _ (hv.below ((Below.refl _ _).alloc (Nat.le_refl _) (.cells #[.slice A m c, .bool k] 105)))
  clear hr
  go_wp2_with fail
  refine hs.mono ?_
  rintro e w2 ⟨v, rfl, hv2, hb2⟩
  obtain ⟨A2, n2, c2, k2, rfl⟩ := hv2.open
  go_wp2_with fail
  refine (H.out.1 _ _ hv2).mono ?_
  rintro e w3 ⟨rfl, hb3⟩
  go_wp2_with fail
  go_ret2
  have h12 := (hb.alloc hb.size (.cells #[.slice A m c, .bool k] 105)).trans (hb2.mono (by simp; have := hb.size; omega))
  exact ⟨rfl, h12.trans (hb3.mono h12.size)⟩

set_option maxRecDepth 100000 in
set_option maxHeartbeats 1000000 in
theorem wpow_arg (l : List UInt8) (z n : Int) (w : World) (h : rd l = some z) (hn : n < 0 ∨ 40 < n) :
    Calls Tryz.prog 68 #[.string ⟨l.toArray⟩, .int .i64 n] w fun e w' => e = .returned (.tuple #[.string ⟨#[]⟩, .int .i64 2]) ∧ Below w.heap.size w w' := by
  have hr := fun W => wread_some l z W h
  clear h
  rcases hn with hn | hn
  case' inr => have i1 : ¬ n < 0 := by omega
  all_goals
    go_enter Tryz.func68, Tryz.ntmps68
    go_wp2_with fail
    refine (hr _).mono ?_
    rintro e w1 ⟨A, m, c, k, rfl, hv, hb⟩
    clear hr
    go_wp2_with fail
    go_ret2
    exact ⟨rfl, hb.alloc hb.size _⟩

set_option maxRecDepth 100000 in
set_option maxHeartbeats 1000000 in
theorem wpow_none (l : List UInt8) (n : Int) (w : World) (h : rd l = none) :
    Calls Tryz.prog 68 #[.string ⟨l.toArray⟩, .int .i64 n] w fun e w' => e = .returned (.tuple #[.string ⟨#[]⟩, .int .i64 10]) ∧ Below w.heap.size w w' := by
  have hr := fun W => wread_none l W h
  clear h
  go_enter Tryz.func68, Tryz.ntmps68
  go_wp2_with fail
  refine (hr _).mono ?_
  rintro e w1 ⟨rfl, hb⟩
  go_wp2_with fail
  go_ret2
  exact ⟨rfl, hb.alloc hb.size _⟩

theorem root_le {k n s : Nat} (h : IsRoot k n s) (hk : 1 ≤ k) : s ≤ n := by
  rcases Nat.eq_zero_or_pos s with h0 | h0
  · omega
  · have h1 : s ^ 1 ≤ s ^ k := Nat.pow_le_pow_right h0 hk
    rw [Nat.pow_one] at h1
    exact Nat.le_trans h1 h.1

set_option maxRecDepth 100000 in
set_option maxHeartbeats 1000000 in
theorem wroot_some (l : List UInt8) (z : Int) (k r : Nat) (w : World) (h : rd l = some z) (hz : 0 ≤ z) (hk1 : 1 ≤ k) (hk2 : k ≤ 12) (hroot : IsRoot k z.natAbs r) :
    Calls Tryz.prog 70 #[.string ⟨l.toArray⟩, .int .i64 (k : Int)] w fun e w' => e = .returned (.tuple #[.string ⟨(wr (r : Int)).toArray⟩, .int .i64 0]) ∧ Below w.heap.size w w' := by
  have hr := fun W => wread_some l z W h
  have b1 := rd_wlen h
  have s1 : small (r : Int) := small_of_le (rd_some h).2 (by rw [Int.natAbs_natCast]; exact root_le hroot hk1)
  have hww := fun v W (hv : SgV W v (r : Int)) => wwrite_any v (r : Int) W hv (by have := small_wlen s1; omega)
  rw [outV_small s1] at hww
  have hrt : ∀ v W, MagV W v z.natAbs → Calls Tryz.prog 136 #[v, .int .i64 (k : Int)] W fun e w' => ∃ v', e = .returned v' ∧ MagV w' v' r ∧ Below W.heap.size W w' := by
    intro v W hv
    obtain ⟨j, rfl⟩ : ∃ j, k = j + 1 := ⟨k - 1, by omega⟩
    rw [show ((j + 1 : Nat) : Int) = (j : Int) + 1 by omega]
    refine (root_any v z.natAbs j W hv (by omega) (by omega)).mono ?_
    rintro e w' ⟨r', s, he, hs, hm, hb⟩
    rw [root_unique hs hroot] at hm
    exact ⟨r', he, hm, hb⟩
  have i1 : ¬ (k : Int) < 1 := by omega
  have i2 : ¬ (12 : Int) < (k : Int) := by omega
  have hzd : decide (z < 0) = false := by simp; exact hz
  have H := Lib.hid (And.intro hww (And.intro hrt hzd))
  clear h b1 s1 hww hrt hz hk1 hk2 hroot hzd
  go_enter Tryz.func70, Tryz.ntmps70
  go_wp2_with fail
  refine (hr _).mono ?_
  rintro e w1 ⟨A, m, c, b, rfl, hv, hb⟩
  have hkb : b = false := by
    obtain ⟨m, e, _⟩ := hv
    injection e with e
    simp at e
    rw [e.2, H.out.2.2]
  subst hkb
  have hm : MagV w1 (.slice A m c) z.natAbs := by
    obtain ⟨m, e, hm⟩ := hv
    injection e with e
    simp at e
    rw [e.1]; exact hm
  have hs := H.out.2.1 _ _ (hm.below ((Below.refl _ _).alloc (Nat.le_refl _) (.cells #[.slice A m c, .bool false] 105)))
  clear hr hv hm
  go_wp2_with fail
  refine hs.mono ?_
  rintro e w2 ⟨v, rfl, hv2, hb2⟩
  have hv3 : SgV w2 (.agg #[v, .bool false]) (r : Int) := ⟨v, by rw [show decide ((r : Int) < 0) = false by simp], by rw [Int.natAbs_natCast]; exact hv2⟩
  obtain ⟨A2, c2, rfl, _, _⟩ := hv2.ok_len
  obtain ⟨L2, hL2⟩ : ∃ L, L = wlen B64 r := ⟨_, rfl⟩
  rw [← hL2] at hv3 ⊢
  clear hL2
  go_wp2_with fail
  refine (H.out.1 _ _ hv3).mono ?_
  rintro e w3 ⟨rfl, hb3⟩
  go_wp2_with fail
  go_ret2
  have h12 := (hb.alloc hb.size (.cells #[.slice A m c, .bool false] 105)).trans (hb2.mono (by simp; have := hb.size; omega))
  exact ⟨rfl, h12.trans (hb3.mono h12.size)⟩

set_option maxRecDepth 100000 in
set_option maxHeartbeats 1000000 in
theorem wroot_arg (l : List UInt8) (z k : Int) (w : World) (h : rd l = some z) (hk : k < 1 ∨ 12 < k ∨ z < 0) :
    Calls Tryz.prog 70 #[.string ⟨l.toArray⟩, .int .i64 k] w fun e w' => e = .returned (.tuple #[.string ⟨#[]⟩, .int .i64 2]) ∧ Below w.heap.size w w' := by
  have hr := fun W => wread_some l z W h
  clear h
  by_cases h1 : k < 1
  · go_enter Tryz.func70, Tryz.ntmps70
    go_wp2_with fail
    refine (hr _).mono ?_
    rintro e w1 ⟨A, m, c, b, rfl, hv, hb⟩
    clear hr
    go_wp2_with fail
    go_ret2
    exact ⟨rfl, hb.alloc hb.size _⟩
  · by_cases h2 : 12 < k
    · go_enter Tryz.func70, Tryz.ntmps70
      go_wp2_with fail
      refine (hr _).mono ?_
      rintro e w1 ⟨A, m, c, b, rfl, hv, hb⟩
      clear hr
      go_wp2_with fail
      go_ret2
      exact ⟨rfl, hb.alloc hb.size _⟩
    · have hzd : decide (z < 0) = true := by simp; omega
      have H := Lib.hid hzd
      clear hzd hk
      go_enter Tryz.func70, Tryz.ntmps70
      go_wp2_with fail
      refine (hr _).mono ?_
      rintro e w1 ⟨A, m, c, b, rfl, hv, hb⟩
      have hkb : b = true := by
        obtain ⟨m, e, _⟩ := hv
        injection e with e
        simp at e
        rw [e.2, H.out]
      subst hkb
      clear hr hv
      go_wp2_with fail
      go_ret2
      exact ⟨rfl, hb.alloc hb.size _⟩

set_option maxRecDepth 100000 in
set_option maxHeartbeats 1000000 in
theorem wroot_none (l : List UInt8) (k : Int) (w : World) (h : rd l = none) :
    Calls Tryz.prog 70 #[.string ⟨l.toArray⟩, .int .i64 k] w fun e w' => e = .returned (.tuple #[.string ⟨#[]⟩, .int .i64 10]) ∧ Below w.heap.size w w' := by
  have hr := fun W => wread_none l W h
  clear h
  go_enter Tryz.func70, Tryz.ntmps70
  go_wp2_with fail
  refine (hr _).mono ?_
  rintro e w1 ⟨rfl, hb⟩
  go_wp2_with fail
  go_ret2
  exact ⟨rfl, hb.alloc hb.size _⟩

end Go.Proofs.YtdclloledfjfjaaGreatDoor

namespace Go.Proofs.YtdclloledfjfjaaGreatDoor
open Go.RowKit Vd

/-- the package variables that the library reads: the powers of ten, and an error for numbers out of range -/
structure Gnd (w : World) : Prop where
  tab : Lib.TabIs Tryz.prog w "internal/strconv.uint64pow10" .u64 Lib.pow10Tab
  rng : ∃ te pe, w.cell? ⟨1, 0, none⟩ = some (.iface te pe)

theorem gTab : Tryz.prog.globalNamed "internal/strconv.uint64pow10" = some 2 := by kernel_rfl

theorem Gnd.below {w w' : World} (h : Gnd w) (hb : Below w.heap.size w w') : Gnd w' := by
  obtain ⟨h1, te, pe, h2⟩ := h
  refine ⟨?_, te, pe, ?_⟩
  · unfold Lib.TabIs World.var? at *
    rw [gTab] at *
    have hlt : 2 < w.heap.size := by
      rcases Nat.lt_or_ge 2 w.heap.size with hl | hl
      · exact hl
      · simp only [Option.bind_some, Array.getElem?_eq_none hl] at h1
        cases h1
    simp only [Option.bind_some, hb.block _ hlt] at *
    exact h1
  · rw [hb.cell (World.block_lt_of_cell? w _ h2)]; exact h2

theorem itoa_wr (n : Int) : Lib.itoa n = wr n := by
  have hd : ∀ u : Nat, Lib.decDigits u = digs u := by
    intro u
    induction u using Nat.strongRecOn with
    | _ u ih =>
      rw [Lib.decDigits]
      by_cases h : u < 10
      · rw [dif_pos h, digs_small h]; rfl
      · rw [dif_neg h, digs_big h, ih (u / 10) (by omega)]; rfl
  unfold Lib.itoa wr
  split
  · rw [hd]
  · rw [hd]
    congr 1
    omega

set_option maxRecDepth 100000 in
set_option maxHeartbeats 1000000 in
theorem wof_any (n : Int) (w : World) (hg : Gnd w) (h0 : -9223372036854775808 ≤ n) (h1 : n ≤ 9223372036854775807) :
    Calls Tryz.prog 11 #[.int .i64 n] w fun e w' => e = .returned (.string ⟨(wr n).toArray⟩) ∧ Below w.heap.size w w' := by
  have hi : Calls Tryz.prog 71 #[.int .i64 n] w fun e w' => e = .returned (.string ⟨(wr n).toArray⟩) ∧ Below w.heap.size w w' := by
    refine (Tryz.strconv_Itoa n h0 h1 w hg.tab).mono ?_
    rintro e w' ⟨he, k, os, rfl⟩
    rw [itoa_wr] at he
    exact ⟨he, Lib.below_grow _ _ (Nat.le_refl _) k os⟩
  clear hg h0 h1
  go_enter Tryz.func11, Tryz.ntmps11
  go_wp2_with fail
  refine hi.mono ?_
  rintro e w1 ⟨rfl, hb⟩
  go_wp2_with fail
  go_ret
  exact ⟨rfl, hb⟩

theorem parse_ok : ∀ (l : List UInt8) (acc : Nat), l.all isDig = true → acc * 10 ^ l.length + dval l < 18446744073709551616 → Lib.parseUint10 acc l = .ok (acc * 10 ^ l.length + dval l)
  | [], acc, _, _ => by simp [Lib.parseUint10, dval_nil]
  | c :: t, acc, h, hlt => by
    rw [List.all_cons] at h
    simp only [Bool.and_eq_true] at h
    have hc := isDig_iff.1 h.1
    have e : dval (c :: t) = (c.toNat - 48) * 10 ^ t.length + dval t := by
      have := dval_append [c] t
      rw [List.singleton_append] at this
      rw [this]
      simp [dval]
    rw [List.length_cons, Nat.pow_succ, e] at hlt
    have hp : 0 < 10 ^ t.length := Nat.pow_pos (by omega)
    have e2 : acc * (10 ^ t.length * 10) + ((c.toNat - 48) * 10 ^ t.length + dval t) = (acc * 10 + (c.toNat - 48)) * 10 ^ t.length + dval t := by grind
    rw [e2] at hlt
    have hb : acc * 10 + (c.toNat - 48) < 18446744073709551616 := by
      have := Nat.le_mul_of_pos_right (acc * 10 + (c.toNat - 48)) hp
      omega
    unfold Lib.parseUint10
    rw [if_pos hc, if_neg (by omega), if_neg (by omega), parse_ok t _ h.2 hlt, List.length_cons, Nat.pow_succ, e, e2]

theorem parse_range : ∀ (l : List UInt8) (acc : Nat), l.all isDig = true → acc < 18446744073709551616 → 18446744073709551616 ≤ acc * 10 ^ l.length + dval l → Lib.parseUint10 acc l = .range
  | [], acc, _, ha, hge => by simp [dval_nil] at hge; omega
  | c :: t, acc, h, ha, hge => by
    rw [List.all_cons] at h
    simp only [Bool.and_eq_true] at h
    have hc := isDig_iff.1 h.1
    have e : dval (c :: t) = (c.toNat - 48) * 10 ^ t.length + dval t := by
      have := dval_append [c] t
      rw [List.singleton_append] at this
      rw [this]
      simp [dval]
    rw [List.length_cons, Nat.pow_succ, e] at hge
    have e2 : acc * (10 ^ t.length * 10) + ((c.toNat - 48) * 10 ^ t.length + dval t) = (acc * 10 + (c.toNat - 48)) * 10 ^ t.length + dval t := by grind
    rw [e2] at hge
    unfold Lib.parseUint10
    rw [if_pos hc]
    by_cases h1 : 1844674407370955162 ≤ acc
    · rw [if_pos h1]
    · rw [if_neg h1]
      by_cases h2 : 18446744073709551616 ≤ acc * 10 + (c.toNat - 48)
      · rw [if_pos h2]
      · rw [if_neg h2]
        exact parse_range t _ h.2 (by omega) hge

theorem parseMag_digs (n : Nat) : Lib.parseMag (digs n) = if n < 18446744073709551616 then .ok n else .range := by
  unfold Lib.parseMag
  rw [if_neg (digs_ne_nil n)]
  have hv := dval_digs n
  split
  · rename_i h
    rw [parse_ok (digs n) 0 (digs_all n) (by rw [hv]; omega), hv, Nat.zero_mul, Nat.zero_add]
  · rename_i h
    exact parse_range (digs n) 0 (digs_all n) (by omega) (by rw [hv]; omega)

theorem atoi_wr (z : Int) : Lib.atoiAll (wr z) = if -9223372036854775808 ≤ z ∧ z ≤ 9223372036854775807 then .ok z else .range := by
  unfold wr
  by_cases hz : z < 0
  · rw [if_pos hz]
    unfold Lib.atoiAll
    simp only [show (45 : UInt8).toNat = 45 from rfl, or_true, if_true]
    rw [parseMag_digs]
    by_cases h1 : z.natAbs < 18446744073709551616
    · rw [if_pos h1]
      by_cases h2 : -9223372036854775808 ≤ z
      · rw [if_pos ⟨h2, by omega⟩]
        simp only [not_true_eq_false, false_and, if_false, true_and]
        rw [if_neg (by omega)]
        congr 1
        omega
      · rw [if_neg (by omega)]
        simp only [not_true_eq_false, false_and, if_false, true_and]
        rw [if_pos (by omega)]
    · rw [if_neg h1, if_neg (by omega)]
  · rw [if_neg hz]
    have hd := digs_all z.natAbs
    have hn := digs_ne_nil z.natAbs
    have hp := parseMag_digs z.natAbs
    cases hl : digs z.natAbs with
    | nil => exact absurd hl hn
    | cons c t =>
      rw [hl] at hd hp
      rw [List.all_cons] at hd
      simp only [Bool.and_eq_true] at hd
      have hc := isDig_iff.1 hd.1
      have n43 : ¬ c.toNat = 43 := by omega
      have n45 : ¬ c.toNat = 45 := by omega
      unfold Lib.atoiAll
      simp only [n43, n45, or_self, if_false]
      rw [hp]
      by_cases h1 : z.natAbs < 18446744073709551616
      · rw [if_pos h1]
        simp only [not_false_eq_true, true_and, false_and, if_false]
        by_cases h2 : 9223372036854775808 ≤ z.natAbs
        · rw [if_pos h2, if_neg (by omega)]
        · rw [if_neg h2, if_pos (by omega)]
          congr 1
          omega
      · rw [if_neg h1, if_neg (by omega)]

theorem rd_length {l : List UInt8} {z : Int} (h : rd l = some z) : l.length ≤ 601 := by
  unfold rd at h
  split at h
  · rename_i hl
    unfold cutm at hl
    rw [maxDigits_eq] at hl
    split at hl
    · simp at hl; omega
    · exact Nat.le_succ_of_le hl
  · cases h

set_option maxRecDepth 100000 in
set_option maxHeartbeats 1000000 in
theorem wint_some (l : List UInt8) (z : Int) (w : World) (h : rd l = some z) (h0 : -9223372036854775808 ≤ z) (h1 : z ≤ 9223372036854775807) :
    Calls Tryz.prog 14 #[.string ⟨l.toArray⟩] w fun e w' => e = .returned (.tuple #[.int .i64 z, .int .i64 0]) ∧ Below w.heap.size w w' := by
  have hc := fun W => wcheck_some l z W h
  have ha : Hid (∀ W, Calls Tryz.prog 75 #[.string ⟨l.toArray⟩] W fun e w' => e = .returned (.tuple #[.int .i64 z, .nilIface]) ∧ Below W.heap.size W w') := Lib.hid (fun W => by
    refine (Tryz.strconv_Atoi_ok ⟨l.toArray⟩ (by have := rd_length h; show l.toArray.size ≤ _; rw [List.size_toArray]; omega) z (by
      show Lib.atoiAll l = _
      rw [← (rd_some h).1, atoi_wr, if_pos ⟨h0, h1⟩]) W).mono ?_
    rintro e w' ⟨he, hw⟩
    refine ⟨he, ?_⟩
    rcases hw with rfl | ⟨t, rfl⟩
    · exact Below.refl _ _
    · exact Lib.bytesWorld_below _ _ _)
  clear h h0 h1
  go_enter Tryz.func14, Tryz.ntmps14
  go_wp2_with fail
  refine (hc _).mono ?_
  rintro e w1 ⟨rfl, hb⟩
  go_wp2_with fail
  refine (ha.out _).mono ?_
  rintro e w2 ⟨rfl, hb2⟩
  go_wp2_with fail
  go_ret2
  exact ⟨rfl, hb.trans (hb2.mono hb.size)⟩

set_option maxRecDepth 100000 in
set_option maxHeartbeats 1000000 in
theorem wint_big (l : List UInt8) (z : Int) (w : World) (hg : Gnd w) (h : rd l = some z) (hz : ¬ (-9223372036854775808 ≤ z ∧ z ≤ 9223372036854775807)) :
    Calls Tryz.prog 14 #[.string ⟨l.toArray⟩] w fun e w' => e = .returned (.tuple #[.int .i64 0, .int .i64 6]) ∧ Below w.heap.size w w' := by
  have hc := fun W => wcheck_some l z W h
  have ha : Hid (∀ W, Gnd W → Calls Tryz.prog 75 #[.string ⟨l.toArray⟩] W fun e w' => ∃ (s : Int) (N : Nat), e = .returned (.tuple #[.int .i64 s, .iface 206 (.pointer (some ⟨N, 0, none⟩))]) ∧ Below W.heap.size W w') := Lib.hid (fun W hgW => by
    obtain ⟨te, pe, hv⟩ := hgW.rng
    refine (Tryz.strconv_Atoi_range ⟨l.toArray⟩ (by have := rd_length h; show l.toArray.size ≤ _; rw [List.size_toArray]; omega) (by
      show Lib.atoiAll l = _
      rw [← (rd_some h).1, atoi_wr, if_neg hz]) _ W hv (Or.inr ⟨te, pe, rfl⟩)).mono ?_
    rintro e w' ⟨N, he, _, _, hb⟩
    exact ⟨_, N, he, hb⟩)
  have HG := Lib.hid hg
  clear h hz hg
  go_enter Tryz.func14, Tryz.ntmps14
  go_wp2_with fail
  refine (hc _).mono ?_
  rintro e w1 ⟨rfl, hb⟩
  go_wp2_with fail
  refine (ha.out _ (HG.out.below hb)).mono ?_
  rintro e w2 ⟨s, N, rfl, hb2⟩
  go_wp2_with fail
  go_ret2
  exact ⟨rfl, hb.trans (hb2.mono hb.size)⟩

set_option maxRecDepth 100000 in
set_option maxHeartbeats 1000000 in
theorem wint_none (l : List UInt8) (w : World) (h : rd l = none) :
    Calls Tryz.prog 14 #[.string ⟨l.toArray⟩] w fun e w' => e = .returned (.tuple #[.int .i64 0, .int .i64 10]) ∧ Below w.heap.size w w' := by
  have hc := fun W => wcheck_none l W h
  clear h
  go_enter Tryz.func14, Tryz.ntmps14
  go_wp2_with fail
  refine (hc _).mono ?_
  rintro e w1 ⟨rfl, hb⟩
  go_wp2_with fail
  go_ret2
  exact ⟨rfl, hb⟩

end Go.Proofs.YtdclloledfjfjaaGreatDoor
