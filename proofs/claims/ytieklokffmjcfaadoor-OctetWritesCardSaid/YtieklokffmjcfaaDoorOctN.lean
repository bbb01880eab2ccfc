/- The reference of package octet: writing numbers and texts, padding. -/
import Derived.Test.YtieklokffmjcfaaDoorOctJ
namespace Go.Proofs.YtieklokffmjcfaaDoor
open Go.RowKit Vo
attribute [local go_sem ↓] Go.wp_at_zero Go.wp_at_succ


set_option maxRecDepth 100000 in
set_option maxHeartbeats 2000000 in
theorem roctets_1 (x : Int) (w : World) (h0 : 0 ≤ x) (h1 : x ≤ 4294967295) :
    Calls Tryd.prog 34 #[.int .i64 x, .int .i64 1] w fun e w' => e = .returned (.string (B (octs x 1))) ∧ Below w.heap.size w w' := by
  have hm : ∀ W, (Instr.makeSlice 70 (.int .i64 1) (.int .i64 1)).run Tryd.prog W = .ok (.slice (some ⟨W.heap.size, 0, none⟩) 1 1) (W.alloc (.cells #[.int .u8 0] 5)) := fun W => made1 ▸ make_u8 1 (by omega) W
  have hcv := conv_1
  go_enter Tryd.func34, Tryd.ntmps34
  go_wp2_with fail
  refine wp_loop_rounds 6 ?_
  rw [rounds_succ]
  go_wp2_with fail
  rw [rounds_succ]
  go_wp2_with fail
  go_ret
  exact ⟨ret_s (show B _ = B (octs x 1) from rfl), (Below.refl _ _).alloc (Nat.le_refl _) _⟩

set_option maxRecDepth 100000 in
set_option maxHeartbeats 2000000 in
theorem roctets_2 (x : Int) (w : World) (h0 : 0 ≤ x) (h1 : x ≤ 4294967295) :
    Calls Tryd.prog 34 #[.int .i64 x, .int .i64 2] w fun e w' => e = .returned (.string (B (octs x 2))) ∧ Below w.heap.size w w' := by
  have hm : ∀ W, (Instr.makeSlice 70 (.int .i64 2) (.int .i64 2)).run Tryd.prog W = .ok (.slice (some ⟨W.heap.size, 0, none⟩) 2 2) (W.alloc (.cells #[.int .u8 0, .int .u8 0] 5)) := fun W => made2 ▸ make_u8 2 (by omega) W
  have hcv := conv_2
  go_enter Tryd.func34, Tryd.ntmps34
  go_wp2_with fail
  refine wp_loop_rounds 6 ?_
  rw [rounds_succ]
  go_wp2_with fail
  rw [rounds_succ]
  go_wp2_with fail
  rw [rounds_succ]
  go_wp2_with fail
  go_ret
  exact ⟨ret_s (show B _ = B (octs x 2) from rfl), (Below.refl _ _).alloc (Nat.le_refl _) _⟩

set_option maxRecDepth 100000 in
set_option maxHeartbeats 2000000 in
theorem roctets_4 (x : Int) (w : World) (h0 : 0 ≤ x) (h1 : x ≤ 4294967295) :
    Calls Tryd.prog 34 #[.int .i64 x, .int .i64 4] w fun e w' => e = .returned (.string (B (octs x 4))) ∧ Below w.heap.size w w' := by
  have hm : ∀ W, (Instr.makeSlice 70 (.int .i64 4) (.int .i64 4)).run Tryd.prog W = .ok (.slice (some ⟨W.heap.size, 0, none⟩) 4 4) (W.alloc (.cells #[.int .u8 0, .int .u8 0, .int .u8 0, .int .u8 0] 5)) := fun W => made4 ▸ make_u8 4 (by omega) W
  have hcv := conv_4
  go_enter Tryd.func34, Tryd.ntmps34
  go_wp2_with fail
  refine wp_loop_rounds 6 ?_
  rw [rounds_succ]
  go_wp2_with fail
  rw [rounds_succ]
  go_wp2_with fail
  rw [rounds_succ]
  go_wp2_with fail
  rw [rounds_succ]
  go_wp2_with fail
  rw [rounds_succ]
  go_wp2_with fail
  go_ret
  exact ⟨ret_s (show B _ = B (octs x 4) from rfl), (Below.refl _ _).alloc (Nat.le_refl _) _⟩

theorem octs_up (n : Int) : octs (n + 4294967296) 4 = octs n 4 := by
  rw [octs_4, octs_4, show (n + 4294967296) / 16777216 % 256 = n / 16777216 % 256 by omega, show (n + 4294967296) / 65536 % 256 = n / 65536 % 256 by omega, show (n + 4294967296) / 256 % 256 = n / 256 % 256 by omega, show (n + 4294967296) % 256 = n % 256 by omega]

set_option maxRecDepth 100000 in
set_option maxHeartbeats 1000000 in
theorem rput_u8 (n : Int) (w : World) :
    Calls Tryd.prog 11 #[.int .i64 n] w fun e w' => e = .returned (.tuple #[.string (B (putR 0 255 1 n).1), .int .i64 (putR 0 255 1 n).2]) ∧ Below w.heap.size w w' := by
  by_cases h1 : 0 ≤ n
  · by_cases h2 : n ≤ 255
    · rw [show putR 0 255 1 n = (octs n 1, 0) by unfold putR; rw [if_pos ⟨h1, h2⟩]]
      have h := fun W => roctets_1 n W (by omega) (by omega)
      go_enter Tryd.func11, Tryd.ntmps11
      go_wp2_with fail
      refine (h _).mono ?_
      rintro e w1 ⟨rfl, hb1⟩
      go_wp2_with fail
      go_ret2
      exact ⟨rfl, hb1⟩
    · rw [show putR 0 255 1 n = ([], 2) by unfold putR; rw [if_neg (by omega)]]
      go_enter Tryd.func11, Tryd.ntmps11
      go_wp2_with fail
      go_ret2
      exact ⟨rfl, Below.refl _ _⟩
  · rw [show putR 0 255 1 n = ([], 2) by unfold putR; rw [if_neg (by omega)]]
    go_enter Tryd.func11, Tryd.ntmps11
    go_wp2_with fail
    go_ret2
    exact ⟨rfl, Below.refl _ _⟩

set_option maxRecDepth 100000 in
set_option maxHeartbeats 1000000 in
theorem rput_u16 (n : Int) (w : World) :
    Calls Tryd.prog 12 #[.int .i64 n] w fun e w' => e = .returned (.tuple #[.string (B (putR 0 65535 2 n).1), .int .i64 (putR 0 65535 2 n).2]) ∧ Below w.heap.size w w' := by
  by_cases h1 : 0 ≤ n
  · by_cases h2 : n ≤ 65535
    · rw [show putR 0 65535 2 n = (octs n 2, 0) by unfold putR; rw [if_pos ⟨h1, h2⟩]]
      have h := fun W => roctets_2 n W (by omega) (by omega)
      go_enter Tryd.func12, Tryd.ntmps12
      go_wp2_with fail
      refine (h _).mono ?_
      rintro e w1 ⟨rfl, hb1⟩
      go_wp2_with fail
      go_ret2
      exact ⟨rfl, hb1⟩
    · rw [show putR 0 65535 2 n = ([], 2) by unfold putR; rw [if_neg (by omega)]]
      go_enter Tryd.func12, Tryd.ntmps12
      go_wp2_with fail
      go_ret2
      exact ⟨rfl, Below.refl _ _⟩
  · rw [show putR 0 65535 2 n = ([], 2) by unfold putR; rw [if_neg (by omega)]]
    go_enter Tryd.func12, Tryd.ntmps12
    go_wp2_with fail
    go_ret2
    exact ⟨rfl, Below.refl _ _⟩

set_option maxRecDepth 100000 in
set_option maxHeartbeats 1000000 in
theorem rput_u32 (n : Int) (w : World) :
    Calls Tryd.prog 13 #[.int .i64 n] w fun e w' => e = .returned (.tuple #[.string (B (putR 0 4294967295 4 n).1), .int .i64 (putR 0 4294967295 4 n).2]) ∧ Below w.heap.size w w' := by
  by_cases h1 : 0 ≤ n
  · by_cases h2 : n ≤ 4294967295
    · rw [show putR 0 4294967295 4 n = (octs n 4, 0) by unfold putR; rw [if_pos ⟨h1, h2⟩]]
      have h := fun W => roctets_4 n W (by omega) (by omega)
      go_enter Tryd.func13, Tryd.ntmps13
      go_wp2_with fail
      refine (h _).mono ?_
      rintro e w1 ⟨rfl, hb1⟩
      go_wp2_with fail
      go_ret2
      exact ⟨rfl, hb1⟩
    · rw [show putR 0 4294967295 4 n = ([], 2) by unfold putR; rw [if_neg (by omega)]]
      go_enter Tryd.func13, Tryd.ntmps13
      go_wp2_with fail
      go_ret2
      exact ⟨rfl, Below.refl _ _⟩
  · rw [show putR 0 4294967295 4 n = ([], 2) by unfold putR; rw [if_neg (by omega)]]
    go_enter Tryd.func13, Tryd.ntmps13
    go_wp2_with fail
    go_ret2
    exact ⟨rfl, Below.refl _ _⟩

set_option maxRecDepth 100000 in
set_option maxHeartbeats 1000000 in
theorem rput_s32 (n : Int) (w : World) :
    Calls Tryd.prog 14 #[.int .i64 n] w fun e w' => e = .returned (.tuple #[.string (B (putR (-2147483648) 2147483647 4 n).1), .int .i64 (putR (-2147483648) 2147483647 4 n).2]) ∧ Below w.heap.size w w' := by
  by_cases h1 : (-2147483648) ≤ n
  · by_cases h2 : n ≤ 2147483647
    · rw [show putR (-2147483648) 2147483647 4 n = (octs n 4, 0) by unfold putR; rw [if_pos ⟨h1, h2⟩]]
      by_cases h3 : n < 0
      · have h := fun W => roctets_4 (n + 4294967296) W (by omega) (by omega)
        rw [octs_up] at h
        go_enter Tryd.func14, Tryd.ntmps14
        go_wp2_with fail
        refine (h _).mono ?_
        rintro e w1 ⟨rfl, hb1⟩
        go_wp2_with fail
        go_ret2
        exact ⟨rfl, hb1⟩
      · have h := fun W => roctets_4 n W (by omega) (by omega)
        go_enter Tryd.func14, Tryd.ntmps14
        go_wp2_with fail
        refine (h _).mono ?_
        rintro e w1 ⟨rfl, hb1⟩
        go_wp2_with fail
        go_ret2
        exact ⟨rfl, hb1⟩
    · rw [show putR (-2147483648) 2147483647 4 n = ([], 2) by unfold putR; rw [if_neg (by omega)]]
      go_enter Tryd.func14, Tryd.ntmps14
      go_wp2_with fail
      go_ret2
      exact ⟨rfl, Below.refl _ _⟩
  · rw [show putR (-2147483648) 2147483647 4 n = ([], 2) by unfold putR; rw [if_neg (by omega)]]
    go_enter Tryd.func14, Tryd.ntmps14
    go_wp2_with fail
    go_ret2
    exact ⟨rfl, Below.refl _ _⟩

set_option maxRecDepth 100000 in
set_option maxHeartbeats 2000000 in
theorem printed_walk (s : ByteArray) (w : World) (hs : s.size ≤ 9223372036854775807) :
    Calls Tryd.prog 38 #[.string s] w fun e w' => e = .returned (.bool (!decide (lead s.data.toList < s.data.toList.length))) ∧ w = w' := by
  have hz : s.data.toList.length = s.size := by rw [Array.length_toList]; rfl
  obtain ⟨N, hN⟩ : ∃ N, s.data.toList.length = N := ⟨_, rfl⟩
  rw [hN] at hz ⊢
  go_enter Tryd.func38, Tryd.ntmps38
  go_wp2_with fail
  go_loop [3] (fun i => ∃ k : Nat, i = .int .i64 (k : Int) ∧ k ≤ s.size ∧ lead s.data.toList = k + lead (s.data.toList.drop k)) (fun i => s.size - (intOf i).toNat)
  case atStart => exact ⟨0, rfl, by omega, by simp⟩
  case round =>
    obtain ⟨k, rfl, hp, hl⟩ := hrel
    by_cases hlt : k < s.size
    · obtain ⟨c, hc⟩ : ∃ c, s[k]'hlt = c := ⟨_, rfl⟩
      have hd := lead_drop_cons (l := s.data.toList) (k := k) (c := c) (by rw [← hc]; exact byte_at s k hlt)
      by_cases hv : 32 ≤ c.toNat ∧ c.toNat ≤ 126
      · rw [show vis c = true by simp [vis, hv]] at hd
        have H := Lib.hid (And.intro hd (And.intro hl hz))
        obtain ⟨v1, v2⟩ := hv
        clear hd hl hz
        go_wp2_with fail
        go_round
        case rel => exact ⟨k + 1, by go_num, by omega, by have := H.out.1; have := H.out.2.1; simp at *; omega⟩
        case measure => simp [intOf]; omega
      · rw [show vis c = false by simp [vis]; omega] at hd
        have hlk : decide (lead s.data.toList < N) = true := by simp at hd; simp; omega
        have H := Lib.hid hlk
        clear hd hl hz hlk
        by_cases v1 : 32 ≤ c.toNat
        · have v2 : ¬ c.toNat ≤ 126 := by omega
          go_wp2_with fail
          go_ret
          rw [H.out]
          exact ⟨rfl, rfl⟩
        · go_wp2_with fail
          go_ret
          rw [H.out]
          exact ⟨rfl, rfl⟩
    · have hlk : decide (lead s.data.toList < N) = false := by
        rw [lead_drop_end (by omega)] at hl
        simp; omega
      have H := Lib.hid hlk
      clear hl hz hlk
      go_wp2_with fail
      go_ret
      rw [H.out]
      exact ⟨rfl, rfl⟩

set_option maxHeartbeats 1000000 in
theorem zeros_any (k : Nat) (w : World) (hk : k ≤ 65536) :
    Calls Tryd.prog 39 #[.int .i64 k] w fun e w' => e = .returned (.string (B (List.replicate k 0))) ∧ Below w.heap.size w w' := by
  have hm := fun W => make_u8 k hk W
  obtain ⟨cs, hcs⟩ : ∃ cs, madeCells #[.int .u8 0] k = cs := ⟨_, rfl⟩
  have hcv : ∀ W : World, (convert 70 9 (.slice (some ⟨W.heap.size, 0, none⟩) k k)).run Tryd.prog (W.alloc (.cells cs 5)) = .ok (.string (B (List.replicate k 0))) (W.alloc (.cells cs 5)) := fun W => by
    have h := run_convert_bytes_back (P := Tryd.prog) (W.alloc (.cells cs 5)) 70 9 5 ⟨W.heap.size, 0, none⟩ k (List.replicate k 0) Tryd.underlying70 Tryd.underlying5 Tryd.underlying9 (fun j hj => by
      rw [addr_plain, cell_of_row _ W.heap.size _ _ _ (0, 0) (heap_alloc_new W _), Nat.zero_add, ← hcs, madeU8]
      rw [List.length_replicate] at hj
      simp [hj])
    rw [List.length_replicate] at h
    exact h
  rw [hcs] at hm
  clear hcs
  go_enter Tryd.func39, Tryd.ntmps39
  go_wp2_with fail
  go_ret
  exact ⟨rfl, (Below.refl _ _).alloc (Nat.le_refl _) _⟩

set_option maxHeartbeats 2000000 in
theorem rputText_any (t : List UInt8) (n : Int) (w : World) (hs : t.length ≤ 900000) (hn0 : -9223372036854775808 ≤ n) (hn1 : n ≤ 9223372036854775807) :
    Calls Tryd.prog 17 #[.string (B t), .int .i64 n] w fun e w' => e = .returned (.tuple #[.string (B (putTextR t n).1), .int .i64 (putTextR t n).2]) ∧ Below w.heap.size w w' := by
  have hpr := fun W => printed_walk (B t) W (by rw [B_size]; omega)
  rw [B_data] at hpr
  by_cases h1 : n < 0 ∨ 65536 < n
  · rw [show putTextR t n = ([], 2) by unfold putTextR; rw [if_pos h1]]
    clear hpr
    by_cases h2 : n < 0
    · clear h1
      go_enter Tryd.func17, Tryd.ntmps17
      go_wp2_with fail
      go_ret2
      exact ⟨rfl, Below.refl _ _⟩
    · have h3 : 65536 < n := by omega
      clear h1
      go_enter Tryd.func17, Tryd.ntmps17
      go_wp2_with fail
      go_ret2
      exact ⟨rfl, Below.refl _ _⟩
  · obtain ⟨m, rfl⟩ : ∃ m : Nat, n = m := ⟨n.toNat, by omega⟩
    have n1 : m ≤ 65536 := by omega
    by_cases h2 : lead t < t.length
    · rw [show putTextR t m = ([], 5) by unfold putTextR; rw [if_neg h1, if_pos h2]]
      rw [show decide (lead t < t.length) = true by simpa using h2] at hpr
      clear h1 h2
      go_enter Tryd.func17, Tryd.ntmps17
      go_wp2_with fail
      refine (hpr _).mono ?_
      rintro e w1 ⟨rfl, rfl⟩
      go_wp2_with fail
      go_ret2
      exact ⟨rfl, Below.refl _ _⟩
    · rw [show decide (lead t < t.length) = false by simpa using h2] at hpr
      by_cases h3 : (m : Int) < t.length
      · rw [show putTextR t m = ([], 3) by unfold putTextR; rw [if_neg h1, if_neg h2, if_pos h3]]
        have b1 : m < t.length := by omega
        clear h1 h2 h3
        go_enter Tryd.func17, Tryd.ntmps17
        go_wp2_with fail
        refine (hpr _).mono ?_
        rintro e w1 ⟨rfl, rfl⟩
        go_wp2_with fail
        go_ret2
        exact ⟨rfl, Below.refl _ _⟩
      · obtain ⟨d, rfl⟩ : ∃ d, m = t.length + d := ⟨m - t.length, by omega⟩
        rw [show putTextR t ((t.length + d : Nat) : Int) = (t ++ List.replicate d 0, 0) by
          unfold putTextR; rw [if_neg h1, if_neg h2, if_neg h3, Int.toNat_natCast, Nat.add_sub_cancel_left]]
        have hz := fun W => zeros_any d W (by omega)
        obtain ⟨m, hm⟩ : ∃ m, t.length + d = m := ⟨_, rfl⟩
        have hz2 : ∀ W, Calls Tryd.prog 39 #[.int .i64 ((m : Int) - (t.length : Int))] W fun e w' => e = .returned (.string (B (List.replicate d 0))) ∧ Below W.heap.size W w' := fun W => by
          rw [show (m : Int) - (t.length : Int) = (d : Int) by omega]; exact hz W
        have hcat : B t ++ B (List.replicate d 0) = B (t ++ List.replicate d 0) := B_append _ _
        have hyl : (List.replicate d (0 : UInt8)).length = d := List.length_replicate
        obtain ⟨y, hy⟩ : ∃ y, List.replicate d (0 : UInt8) = y := ⟨_, rfl⟩
        rw [hy] at hcat hz2 hyl
        rw [hy, ← hcat]
        rw [hm] at n1 h3 ⊢
        have b1 : t.length ≤ m := by omega
        have b2 : t.length + y.length ≤ 1000000 := by omega
        clear h1 h2 h3 hm hz hy hcat hyl
        go_enter Tryd.func17, Tryd.ntmps17
        go_wp2_with fail
        refine (hpr _).mono ?_
        rintro e w1 ⟨rfl, rfl⟩
        go_wp2_with fail
        refine (hz2 _).mono ?_
        rintro e w2 ⟨rfl, hb2⟩
        go_wp2_with fail
        go_ret2
        exact ⟨rfl, hb2⟩

theorem pad_split (s : List UInt8) (n : Int) (h1 : 1 ≤ n) (h2 : n ≤ 64) (hs : s.length ≤ 65536) : ∃ d : Nat, (d : Int) < n ∧ ((s.length + d : Nat) : Int) % n = 0 ∧ (∀ j : Nat, j < d → ¬ ((s.length + j : Nat) : Int) % n = 0) ∧ (65536 < s.length + d → padR s n = ([], 3)) ∧ (¬ 65536 < s.length + d → padR s n = (s ++ List.replicate d 0, 0)) := by
  obtain ⟨q, hq⟩ : ∃ q, ((s.length : Int) + n - 1) / n = q := ⟨_, rfl⟩
  have ha := Int.emod_add_mul_ediv ((s.length : Int) + n - 1) n
  have hb := Int.emod_nonneg ((s.length : Int) + n - 1) (show n ≠ 0 by omega)
  have hc := Int.emod_lt_of_pos ((s.length : Int) + n - 1) (show 0 < n by omega)
  rw [hq, Int.mul_comm] at ha
  obtain ⟨d, hd⟩ : ∃ d : Nat, q * n = ((s.length + d : Nat) : Int) := ⟨(q * n).toNat - s.length, by omega⟩
  have hm : ((s.length + d : Nat) : Int) % n = 0 := by rw [← hd, Int.mul_emod_left]
  refine ⟨d, by omega, hm, fun j hj hz => ?_, fun h => ?_, fun h => ?_⟩
  · have hdv : n ∣ ((s.length + d : Nat) : Int) - ((s.length + j : Nat) : Int) := Int.dvd_sub (Int.dvd_of_emod_eq_zero hm) (Int.dvd_of_emod_eq_zero hz)
    have := Int.le_of_dvd (by omega) hdv
    omega
  · unfold padR
    rw [if_neg (by omega), if_neg (by omega), hq, hd, if_pos (by omega)]
  · unfold padR
    rw [if_neg (by omega), if_neg (by omega), hq, hd, if_neg (by omega), Int.toNat_natCast, Nat.add_sub_cancel_left]

set_option maxRecDepth 100000 in
set_option maxHeartbeats 2000000 in
theorem rpad_any (s : List UInt8) (n : Int) (w : World) (hs : s.length ≤ 900000) :
    Calls Tryd.prog 19 #[.string (B s), .int .i64 n] w fun e w' => e = .returned (.tuple #[.string (B (padR s n).1), .int .i64 (padR s n).2]) ∧ Below w.heap.size w w' := by
  by_cases h1 : 65536 < s.length
  · rw [show padR s n = ([], 3) by unfold padR; rw [if_pos h1]]
    go_enter Tryd.func19, Tryd.ntmps19
    go_wp2_with fail
    go_ret2
    exact ⟨rfl, Below.refl _ _⟩
  · by_cases h2 : n < 1 ∨ 64 < n
    · rw [show padR s n = ([], 2) by unfold padR; rw [if_neg h1, if_pos h2]]
      by_cases h3 : n < 1
      · clear h2
        go_enter Tryd.func19, Tryd.ntmps19
        go_wp2_with fail
        go_ret2
        exact ⟨rfl, Below.refl _ _⟩
      · have h4 : 64 < n := by omega
        clear h2
        go_enter Tryd.func19, Tryd.ntmps19
        go_wp2_with fail
        go_ret2
        exact ⟨rfl, Below.refl _ _⟩
    · obtain ⟨d, hdn, hm, hmin, hbig, hfit⟩ := pad_split s n (by omega) (by omega) (by omega)
      have b1 : ¬ n < 1 := by omega
      have b2 : ¬ 64 < n := by omega
      have b3 : ¬ n = 0 := by omega
      have b4 : 0 < n := by omega
      have b5 : s.length ≤ 65536 := by omega
      have hz := fun W => zeros_any 1 W (by omega)
      have H := Lib.hid (And.intro hm (And.intro hmin (And.intro hbig (And.intro hfit hdn))))
      clear hm hmin hbig hfit hdn h1 h2
      go_enter Tryd.func19, Tryd.ntmps19
      go_wp2_with fail
      go_loopg [0] d (fun r sv W => ∃ j : Nat, r = d - j ∧ sv = .string (B (s ++ List.replicate j 0)) ∧ j ≤ d ∧ Below w.heap.size w W)
      case atStart => exact ⟨0, rfl, by rw [List.replicate_zero, List.append_nil], by omega, Below.refl _ _⟩
      case round =>
        obtain ⟨j, rfl, rfl, hj, hb⟩ := hrel
        obtain ⟨u, hu⟩ : ∃ u, s ++ List.replicate j 0 = u := ⟨_, rfl⟩
        have hul : u.length = s.length + j := by rw [← hu, List.length_append, List.length_replicate]
        rw [hu]
        by_cases hlt : j < d
        · have hne := H.out.2.1 j hlt
          rw [← hul] at hne
          have hn1 : (((u.length : Int) % n) == 0) = false := by simpa using hne
          have hn2 : (((u.length : Int) % n) != 0) = true := by simpa using hne
          have hnext : B u ++ B (List.replicate 1 0) = B (s ++ List.replicate (j + 1) 0) := by
            rw [B_append, ← hu, List.append_assoc, List.replicate_append_replicate]
          have HN := Lib.hid (And.intro hnext (And.intro hb (And.intro hj hlt)))
          have b6 : u.length ≤ 900000 := by have := H.out.2.2.2.2; omega
          clear hu hul hne hnext hb hj hlt
          go_wp2_with fail
          refine (hz _).mono ?_
          rintro e w1 ⟨rfl, hb1⟩
          go_wp2_with fail
          go_roundg (d - (j + 1))
          case measure => have := HN.out.2.2.2; omega
          case rel => exact ⟨j + 1, rfl, congrArg Value.string HN.out.1, by have := HN.out.2.2.2; omega, below_more HN.out.2.1 hb1⟩
        · obtain rfl : j = d := by omega
          have hmz := H.out.1
          rw [← hul] at hmz
          by_cases hbg : 65536 < u.length
          · have hr := H.out.2.2.1 (by omega)
            have HR := Lib.hid hr
            clear hr hu hul hlt hj
            go_wp2_with fail
            go_ret2
            rw [HR.out]
            exact ⟨rfl, hb⟩
          · have hr := H.out.2.2.2.1 (by omega)
            rw [hu] at hr
            have HR := Lib.hid hr
            clear hr hu hul hlt hj
            go_wp2_with fail
            go_ret2
            rw [HR.out]
            exact ⟨rfl, hb⟩

theorem len_lim (s : List UInt8) (c : Nat) : (Lib.repeatL s c).length = s.length * c := by
  induction c with
  | zero => rfl
  | succ c ih => rw [Lib.repeatL, List.length_append, ih, Nat.mul_succ]; omega
theorem quo_lim (l c : Nat) (h : (c : Int) ≤ 65700 / max (l : Int) 1) : l * c ≤ 65700 := by
  by_cases h0 : l = 0
  · subst h0; omega
  · have hm : max (l : Int) 1 = l := by omega
    rw [hm] at h
    have h1 := Int.mul_le_of_le_ediv (show (0 : Int) < l by omega) h
    have : ((l * c : Nat) : Int) ≤ 65700 := by rw [Int.natCast_mul, Int.mul_comm]; exact h1
    omega

end Go.Proofs.YtieklokffmjcfaaDoor
