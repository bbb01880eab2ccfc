/- Contracts: the difference, the comparison. -/
import Derived.Test.YtdkgifkmkghggaaGreatDoorMagB
namespace Go.Proofs.YtdkgifkmkghggaaGreatDoor
open Go.RowKit Vd

set_option maxRecDepth 100000 in
set_option maxHeartbeats 1000000 in
theorem diff_core (A1 A2 : Option Addr) (n1 n2 c1 c2 : Nat) (xs ys : List Nat) (w : World) (hx : Sl w U A1 n1 xs) (hy : Sl w U A2 n2 ys) (ox : Ok B64 xs) (oy : Ok B64 ys) (hn : n1 ≤ maxW) (hle : n2 ≤ n1) (hv : val B64 ys ≤ val B64 xs) :
    Calls Tryz.prog 98 #[.slice A1 n1 c1, .slice A2 n2 c2] w fun e w' => ∃ v, e = .returned v ∧ MagV w' v (val B64 xs - val B64 ys) ∧ Below w.heap.size w w' := by
  have hn' := hn
  unfold maxW at hn'
  have hmk := fun W => mkU n1 (by unfold maxW; omega) W
  have HX := Lib.hid hx.len
  have HY := Lib.hid hy.len
  go_enter Tryz.func98, Tryz.ntmps98
  go_wp2
  go_loopw [6, 14] (fun c i wr => ∃ (k cc : Nat) (ss : List Nat), k ≤ n1 ∧ i = .int .i64 k ∧ c = .int .u64 cc ∧ cc ≤ 1 ∧ ss.length = n1 ∧ Ok B64 ss ∧ Row wr U w.heap.size 121 ss ∧
      val B64 (ss.take k) + val B64 (ys.take k) = val B64 (xs.take k) + cc * B64 ^ k ∧ Below w.heap.size w wr) (fun _ i _ => n1 - (intOf i).toNat)
  case atStart => exact ⟨0, 0, List.replicate n1 0, Nat.zero_le _, rfl, rfl, Nat.zero_le _, by simp, Ok.rep two_le_B _, Row.newRep w U _ _, by simp, (Below.refl _ _).alloc (Nat.le_refl _) _⟩
  case round =>
    obtain ⟨k, cc, ss, hk, rfl, rfl, hcc, hls, oss, hrow, hval, hbel⟩ := hrel
    by_cases hlt : k < n1
    · obtain ⟨g, o, rfl, hg, hcell⟩ := hx.at_ (by omega)
      have hcx := (hbel.cell (p := ⟨g, o + k, none⟩) hg).trans (hcell k hlt)
      have hcs := hrow.cell (i := k) (by omega)
      have hfs := hrow.frozen k
      have hyr := hy.below hbel
      have hlt' : (k : Int) < (n1 : Int) := by omega
      unfold U at hcx hcs
      clear hcell
      have Hv := Lib.hid hval
      have Hl := Lib.hid hls
      clear hval hls
      clear hx hy hmk
      go_wp2_with fail
      refine (word_any A2 n2 c2 ys k _ hyr (by omega) (by omega)).mono ?_
      rintro e w1 ⟨rfl, rfl⟩
      go_wp2_with (simp only [sub64_run _ _ _ hcc])
      have hx1 := ox.get two_le_B k
      have hy1 := oy.get two_le_B k
      have ea := sub_eq hx1 hy1 hcc
      have eb := subHi_le (nth xs k) (nth ys k) cc
      have ec := subLo_lt (nth xs k) (nth ys k) cc
      refine ⟨⟨k + 1, subHi (nth xs k) (nth ys k) cc, ss.set k (subLo (nth xs k) (nth ys k) cc), by omega, by go_num, rfl, eb, by rw [List.length_set]; exact Hl.out, oss.set ec, hrow.set k _, ?_, hbel.setCell (Nat.le_refl _) _⟩, by simp [intOf]; omega⟩
      rw [val_take_set _ _ _ (by rw [Hl.out]; omega), val_take_succ, val_take_succ, Nat.pow_succ]
      exact borrow_step _ _ _ _ _ _ _ _ _ _ Hv.out ea
    · obtain rfl : k = n1 := by omega
      have ht := trim_mag (some ⟨w.heap.size, 0, none⟩) k k ss _ (by have := hrow.sl0; rw [hls] at this; exact this) oss (by omega) (by omega)
      have e : val B64 ss = val B64 xs - val B64 ys := by
        have hb := val_lt oss
        rw [hls] at hb
        rw [List.take_of_length_le (by rw [hls]; omega), List.take_of_length_le (by rw [HY.out]; omega), List.take_of_length_le (by rw [HX.out]; omega)] at hval
        have : cc = 0 ∨ cc = 1 := by omega
        rcases this with rfl | rfl <;> omega
      rw [e] at ht
      clear hls hval e hx hy
      go_wp2_with (refine ht.mono ?_; rintro e w1 ⟨v, rfl, hm, rfl⟩)
      go_ret
      exact ⟨v, rfl, hm, hbel⟩

theorem diff_any (v1 v2 : Value) (m o : Nat) (w : World) (h1 : MagV w v1 m) (h2 : MagV w v2 o) (b1 : wlen B64 m ≤ maxW) (hle : o ≤ m) :
    Calls Tryz.prog 98 #[v1, v2] w fun e w' => ∃ v, e = .returned v ∧ MagV w' v (m - o) ∧ Below w.heap.size w w' := by
  obtain ⟨A1, c1, rfl, _, s1⟩ := h1.ok_len
  obtain ⟨A2, c2, rfl, _, s2⟩ := h2.ok_len
  refine (diff_core A1 A2 _ _ c1 c2 _ _ w s1 s2 (ok_ws _) (ok_ws _) b1 (wlen_mono two_le_B hle) (by rw [val_ws two_le_B, val_ws two_le_B]; exact hle)).mono ?_
  rintro e w' ⟨v, he, hm, hb⟩
  rw [val_ws two_le_B, val_ws two_le_B] at hm
  exact ⟨v, he, hm, hb⟩

/-- the order of two numbers -/
def cmpN (m o : Nat) : Int := if m < o then -1 else if o < m then 1 else 0

set_option maxRecDepth 100000 in
set_option maxHeartbeats 1000000 in
theorem compare_same (A1 A2 : Option Addr) (n c1 c2 : Nat) (xs ys : List Nat) (w : World) (hx : Sl w U A1 n xs) (hy : Sl w U A2 n ys) (ox : Ok B64 xs) (oy : Ok B64 ys) (hn : n ≤ maxW) :
    Calls Tryz.prog 87 #[.slice A1 n c1, .slice A2 n c2] w fun e w' => e = .returned (.int .i64 (cmpN (val B64 xs) (val B64 ys))) ∧ ∃ d, w' = w.drewN d := by
  have hn' := hn
  unfold maxW at hn'
  have HX := Lib.hid hx.len
  have HY := Lib.hid hy.len
  have hne : (!((n : Int) == (n : Int))) = false := by simp
  go_enter Tryz.func87, Tryz.ntmps87
  go_wp2
  go_loopw [5] (fun i wr => ∃ k : Nat, k ≤ n ∧ i = .int .i64 ((k : Int) - 1) ∧ xs.drop k = ys.drop k ∧ ∃ d, wr = w.drewN d) (fun i _ => ((intOf i) + 1).toNat)
  case atStart => exact ⟨n, Nat.le_refl _, rfl, by rw [List.drop_eq_nil_of_le (by rw [HX.out]; omega), List.drop_eq_nil_of_le (by rw [HY.out]; omega)], 0, rfl⟩
  case round =>
    obtain ⟨k, hk, rfl, hdr, d, rfl⟩ := hrel
    cases k with
    | zero =>
      rw [show (((0 : Nat) : Int) - 1) = -1 from rfl]
      have e : xs = ys := by simpa using hdr
      clear hdr hx hy
      go_wp2
      go_ret
      subst e
      exact ⟨by unfold cmpN; simp, d, rfl⟩
    | succ j =>
      rw [show (((j + 1 : Nat) : Int) - 1) = (j : Int) from by omega]
      have Hd := Lib.hid hdr
      clear hdr
      obtain ⟨g, o, rfl, hg, hcx⟩ := hx.at_ (by omega)
      obtain ⟨g2, o2, rfl, hg2, hcy⟩ := hy.at_ (by omega)
      have h1 := hcx j (by omega)
      have h2 := hcy j (by omega)
      unfold U at h1 h2
      have hj : (j : Int) < (n : Int) := by omega
      have hj0 : (0 : Int) ≤ (j : Int) := by omega
      clear hcx hcy hx hy
      by_cases he : nth xs j = nth ys j
      · have hb : ((nth xs j : Int) != (nth ys j : Int)) = false := by rw [he]; simp
        have He := Lib.hid he
        clear he
        go_wp2
        go_quiet (fail)
        go_wp2
        refine ⟨⟨j, by omega, rfl, drop_eq_step (by rw [HX.out, HY.out]) (by rw [HX.out]; omega) Hd.out He.out, _, rfl⟩, by simp [intOf]⟩
      · have hb : ((nth xs j : Int) != (nth ys j : Int)) = true := by rw [bne_iff_ne]; omega
        by_cases hlt : nth xs j < nth ys j
        · have hb2 : decide ((nth xs j : Int) < (nth ys j : Int)) = true := by simp; omega
          go_wp2
          go_quiet (fail)
          go_wp2
          go_quiet ((go_at_call 86; exact qAdd (order_true _)))
          go_wp2
          go_ret
          refine ⟨?_, ?_⟩
          rotate_left
          · simp only [World.drewN_drewN]; exact ⟨_, rfl⟩
          have := val_lt_of_top (by rw [HX.out, HY.out]) ox (by rw [HX.out]; omega) Hd.out hlt
          show _ = Ending.returned (.int .i64 (cmpN _ _))
          unfold cmpN; rw [if_pos this]; rfl
        · have hgt : nth ys j < nth xs j := by omega
          have hb2 : decide ((nth xs j : Int) < (nth ys j : Int)) = false := by simp; omega
          go_wp2
          go_quiet (fail)
          go_wp2
          go_quiet ((go_at_call 86; exact qAdd (order_false _)))
          go_wp2
          go_ret
          refine ⟨?_, ?_⟩
          rotate_left
          · simp only [World.drewN_drewN]; exact ⟨_, rfl⟩
          have := val_lt_of_top (by rw [HX.out, HY.out]) oy (by rw [HY.out]; omega) Hd.out.symm hgt
          show _ = Ending.returned (.int .i64 (cmpN _ _))
          unfold cmpN; rw [if_neg (by omega), if_pos this]; rfl

set_option maxRecDepth 100000 in
set_option maxHeartbeats 1000000 in
theorem compare_len (A1 A2 : Option Addr) (n1 n2 c1 c2 : Nat) (w : World) (hne : n1 ≠ n2) :
    Calls Tryz.prog 87 #[.slice A1 n1 c1, .slice A2 n2 c2] w fun e w' => e = .returned (.int .i64 (if n1 < n2 then -1 else 1)) ∧ ∃ d, w' = w.drewN d := by
  have hb : ((n1 : Int) != (n2 : Int)) = true := by rw [bne_iff_ne]; omega
  by_cases hlt : n1 < n2
  · have hb2 : decide ((n1 : Int) < (n2 : Int)) = true := by simp; omega
    go_enter Tryz.func87, Tryz.ntmps87
    go_wp2_with (refine (order_true _).mono ?_; rintro e w1 ⟨rfl, rfl⟩)
    go_ret
    exact ⟨rfl, 0, rfl⟩
  · have hb2 : decide ((n1 : Int) < (n2 : Int)) = false := by simp; omega
    go_enter Tryz.func87, Tryz.ntmps87
    go_wp2_with (refine (order_false _).mono ?_; rintro e w1 ⟨rfl, rfl⟩)
    go_ret
    exact ⟨rfl, 0, rfl⟩

theorem compare_any (v1 v2 : Value) (m o : Nat) (w : World) (h1 : MagV w v1 m) (h2 : MagV w v2 o) (b2 : wlen B64 o ≤ maxW) :
    Calls Tryz.prog 87 #[v1, v2] w fun e w' => e = .returned (.int .i64 (cmpN m o)) ∧ ∃ d, w' = w.drewN d := by
  obtain ⟨A1, c1, rfl, _, s1⟩ := h1.ok_len
  obtain ⟨A2, c2, rfl, _, s2⟩ := h2.ok_len
  by_cases he : wlen B64 m = wlen B64 o
  · rw [he] at s1 ⊢
    refine (compare_same A1 A2 _ c1 c2 _ _ w s1 s2 (ok_ws _) (ok_ws _) b2).mono ?_
    rintro e w' ⟨h, hd⟩
    rw [val_ws two_le_B, val_ws two_le_B] at h
    exact ⟨h, hd⟩
  · refine (compare_len A1 A2 _ _ c1 c2 w he).mono ?_
    rintro e w' ⟨h, hd⟩
    refine ⟨h.trans ?_, hd⟩
    unfold cmpN
    by_cases hl : wlen B64 m < wlen B64 o
    · rw [if_pos hl, if_pos (lt_of_wlen_lt two_le_B hl)]
    · have := lt_of_wlen_lt two_le_B (show wlen B64 o < wlen B64 m by omega)
      rw [if_neg hl, if_neg (by omega), if_pos this]

end Go.Proofs.YtdkgifkmkghggaaGreatDoor
