/- Contracts of sums, differences and comparisons of magnitudes. -/
import Derived.Test.YtdkgifkmkghggaaGreatDoorMagA
import Derived.Deep.OwnRows
namespace Go.Proofs.YtdkgifkmkghggaaGreatDoor
open Go.RowKit Vd

/-- how many words are let in: more than any number here has -/
def maxW : Nat := 1099511627776

theorem infoU : (Tryz.prog.info? 121).map (fun i => (i.zero, i.size, i.bytes)) = some (some (.int .u64 0), 1, 8) := by kernel_rfl
theorem mkU (n : Nat) (hn : n ≤ 3 * maxW) (w : World) : (Instr.makeSlice 78 (.int .i64 (n : Int)) (.int .i64 (n : Int))).run Tryz.prog w = .ok (.slice (some ⟨w.heap.size, 0, none⟩) n n) (w.alloc (.cells ((List.replicate n 0).map U).toArray 121)) := by
  have h := run_make_row' (P := Tryz.prog) 78 121 (.int .u64 0) 8 Tryz.underlying78 infoU rfl .i64 .i64 n (by unfold maxW at hn; omega) (by unfold maxW at hn; omega) w
  rw [← madeCells_eq]
  exact h

set_option maxRecDepth 100000 in
set_option maxHeartbeats 1000000 in
theorem sum_core (A1 A2 : Option Addr) (n1 n2 c1 c2 : Nat) (xs ys : List Nat) (w : World) (hx : Sl w U A1 n1 xs) (hy : Sl w U A2 n2 ys) (ox : Ok B64 xs) (oy : Ok B64 ys) (hn : n1 ≤ maxW) (hle : n2 ≤ n1) :
    Calls Tryz.prog 96 #[.slice A1 n1 c1, .slice A2 n2 c2] w fun e w' => ∃ v, e = .returned v ∧ MagV w' v (val B64 xs + val B64 ys) ∧ Below w.heap.size w w' := by
  have hn' := hn
  unfold maxW at hn'
  have hmk := fun W => mkU (n1 + 1) (by unfold maxW; omega) W
  rw [show (((n1 + 1 : Nat)) : Int) = (n1 : Int) + 1 from rfl] at hmk
  have HX := Lib.hid hx.len
  have HY := Lib.hid hy.len
  have hnl : ¬ (n1 : Int) < (n2 : Int) := by omega
  go_enter Tryz.func96, Tryz.ntmps96
  go_wp2
  go_loopw [6, 22] (fun c i wr => ∃ (k cc : Nat) (ss : List Nat), k ≤ n1 ∧ i = .int .i64 k ∧ c = .int .u64 cc ∧ cc ≤ 1 ∧ ss.length = n1 + 1 ∧ Ok B64 ss ∧ Row wr U w.heap.size 121 ss ∧
      val B64 (ss.take k) + cc * B64 ^ k = val B64 (xs.take k) + val B64 (ys.take k) ∧ Below w.heap.size w wr) (fun _ i _ => n1 - (intOf i).toNat)
  case atStart => exact ⟨0, 0, List.replicate (n1 + 1) 0, Nat.zero_le _, rfl, rfl, Nat.zero_le _, by simp, Ok.rep two_le_B _, Row.newRep w U _ _, by simp, (Below.refl _ _).alloc (Nat.le_refl _) _⟩
  case round =>
    obtain ⟨k, cc, ss, hk, rfl, rfl, hcc, hls, oss, hrow, hval, hbel⟩ := hrel
    by_cases hlt : k < n1
    · obtain ⟨g, o, rfl, hg, hcell⟩ := hx.at_ (by omega)
      have hcx := (hbel.cell (p := ⟨g, o + k, none⟩) hg).trans (hcell k hlt)
      have hcs := hrow.cell (i := k) (by omega)
      have hfs := hrow.frozen k
      have hyr := hy.below hbel
      have hlt' : (k : Int) < (n1 : Int) := by omega
      unfold U at hcx hcs
      clear hcell
      have Hv := Lib.hid hval
      have Hl := Lib.hid hls
      clear hval hls
      clear hx hy hmk
      go_wp2_with fail
      refine (word_any A2 n2 c2 ys k _ hyr (by omega) (by omega)).mono ?_
      rintro e w1 ⟨rfl, rfl⟩
      go_wp2_with (simp only [add64_run _ _ _ hcc])
      have hx1 := ox.get two_le_B k
      have hy1 := oy.get two_le_B k
      have ea := add_eq (nth xs k) (nth ys k) cc
      have eb := addHi_le hx1 hy1 hcc
      have ec := addLo_lt (nth xs k) (nth ys k) cc
      refine ⟨⟨k + 1, addHi (nth xs k) (nth ys k) cc, ss.set k (addLo (nth xs k) (nth ys k) cc), by omega, by go_num, rfl, eb, by rw [List.length_set]; exact Hl.out, oss.set ec, hrow.set k _, ?_, hbel.setCell (Nat.le_refl _) _⟩, by simp [intOf]; omega⟩
      rw [val_take_set _ _ _ (by rw [Hl.out]; omega), val_take_succ, val_take_succ, Nat.pow_succ]
      exact carry_step _ _ _ _ _ _ _ _ _ _ Hv.out ea
    · obtain rfl : k = n1 := by omega
      have hcs := hrow.cell (i := k) (by omega)
      have hfs := hrow.frozen k
      unfold U at hcs
      have hr2 := hrow.set k cc
      have hcc2 : cc < B64 := by rw [B64_eq]; omega
      have o2 := oss.set (i := k) hcc2
      have hl2 : (ss.set k cc).length = k + 1 := by rw [List.length_set]; exact hls
      have ht := trim_mag (some ⟨w.heap.size, 0, none⟩) (k + 1) (k + 1) (ss.set k cc) _ (by have := hr2.sl0; rw [hl2] at this; exact this) o2 (by omega) (by omega)
      unfold U at ht
      have Hl := Lib.hid hls
      have Hl2 := Lib.hid hl2
      have Hv := Lib.hid hval
      clear hls hl2 hval
      clear hx hy hrow hr2
      go_wp2_with (refine ht.mono ?_; rintro e w1 ⟨v, rfl, hm, rfl⟩)
      go_ret
      refine ⟨v, rfl, ?_, hbel.setCell (Nat.le_refl _) _⟩
      have e : val B64 (ss.set k cc) = val B64 xs + val B64 ys := by
        have h1 := val_take_set (b := B64) ss k cc (by rw [Hl.out]; omega)
        rw [List.take_of_length_le (by rw [Hl2.out]; omega)] at h1
        rw [h1, Hv.out]
        rw [List.take_of_length_le (by rw [HX.out]; omega), List.take_of_length_le (by rw [HY.out]; omega)]
      rw [← e]
      exact hm

set_option maxRecDepth 100000 in
set_option maxHeartbeats 1000000 in
theorem sum_swap (A1 A2 : Option Addr) (n1 n2 c1 c2 : Nat) (xs ys : List Nat) (w : World) (hx : Sl w U A1 n1 xs) (hy : Sl w U A2 n2 ys) (ox : Ok B64 xs) (oy : Ok B64 ys) (hn : n1 ≤ maxW) (hle : n2 < n1) :
    Calls Tryz.prog 96 #[.slice A2 n2 c2, .slice A1 n1 c1] w fun e w' => ∃ v, e = .returned v ∧ MagV w' v (val B64 xs + val B64 ys) ∧ Below w.heap.size w w' := by
  have hn' := hn
  unfold maxW at hn'
  have hmk := fun W => mkU (n1 + 1) (by unfold maxW; omega) W
  rw [show (((n1 + 1 : Nat)) : Int) = (n1 : Int) + 1 from rfl] at hmk
  have HX := Lib.hid hx.len
  have HY := Lib.hid hy.len
  have hnl : (n2 : Int) < (n1 : Int) := by omega
  go_enter Tryz.func96, Tryz.ntmps96
  go_wp2
  go_loopw [6, 22] (fun c i wr => ∃ (k cc : Nat) (ss : List Nat), k ≤ n1 ∧ i = .int .i64 k ∧ c = .int .u64 cc ∧ cc ≤ 1 ∧ ss.length = n1 + 1 ∧ Ok B64 ss ∧ Row wr U w.heap.size 121 ss ∧
      val B64 (ss.take k) + cc * B64 ^ k = val B64 (xs.take k) + val B64 (ys.take k) ∧ Below w.heap.size w wr) (fun _ i _ => n1 - (intOf i).toNat)
  case atStart => exact ⟨0, 0, List.replicate (n1 + 1) 0, Nat.zero_le _, rfl, rfl, Nat.zero_le _, by simp, Ok.rep two_le_B _, Row.newRep w U _ _, by simp, (Below.refl _ _).alloc (Nat.le_refl _) _⟩
  case round =>
    obtain ⟨k, cc, ss, hk, rfl, rfl, hcc, hls, oss, hrow, hval, hbel⟩ := hrel
    by_cases hlt : k < n1
    · obtain ⟨g, o, rfl, hg, hcell⟩ := hx.at_ (by omega)
      have hcx := (hbel.cell (p := ⟨g, o + k, none⟩) hg).trans (hcell k hlt)
      have hcs := hrow.cell (i := k) (by omega)
      have hfs := hrow.frozen k
      have hyr := hy.below hbel
      have hlt' : (k : Int) < (n1 : Int) := by omega
      unfold U at hcx hcs
      clear hcell
      have Hv := Lib.hid hval
      have Hl := Lib.hid hls
      clear hval hls
      clear hx hy hmk
      go_wp2_with fail
      refine (word_any A2 n2 c2 ys k _ hyr (by omega) (by omega)).mono ?_
      rintro e w1 ⟨rfl, rfl⟩
      go_wp2_with (simp only [add64_run _ _ _ hcc])
      have hx1 := ox.get two_le_B k
      have hy1 := oy.get two_le_B k
      have ea := add_eq (nth xs k) (nth ys k) cc
      have eb := addHi_le hx1 hy1 hcc
      have ec := addLo_lt (nth xs k) (nth ys k) cc
      refine ⟨⟨k + 1, addHi (nth xs k) (nth ys k) cc, ss.set k (addLo (nth xs k) (nth ys k) cc), by omega, by go_num, rfl, eb, by rw [List.length_set]; exact Hl.out, oss.set ec, hrow.set k _, ?_, hbel.setCell (Nat.le_refl _) _⟩, by simp [intOf]; omega⟩
      rw [val_take_set _ _ _ (by rw [Hl.out]; omega), val_take_succ, val_take_succ, Nat.pow_succ]
      exact carry_step _ _ _ _ _ _ _ _ _ _ Hv.out ea
    · obtain rfl : k = n1 := by omega
      have hcs := hrow.cell (i := k) (by omega)
      have hfs := hrow.frozen k
      unfold U at hcs
      have hr2 := hrow.set k cc
      have hcc2 : cc < B64 := by rw [B64_eq]; omega
      have o2 := oss.set (i := k) hcc2
      have hl2 : (ss.set k cc).length = k + 1 := by rw [List.length_set]; exact hls
      have ht := trim_mag (some ⟨w.heap.size, 0, none⟩) (k + 1) (k + 1) (ss.set k cc) _ (by have := hr2.sl0; rw [hl2] at this; exact this) o2 (by omega) (by omega)
      unfold U at ht
      have Hl := Lib.hid hls
      have Hl2 := Lib.hid hl2
      have Hv := Lib.hid hval
      clear hls hl2 hval
      clear hx hy hrow hr2
      go_wp2_with (refine ht.mono ?_; rintro e w1 ⟨v, rfl, hm, rfl⟩)
      go_ret
      refine ⟨v, rfl, ?_, hbel.setCell (Nat.le_refl _) _⟩
      have e : val B64 (ss.set k cc) = val B64 xs + val B64 ys := by
        have h1 := val_take_set (b := B64) ss k cc (by rw [Hl.out]; omega)
        rw [List.take_of_length_le (by rw [Hl2.out]; omega)] at h1
        rw [h1, Hv.out]
        rw [List.take_of_length_le (by rw [HX.out]; omega), List.take_of_length_le (by rw [HY.out]; omega)]
      rw [← e]
      exact hm


theorem MagV.ok_len {w : World} {v : Value} {n : Nat} (h : MagV w v n) : ∃ A c, v = .slice A (wlen B64 n) c ∧ wlen B64 n ≤ c ∧ Sl w U A (wlen B64 n) (ws B64 n) := by
  obtain ⟨A, c, e, h1, _, h3⟩ := h
  exact ⟨A, c, e, h1, h3⟩

theorem sum_any (v1 v2 : Value) (m o : Nat) (w : World) (h1 : MagV w v1 m) (h2 : MagV w v2 o) (b1 : wlen B64 m ≤ maxW) (b2 : wlen B64 o ≤ maxW) :
    Calls Tryz.prog 96 #[v1, v2] w fun e w' => ∃ v, e = .returned v ∧ MagV w' v (m + o) ∧ Below w.heap.size w w' := by
  obtain ⟨A1, c1, rfl, _, s1⟩ := h1.ok_len
  obtain ⟨A2, c2, rfl, _, s2⟩ := h2.ok_len
  rcases Nat.lt_or_ge (wlen B64 m) (wlen B64 o) with h | h
  · refine (sum_swap A2 A1 _ _ c2 c1 _ _ w s2 s1 (ok_ws _) (ok_ws _) b2 h).mono ?_
    rintro e w' ⟨v, he, hm, hb⟩
    rw [val_ws two_le_B, val_ws two_le_B, Nat.add_comm] at hm
    exact ⟨v, he, hm, hb⟩
  · refine (sum_core A1 A2 _ _ c1 c2 _ _ w s1 s2 (ok_ws _) (ok_ws _) b1 h).mono ?_
    rintro e w' ⟨v, he, hm, hb⟩
    rw [val_ws two_le_B, val_ws two_le_B] at hm
    exact ⟨v, he, hm, hb⟩

end Go.Proofs.YtdkgifkmkghggaaGreatDoor
