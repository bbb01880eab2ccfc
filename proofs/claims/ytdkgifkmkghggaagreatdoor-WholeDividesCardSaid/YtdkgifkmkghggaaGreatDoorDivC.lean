/- Contracts: takeMultiple, putBack. -/
import Derived.Test.YtdkgifkmkghggaaGreatDoorDivB
namespace Go.Proofs.YtdkgifkmkghggaaGreatDoor
open Go.RowKit Vd

theorem top_step (B P S t O A a x c q q' : Nat) (h : S + t * O = A + (q + c) * P) (e : x + c + q = a + B * q') : (S + x * P) + t * O = (A + a * P) + q' * (P * B) := by grind
theorem am2_eq (v t c : Nat) : addLo (mulLo v t) c 0 + B64 * (mulHi v t + addHi (mulLo v t) c 0) = v * t + c := by
  have h1 := mul_eq v t
  have h2 := add_eq (mulLo v t) c 0
  rw [Nat.mul_add]; omega

/-- a slice reads on while only block g turns, in which it does not lie -/
theorem sl_at_grown {w wr : World} {A : Option Addr} {n : Nat} {ys : List Nat} {g : Nat} (hy : Sl w U A n ys) (hg : w.grownBy wr (some g)) (hfar : ∀ g2 o2, A = some ⟨g2, o2, none⟩ → 0 < n → g2 ≠ g) {k : Nat} (hk : k < n) :
    ∃ g2 o2, A = some ⟨g2, o2, none⟩ ∧ wr.cell? ⟨g2, o2 + k, none⟩ = some (U (nth ys k)) := by
  obtain ⟨g2, o2, e, hlt, hc⟩ := hy.at_ (by omega)
  refine ⟨g2, o2, e, ?_⟩
  rw [World.cell?_of_block (w := w) (hg.block g2 hlt (fun e2 => hfar g2 o2 e (by omega) (by injection e2)))]
  exact hc k hk

set_option maxRecDepth 100000 in
set_option maxHeartbeats 1000000 in
theorem takeMultiple_any (g c : Nat) (A2 : Option Addr) (c2 n : Nat) (pre L post ys : List Nat) (t : Nat) (w : World) (hr : Row w U g 121 (pre ++ (L ++ post))) (hy : Sl w U A2 n ys) (hfar : ∀ g2 o2, A2 = some ⟨g2, o2, none⟩ → 0 < n → g2 ≠ g) (hL : L.length = n + 1) (ox : Ok B64 L) (oy : Ok B64 ys) (ht : t < B64) (hb : n ≤ maxW) :
    Calls Tryz.prog 143 #[.slice (some ⟨g, pre.length, none⟩) (n + 1) c, .slice A2 n c2, .int .u64 (t : Int)] w fun e w' =>
      ∃ (zs : List Nat) (bb : Nat), e = .returned (.bool ((bb : Int) == 1)) ∧ bb ≤ 1 ∧ zs.length = n + 1 ∧ Ok B64 zs ∧ Row w' U g 121 (pre ++ (zs ++ post)) ∧ w.grownBy w' (some g) ∧
        val B64 zs + t * val B64 ys = val B64 L + bb * B64 ^ (n + 1) := by
  unfold maxW at hb
  have HY := Lib.hid hy.len
  obtain ⟨p, hp⟩ : ∃ p, p = pre.length := ⟨_, rfl⟩
  rw [← hp]
  have HP := Lib.hid hp
  have HL := Lib.hid hL
  clear hp hL
  go_enter Tryz.func143, Tryz.ntmps143
  go_wp2
  go_loopg [7, 8, 16] n (fun j c b i wr => ∃ (k cc bb : Nat) (zs : List Nat), k ≤ n ∧ j = n - k ∧ i = .int .i64 k ∧ c = .int .u64 cc ∧ b = .int .u64 bb ∧ cc < B64 ∧ bb ≤ 1 ∧ zs.length = n + 1 ∧ Ok B64 zs ∧ Row wr U g 121 (pre ++ (zs ++ post)) ∧ w.grownBy wr (some g) ∧ zs.drop k = L.drop k ∧
      val B64 (zs.take k) + t * val B64 (ys.take k) = val B64 (L.take k) + (bb + cc) * B64 ^ k)
  case atStart => exact ⟨0, 0, 0, L, Nat.zero_le _, rfl, rfl, rfl, rfl, by decide, by omega, HL.out, ox, hr, World.grownBy.refl _ _, rfl, by simp⟩
  case round =>
    obtain ⟨k, cc, bb, zs, hk, rfl, rfl, rfl, rfl, hcc, hbb, hls, oz, hrow, hg, hdr, hval⟩ := hrel
    have hx1 := ox.get two_le_B k
    have hy1 := oy.get two_le_B k
    by_cases hlt : k < n
    · obtain ⟨g2, o2, rfl, hcy⟩ := sl_at_grown hy hg hfar hlt
      have hcs := hrow.cell (i := p + k) (by rw [HP.out]; simp; omega)
      have hfs := hrow.frozen (p + k)
      rw [HP.out, nth_mid _ _ _ _ (by omega), ← HP.out, nth_of_drop hdr] at hcs
      unfold U at hcy hcs
      have hlt' : (k : Int) < (n : Int) := by omega
      have hkn : (k : Int) < (n : Int) + 1 := by omega
      have Hv := Lib.hid (And.intro hval (And.intro hls hdr))
      clear hval hls hdr hy hfar hr
      go_wp2_with fail
      refine (mul64_any _ _ hy1 ht wr).mono ?_
      rintro e w1 ⟨rfl, rfl⟩
      go_wp2_with (first | simp only [add64_run0] | simp only [sub64_run _ _ _ hbb])
      have hs1 := amHigh_lt (s := cc) (c := 0) hcc hy1 ht (by decide)
      rw [wrapU2 hs1.2]
      obtain ⟨hval, hls, hdr⟩ := Hv.out
      have he := am2_eq (nth ys k) t cc
      have hf := sub_eq (x := nth L k) (y := addLo (mulLo (nth ys k) t) cc 0) (b := bb) hx1 (addLo_lt _ _ _) hbb
      have hset := hrow.set (p + k) (subLo (nth L k) (addLo (mulLo (nth ys k) t) cc 0) bb)
      rw [HP.out, set_mid _ _ _ _ _ (by omega), ← HP.out] at hset
      go_roundg (n - (k + 1))
      case measure => omega
      case rel =>
        refine ⟨k + 1, _, _, zs.set k (subLo (nth L k) (addLo (mulLo (nth ys k) t) cc 0) bb), by omega, rfl, by go_num, rfl, rfl, hs1.2, subHi_le _ _ _, by rw [List.length_set]; exact hls, oz.set (subLo_lt _ _ _), hset, og_setCell hg _ _, by rw [drop_set_succ]; exact drop_succ_of hdr, ?_⟩
        rw [val_take_set _ _ _ (by omega), val_take_succ, val_take_succ, Nat.pow_succ]
        exact submul_step _ _ _ _ _ _ _ _ _ _ _ _ _ hval _ he hf
    · obtain rfl : k = n := by omega
      have hcs := hrow.cell (i := p + k) (by rw [HP.out]; simp; omega)
      have hfs := hrow.frozen (p + k)
      rw [HP.out, nth_mid _ _ _ _ (by omega), ← HP.out, nth_of_drop hdr] at hcs
      unfold U at hcs
      have hkn : (k : Int) < (k : Int) + 1 := by omega
      have hset := hrow.set (p + k) (subLo (nth L k) cc bb)
      rw [HP.out, set_mid _ _ _ _ _ (by omega), ← HP.out] at hset
      have Hv := Lib.hid (And.intro hval (And.intro hls hdr))
      clear hval hls hdr hy hfar hr
      go_wp2_with (first | simp only [sub64_run _ _ _ hbb])
      go_ret
      obtain ⟨hval, hls, hdr⟩ := Hv.out
      refine ⟨zs.set k (subLo (nth L k) cc bb), subHi (nth L k) cc bb, rfl, subHi_le _ _ _, by rw [List.length_set]; exact hls, oz.set (subLo_lt _ _ _), hset, og_setCell hg _ _, ?_⟩
      have e1 := val_take_set (b := B64) zs k (subLo (nth L k) cc bb) (by omega)
      rw [List.take_of_length_le (by rw [List.length_set]; omega)] at e1
      have e2 := val_take_succ (b := B64) L k
      rw [List.take_of_length_le (by rw [HL.out]; omega)] at e2
      rw [e1, e2, Nat.pow_succ]
      rw [List.take_of_length_le (l := ys) (by rw [HY.out]; omega)] at hval
      exact top_step _ _ _ _ _ _ _ _ _ _ _ hval (sub_eq hx1 hcc hbb)

set_option maxRecDepth 100000 in
set_option maxHeartbeats 1000000 in
theorem putBack_any (g c : Nat) (A2 : Option Addr) (c2 n : Nat) (pre L post ys : List Nat) (w : World) (hr : Row w U g 121 (pre ++ (L ++ post))) (hy : Sl w U A2 n ys) (hfar : ∀ g2 o2, A2 = some ⟨g2, o2, none⟩ → 0 < n → g2 ≠ g) (hL : L.length = n + 1) (ox : Ok B64 L) (oy : Ok B64 ys) (hb : n ≤ maxW) :
    Calls Tryz.prog 144 #[.slice (some ⟨g, pre.length, none⟩) (n + 1) c, .slice A2 n c2] w fun e w' =>
      ∃ (zs : List Nat) (bb : Nat), e = .returned (.bool ((bb : Int) == 1)) ∧ bb ≤ 1 ∧ zs.length = n + 1 ∧ Ok B64 zs ∧ Row w' U g 121 (pre ++ (zs ++ post)) ∧ w.grownBy w' (some g) ∧
        val B64 zs + bb * B64 ^ (n + 1) = val B64 L + val B64 ys := by
  unfold maxW at hb
  have HY := Lib.hid hy.len
  obtain ⟨p, hp⟩ : ∃ p, p = pre.length := ⟨_, rfl⟩
  rw [← hp]
  have HP := Lib.hid hp
  have HL := Lib.hid hL
  clear hp hL
  go_enter Tryz.func144, Tryz.ntmps144
  go_wp2
  go_loopg [5, 10] n (fun j c i wr => ∃ (k cc : Nat) (zs : List Nat), k ≤ n ∧ j = n - k ∧ i = .int .i64 k ∧ c = .int .u64 cc ∧ cc ≤ 1 ∧ zs.length = n + 1 ∧ Ok B64 zs ∧ Row wr U g 121 (pre ++ (zs ++ post)) ∧ w.grownBy wr (some g) ∧ zs.drop k = L.drop k ∧
      val B64 (zs.take k) + cc * B64 ^ k = val B64 (L.take k) + val B64 (ys.take k))
  case atStart => exact ⟨0, 0, L, Nat.zero_le _, rfl, rfl, rfl, by omega, HL.out, ox, hr, World.grownBy.refl _ _, rfl, by simp⟩
  case round =>
    obtain ⟨k, cc, zs, hk, rfl, rfl, rfl, hcc, hls, oz, hrow, hg, hdr, hval⟩ := hrel
    have hx1 := ox.get two_le_B k
    have hy1 := oy.get two_le_B k
    by_cases hlt : k < n
    · obtain ⟨g2, o2, rfl, hcy⟩ := sl_at_grown hy hg hfar hlt
      have hcs := hrow.cell (i := p + k) (by rw [HP.out]; simp; omega)
      have hfs := hrow.frozen (p + k)
      rw [HP.out, nth_mid _ _ _ _ (by omega), ← HP.out, nth_of_drop hdr] at hcs
      unfold U at hcy hcs
      have hlt' : (k : Int) < (n : Int) := by omega
      have hkn : (k : Int) < (n : Int) + 1 := by omega
      have Hv := Lib.hid (And.intro hval (And.intro hls hdr))
      clear hval hls hdr hy hfar hr
      go_wp2_with (simp only [add64_run _ _ _ hcc])
      obtain ⟨hval, hls, hdr⟩ := Hv.out
      have hf := add_eq (nth L k) (nth ys k) cc
      have hset := hrow.set (p + k) (addLo (nth L k) (nth ys k) cc)
      rw [HP.out, set_mid _ _ _ _ _ (by omega), ← HP.out] at hset
      go_roundg (n - (k + 1))
      case measure => omega
      case rel =>
        refine ⟨k + 1, _, zs.set k (addLo (nth L k) (nth ys k) cc), by omega, rfl, by go_num, rfl, addHi_le hx1 hy1 hcc, by rw [List.length_set]; exact hls, oz.set (addLo_lt _ _ _), hset, og_setCell hg _ _, by rw [drop_set_succ]; exact drop_succ_of hdr, ?_⟩
        rw [val_take_set _ _ _ (by omega), val_take_succ, val_take_succ, Nat.pow_succ]
        exact carry_step _ _ _ _ _ _ _ _ _ _ hval hf
    · obtain rfl : k = n := by omega
      have hcs := hrow.cell (i := p + k) (by rw [HP.out]; simp; omega)
      have hfs := hrow.frozen (p + k)
      rw [HP.out, nth_mid _ _ _ _ (by omega), ← HP.out, nth_of_drop hdr] at hcs
      unfold U at hcs
      have hkn : (k : Int) < (k : Int) + 1 := by omega
      have hset := hrow.set (p + k) (addLo (nth L k) 0 cc)
      rw [HP.out, set_mid _ _ _ _ _ (by omega), ← HP.out] at hset
      have Hv := Lib.hid (And.intro hval (And.intro hls hdr))
      have hadd := add64_run (nth L k) 0 cc hcc
      rw [show ((0 : Nat) : Int) = 0 from rfl] at hadd
      clear hval hls hdr hy hfar hr
      go_wp2_with (simp only [hadd])
      go_ret
      obtain ⟨hval, hls, hdr⟩ := Hv.out
      refine ⟨zs.set k (addLo (nth L k) 0 cc), addHi (nth L k) 0 cc, rfl, addHi_le hx1 (by decide) hcc, by rw [List.length_set]; exact hls, oz.set (addLo_lt _ _ _), hset, og_setCell hg _ _, ?_⟩
      have e1 := val_take_set (b := B64) zs k (addLo (nth L k) 0 cc) (by omega)
      rw [List.take_of_length_le (by rw [List.length_set]; omega)] at e1
      have e2 := val_take_succ (b := B64) L k
      rw [List.take_of_length_le (by rw [HL.out]; omega)] at e2
      rw [e1, e2, Nat.pow_succ]
      rw [List.take_of_length_le (l := ys) (by rw [HY.out]; omega)] at hval
      have := carry_step B64 (B64 ^ k) (val B64 (zs.take k)) (val B64 (L.take k)) (val B64 ys) _ _ 0 _ _ hval (add_eq (nth L k) 0 cc)
      rw [this]; simp

end Go.Proofs.YtdkgifkmkghggaaGreatDoor
