/- Contracts: raised, lowered. -/
import Derived.Test.YtdkgifkmkghggaaGreatDoorDivD
import Derived.RegionTactic
import Derived.BigRegion
import Derived.Deep.RegionWith
namespace Go.Proofs.YtdkgifkmkghggaaGreatDoor
open Go.RowKit Vd

/-- the low part of a word that is shifted up, and what is shifted out -/
def shLo (x s : Nat) : Nat := x * 2 ^ s % B64
def shHi (x s : Nat) : Nat := x / 2 ^ (64 - s)
theorem sh_eq {x s : Nat} (hs : s ≤ 64) : shLo x s + B64 * shHi x s = x * 2 ^ s := by
  have := shl_two (hi := 0) (lo := x) hs
  simp only [Nat.zero_mul, Nat.zero_add] at this
  unfold shLo shHi
  rw [B64_eq, this]; omega
theorem shHi_lt {x s : Nat} (hs : s ≤ 64) (hx : x < B64) : shHi x s < 2 ^ s := shr_lt hx hs
theorem shLo_mul {x s : Nat} (hs : s ≤ 64) : shLo x s = x % 2 ^ (64 - s) * 2 ^ s := by
  unfold shLo
  have e : B64 = 2 ^ (64 - s) * 2 ^ s := by rw [← Nat.pow_add, show 64 - s + s = 64 by omega]; rfl
  rw [e, Nat.mul_mod_mul_right]
/-- a word with the bits that were shifted out of the one below -/
def orLo (c x s : Nat) : Nat := c + shLo x s
theorem or_shLo {x s c : Nat} (hs : s ≤ 64) (hc : c < 2 ^ s) : bits .or .u64 (c : Int) (IntKind.u64.wrap ((x : Int) * 2 ^ s)) = (orLo c x s : Int) ∧ orLo c x s < B64 := by
  unfold orLo
  have e : B64 = 2 ^ (64 - s) * 2 ^ s := by rw [← Nat.pow_add, show 64 - s + s = 64 by omega]; rfl
  have h1 : x % 2 ^ (64 - s) < 2 ^ (64 - s) := Nat.mod_lt _ (Nat.pow_pos (by omega))
  have h2 := Nat.mul_le_mul_right (2 ^ s) (show x % 2 ^ (64 - s) + 1 ≤ 2 ^ (64 - s) from h1)
  rw [Nat.add_mul, Nat.one_mul, ← e] at h2
  have h3 : c + shLo x s < B64 := by rw [shLo_mul hs]; omega
  refine ⟨?_, h3⟩
  rw [wrap_shl, show x * 2 ^ s % 18446744073709551616 = shLo x s from rfl, shLo_mul hs, or_words' hc (by rw [shLo_mul hs, B64_eq] at h3; omega)]
theorem shr_cast (x s : Nat) : (x : Int) / 2 ^ (64 - s) = (shHi x s : Int) := div_nat _ _

theorem pow_le_B {s : Nat} (hs : s ≤ 63) : 2 ^ s ≤ B64 := by
  have h := Nat.pow_le_pow_right (n := 2) (by omega) hs
  have e : (2 : Nat) ^ 63 ≤ B64 := by decide
  omega
/-- a word shifted down -/
def shrW (x s : Nat) : Nat := x / 2 ^ s
theorem shrW_cast (x s : Nat) : (x : Int) / 2 ^ s = (shrW x s : Int) := div_nat _ _
theorem shrW_lt {x s : Nat} (hs : s ≤ 64) (hx : x < B64) : shrW x s < 2 ^ (64 - s) := by
  unfold shrW
  rw [Nat.div_lt_iff_lt_mul (Nat.pow_pos (by omega)), ← Nat.pow_add, show 64 - s + s = 64 by omega]; exact hx
theorem lower_word {x y s : Nat} (hs : s ≤ 63) : orLo (shrW x s) y (64 - s) * 2 ^ s + x % 2 ^ s = x + B64 * (y % 2 ^ s) := by
  unfold orLo
  rw [shLo_mul (by omega), show 64 - (64 - s) = s by omega, Nat.add_mul, Nat.mul_assoc, ← Nat.pow_add, show 64 - s + s = 64 by omega]
  have h := Nat.div_add_mod x (2 ^ s)
  have e : B64 * (y % 2 ^ s) = y % 2 ^ s * 2 ^ 64 := by rw [Nat.mul_comm]; rfl
  rw [e]
  show x / 2 ^ s * 2 ^ s + _ + _ = _
  rw [Nat.mul_comm (x / 2 ^ s)]
  omega
theorem lower_step (B P V M T R x xm l y' : Nat) (h : V * T + R = M + xm * P) (e : l * T + xm = x + B * y') : (V + l * P) * T + R = (M + x * P) + y' * (P * B) := by grind

theorem raise_step (B P V C M x lo hi T : Nat) (h : V + C * P = M * T) (e : lo + B * hi = x * T) : V + (C + lo) * P + hi * (P * B) = (M + x * P) * T := by grind

set_option maxRecDepth 100000 in
set_option maxHeartbeats 1000000 in
theorem raised_any (A : Option Addr) (n c s : Nat) (xs : List Nat) (w : World) (hx : Sl w U A n xs) (ox : Ok B64 xs) (hn : n ≤ maxW) (hs : s ≤ 63) :
    Calls Tryz.prog 120 #[.slice A n c, .int .i64 (s : Int)] w fun e w' => ∃ rs, e = .returned (.slice (some ⟨w.heap.size, 0, none⟩) (n + 1) (n + 1)) ∧ rs.length = n + 1 ∧ Ok B64 rs ∧ Row w' U w.heap.size 121 rs ∧ val B64 rs = val B64 xs * 2 ^ s ∧ Below w.heap.size w w' := by
  have hn' := hn
  unfold maxW at hn'
  have hmk := fun W => mkU (n + 1) (by unfold maxW; omega) W
  rw [show (((n + 1 : Nat)) : Int) = (n : Int) + 1 from rfl] at hmk
  have HX := Lib.hid hx.len
  have s0 : (0 : Int) ≤ 64 - (s : Int) := by omega
  have s1 : (s : Int) ≤ 63 := by omega
  go_enter Tryz.func120, Tryz.ntmps120
  go_wp2
  go_loopg [14] n (fun j i wr => ∃ (k : Nat) (rs : List Nat), k ≤ n ∧ j = n - k ∧ i = .int .i64 k ∧ rs.length = n + 1 ∧ Ok B64 rs ∧ Row wr U w.heap.size 121 rs ∧ nth rs k < 2 ^ s ∧
      val B64 (rs.take (k + 1)) = val B64 (xs.take k) * 2 ^ s ∧ Below w.heap.size w wr)
  case atStart => exact ⟨0, List.replicate (n + 1) 0, Nat.zero_le _, rfl, rfl, by simp, Ok.rep two_le_B _, Row.newRep w U _ _, by rw [nth_replicate]; exact Nat.pow_pos (by omega), by rw [val_take_succ, nth_replicate]; simp, (Below.refl _ _).alloc (Nat.le_refl _) _⟩
  case round =>
    obtain ⟨k, rs, hk, rfl, rfl, hls, oss, hrow, hcar, hval, hbel⟩ := hrel
    by_cases hlt : k < n
    · obtain ⟨g, o, rfl, hg, hcell⟩ := hx.at_ (by omega)
      have hcx := (hbel.cell (p := ⟨g, o + k, none⟩) hg).trans (hcell k hlt)
      have hcs := hrow.cell (i := k) (by omega)
      have hfs := hrow.frozen k
      have hfs1 := hrow.frozen (k + 1)
      unfold U at hcx hcs
      have hlt' : (k : Int) < (n : Int) := by omega
      have hlt1 : (k : Int) < (n : Int) + 1 := by omega
      obtain ⟨E1, hlo⟩ := or_shLo (x := nth xs k) (s := s) (by omega) hcar
      have E2 := shr_cast (nth xs k) s
      have hset1 := hrow.set k (orLo (nth rs k) (nth xs k) s)
      have hcs1 := hset1.cell (i := k + 1) (by rw [List.length_set]; omega)
      unfold U at hset1 hcs1
      have Hv := Lib.hid (And.intro hval (And.intro hls hcar))
      clear hval hls hcar hcell hx hmk
      go_wp2
      go_region
      go_wp2
      obtain ⟨hval, hls, hcar⟩ := Hv.out
      have hhi := shHi_lt (x := nth xs k) (s := s) (by omega) (ox.get two_le_B k)
      have hhi2 : shHi (nth xs k) s < B64 := Nat.lt_of_lt_of_le hhi (pow_le_B hs)
      go_roundg (n - (k + 1))
      case measure => omega
      case rel =>
        refine ⟨k + 1, (rs.set k (orLo (nth rs k) (nth xs k) s)).set (k + 1) (shHi (nth xs k) s), by omega, rfl, by go_num, by rw [List.length_set, List.length_set]; exact hls, (oss.set hlo).set hhi2, (hset1.set (k + 1) (shHi (nth xs k) s)).drew, ?_, ?_, ((hbel.setCell (Nat.le_refl _) _).setCell (Nat.le_refl _) _).drew⟩
        · rw [getD_set _ _ _ _ (by rw [List.length_set]; omega), if_pos rfl]; exact hhi
        · rw [val_take_set _ _ _ (by rw [List.length_set]; omega), val_take_set _ _ _ (by omega), val_take_succ, Nat.pow_succ]
          rw [val_take_succ] at hval
          exact raise_step _ _ _ _ _ _ _ _ _ hval (sh_eq (by omega))
    · obtain rfl : k = n := by omega
      rw [List.take_of_length_le (by omega), List.take_of_length_le (by rw [HX.out]; omega)] at hval
      have Hv := Lib.hid (And.intro hval hls)
      clear hval hls hx hmk
      go_wp2
      go_ret
      exact ⟨rs, rfl, Hv.out.2, oss, hrow, Hv.out.1, hbel⟩

set_option maxRecDepth 100000 in
set_option maxHeartbeats 1000000 in
theorem lowered_any (A : Option Addr) (n c s : Nat) (xs : List Nat) (w : World) (hx : Sl w U A n xs) (ox : Ok B64 xs) (hn : n ≤ maxW) (hs : s ≤ 63) :
    Calls Tryz.prog 123 #[.slice A n c, .int .i64 (s : Int)] w fun e w' => ∃ v, e = .returned v ∧ MagV w' v (val B64 xs / 2 ^ s) ∧ Below w.heap.size w w' := by
  have hn' := hn
  unfold maxW at hn'
  have hmk := fun W => mkU n (by unfold maxW; omega) W
  have HX := Lib.hid hx.len
  have s0 : (0 : Int) ≤ 64 - (s : Int) := by omega
  have s1 : (s : Int) ≤ 63 := by omega
  go_enter Tryz.func123, Tryz.ntmps123
  go_wp2
  go_loopg [13] n (fun j i wr => ∃ (k : Nat) (ls : List Nat), k ≤ n ∧ j = n - k ∧ i = .int .i64 k ∧ ls.length = n ∧ Ok B64 ls ∧ Row wr U w.heap.size 121 ls ∧
      val B64 (ls.take k) * 2 ^ s + nth xs 0 % 2 ^ s = val B64 (xs.take k) + (nth xs k % 2 ^ s) * B64 ^ k ∧ Below w.heap.size w wr)
  case atStart => exact ⟨0, List.replicate n 0, Nat.zero_le _, rfl, rfl, by simp, Ok.rep two_le_B _, Row.newRep w U _ _, by simp, (Below.refl _ _).alloc (Nat.le_refl _) _⟩
  case round =>
    obtain ⟨k, ls, hk, rfl, rfl, hls, oss, hrow, hval, hbel⟩ := hrel
    by_cases hlt : k < n
    · have hxr := hx.below hbel
      obtain ⟨g, o, rfl, hg, hcell⟩ := hx.at_ (by omega)
      have hcx := (hbel.cell (p := ⟨g, o + k, none⟩) hg).trans (hcell k hlt)
      have hcs := hrow.cell (i := k) (by omega)
      have hfs := hrow.frozen k
      unfold U at hcx hcs
      have hlt' : (k : Int) < (n : Int) := by omega
      have hwd := fun d => word_any (some ⟨g, o, none⟩) n c xs (k + 1) (wr.drewN d) (hxr.drewN d) (by omega) (by omega)
      rw [show (((k + 1 : Nat)) : Int) = (k : Int) + 1 from rfl] at hwd
      have i1 : IntKind.i64.wrap ((k : Int) + 1) = (k : Int) + 1 := by rw [IntKind.wrap_i64]; omega
      have Hv := Lib.hid (And.intro hval hls)
      clear hval hls hcell hx hmk
      have E1 := shrW_cast (nth xs k) s
      obtain ⟨E2, hlo⟩ := or_shLo (x := nth xs (k + 1)) (s := 64 - s) (c := shrW (nth xs k) s) (by omega) (shrW_lt (by omega) (ox.get two_le_B k))
      have hlw := lower_word (x := nth xs k) (y := nth xs (k + 1)) hs
      obtain ⟨t, ht⟩ : ∃ t, t = 64 - s := ⟨_, rfl⟩
      rw [← ht] at E2 hlo hlw
      have i2 : IntKind.i64.wrap (64 - (s : Int)) = (t : Int) := by rw [IntKind.wrap_i64]; omega
      have i3 : (t : Int) ≤ 64 := by omega
      have i4 : (0 : Int) ≤ (t : Int) := by omega
      have Hw := Lib.hid hlw
      clear ht hlw
      go_wp2
      go_region_with ((go_at_call 125; refine (hwd _).mono ?_; rintro e w1 ⟨rfl, rfl⟩))
      all_goals
        go_wp2
        obtain ⟨hval, hls⟩ := Hv.out
        go_roundg (n - (k + 1))
        case measure => omega
        case rel =>
          refine ⟨k + 1, ls.set k (orLo (shrW (nth xs k) s) (nth xs (k + 1)) t), by omega, rfl, by go_num, by rw [List.length_set]; exact hls, oss.set hlo, (hrow.set k _).drew, ?_, (hbel.setCell (Nat.le_refl _) _).drew⟩
          rw [val_take_set _ _ _ (by omega), val_take_succ, Nat.pow_succ]
          exact lower_step _ _ _ _ _ _ _ _ _ _ hval Hw.out
    · obtain rfl : k = n := by omega
      have e : val B64 ls = val B64 xs / 2 ^ s := by
        rw [List.take_of_length_le (by omega), List.take_of_length_le (by rw [HX.out]; omega), nth_ge (i := k) (by rw [HX.out]; omega)] at hval
        simp only [Nat.zero_mod, Nat.zero_mul, Nat.add_zero] at hval
        rw [← hval, Nat.mul_comm, Nat.mul_add_div (Nat.pow_pos (by omega)), Nat.div_eq_of_lt (Nat.mod_lt _ (Nat.pow_pos (by omega)))]; simp
      have ht := trim_mag (some ⟨w.heap.size, 0, none⟩) k k ls _ (by have := hrow.sl0; rw [hls] at this; exact this) oss (by omega) (by omega)
      rw [e] at ht
      clear hval hls hx hmk e
      go_wp2_with (refine ht.mono ?_; rintro e w1 ⟨v, rfl, hm, rfl⟩)
      go_ret
      exact ⟨v, rfl, hm, hbel⟩

end Go.Proofs.YtdkgifkmkghggaaGreatDoor
