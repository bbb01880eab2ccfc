/- Contracts: multiply, multiples, commonOfWords. -/
import Derived.Test.YtdkgifkmkghggaaGreatDoorPowB
namespace Go.Proofs.YtdkgifkmkghggaaGreatDoor
open Go.RowKit Vd

def muLo (x f c : Nat) : Nat := addLo (mulLo x f) c 0
def muHi (x f c : Nat) : Nat := mulHi x f + addHi (mulLo x f) c 0
theorem mu_eq (x f c : Nat) : muLo x f c + B64 * muHi x f c = x * f + c := am2_eq x f c
theorem muLo_lt (x f c : Nat) : muLo x f c < B64 := addLo_lt _ _ _
theorem muHi_lt {x f c : Nat} (hx : x < B64) (hf : f < B64) (hc : c < B64) : muHi x f c < B64 := (amHigh_lt (s := c) (c := 0) hc hx hf (by decide)).2

set_option maxRecDepth 100000 in
set_option maxHeartbeats 1000000 in
theorem multiply_any (x f c : Nat) (hx : x < B64) (hf : f < B64) (hc : c < B64) (w : World) :
    Calls Tryz.prog 153 #[.int .u64 (x : Int), .int .u64 (f : Int), .int .u64 (c : Int)] w fun e w' => e = .returned (.tuple #[.int .u64 (muLo x f c : Int), .int .u64 (muHi x f c : Int)]) ∧ w = w' := by
  have e1 : IntKind.u64.wrap ((mulHi x f : Int) + (addHi (mulLo x f) c 0 : Int)) = (muHi x f c : Int) := wrapU2 (muHi_lt hx hf hc)
  go_enter Tryz.func153, Tryz.ntmps153
  go_wp2_with fail
  refine (mul64_any x f hx hf w).mono ?_
  rintro e w1 ⟨rfl, rfl⟩
  go_wp2_with (simp only [add64_run0])
  go_ret2
  exact ⟨rfl, rfl⟩

theorem mult_step (B P Z A C x y p q up down z plus minus bb plus' minus' bb' : Nat) (h : Z + q * C + plus * P = p * A + (bb + minus) * P)
    (e1 : up + B * plus' = x * p + plus) (e2 : down + B * minus' = y * q + minus) (e3 : z + down + bb = up + B * bb') :
    (Z + z * P) + q * (C + y * P) + plus' * (P * B) = p * (A + x * P) + (bb' + minus') * (P * B) := by grind
theorem mult_end {Z R P plus s : Nat} (hZ : Z < P) (hR : R < P) (h : Z + plus * P = R + s * P) : Z = R := by
  have h1 := congrArg (· % P) h
  simp only [Nat.add_mul_mod_self_right] at h1
  rwa [Nat.mod_eq_of_lt hZ, Nat.mod_eq_of_lt hR] at h1

set_option maxRecDepth 100000 in
set_option maxHeartbeats 1000000 in
theorem multiples_core (A1 A2 : Option Addr) (n1 n2 c1 c2 n : Nat) (xs ys : List Nat) (p q : Nat) (w : World) (hx : Sl w U A1 n1 xs) (hy : Sl w U A2 n2 ys) (ox : Ok B64 xs) (oy : Ok B64 ys) (hn : n = max n1 n2) (hnb : n ≤ maxW) (hp : p < B64) (hq : q < B64)
    (hle : q * val B64 ys ≤ p * val B64 xs) (hR : p * val B64 xs - q * val B64 ys < B64 ^ n) :
    Calls Tryz.prog 161 #[.slice A1 n1 c1, .slice A2 n2 c2, .int .u64 (p : Int), .int .u64 (q : Int)] w fun e w' => ∃ v, e = .returned v ∧ MagV w' v (p * val B64 xs - q * val B64 ys) ∧ Below w.heap.size w w' := by
  have hn' := hnb
  unfold maxW at hn'
  have hmk := fun W => mkU n (by unfold maxW; omega) W
  have HX := Lib.hid hx.len
  have HY := Lib.hid hy.len
  have hn1 : n1 ≤ n := by omega
  have hn2 : n2 ≤ n := by omega
  have hmx : max (n1 : Int) (n2 : Int) = (n : Int) := by omega
  clear hn
  go_enter Tryz.func161, Tryz.ntmps161
  go_wp2
  clear hmx
  go_loopg [10, 11, 12, 24] n (fun j a b c i wr => ∃ (k plus minus bb : Nat) (zs : List Nat), k ≤ n ∧ j = n - k ∧ i = .int .i64 k ∧ a = .int .u64 plus ∧ b = .int .u64 minus ∧ c = .int .u64 bb ∧ plus < B64 ∧ minus < B64 ∧ bb ≤ 1 ∧ zs.length = n ∧ Ok B64 zs ∧ Row wr U w.heap.size 121 zs ∧
      val B64 (zs.take k) + q * val B64 (ys.take k) + plus * B64 ^ k = p * val B64 (xs.take k) + (bb + minus) * B64 ^ k ∧ Below w.heap.size w wr)
  case atStart => exact ⟨0, 0, 0, 0, List.replicate n 0, Nat.zero_le _, rfl, rfl, rfl, rfl, rfl, by decide, by decide, by omega, by simp, Ok.rep two_le_B _, Row.newRep w U _ _, by simp, (Below.refl _ _).alloc (Nat.le_refl _) _⟩
  case round =>
    obtain ⟨k, plus, minus, bb, zs, hk, rfl, rfl, rfl, rfl, rfl, hpl, hmi, hbb, hls, oz, hrow, hval, hbel⟩ := hrel
    by_cases hlt : k < n
    · have hx1 := ox.get two_le_B k
      have hy1 := oy.get two_le_B k
      have hwx := word_any A1 n1 c1 xs k wr (hx.below hbel) (by omega) (by omega)
      have hwy := word_any A2 n2 c2 ys k wr (hy.below hbel) (by omega) (by omega)
      have hm1 := multiply_any (nth xs k) p plus hx1 hp hpl wr
      have hm2 := multiply_any (nth ys k) q minus hy1 hq hmi wr
      have hcs := hrow.cell (i := k) (by omega)
      have hfs := hrow.frozen k
      unfold U at hcs
      have hlt' : (k : Int) < (n : Int) := by omega
      have Hv := Lib.hid (And.intro hval (And.intro hls (And.intro hle hR)))
      clear hval hls hx hy hmk hle hR
      go_wp2_with fail
      refine hwx.mono ?_
      rintro e w1 ⟨rfl, rfl⟩
      go_wp2_with fail
      refine hm1.mono ?_
      rintro e w1 ⟨rfl, rfl⟩
      go_wp2_with fail
      refine hwy.mono ?_
      rintro e w1 ⟨rfl, rfl⟩
      go_wp2_with fail
      refine hm2.mono ?_
      rintro e w1 ⟨rfl, rfl⟩
      go_wp2_with (simp only [sub64_run _ _ _ hbb])
      obtain ⟨hval, hls, hle, hR⟩ := Hv.out
      go_roundg (n - (k + 1))
      case measure => omega
      case rel =>
        refine ⟨k + 1, _, _, _, zs.set k (subLo (muLo (nth xs k) p plus) (muLo (nth ys k) q minus) bb), by omega, rfl, by go_num, rfl, rfl, rfl, muHi_lt hx1 hp hpl, muHi_lt hy1 hq hmi, subHi_le _ _ _, by rw [List.length_set]; exact hls, oz.set (subLo_lt _ _ _), hrow.set k _, ?_, hbel.setCell (Nat.le_refl _) _⟩
        rw [val_take_set _ _ _ (by omega), val_take_succ, val_take_succ, Nat.pow_succ]
        exact mult_step _ _ _ _ _ _ _ _ _ _ _ _ _ _ _ _ _ _ hval (mu_eq _ _ _) (mu_eq _ _ _) (sub_eq (muLo_lt _ _ _) (muLo_lt _ _ _) hbb)
    · obtain rfl : k = n := by omega
      have ht := trim_mag (some ⟨w.heap.size, 0, none⟩) k k zs _ (by have := hrow.sl0; rw [hls] at this; exact this) oz (by omega) (by omega)
      have hzlt := val_lt oz
      rw [hls] at hzlt
      rw [List.take_of_length_le (by omega), List.take_of_length_le (by rw [HY.out]; omega), List.take_of_length_le (by rw [HX.out]; omega)] at hval
      have e : val B64 zs = p * val B64 xs - q * val B64 ys := mult_end hzlt hR (plus := plus) (s := bb + minus) (by omega)
      rw [e] at ht
      clear hval hls hzlt e hx hy hmk hle hR
      go_wp2_with (refine ht.mono ?_; rintro e w1 ⟨v, rfl, hm, rfl⟩)
      go_ret
      exact ⟨v, rfl, hm, hbel⟩

theorem multiples_any (v1 v2 : Value) (m o p q : Nat) (w : World) (h1 : MagV w v1 m) (h2 : MagV w v2 o) (b1 : wlen B64 m ≤ maxW) (b2 : wlen B64 o ≤ maxW) (hp : p < B64) (hq : q < B64) (hle : q * o ≤ p * m) (hR : p * m - q * o ≤ max m o) :
    Calls Tryz.prog 161 #[v1, v2, .int .u64 (p : Int), .int .u64 (q : Int)] w fun e w' => ∃ v, e = .returned v ∧ MagV w' v (p * m - q * o) ∧ Below w.heap.size w w' := by
  obtain ⟨A1, c1, rfl, _, s1⟩ := h1.ok_len
  obtain ⟨A2, c2, rfl, _, s2⟩ := h2.ok_len
  have e1 := val_ws two_le_B m
  have e2 := val_ws two_le_B o
  have hmax : max m o < B64 ^ max (wlen B64 m) (wlen B64 o) := by
    rw [← wlen_le_iff two_le_B]
    rcases Nat.le_total m o with h | h
    · rw [Nat.max_eq_right h]; omega
    · rw [Nat.max_eq_left h]; omega
  refine (multiples_core A1 A2 _ _ c1 c2 _ _ _ p q w s1 s2 (ok_ws _) (ok_ws _) rfl (by omega) hp hq (by rw [e1, e2]; exact hle) (by rw [e1, e2]; omega)).mono ?_
  rintro e w' ⟨v, he, hm, hb⟩
  rw [e1, e2] at hm
  exact ⟨v, he, hm, hb⟩

set_option maxRecDepth 100000 in
set_option maxHeartbeats 1000000 in
theorem commonOfWords_any (a b : Nat) (w : World) (ha : a < B64) (hb : b < B64) :
    Calls Tryz.prog 157 #[.int .u64 (a : Int), .int .u64 (b : Int)] w fun e w' => e = .returned (.int .u64 ((Nat.gcd a b : Nat) : Int)) ∧ ∃ d, w' = w.drewN d := by
  obtain ⟨G, hG⟩ : ∃ G, G = Nat.gcd a b := ⟨_, rfl⟩
  rw [← hG]
  have HG := Lib.hid hG.symm
  clear hG
  go_enter Tryz.func157, Tryz.ntmps157
  go_wp2
  go_loopg [0, 1] b (fun g s t wr => ∃ x d : Nat, s = .int .u64 (x : Int) ∧ t = .int .u64 (g : Int) ∧ x < B64 ∧ g < B64 ∧ Nat.gcd x g = G ∧ wr = w.drewN d)
  case atStart => exact ⟨a, 0, rfl, rfl, ha, hb, HG.out, rfl⟩
  case round =>
    obtain ⟨x, d, rfl, rfl, hx, hg, hgcd, rfl⟩ := hrel
    cases gk with
    | zero =>
      rw [Nat.gcd_zero_right] at hgcd
      subst hgcd
      have k0 : ((0 : Int) != 0) = false := by decide
      go_wp2_with fail
      go_ret
      exact ⟨rfl, _, rfl⟩
    | succ j =>
      have k1 : (((j : Int) + 1) != 0) = true := by rw [bne_iff_ne]; omega
      have k2 : ¬ ((j : Int) + 1 = 0) := by omega
      have Hg := Lib.hid hgcd
      clear hgcd
      go_wp2
      go_quiet (fail)
      go_wp2
      have hml := Nat.mod_lt x (show 0 < j + 1 by omega)
      go_roundg (x % (j + 1))
      case measure => omega
      case rel =>
        refine ⟨j + 1, _, by go_num, ?_, hg, by omega, ?_, by rw [World.drewN_drewN]⟩
        · congr 1
        · rw [← Hg.out, Nat.gcd_comm, ← Nat.gcd_rec, Nat.gcd_comm]

end Go.Proofs.YtdkgifkmkghggaaGreatDoor
