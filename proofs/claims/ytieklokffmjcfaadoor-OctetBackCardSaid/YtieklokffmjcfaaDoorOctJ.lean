/- OctetParts. -/
import Derived.Test.YtieklokffmjcfaaDoorOctI
namespace Go.Proofs.YtieklokffmjcfaaDoor
open Go.RowKit Vo
attribute [local go_sem ↓] Go.wp_at_zero Go.wp_at_succ

theorem emod_nat (x n : Nat) : ∃ a : Nat, (x : Int) % ((n : Int) + 1) = (a : Int) ∧ a ≤ n := by
  refine ⟨x % (n + 1), by rw [Int.natCast_emod, Int.natCast_add]; rfl, ?_⟩
  have := Nat.mod_lt x (show 0 < n + 1 by omega)
  omega
theorem partR_in {l : List UInt8} {a n : Int} {i m : Nat} (h : i + m ≤ l.length) (h2 : l.length ≤ 65536) (ha : a = i) (hn : n = m) : partR l a n = (cut l i m, 0) := by
  subst ha hn
  unfold partR
  rw [if_neg (by omega), if_neg (by omega), if_neg (by omega), Int.toNat_natCast, Int.toNat_natCast]
theorem cut_cut (l : List UInt8) {a m b c : Nat} (h : b + c ≤ m) : cut (cut l a m) b c = cut l (a + b) c := by
  unfold cut
  rw [List.drop_take, List.take_take, List.drop_drop, Nat.min_eq_left (by omega)]
theorem numR_in {l : List UInt8} {a : Int} {i size : Nat} (h : i + size ≤ l.length) (h2 : l.length ≤ 65536) (ha : a = i) : numR l a size false = ((num (cut l i size) : Int), 0) := by
  unfold numR
  rw [partR_in h h2 ha rfl, if_pos rfl]
  simp [sgn]
theorem num_two (b c : UInt8) : num [b, c] = b.toNat * 256 + c.toNat := by simp [num]
theorem num_four (b c d e : UInt8) : num [b, c, d, e] = num [b, c] * 65536 + num [d, e] := by
  simp [num]; omega
theorem num_halves {l : List UInt8} (h : 4 ≤ l.length) : num (cut l 0 4) = num (cut l 0 2) * 65536 + num (cut l 2 2) ∧ num (cut l 0 2) < 65536 ∧ num (cut l 2 2) < 65536 := by
  match l, h with
  | b :: c :: d :: e :: r, _ =>
    have h0 := b.toNat_lt
    have h1 := c.toNat_lt
    have h2 := d.toNat_lt
    have h3 := e.toNat_lt
    have e1 : cut (b :: c :: d :: e :: r) 0 4 = [b, c, d, e] := rfl
    have e2 : cut (b :: c :: d :: e :: r) 0 2 = [b, c] := rfl
    have e3 : cut (b :: c :: d :: e :: r) 2 2 = [d, e] := rfl
    rw [e1, e2, e3, num_four, num_two, num_two]
    omega
theorem padR_in {s : List UInt8} {n : Int} (h : s.length ≤ 60000) (h1 : 1 ≤ n) (h2 : n ≤ 64) : ∃ d : Nat, padR s n = (s ++ List.replicate d 0, 0) ∧ ((s.length + d : Nat) : Int) % n = 0 ∧ (d : Int) < n := by
  obtain ⟨q, hq⟩ : ∃ q, ((s.length : Int) + n - 1) / n = q := ⟨_, rfl⟩
  have ha := Int.emod_add_mul_ediv ((s.length : Int) + n - 1) n
  have hb := Int.emod_nonneg ((s.length : Int) + n - 1) (show n ≠ 0 by omega)
  have hc := Int.emod_lt_of_pos ((s.length : Int) + n - 1) (show 0 < n by omega)
  rw [hq, Int.mul_comm] at ha
  obtain ⟨d, hd⟩ : ∃ d : Nat, q * n = ((s.length + d : Nat) : Int) := ⟨(q * n).toNat - s.length, by omega⟩
  refine ⟨d, ?_, ?_, by omega⟩
  · unfold padR
    rw [if_neg (by omega), if_neg (by omega), hq, hd, if_neg (by omega), Int.toNat_natCast, Nat.add_sub_cancel_left]
  · rw [← hd, Int.mul_emod_left]
theorem prefix_append (l m : List UInt8) : Lib.hasPrefix (l ++ m) l = true := by
  simp [Lib.hasPrefix]

set_option maxRecDepth 100000 in
set_option maxHeartbeats 8000000 in
theorem parts_core (l0 : List UInt8) (x y z k : Nat) (w : World) (hx : x < 256) (hy : y < 256) (hz : z < 256) (hk : k < 256) :
    Calls Tryd.prog 5 #[.string (B l0), .int .u8 x, .int .u8 y, .int .u8 z, .int .u8 k] w fun e w' => e = .returned (.bool true) ∧ Below w.heap.size w w' := by
  go_enter Tryd.func5, Tryd.ntmps5
  go_wp2_with fail
  refine (works_any _).mono ?_
  rintro e w1 ⟨rfl, hb1⟩
  go_upto_region 4 with fail
  rw [B_extract]
  obtain ⟨l, hle⟩ : ∃ l, (l0.drop 0).take ((min (l0.length : Int) 300).toNat - 0) = l := ⟨_, rfl⟩
  have hll : l.length ≤ 300 := by rw [← hle, List.length_take]; omega
  rw [hle]
  clear hle
  go_upto_region 5 with fail
  obtain ⟨a, hae, hal⟩ := emod_nat x l.length
  rw [hae]
  clear hae hx
  have hal' : (0 : Int) ≤ (l.length : Int) - (a : Int) := by omega
  go_upto_region 6 with fail
  obtain ⟨j, hj⟩ : ∃ j : Nat, l.length - a = j := ⟨_, rfl⟩
  obtain ⟨m, hme, hml⟩ := emod_nat y j
  rw [show (l.length : Int) - (a : Int) + 1 = (j : Int) + 1 by omega, hme]
  have ham : a + m ≤ l.length := by omega
  obtain ⟨p, hp⟩ : ∃ p, cut l a m = p := ⟨_, rfl⟩
  have hpm : p.length = m := by rw [← hp]; exact cut_length ham
  have c1 := fun W => part_any l a m W
  rw [partR_in ham (by omega) rfl rfl] at c1
  rw [hp] at c1
  have HP := Lib.hid hp
  clear hme hml hj hp hal' hy
  subst hpm
  go_wp2_with fail
  refine (c1 _).mono ?_
  rintro e w' ⟨rfl, rfl⟩
  clear c1
  go_upto_region 10 with fail
  obtain ⟨b, hbe, hbl⟩ := emod_nat z p.length
  rw [hbe]
  clear hbe hz
  obtain ⟨q, hq⟩ : ∃ q, cut p b (p.length - b) = q := ⟨_, rfl⟩
  have c2 := fun W => part_any p b ((p.length : Int) - (b : Int)) W
  have c3 := fun W => part_any l ((a : Int) + (b : Int)) ((p.length : Int) - (b : Int)) W
  rw [partR_in (i := b) (m := p.length - b) (by omega) (by omega) rfl (by omega), hq] at c2
  rw [partR_in (i := a + b) (m := p.length - b) (by omega) (by omega) (by omega) (by omega), ← cut_cut l (m := p.length) (by omega), HP.out, hq] at c3
  clear hq
  go_wp2_with fail
  refine (c2 _).mono ?_
  rintro e w' ⟨rfl, rfl⟩
  clear c2
  go_wp2_with fail
  refine (is_any (B q) _).mono ?_
  rintro e w2 ⟨r, rfl, hc, hb2⟩
  have hb2 := below_more hb1 hb2
  clear hb1
  go_wp2_with fail
  refine (c3 _).mono ?_
  rintro e w' ⟨rfl, rfl⟩
  clear c3
  go_wp2_with fail
  refine (is_fn _ _ _ hc).mono ?_
  clear hc
  rintro e w' ⟨rfl, rfl⟩
  by_cases h4 : 4 ≤ p.length
  · obtain ⟨hn, hi, lo⟩ := num_halves h4
    have u1 := fun W => u16_any p 0 W
    have u2 := fun W => u16_any p 2 W
    have u3 := fun W => u32_any p 0 W
    rw [numR_in (i := 0) (by omega) (by omega) (by rfl)] at u1 u3
    rw [numR_in (i := 2) (by omega) (by omega) (by rfl)] at u2
    rw [hn] at u3
    obtain ⟨H, hH⟩ : ∃ H, num (cut p 0 2) = H := ⟨_, rfl⟩
    obtain ⟨L, hL⟩ : ∃ L, num (cut p 2 2) = L := ⟨_, rfl⟩
    rw [hH] at u1 u3 hi
    rw [hL] at u2 u3 lo
    rw [show ((H * 65536 + L : Nat) : Int) = (H : Int) * 65536 + (L : Int) by omega] at u3
    clear hn hH hL
    go_wp2_with fail
    refine (u1 _).mono ?_
    rintro e w3 ⟨rfl, hb3⟩
    go_wp2_with fail
    refine (u2 _).mono ?_
    rintro e w4 ⟨rfl, hb4⟩
    go_wp2_with fail
    refine (says_any _ _).mono ?_
    rintro e w5 ⟨r, rfl, hc, hb5⟩
    have hb6 := below_more (below_more (below_more hb2 hb3) hb4) hb5
    clear hb2 hb3 hb4 hb5
    go_wp2_with fail
    refine (ostep hb6 hc (u3 _)).mono ?_
    clear hc hb6
    rintro e w6 ⟨rfl, hc, hb7⟩
    go_wp2_with fail
    refine (says_fn _ _ _ hc).mono ?_
    clear hc
    rintro e w' ⟨rfl, rfl⟩
    clear u1 u2 u3 hi lo
    go_upto_region 19 with fail
    obtain ⟨sz, hsz⟩ : ∃ sz : Int, 1 + (k : Int) % 64 = sz := ⟨_, rfl⟩
    have s1 : 1 ≤ sz := by omega
    have s2 : sz ≤ 64 := by omega
    rw [hsz]
    obtain ⟨d, hpd, hmod, hdl⟩ := padR_in (s := l) (n := sz) (by omega) s1 s2
    have c4 := fun W => pad_any l sz W (by omega) (by omega) (by omega)
    rw [hpd] at c4
    obtain ⟨t, ht⟩ : ∃ t, l ++ List.replicate d 0 = t := ⟨_, rfl⟩
    have htl : t.length = l.length + d := by rw [← ht, List.length_append, List.length_replicate]
    have c5 : ∀ W, Calls Tryd.prog 31 #[.string (B t), .string (B l)] W fun e w' => e = .returned (.bool true) ∧ w' = W := fun W => by
      have h := Tryd.strings_HasPrefix (B t) (B l) W
      rw [B_data, B_data, ← ht, prefix_append] at h
      rw [← ht]
      exact h
    have hex : (B t).extract l.length t.length = B (List.replicate d 0) := by
      rw [B_extract, ← ht, List.drop_left, List.take_of_length_le (by simp)]
    have c6 : ∀ W, Calls Tryd.prog 26 #[.string ((B t).extract l.length t.length), .string ⟨#[0]⟩] W fun e w' => e = .returned (.string (B [])) ∧ Below W.heap.size W w' := fun W => by
      have h := trim_zero (List.replicate d 0) W (by rw [List.length_replicate]; omega)
      rw [trim_all _ (by rw [List.all_eq_true]; intro x hx; rw [(List.mem_replicate.1 hx).2]; rfl)] at h
      rw [hex]
      exact h
    rw [ht] at c4
    have hm2 : (t.length : Int) % sz = 0 := by rw [htl]; exact hmod
    have b1 : (t.length : Int) < (l.length : Int) + sz := by omega
    have b2 : l.length ≤ t.length := by omega
    have b3 : t.length ≤ 1000 := by omega
    have b4 : ¬ sz = 0 := by omega
    clear hex htl ht hpd hmod hdl hsz
    go_wp2_with fail
    refine (c4 _).mono ?_
    rintro e w7 ⟨rfl, hb8⟩
    have hb9 := below_more hb7 hb8
    clear hb7 hb8
    go_wp2_with fail
    refine (c5 _).mono ?_
    rintro e w' ⟨rfl, rfl⟩
    go_wp2_with fail
    refine (c6 _).mono ?_
    rintro e w8 ⟨rfl, hb10⟩
    go_wp2_with fail
    go_ret
    exact ⟨rfl, below_more hb9 hb10⟩
  · have hb7 := hb2
    clear hb2
    go_upto_region 19 with fail
    obtain ⟨sz, hsz⟩ : ∃ sz : Int, 1 + (k : Int) % 64 = sz := ⟨_, rfl⟩
    have s1 : 1 ≤ sz := by omega
    have s2 : sz ≤ 64 := by omega
    rw [hsz]
    obtain ⟨d, hpd, hmod, hdl⟩ := padR_in (s := l) (n := sz) (by omega) s1 s2
    have c4 := fun W => pad_any l sz W (by omega) (by omega) (by omega)
    rw [hpd] at c4
    obtain ⟨t, ht⟩ : ∃ t, l ++ List.replicate d 0 = t := ⟨_, rfl⟩
    have htl : t.length = l.length + d := by rw [← ht, List.length_append, List.length_replicate]
    have c5 : ∀ W, Calls Tryd.prog 31 #[.string (B t), .string (B l)] W fun e w' => e = .returned (.bool true) ∧ w' = W := fun W => by
      have h := Tryd.strings_HasPrefix (B t) (B l) W
      rw [B_data, B_data, ← ht, prefix_append] at h
      rw [← ht]
      exact h
    have hex : (B t).extract l.length t.length = B (List.replicate d 0) := by
      rw [B_extract, ← ht, List.drop_left, List.take_of_length_le (by simp)]
    have c6 : ∀ W, Calls Tryd.prog 26 #[.string ((B t).extract l.length t.length), .string ⟨#[0]⟩] W fun e w' => e = .returned (.string (B [])) ∧ Below W.heap.size W w' := fun W => by
      have h := trim_zero (List.replicate d 0) W (by rw [List.length_replicate]; omega)
      rw [trim_all _ (by rw [List.all_eq_true]; intro x hx; rw [(List.mem_replicate.1 hx).2]; rfl)] at h
      rw [hex]
      exact h
    rw [ht] at c4
    have hm2 : (t.length : Int) % sz = 0 := by rw [htl]; exact hmod
    have b1 : (t.length : Int) < (l.length : Int) + sz := by omega
    have b2 : l.length ≤ t.length := by omega
    have b3 : t.length ≤ 1000 := by omega
    have b4 : ¬ sz = 0 := by omega
    clear hex htl ht hpd hmod hdl hsz
    go_wp2_with fail
    refine (c4 _).mono ?_
    rintro e w7 ⟨rfl, hb8⟩
    have hb9 := below_more hb7 hb8
    clear hb7 hb8
    go_wp2_with fail
    refine (c5 _).mono ?_
    rintro e w' ⟨rfl, rfl⟩
    go_wp2_with fail
    refine (c6 _).mono ?_
    rintro e w8 ⟨rfl, hb10⟩
    go_wp2_with fail
    go_ret
    exact ⟨rfl, below_more hb9 hb10⟩
end Go.Proofs.YtieklokffmjcfaaDoor
