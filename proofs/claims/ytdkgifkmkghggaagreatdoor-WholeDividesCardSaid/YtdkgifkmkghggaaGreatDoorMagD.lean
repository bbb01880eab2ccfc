/- Contracts: the product. -/
import Derived.Test.YtdkgifkmkghggaaGreatDoorMagC
import Derived.Test.YtdkgifkmkghggaaGreatDoorShelf
namespace Go.Proofs.YtdkgifkmkghggaaGreatDoor
open Go.RowKit Vd

theorem mul64_any (x y : Nat) (hx : x < B64) (hy : y < B64) (w : World) :
    Calls Tryz.prog 158 #[.int .u64 (x : Int), .int .u64 (y : Int)] w fun e w' => e = .returned (.tuple #[.int .u64 ((mulHi x y : Nat) : Int), .int .u64 ((mulLo x y : Nat) : Int)]) ∧ w = w' := by
  refine (Tryz.bits_Mul64 x y hx hy w).mono ?_
  rintro e w' ⟨he, hw⟩
  exact ⟨he, hw.symm⟩

theorem wrapU {x : Nat} (h : x < B64) : IntKind.u64.wrap (x : Int) = x := by
  rw [IntKind.wrap_u64]; rw [B64_eq] at h; omega
theorem wrapU2 {x y : Nat} (h : x + y < B64) : IntKind.u64.wrap ((x : Int) + (y : Int)) = ((x + y : Nat) : Int) := wrapU h
theorem wrapU3 {x y z : Nat} (h : x + y < B64) (h2 : x + y + z < B64) : IntKind.u64.wrap (IntKind.u64.wrap ((x : Int) + (y : Int)) + (z : Int)) = ((x + y + z : Nat) : Int) := by
  rw [wrapU2 h]; exact wrapU2 h2

/-- the three words of 'addMultiple's round -/
def amLow (s v t c : Nat) : Nat := addLo (addLo (mulLo v t) s 0) c 0
def amHigh (s v t c : Nat) : Nat := mulHi v t + addHi (mulLo v t) s 0 + addHi (addLo (mulLo v t) s 0) c 0
theorem am_eq (s v t c : Nat) : amLow s v t c + B64 * amHigh s v t c = s + t * v + c := by
  unfold amLow amHigh
  have h1 := mul_eq v t
  have h2 := add_eq (mulLo v t) s 0
  have h3 := add_eq (addLo (mulLo v t) s 0) c 0
  rw [Nat.mul_comm t v, Nat.mul_add, Nat.mul_add]
  omega
theorem amHigh_lt {s v t c : Nat} (hs : s < B64) (hv : v < B64) (ht : t < B64) (hc : c < B64) : amHigh s v t c < B64 ∧ mulHi v t + addHi (mulLo v t) s 0 < B64 := by
  have h := am_eq s v t c
  have h1 := mul_eq v t
  have h2 := add_eq (mulLo v t) s 0
  have hp : v * t ≤ (B64 - 1) * (B64 - 1) := Nat.mul_le_mul (by omega) (by omega)
  have he : (B64 - 1) * (B64 - 1) + (B64 - 1) + (B64 - 1) < B64 * B64 := by decide
  rw [Nat.mul_comm t v] at h
  constructor
  · refine Nat.lt_of_mul_lt_mul_left (a := B64) ?_
    omega
  · refine Nat.lt_of_mul_lt_mul_left (a := B64) ?_
    rw [Nat.mul_add]
    omega

set_option maxRecDepth 100000 in
set_option maxHeartbeats 1000000 in
/-- 'addMultiple' adds t times ys to the words mid of block g -/
theorem addMultiple_any (g c : Nat) (A2 : Option Addr) (c2 : Nat) (pre mid post ys : List Nat) (t : Nat) (w : World) (hr : Row w U g 121 (pre ++ (mid ++ post))) (hy : Sl w U A2 mid.length ys) (hfar : ∀ g2 o2, A2 = some ⟨g2, o2, none⟩ → 0 < mid.length → g2 ≠ g) (ox : Ok B64 mid) (oy : Ok B64 ys) (ht : t < B64) (hb : mid.length ≤ maxW) :
    Calls Tryz.prog 145 #[.slice (some ⟨g, pre.length, none⟩) mid.length c, .slice A2 mid.length c2, .int .u64 (t : Int)] w fun e w' =>
      ∃ (zs : List Nat) (cc : Nat), e = .returned (.int .u64 (cc : Int)) ∧ cc < B64 ∧ zs.length = mid.length ∧ Ok B64 zs ∧ Row w' U g 121 (pre ++ (zs ++ post)) ∧ w.grownBy w' (some g) ∧
        val B64 zs + cc * B64 ^ mid.length = val B64 mid + t * val B64 ys := by
  unfold maxW at hb
  have HY := Lib.hid hy.len
  obtain ⟨n, hn⟩ : ∃ n, n = mid.length := ⟨_, rfl⟩
  obtain ⟨p, hp⟩ : ∃ p, p = pre.length := ⟨_, rfl⟩
  rw [← hn] at hy hfar hb ⊢
  rw [← hp]
  have HN := Lib.hid hn
  have HP := Lib.hid hp
  clear hn hp
  go_enter Tryz.func145, Tryz.ntmps145
  go_wp2
  go_loopw [7, 15] (fun c i wr => ∃ (k cc : Nat) (zs : List Nat), k ≤ n ∧ i = .int .i64 k ∧ c = .int .u64 cc ∧ cc < B64 ∧ zs.length = n ∧ Ok B64 zs ∧ Row wr U g 121 (pre ++ (zs ++ post)) ∧ w.grownBy wr (some g) ∧ zs.drop k = mid.drop k ∧
      val B64 (zs.take k) + cc * B64 ^ k = val B64 (mid.take k) + t * val B64 (ys.take k)) (fun _ i _ => n - (intOf i).toNat)
  case atStart => exact ⟨0, 0, mid, Nat.zero_le _, rfl, rfl, by decide, HN.out.symm, ox, hr, World.grownBy.refl _ _, rfl, by simp⟩
  case round =>
    obtain ⟨k, cc, zs, hk, rfl, rfl, hcc, hls, oz, hrow, hg, hdr, hval⟩ := hrel
    by_cases hlt : k < n
    · obtain ⟨g2, o2, rfl, hg2, hcell⟩ := hy.at_ (by omega)
      have hne : g2 ≠ g := hfar _ _ rfl (by omega)
      have hcy := (hy.grown hg (fun _ _ e _ => by injection e with e; injection e with e1 _ _; rw [← e1]; simpa using hne)).at_ (by omega)
      obtain ⟨g3, o3, e3, hg3, hcell3⟩ := hcy
      injection e3 with e3
      injection e3 with e4 e5 _
      subst e4 e5
      have hcy := hcell3 k hlt
      have hcs := hrow.cell (i := p + k) (by rw [HP.out]; simp; omega)
      have hfs := hrow.frozen (p + k)
      rw [HP.out, nth_mid _ _ _ _ (by omega), ← HP.out, nth_of_drop hdr] at hcs
      unfold U at hcy hcs
      have hlt' : (k : Int) < (n : Int) := by omega
      have Hv := Lib.hid hval
      have Hl := Lib.hid hls
      have Hd := Lib.hid hdr
      have hx1 := ox.get two_le_B k
      have hy1 := oy.get two_le_B k
      clear hcell hcell3 hval hls hdr hy hfar hr
      go_wp2_with fail
      refine (mul64_any _ _ hy1 ht wr).mono ?_
      rintro e w1 ⟨rfl, rfl⟩
      go_wp2_with (simp only [add64_run0])
      have hs1 := amHigh_lt hx1 hy1 ht hcc
      have he := am_eq (nth mid k) (nth ys k) t cc
      have hset := hrow.set (p + k) (amLow (nth mid k) (nth ys k) t cc)
      rw [HP.out, set_mid _ _ _ _ _ (by rw [Hl.out]; exact hlt), ← HP.out] at hset
      rw [wrapU3 hs1.2 hs1.1]
      refine ⟨⟨k + 1, amHigh (nth mid k) (nth ys k) t cc, zs.set k (amLow (nth mid k) (nth ys k) t cc), by omega, by go_num, rfl, hs1.1, by rw [List.length_set]; exact Hl.out, oz.set (addLo_lt _ _ _), hset, og_setCell hg _ _, ?_, ?_⟩, by simp [intOf]; omega⟩
      · rw [drop_set_succ]; exact drop_succ_of Hd.out
      · rw [val_take_set _ _ _ (by rw [Hl.out]; exact hlt), val_take_succ, val_take_succ, Nat.pow_succ]
        exact addmul_step _ _ _ _ _ _ _ _ _ _ _ Hv.out he
    · obtain rfl : k = n := by omega
      rw [List.take_of_length_le (by rw [hls]; omega), List.take_of_length_le (by rw [← HN.out]; omega), List.take_of_length_le (by rw [HY.out, ← HN.out]; omega)] at hval
      have Hv := Lib.hid hval
      have Hl := Lib.hid hls
      clear hval hls hdr hr hy hfar
      go_wp2
      go_ret
      exact ⟨zs, cc, rfl, hcc, Hl.out, oz, hrow, hg, Hv.out⟩

end Go.Proofs.YtdkgifkmkghggaaGreatDoor
