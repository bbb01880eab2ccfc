/- Contracts: division by a word; shifting. -/
import Derived.Test.YtdkgifkmkghggaaGreatDoorDivA
namespace Go.Proofs.YtdkgifkmkghggaaGreatDoor
open Go.RowKit Vd

theorem div_spec {hi lo y : Nat} (h : hi < y) (hlo : lo < B64) : hi * B64 + lo = divQ hi lo y * y + divR hi lo y ∧ divR hi lo y < y ∧ divQ hi lo y < B64 := by
  have h0 : 0 < y := by omega
  refine ⟨?_, Nat.mod_lt _ h0, ?_⟩
  · unfold divQ divR
    have h := Nat.div_add_mod (hi * B64 + lo) y
    rw [Nat.mul_comm ((hi * B64 + lo) / y) y]
    exact h.symm
  · unfold divQ
    rw [Nat.div_lt_iff_lt_mul h0]
    have := Nat.mul_le_mul_right B64 (show hi + 1 ≤ y from h)
    rw [Nat.add_mul, Nat.one_mul] at this
    rw [Nat.mul_comm B64 y]
    omega

set_option maxRecDepth 100000 in
set_option maxHeartbeats 1000000 in
theorem divWord_core (A : Option Addr) (n c : Nat) (xs : List Nat) (o : Nat) (w : World) (hx : Sl w U A n xs) (ox : Ok B64 xs) (hn : n ≤ maxW) (ho : 0 < o) (ho2 : o < B64) :
    Calls Tryz.prog 118 #[.slice A n c, .int .u64 (o : Int)] w fun e w' => ∃ v, e = .returned (.tuple #[v, .int .u64 ((val B64 xs % o : Nat) : Int)]) ∧ MagV w' v (val B64 xs / o) ∧ Below w.heap.size w w' := by
  have hn' := hn
  unfold maxW at hn'
  have hmk := fun W => mkU n (by unfold maxW; omega) W
  have HX := Lib.hid hx.len
  go_enter Tryz.func118, Tryz.ntmps118
  go_wp2
  go_loopg [5, 6] n (fun k r i wr => ∃ (rest : Nat) (zs : List Nat), k ≤ n ∧ i = .int .i64 ((k : Int) - 1) ∧ r = .int .u64 (rest : Int) ∧ rest < o ∧ zs.length = n ∧ Ok B64 zs ∧ Row wr U w.heap.size 121 zs ∧
      val B64 (xs.drop k) = val B64 (zs.drop k) * o + rest ∧ Below w.heap.size w wr)
  case atStart => exact ⟨0, List.replicate n 0, Nat.le_refl _, rfl, rfl, ho, by simp, Ok.rep two_le_B _, Row.newRep w U _ _, by rw [List.drop_eq_nil_of_le (by rw [HX.out]; omega), List.drop_eq_nil_of_le (by simp)]; simp, (Below.refl _ _).alloc (Nat.le_refl _) _⟩
  case round =>
    obtain ⟨rest, zs, hk, rfl, rfl, hr, hls, oz, hrow, hval, hbel⟩ := hrel
    cases gk with
    | zero =>
      rw [show (((0 : Nat) : Int) - 1) = -1 from rfl]
      simp only [List.drop_zero] at hval
      have ht := trim_mag (some ⟨w.heap.size, 0, none⟩) n n zs _ (by have := hrow.sl0; rw [hls] at this; exact this) oz (by omega) (by omega)
      have e1 : val B64 zs = val B64 xs / o := by rw [hval, Nat.mul_comm, Nat.mul_add_div ho, Nat.div_eq_of_lt hr]; simp
      have e2 : rest = val B64 xs % o := by rw [hval, Nat.mul_comm, Nat.mul_add_mod]; exact (Nat.mod_eq_of_lt hr).symm
      rw [e1] at ht
      have H2 := Lib.hid e2
      clear hval hls hx e1 e2 hmk
      go_wp2_with (refine ht.mono ?_; rintro e w1 ⟨v, rfl, hm, rfl⟩)
      go_ret2
      exact ⟨v, by rw [← H2.out]; rfl, hm, hbel⟩
    | succ j =>
      rw [show (((j + 1 : Nat) : Int) - 1) = (j : Int) from by omega]
      obtain ⟨g, o2, rfl, hg, hcell⟩ := hx.at_ (by omega)
      have hcx := (hbel.cell (p := ⟨g, o2 + j, none⟩) hg).trans (hcell j (by omega))
      have hcs := hrow.cell (i := j) (by omega)
      have hfs := hrow.frozen j
      unfold U at hcx hcs
      have hj : (j : Int) < (n : Int) := by omega
      have hj0 : (0 : Int) ≤ (j : Int) := by omega
      have hx1 := ox.get two_le_B j
      obtain ⟨d1, d2, d3⟩ := div_spec (y := o) hr hx1
      have Hv := Lib.hid (And.intro hval (And.intro hls d1))
      have hcall := div64_any rest (nth xs j) o wr hr hx1 ho2
      clear hval hls d1 hx hcell hmk
      go_wp2_with (refine hcall.mono ?_; rintro e w1 ⟨rfl, d, rfl⟩)
      go_roundg j
      case measure => omega
      case rel =>
        obtain ⟨hval, hls, d1⟩ := Hv.out
        refine ⟨divR rest (nth xs j) o, zs.set j (divQ rest (nth xs j) o), by omega, rfl, rfl, d2, by rw [List.length_set]; exact hls, oz.set d3, (hrow.drewN _).set j _, ?_, (below_drewN hbel d).setCell (Nat.le_refl _) _⟩
        rw [drop_set_self (by omega), val_cons, val_drop_step (by rw [HX.out]; omega)]
        exact divw_step _ _ _ _ _ _ _ _ hval d1

theorem divWord_any (v : Value) (m o : Nat) (w : World) (h1 : MagV w v m) (b1 : wlen B64 m ≤ maxW) (ho : 0 < o) (ho2 : o < B64) :
    Calls Tryz.prog 118 #[v, .int .u64 (o : Int)] w fun e w' => ∃ v, e = .returned (.tuple #[v, .int .u64 ((m % o : Nat) : Int)]) ∧ MagV w' v (m / o) ∧ Below w.heap.size w w' := by
  obtain ⟨A1, c1, rfl, _, s1⟩ := h1.ok_len
  refine (divWord_core A1 _ c1 _ o w s1 (ok_ws _) b1 ho ho2).mono ?_
  rintro e w' ⟨v, he, hm, hb⟩
  rw [val_ws two_le_B] at hm he
  exact ⟨v, he, hm, hb⟩

end Go.Proofs.YtdkgifkmkghggaaGreatDoor
