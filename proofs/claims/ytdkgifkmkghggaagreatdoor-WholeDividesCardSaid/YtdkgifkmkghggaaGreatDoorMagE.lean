/- Contracts: the product of magnitudes. -/
import Derived.Test.YtdkgifkmkghggaaGreatDoorMagD
namespace Go.Proofs.YtdkgifkmkghggaaGreatDoor
open Go.RowKit Vd

theorem below_of_grown {w w' : World} {g : Nat} (h : w.grownBy w' (some g)) (hg : w.heap.size ≤ g) : Below w.heap.size w w' :=
  (Below.refl _ _).grown h (Nat.le_refl _) (fun k hk => by injection hk with hk; omega)
theorem below_grown_tr {w w1 w2 : World} {g : Nat} (h : Below w.heap.size w w1) (k : w1.grownBy w2 (some g)) (hg : w.heap.size ≤ g) : Below w.heap.size w w2 :=
  h.grown k h.size (fun j hj => by injection hj with hj; omega)

set_option maxRecDepth 100000 in
set_option maxHeartbeats 1000000 in
theorem product_core (A1 A2 : Option Addr) (n1 n2 c1 c2 : Nat) (xs ys : List Nat) (w : World) (hx : Sl w U A1 n1 xs) (hy : Sl w U A2 n2 ys) (ox : Ok B64 xs) (oy : Ok B64 ys) (hn1 : n1 ≤ maxW) (hn2 : n2 ≤ maxW) :
    Calls Tryz.prog 128 #[.slice A1 n1 c1, .slice A2 n2 c2] w fun e w' => ∃ v, e = .returned v ∧ MagV w' v (val B64 xs * val B64 ys) ∧ Below w.heap.size w w' := by
  have hn1' := hn1
  have hn2' := hn2
  unfold maxW at hn1' hn2'
  have hmk := fun W => mkU (n1 + n2) (by unfold maxW; omega) W
  rw [show (((n1 + n2 : Nat)) : Int) = (n1 : Int) + (n2 : Int) from rfl] at hmk
  have HX := Lib.hid hx.len
  have HY := Lib.hid hy.len
  go_enter Tryz.func128, Tryz.ntmps128
  go_wp2
  go_loopw [16] (fun i wr => ∃ (k : Nat) (ss : List Nat), k ≤ n1 ∧ i = .int .i64 k ∧ ss.length = k + n2 ∧ Ok B64 ss ∧ Row wr U w.heap.size 121 (ss ++ List.replicate (n1 - k) 0) ∧
      val B64 ss = val B64 (xs.take k) * val B64 ys ∧ Below w.heap.size w wr) (fun i _ => n1 - (intOf i).toNat)
  case atStart =>
    refine ⟨0, List.replicate n2 0, Nat.zero_le _, rfl, by simp, Ok.rep two_le_B _, ?_, by simp [val_replicate], (Below.refl _ _).alloc (Nat.le_refl _) _⟩
    have := Row.newRep w U 121 (n1 + n2)
    rw [List.replicate_append_replicate, Nat.sub_zero, Nat.add_comm n2]
    exact this
  case round =>
    obtain ⟨k, ss, hk, rfl, hls, oss, hrow, hval, hbel⟩ := hrel
    by_cases hlt : k < n1
    · obtain ⟨g, o, rfl, hg, hcell⟩ := hx.at_ (by omega)
      have hcx := (hbel.cell (p := ⟨g, o + k, none⟩) hg).trans (hcell k hlt)
      obtain ⟨pre, mid, rfl, hp, hm⟩ : ∃ pre mid, ss = pre ++ mid ∧ pre.length = k ∧ mid.length = n2 :=
        ⟨ss.take k, ss.drop k, (List.take_append_drop _ _).symm, by rw [List.length_take]; omega, by rw [List.length_drop]; omega⟩
      have om : Ok B64 mid := fun x hx => oss x (List.mem_append_right _ hx)
      have op : Ok B64 pre := fun x hx => oss x (List.mem_append_left _ hx)
      have hx1 := ox.get two_le_B k
      have hyr := hy.below hbel
      rw [List.append_assoc] at hrow
      have hcall := addMultiple_any w.heap.size (n1 + n2 - k) A2 c2 pre mid (List.replicate (n1 - k) 0) ys (nth xs k) wr hrow (by rw [hm]; exact hyr) (fun g2 o2 e hpos => by
        obtain ⟨g3, o3, e3, h3, _⟩ := hy.at_ (by omega)
        rw [e3] at e; injection e with e; injection e with e; omega) om oy hx1 (by omega)
      rw [hp, hm] at hcall
      have hlt' : (k : Int) < (n1 : Int) := by omega
      unfold U at hcx
      have Hv := Lib.hid hval
      have Hl := Lib.hid hls
      have Hp := Lib.hid hp
      have Hm := Lib.hid hm
      clear hcell hval hls hp hm hx hy hmk
      go_wp2_with fail
      refine hcall.mono ?_
      rintro e w1 ⟨zs, cc, rfl, hcc, hlz, oz, hrow1, hg1, hval1⟩
      have hcs := hrow1.cell (i := k + n2) (by simp; rw [Hp.out, hlz]; omega)
      have hfs := hrow1.frozen (k + n2)
      unfold U at hcs
      have hset := hrow1.set (k + n2) cc
      have Hz := Lib.hid hlz
      have Hw := Lib.hid hval1
      clear hlz hval1 hcall
      go_wp2_with fail
      have e1 : (pre ++ (zs ++ List.replicate (n1 - k) 0)).set (k + n2) cc = (pre ++ zs ++ [cc]) ++ List.replicate (n1 - (k + 1)) 0 := by
        rw [show n1 - k = (n1 - (k + 1)) + 1 by omega, List.replicate_succ, ← List.append_assoc]
        rw [List.set_append_right _ _ (by rw [List.length_append, Hp.out, Hz.out]; omega), List.length_append, Hp.out, Hz.out, Nat.sub_self]
        simp
      rw [e1] at hset
      refine ⟨⟨k + 1, pre ++ zs ++ [cc], by omega, by go_num, by simp; rw [Hp.out, Hz.out]; omega, (op.app oz).app (Ok.cons hcc Ok.nil), hset, ?_, (below_grown_tr hbel (og_setCell hg1 _ _) (Nat.le_refl _))⟩, by simp [intOf]; omega⟩
      rw [List.append_assoc, val_append, val_append, Hp.out, Hz.out, val_take_succ, Nat.add_mul, ← Hv.out, val_append, Hp.out, val_cons, val_nil]
      have h2 := Hw.out
      clear Hw Hv
      grind
    · obtain rfl : k = n1 := by omega
      rw [Nat.sub_self, List.replicate_zero, List.append_nil] at hrow
      have ht := trim_mag (some ⟨w.heap.size, 0, none⟩) (k + n2) (k + n2) ss _ (by have := hrow.sl0; rw [hls] at this; exact this) oss (by omega) (by omega)
      rw [hval, List.take_of_length_le (by rw [HX.out]; omega)] at ht
      clear hls hval hx hy hrow
      go_wp2_with (refine ht.mono ?_; rintro e w1 ⟨v, rfl, hm, rfl⟩)
      go_ret
      exact ⟨v, rfl, hm, hbel⟩

theorem product_any (v1 v2 : Value) (m o : Nat) (w : World) (h1 : MagV w v1 m) (h2 : MagV w v2 o) (b1 : wlen B64 m ≤ maxW) (b2 : wlen B64 o ≤ maxW) :
    Calls Tryz.prog 128 #[v1, v2] w fun e w' => ∃ v, e = .returned v ∧ MagV w' v (m * o) ∧ Below w.heap.size w w' := by
  obtain ⟨A1, c1, rfl, _, s1⟩ := h1.ok_len
  obtain ⟨A2, c2, rfl, _, s2⟩ := h2.ok_len
  refine (product_core A1 A2 _ _ c1 c2 _ _ w s1 s2 (ok_ws _) (ok_ws _) b1 b2).mono ?_
  rintro e w' ⟨v, he, hm, hb⟩
  rw [val_ws two_le_B, val_ws two_le_B] at hm
  exact ⟨v, he, hm, hb⟩

end Go.Proofs.YtdkgifkmkghggaaGreatDoor
