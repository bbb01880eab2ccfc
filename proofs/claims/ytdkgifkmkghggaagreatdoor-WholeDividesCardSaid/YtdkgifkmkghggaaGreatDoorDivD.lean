/- Contract: takeMultiples. -/
import Derived.Test.YtdkgifkmkghggaaGreatDoorDivC
namespace Go.Proofs.YtdkgifkmkghggaaGreatDoor
open Go.RowKit Vd

theorem qAddE {P : Program} {f : FuncId} {args : Array Value} {w : World} {a n : Nat} {v : Value} (h : Calls P f args (w.drewN (a + n)) fun e w' => e = .returned v ∧ ∃ d, w' = (w.drewN (a + n)).drewN d) :
    Calls P f args (w.drewN (a + n)) fun e w'' => e = .returned v ∧ ∃ m, w'' = w.drewN (a + m) :=
  h.mono fun _ _ ⟨he, d, hm⟩ => ⟨he, n + d, by rw [hm, World.drewN_drewN, Nat.add_assoc]⟩
theorem qOneE {P : Program} {f : FuncId} {args : Array Value} {w : World} {n : Nat} {v : Value} (h : Calls P f args (w.drewN n) fun e w' => e = .returned v ∧ ∃ d, w' = (w.drewN n).drewN d) :
    Calls P f args (w.drewN n) fun e w'' => e = .returned v ∧ ∃ m, w'' = w.drewN m :=
  h.mono fun _ _ ⟨he, d, hm⟩ => ⟨he, n + d, by rw [hm, World.drewN_drewN]⟩

/-- what holds in 'takeMultiples' while too much was taken, and when no longer -/
def TM (X Y q : Nat) (M t : Nat) (zs : List Nat) (b : Value) : Prop :=
  q ≤ t ∧ ((b = .bool true ∧ val B64 zs + t * Y = X + M) ∨ (b = .bool false ∧ val B64 zs + t * Y = X))

theorem tm_start {X Y q M t bb : Nat} {zs : List Nat} (hq : q ≤ t) (hbb : bb ≤ 1) (h : val B64 zs + t * Y = X + bb * M) : TM X Y q M t zs (.bool ((bb : Int) == 1)) := by
  refine ⟨hq, ?_⟩
  rcases (show bb = 0 ∨ bb = 1 by omega) with rfl | rfl
  · right; exact ⟨rfl, by simpa using h⟩
  · left; exact ⟨rfl, by simpa using h⟩
theorem tm_step {X Y M t bb : Nat} {zs zs' : List Nat} (hq : X / Y ≤ t) (hz : val B64 zs < M) (hY : 0 < Y) (h : val B64 zs + t * Y = X + M) (hbb : bb ≤ 1) (h2 : val B64 zs' + bb * M = val B64 zs + Y) :
    0 < t ∧ TM X Y (X / Y) M (t - 1) zs' (.bool (!((bb : Int) == 1))) := by
  have h3 : X < t * Y := by omega
  have h4 : X / Y < t := (Nat.div_lt_iff_lt_mul hY).2 h3
  have h5 := Nat.zero_le (X / Y)
  refine ⟨by omega, by omega, ?_⟩
  obtain ⟨s, rfl⟩ : ∃ s, t = s + 1 := ⟨t - 1, by omega⟩
  rw [Nat.add_sub_cancel]
  rw [Nat.add_mul, Nat.one_mul] at h
  rcases (show bb = 0 ∨ bb = 1 by omega) with rfl | rfl
  · left; exact ⟨rfl, by omega⟩
  · right; exact ⟨rfl, by omega⟩
theorem tm_end {X Y t : Nat} {zs : List Nat} (hY : 0 < Y) (hq : X / Y ≤ t) (h : val B64 zs + t * Y = X) : t = X / Y ∧ val B64 zs = X % Y := by
  have h1 : t ≤ X / Y := (Nat.le_div_iff_mul_le hY).2 (by omega)
  have e : t = X / Y := by omega
  refine ⟨e, ?_⟩
  have := Nat.div_add_mod X Y
  rw [← e, Nat.mul_comm] at this
  omega

set_option maxRecDepth 100000 in
set_option maxHeartbeats 1000000 in
theorem takeMultiples_any (g c : Nat) (A2 : Option Addr) (c2 m : Nat) (pre L post ys : List Nat) (w : World) (hr : Row w U g 121 (pre ++ (L ++ post))) (hy : Sl w U A2 (m + 1) ys) (hfar : ∀ g2 o2, A2 = some ⟨g2, o2, none⟩ → 0 < m + 1 → g2 ≠ g) (hL : L.length = m + 2) (ox : Ok B64 L) (oy : Ok B64 ys) (hb : m + 1 ≤ maxW) (htop : 0 < nth ys m) (hlt : val B64 L < val B64 ys * B64) :
    Calls Tryz.prog 121 #[.slice (some ⟨g, pre.length, none⟩) (m + 2) c, .slice A2 (m + 1) c2] w fun e w' =>
      ∃ (zs : List Nat), e = .returned (.int .u64 ((val B64 L / val B64 ys : Nat) : Int)) ∧ zs.length = m + 2 ∧ Ok B64 zs ∧ Row w' U g 121 (pre ++ (zs ++ post)) ∧ w.grownBy w' (some g) ∧ val B64 zs = val B64 L % val B64 ys := by
  have hb' := hb
  unfold maxW at hb
  -- the numbers
  obtain ⟨X, hX⟩ : ∃ X, X = val B64 L := ⟨_, rfl⟩
  obtain ⟨Y, hY⟩ : ∃ Y, Y = val B64 ys := ⟨_, rfl⟩
  have HYL := Lib.hid hy.len
  have eY : Y = val B64 (ys.take m) + nth ys m * B64 ^ m := by
    rw [hY]
    have := val_take_succ (b := B64) ys m
    rw [List.take_of_length_le (by rw [HYL.out]; omega)] at this
    exact this
  have Ypos : 0 < Y := by
    have : 0 < nth ys m * B64 ^ m := Nat.mul_pos htop (Nat.pow_pos (by decide))
    omega
  have hQ : X / Y < B64 := by rw [Nat.div_lt_iff_lt_mul Ypos, Nat.mul_comm, hX, hY]; exact hlt
  rw [← hX, ← hY]
  -- the first guess
  have hx1 := ox.get two_le_B (m + 1)
  have hx2 := ox.get two_le_B m
  have hy1 := oy.get two_le_B m
  have hguess : nth L (m + 1) < nth ys m → X / Y ≤ divQ (nth L (m + 1)) (nth L m) (nth ys m) := by
    intro _
    have eX : X = val B64 (L.take m) + (nth L (m + 1) * B64 + nth L m) * B64 ^ m := by
      rw [hX]
      have h1 := val_take_succ (b := B64) L (m + 1)
      rw [List.take_of_length_le (by omega), val_take_succ, Nat.pow_succ] at h1
      rw [h1, Nat.add_mul, Nat.mul_assoc, Nat.mul_comm B64 (B64 ^ m)]
      omega
    have hlow := val_lt (ox.take m)
    rw [List.length_take, Nat.min_eq_left (by omega)] at hlow
    exact qhat_ge (P := B64 ^ m) (by rw [eX, Nat.add_mul (_ + _) 1, Nat.one_mul]; omega) (by omega) htop
  have HP0 := Lib.hid (And.intro hX (And.intro hY (And.intro hL Ypos)))
  obtain ⟨p, hp⟩ : ∃ p, p = pre.length := ⟨_, rfl⟩
  have hc1 := hr.cell (i := p + (m + 1)) (by rw [hp]; simp; omega)
  have hc0 := hr.cell (i := p + m) (by rw [hp]; simp; omega)
  rw [hp, nth_mid _ _ _ _ (by omega), ← hp] at hc1 hc0
  obtain ⟨g2, o2, rfl, hg2, hcy'⟩ := hy.at_ (by omega)
  have hcy := hcy' m (by omega)
  clear hcy'
  unfold U at hc1 hc0 hcy
  have hc1b := hc1
  rw [← Nat.add_assoc] at hc1b
  clear eY hX hY hL
  rw [← hp]
  -- 'takeMultiple' and 'putBack' as they are called
  have htm : ∀ (t : Nat) (W : World), t < B64 → Row W U g 121 (pre ++ (L ++ post)) → (∃ d, W = w.drewN d) → _ := fun t W ht hrow hd => takeMultiple_any g c (some ⟨g2, o2, none⟩) c2 (m + 1) pre L post ys t W hrow (by obtain ⟨d, rfl⟩ := hd; exact hy.drewN d) hfar HP0.out.2.2.1 ox oy ht hb'
  rw [← hp] at htm
  have HP := Lib.hid hp
  clear hp
  have i1 : (0 : Int) ≤ (m : Int) + 1 := by omega
  have i2 : (m : Int) + 1 < (m : Int) + 2 := by omega
  have i3 : ((m : Int) + 1).toNat = m + 1 := by omega
  have i4 : IntKind.i64.wrap (m : Int) = (m : Int) := by rw [IntKind.wrap_i64]; omega
  have i5 : (m : Int) < (m : Int) + 1 := by omega
  have i6 : (m : Int) < (m : Int) + 2 := by omega
  go_enter Tryz.func121, Tryz.ntmps121
  go_upto_region 3 with fail
  go_quiet (fail)
  go_upto_if 19 with fail
  go_cut [6] (fun s wx => ∃ (t d : Nat), s = .int .u64 (t : Int) ∧ X / Y ≤ t ∧ t < B64 ∧ wx = w.drewN d)
  case first =>
    by_cases hcmp : nth L (m + 1) < nth ys m
    · have hcmp' : decide ((nth L (m + 1) : Int) < (nth ys m : Int)) = true := by simp; omega
      have hd64 := fun W => div64_any (nth L (m + 1)) (nth L m) (nth ys m) W hcmp hx2 hy1
      have hg := hguess hcmp
      have hd := (div_spec hcmp hx2).2.2
      go_wp2
      go_quiet ((go_at_call 141; exact qAddE (hd64 _)))
      go_wp2_with fail
      go_meet
      exact ⟨_, _, rfl, hg, hd, by rw [World.drewN_drewN]⟩
    · have hcmp' : decide ((nth L (m + 1) : Int) < (nth ys m : Int)) = false := by simp; omega
      go_wp2_with fail
      go_meet
      exact ⟨18446744073709551615, _, rfl, by rw [B64_eq] at hQ; omega, by decide, rfl⟩
  case rest =>
    obtain ⟨t0, d, rfl, hq0, ht0, rfl⟩ := hcut
    obtain ⟨hXe, hYe, hLl, hYp⟩ := HP0.out
    have hcall := htm t0 (w.drewN d) ht0 (hr.drewN d) ⟨d, rfl⟩
    rw [← hXe, ← hYe] at hcall
    clear hXe hYe hLl i3 i4 hcy hc1 hc0 hc1b htm hguess
    go_wp2_with fail
    refine hcall.mono ?_
    rintro e w1 ⟨zs, bb, rfl, hbb, hzl, oz, hrow, hg, hval⟩
    have hst := tm_start hq0 hbb hval
    have hg' : w.grownBy w1 (some g) := ⟨hg.os, hg.tape, hg.output, hg.size, hg.block⟩
    have HZ := Lib.hid hzl
    clear hzl hval hcall
    go_wp2_with fail
    go_loopg [6, 7] t0 (fun t a b wr => ∃ zs : List Nat, a = .int .u64 (t : Int) ∧ t < B64 ∧ TM X Y (X / Y) (B64 ^ (m + 2)) t zs b ∧ zs.length = m + 2 ∧ Ok B64 zs ∧ Row wr U g 121 (pre ++ (zs ++ post)) ∧ w.grownBy wr (some g))
    case atStart => exact ⟨zs, rfl, ht0, hst, HZ.out, oz, hrow, hg'⟩
    case round =>
      clear hrow hg hg' hst oz HZ hr zs
      obtain ⟨zs, rfl, htb, ⟨hqt, htm⟩, hzl, oz, hrow, hg⟩ := hrel
      rcases htm with ⟨rfl, hv⟩ | ⟨rfl, hv⟩
      · have hpb := putBack_any g c (some ⟨g2, o2, none⟩) c2 (m + 1) pre zs post ys wr hrow (hy.grown hg (fun g3 o3 e3 h3 e4 => by injection e4 with e4; exact hfar g3 o3 e3 h3 e4)) hfar hzl oz oy hb'
        rw [← HP.out] at hpb
        have hzlt := val_lt oz
        rw [hzl] at hzlt
        have hYp' : 0 < Y := hYp
        have hpos : 0 < gk := by
          rcases Nat.eq_zero_or_pos gk with h0 | h0
          · rw [h0] at hv; omega
          · exact h0
        have t1 : (1 : Int) ≤ (gk : Int) := by omega
        have t2 : (gk : Int) ≤ 18446744073709551615 := by rw [B64_eq] at htb; omega
        have Hv := Lib.hid (And.intro hv hzlt)
        clear hv hzlt hzl hy hfar
        go_wp2_with fail
        refine hpb.mono ?_
        rintro e w2 ⟨zs', bb', rfl, hbb', hzl', oz', hrow', hg2, hval'⟩
        have hst := tm_step hqt Hv.out.2 hYp Hv.out.1 hbb' (by rw [hval']; have := HP0.out.2.1; omega)
        have hg3 : w.grownBy w2 (some g) := ⟨hg2.os.trans hg.os, hg2.tape.trans hg.tape, hg2.output.trans hg.output, Nat.le_trans hg.size hg2.size, fun k hk hne => (hg2.block k (Nat.lt_of_lt_of_le hk hg.size) hne).trans (hg.block k hk hne)⟩
        have HZ := Lib.hid hzl'
        clear hzl' hval' hpb
        go_wp2_with fail
        go_roundg (gk - 1)
        case measure => omega
        case rel =>
          refine ⟨zs', ?_, by omega, hst.2, HZ.out, oz', hrow', hg3⟩
          congr 1
          omega
      · obtain ⟨rfl, e2⟩ := tm_end hYp hqt hv
        have HZ := Lib.hid (And.intro hzl e2)
        clear hzl e2 hv hy hfar
        go_wp2_with fail
        go_ret
        exact ⟨zs, rfl, HZ.out.1, oz, hrow, hg, HZ.out.2⟩

end Go.Proofs.YtdkgifkmkghggaaGreatDoor
