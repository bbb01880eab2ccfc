/- Contracts: reading texts. -/
import Derived.Test.YtdkgifkmkghggaaGreatDoorGcdE
import Derived.Test.YtdkgifkmkghggaaGreatDoorText
import Derived.ArgAppend
namespace Go.Proofs.YtdkgifkmkghggaaGreatDoor
open Go.RowKit Vd

/-- 'append' of one cell where there is room -/
theorem wpList_append_in {P : Program} (w : World) {ops : Array Oper} {rest : List Oper} {o : Oper} {a : Act} {Q : Exit → Act → World → Prop}
    (hg : o.guard = none) (s x : Operand) (t : TypeId) (hop : o.op = Op.call { callee := Callee.builtin Builtin.append, args := #[s, x], argTypes := #[t, t] })
    (e : TypeId) (z : Value) (bytes : Nat) (h1 : P.underlying t = some (.slice e)) (hinfo : (P.info? e).map (fun i => (i.zero, i.size, i.bytes)) = some (some z, 1, bytes))
    (g k cap : Nat) (hs : a.eval s = .slice (some ⟨g, 0, none⟩) k cap) (ad : Addr) (c : Nat) (u : Value) (hx : a.eval x = .slice (some ad) 1 c)
    (hc : w.cell? ad = some u) (h1c : u.oneCell' = true) (hroom : k + 1 ≤ cap) (hcell : (w.cell? ⟨g, k, none⟩).isSome = true) (hfr : w.frozen? ⟨g, k, none⟩ = false)
    (hK : wpList P ops Q rest (a.put o.dst (.slice (some ⟨g, 0, none⟩) (k + 1) cap)) (w.setCell ⟨g, k, none⟩ u)) :
    wpList P ops Q (o :: rest) a w := by
  obtain ⟨i, hi, hzz⟩ := Option.map_eq_some_iff.1 hinfo
  simp only [Prod.mk.injEq] at hzz
  obtain ⟨_, hs1, _⟩ := hzz
  refine wpList_plain hg fun K hK' => ?_
  have hrun := run_append_room_cells (P := P) w t o.type e i h1 hi g 0 k cap ad 1 c [u] (by rw [hs1]; rfl)
    (by intro j v hj; cases j with
      | zero => simp at hj; subst hj; simpa [Addr.add] using hc
      | succ j => simp at hj)
    (by intro v hv; simp at hv; subst hv; exact h1c) hroom
    (by intro j hj; simp at hj; subst hj; simpa [hs1] using hcell)
    (by intro j hj; simp at hj; subst hj; simpa [hs1] using hfr)
  unfold Oper.wp
  simp [execOp, hop, resolve, invoke, builtin, hs, hx, hrun, Result.andThen, World.setCells, hs1]
  exact hK' _ _ hK

/-- the words of a number with one more group behind it -/
theorem group_ws {M n c G c0 : Nat} {zs : List Nat} (hl : zs.length = n) (hz : Ok B64 zs) (hn : wlen B64 M = n) (hc : c < B64) (hv : val B64 zs + B64 ^ n * c = M * G + c0) (hG : 1 ≤ G) :
    (c = 0 → zs = ws B64 (M * G + c0) ∧ wlen B64 (M * G + c0) = n) ∧ (c ≠ 0 → zs ++ [c] = ws B64 (M * G + c0) ∧ wlen B64 (M * G + c0) = n + 1) := by
  have hzl := val_lt hz
  rw [hl] at hzl
  constructor
  · intro h
    subst h
    rw [Nat.mul_zero, Nat.add_zero] at hv
    have hlen : wlen B64 (M * G + c0) = n := by
      apply Nat.le_antisymm
      · rw [wlen_le_iff two_le_B, ← hv]; exact hzl
      · rw [← hn]
        apply wlen_mono two_le_B
        have := Nat.mul_le_mul_left M hG
        omega
    have hw := ws_of_pad two_le_B hz hv (k := n) (by omega) (fun j hj => nth_ge (by omega)) (fun x hp hx => by
      intro hx0
      subst hx0
      have h1 : B64 ^ (n - 1) ≤ val B64 zs := by
        rw [hv]; exact pow_le_of_lt_wlen two_le_B (by omega)
      have h2 := val_take_succ (b := B64) zs (n - 1)
      rw [show n - 1 + 1 = n by omega, List.take_of_length_le (by omega)] at h2
      have h3 : nth zs (n - 1) = 0 := by unfold nth; rw [hx]; rfl
      rw [h3, Nat.zero_mul, Nat.add_zero] at h2
      have h4 := val_lt (hz.take (n - 1))
      rw [List.length_take, Nat.min_eq_left (by omega)] at h4
      omega)
    rw [List.take_of_length_le (by omega)] at hw
    exact ⟨hw, hlen⟩
  · intro h
    have hval : val B64 (zs ++ [c]) = M * G + c0 := by
      rw [val_append, hl, val_cons, val_nil, Nat.mul_zero, Nat.add_zero, hv]
    have hw : ws B64 (val B64 (zs ++ [c])) = zs ++ [c] := ws_val two_le_B (hz.app (Ok.cons hc Ok.nil)) (by
      intro x hx
      rw [List.getLast?_append] at hx
      simp at hx
      omega)
    rw [hval] at hw
    exact ⟨hw.symm, by unfold wlen; rw [hw, List.length_append, hl]; rfl⟩

theorem grownBy_alloc' (w : World) (o : Obj) (r : Option Nat) : w.grownBy (w.alloc o) r :=
  ⟨rfl, rfl, rfl, by simp, fun k hk _ => Below.heap_alloc w o k hk⟩

theorem group_step (P B S V G c0 x c lo hi : Nat) (h : S + P * c = V * G + c0) (e : lo + B * hi = x * G + c) : S + lo * P + P * B * hi = (V + x * P) * G + c0 := by grind

/-- ten to the nineteenth -/
def G19 : Nat := 10000000000000000000
theorem G19_eq : G19 = 10 ^ 19 := by decide

set_option maxRecDepth 100000 in
set_option maxHeartbeats 1000000 in
theorem appendGroup_any (g n c M grp : Nat) (xs : List Nat) (w : World) (hrow : Row w U g 121 xs) (hxl : xs.length = c) (hn : wlen B64 M = n) (hx : xs.take n = ws B64 M) (hroom : n + 1 ≤ c) (hcm : c ≤ maxW) (hgrp : grp < B64) (ox : Ok B64 xs) :
    Calls Tryz.prog 138 #[.slice (some ⟨g, 0, none⟩) n c, .int .u64 (grp : Int)] w fun e w' => e = .returned (.slice (some ⟨g, 0, none⟩) (wlen B64 (M * G19 + grp)) c) ∧ ∃ ys : List Nat, ys.length = c ∧ Ok B64 ys ∧ Row w' U g 121 ys ∧ ys.take (wlen B64 (M * G19 + grp)) = ws B64 (M * G19 + grp) ∧ w.grownBy w' (some g) := by
  have hcm' := hcm
  unfold maxW at hcm'
  have hV : val B64 (xs.take n) = M := by rw [hx, val_ws two_le_B]
  have HX := Lib.hid (And.intro hxl (And.intro hn (And.intro hx hV)))
  clear hxl hn hx hV hcm
  go_enter Tryz.func138, Tryz.ntmps138
  go_wp2
  go_loopg [5, 11] n (fun r cv iv wr => ∃ (k carry : Nat) (zs : List Nat), k ≤ n ∧ r = n - k ∧ iv = .int .i64 (k : Int) ∧ cv = .int .u64 (carry : Int) ∧ carry < B64 ∧ zs.length = c ∧ Ok B64 zs ∧ zs.drop k = xs.drop k ∧ Row wr U g 121 zs ∧
      val B64 (zs.take k) + B64 ^ k * carry = val B64 (xs.take k) * G19 + grp ∧ w.grownBy wr (some g))
  case atStart => exact ⟨0, grp, xs, Nat.zero_le _, rfl, rfl, rfl, hgrp, HX.out.1, ox, rfl, hrow, by simp, World.grownBy.refl _ _⟩
  case round =>
    obtain ⟨k, carry, zs, hk, rfl, rfl, rfl, hcl, hls, oz, hdr, hzr, hval, hgb⟩ := hrel
    by_cases hkn : k < n
    · have hm := multiply_any (nth zs k) G19 carry (oz.get two_le_B k) (by decide) hcl wr
      have hhi := muHi_lt (f := G19) (oz.get two_le_B k) (by decide) hcl
      rw [show ((G19 : Nat) : Int) = 10000000000000000000 from rfl] at hm
      have hcs := hzr.cell (i := k) (by omega)
      have hfs := hzr.frozen k
      unfold U at hcs
      have hkn' : (k : Int) < (n : Int) := by omega
      have Hv := Lib.hid (And.intro hval (And.intro hls (And.intro hdr hkn)))
      clear hval hls hdr hkn
      go_wp2_with fail
      refine hm.mono ?_
      rintro e w1 ⟨rfl, rfl⟩
      go_wp2_with fail
      obtain ⟨hval, hls, hdr, hkn⟩ := Hv.out
      go_roundg (n - (k + 1))
      case measure => omega
      case rel =>
        refine ⟨k + 1, muHi (nth zs k) G19 carry, zs.set k (muLo (nth zs k) G19 carry), by omega, rfl, by go_num, rfl, hhi, by rw [List.length_set]; exact hls, oz.set (muLo_lt _ _ _), ?_, hzr.set k _, ?_, og_setCell hgb _ _⟩
        · rw [drop_set_succ]; exact drop_succ_of hdr
        · rw [val_take_set _ _ _ (by omega), val_take_succ, Nat.pow_succ, ← nth_of_drop hdr]
          exact group_step _ _ _ _ _ _ _ _ _ _ hval (mu_eq _ _ _)
    · obtain rfl : k = n := by omega
      obtain ⟨hxl, hn, hx, hV⟩ := HX.out
      rw [hV] at hval
      obtain ⟨f1, f2⟩ := group_ws (zs := zs.take k) (by rw [List.length_take]; omega) (oz.take k) hn hcl hval (by decide)
      have hkn' : ¬ (k : Int) < (k : Int) := by omega
      have hfs := hzr.frozen k
      have hcs := hzr.cell (i := k) (by omega)
      obtain ⟨L, hL⟩ : ∃ l, l = wlen B64 (M * G19 + grp) := ⟨_, rfl⟩
      have HL := Lib.hid hL
      by_cases h0 : carry = 0
      · have k0 : ((carry : Int) == 0) = true := by rw [beq_iff_eq]; omega
        obtain ⟨g1, g2⟩ := f1 h0
        have HF := Lib.hid (And.intro g1 (And.intro g2 hls))
        clear f1 f2 g1 g2 hval hls hdr hx hV hn hxl hL h0 hkn hk
        go_wp2_with fail
        obtain ⟨g1, g2, hls⟩ := HF.out
        exact bodyPost_ret (v := .slice (some ⟨g, 0, none⟩) k c) (by simp [results, Tryz.results138, go_sem]) rfl ⟨by rw [g2], zs, hls, oz, hzr, by rw [g2]; exact g1, hgb⟩
      · have k0 : ((carry : Int) == 0) = false := by rw [beq_eq_false_iff_ne]; omega
        obtain ⟨g1, g2⟩ := f2 h0
        have HF := Lib.hid (And.intro g1 (And.intro g2 hls))
        clear f1 f2 g1 g2 hval hls hdr hx hV hn hxl hL h0 hkn hk
        have hnc := cell_one_new wr (.int .u64 (carry : Int)) 121 0 _ rfl
        have hz2 := hzr.alloc (.cells #[.int .u64 (carry : Int)] 121)
        have hk2 : (World.cell? (wr.alloc (.cells #[.int .u64 (carry : Int)] 121)) ⟨g, k, none⟩).isSome = true := by rw [hz2.cell (by have := HF.out.2.2; omega)]; rfl
        have hk3 := hz2.frozen k
        have hroom' : k + 1 ≤ c := hroom
        clear hcs hfs
        go_wp2_with (at_builtin; refine wpList_append_in _ rfl (.tmp 29) (.tmp 31) 78 rfl 121 (.int .u64 0) 8 Tryz.underlying78 infoU g k c rfl ⟨wr.heap.size, 0, none⟩ 1 (.int .u64 (carry : Int)) rfl hnc rfl hroom' hk2 hk3 ?_)
        obtain ⟨g1, g2, hls⟩ := HF.out
        refine bodyPost_ret (v := .slice (some ⟨g, 0, none⟩) (k + 1) c) (by simp [results, Tryz.results138, go_sem]) rfl ⟨by rw [g2], zs.set k carry, by rw [List.length_set]; exact hls, oz.set hcl, hz2.set k _, ?_, og_setCell (hgb.trans (grownBy_alloc' wr _ _)) _ _⟩
        rw [g2, ← g1, List.take_add_one, take_set_of_le _ _ _ _ (Nat.le_refl _), List.getElem?_set_self (by omega)]
        rfl

end Go.Proofs.YtdkgifkmkghggaaGreatDoor
