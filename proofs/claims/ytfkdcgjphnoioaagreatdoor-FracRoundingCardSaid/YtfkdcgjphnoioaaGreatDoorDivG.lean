/- Contract: Divide. -/
import Derived.Test.YtfkdcgjphnoioaaGreatDoorDivA
import Derived.Test.YtfkdcgjphnoioaaGreatDoorDivF
namespace Go.Proofs.YtfkdcgjphnoioaaGreatDoor
open Go.RowKit Vd

theorem MagV.zero (w : World) : MagV w (.slice none 0 0) 0 := by
  refine ⟨none, 0, ?_, ?_, by omega, ?_⟩
  · rw [wlen_zero]
  · rw [wlen_zero]; omega
  · rw [wlen_zero, ws_zero]; exact Sl.nil

theorem below_of_drewN {B : Nat} {w w1 : World} {d : Nat} (h : Below B (w.drewN d) w1) : Below B w w1 := ⟨h.os, h.tape, h.output, h.size, h.block⟩

/-- the general case: the divisor has n + 2 words, and the number is not less -/
theorem dv_words {o s n : Nat} (hn : wlen B64 o = n + 1) (hs : s = 64 - Lib.bitLen (wd B64 o n)) : s ≤ 63 ∧ 0 < wd B64 o n ∧ o * 2 ^ s < B64 ^ (n + 1) ∧ B64 ^ n * 2 ^ 63 ≤ o * 2 ^ s :=
  dv_norm (n := n) rfl hn hs

set_option maxRecDepth 100000 in
set_option maxHeartbeats 2000000 in
theorem divide_long (A1 A2 : Option Addr) (n1 m2 c1 c2 m o : Nat) (w : World) (e1 : wlen B64 m = n1) (e2 : wlen B64 o = m2 + 2) (hx : Sl w U A1 n1 (ws B64 m)) (hy : Sl w U A2 (m2 + 2) (ws B64 o)) (hle : o ≤ m) (hb0 : n1 + 1 ≤ maxW)
    (hv1 : MagV w (.slice A1 n1 c1) m) (hv2 : MagV w (.slice A2 (m2 + 2) c2) o) :
    Calls Tryz.prog 161 #[.slice A1 n1 c1, .slice A2 (m2 + 2) c2] w fun e w' => ∃ q r, e = .returned (.tuple #[q, r]) ∧ MagV w' q (m / o) ∧ MagV w' r (m % o) ∧ Below w.heap.size w w' := by
  have hb1 : n1 ≤ maxW := by omega
  have hn12 : m2 + 2 ≤ n1 := by rw [← e1, ← e2]; exact wlen_mono two_le_B hle
  have hb2 : m2 + 2 ≤ maxW := by omega
  have hb1' := hb1
  unfold maxW at hb1'
  have hcmp := compare_any _ _ m o w hv1 hv2 (by rw [e2]; exact hb2)
  obtain ⟨cv, hcv⟩ : ∃ z, z = cmpN m o := ⟨_, rfl⟩
  have hcv0 : ¬ cv < 0 := by rw [hcv]; unfold cmpN; rw [if_neg (by omega)]; split <;> omega
  rw [← hcv] at hcmp
  have htopb := wd_lt (b := B64) two_le_B o (m2 + 1)
  obtain ⟨s, hs⟩ : ∃ s, s = 64 - Lib.bitLen (wd B64 o (m2 + 1)) := ⟨_, rfl⟩
  obtain ⟨s63, htop0, hYlt, hYge⟩ := dv_words e2 hs
  have hlz := fun W => lz_any (wd B64 o (m2 + 1)) htopb W
  rw [← hs] at hlz
  obtain ⟨g2, o2, rfl, hg2, hcy⟩ := hy.at_ (by omega)
  have hctop := hcy (m2 + 1) (by omega)
  rw [show nth (ws B64 o) (m2 + 1) = wd B64 o (m2 + 1) from rfl] at hctop
  unfold U at hctop
  have hctop2 := hctop
  rw [← Nat.add_assoc] at hctop2
  have HS := Lib.hid (And.intro hs hcv)
  have k1 : (((m2 : Int) + 2) == 1) = false := by rw [beq_eq_false_iff_ne]; omega
  have i1 : (m2 : Int) + 1 < (m2 : Int) + 2 := by omega
  have i2 : (0 : Int) ≤ (m2 : Int) + 1 := by omega
  have i3 : ((m2 : Int) + 1).toNat = m2 + 1 := by omega
  clear hs hcv hcy
  go_enter Tryz.func161, Tryz.ntmps161
  go_wp2_with (first | (go_at_call 155; refine hcmp.mono ?_; rintro e w1 ⟨rfl, d, rfl⟩))
  refine (hlz _).mono ?_
  rintro e w1 ⟨rfl, rfl⟩
  go_wp2_with fail
  refine (raised_any A1 n1 c1 s (ws B64 m) (w.drewN d) (hx.drewN d) (ok_ws _) hb1 s63).mono ?_
  rintro e w1 ⟨L, rfl, hLl, oL, hrL, hvL, hbL⟩
  go_wp2_with fail
  have hbW : Below w.heap.size w w1 := below_of_drewN hbL
  have hrL : Row w1 U w.heap.size 146 L := hrL
  have hg1 : w.heap.size < w1.heap.size := hrL.lt
  refine (raised_any (some ⟨g2, o2, none⟩) (m2 + 2) c2 s (ws B64 o) w1 (hy.below hbW) (ok_ws _) hb2 s63).mono ?_
  rintro e w2 ⟨D, rfl, hDl, oD, hrD, hvD, hbD⟩
  have hrL2 := hrL.below hbD hg1
  have hg2' : w1.heap.size < w2.heap.size := hrD.lt
  have hbW2 : Below w.heap.size w w2 := hbW.trans (hbD.mono (Nat.le_of_lt hg1))
  -- the numbers
  obtain ⟨X, hX⟩ : ∃ X, X = m * 2 ^ s := ⟨_, rfl⟩
  obtain ⟨Y, hY⟩ : ∃ Y, Y = o * 2 ^ s := ⟨_, rfl⟩
  obtain ⟨K, hK⟩ : ∃ K, K = n1 - (m2 + 2) + 1 := ⟨_, rfl⟩
  rw [val_ws two_le_B, ← hX] at hvL
  rw [val_ws two_le_B, ← hY] at hvD
  rw [← hY] at hYlt hYge
  rw [show m2 + 1 + 1 = m2 + 2 from rfl] at hYlt
  have hp63 : (0 : Nat) < 2 ^ 63 := Nat.pow_pos (by omega)
  have hYpos : 0 < Y := by
    have : 0 < B64 ^ (m2 + 1) * 2 ^ 63 := Nat.mul_pos (Nat.pow_pos (by decide)) hp63
    omega
  have hDt : val B64 (D.take (m2 + 2)) = Y := by
    have h1 := val_take_drop (b := B64) D (m2 + 2) (by omega)
    rcases Nat.eq_zero_or_pos (val B64 (D.drop (m2 + 2))) with h2 | h2
    · rw [h2] at h1; omega
    · have := Nat.mul_le_mul_left (B64 ^ (m2 + 2)) (show 1 ≤ val B64 (D.drop (m2 + 2)) from h2)
      omega
  have hDtop : 0 < nth (D.take (m2 + 2)) (m2 + 1) := by
    have h1 := val_take_succ (b := B64) (D.take (m2 + 2)) (m2 + 1)
    rw [List.take_take, Nat.min_self, hDt, List.take_take, Nat.min_eq_left (by omega)] at h1
    have h2 := val_lt (oD.take (m2 + 1))
    rw [List.length_take, Nat.min_eq_left (by omega)] at h2
    rcases Nat.eq_zero_or_pos (nth (D.take (m2 + 2)) (m2 + 1)) with h3 | h3
    · rw [h3] at h1
      have := Nat.mul_le_mul_left (B64 ^ (m2 + 1)) (show 1 ≤ 2 ^ 63 from hp63)
      omega
    · exact h3
  have hXY : X < B64 ^ K * Y := by
    have h1 : m < B64 ^ n1 := by rw [← e1]; exact lt_pow_wlen two_le_B m
    have h2 : X < B64 ^ n1 * 2 ^ 63 := by
      rw [hX]
      have h3 := Nat.mul_lt_mul_of_pos_right h1 (Nat.pow_pos (n := s) (show 0 < 2 by omega))
      have h4 := Nat.mul_le_mul_left (B64 ^ n1) (Nat.pow_le_pow_right (n := 2) (by omega) s63)
      omega
    have h5 := Nat.mul_le_mul_left (B64 ^ K) hYge
    rw [← Nat.mul_assoc, ← Nat.pow_add, show K + (m2 + 1) = n1 by omega] at h5
    omega
  have hdv0 := dv_start (b := B64) (n1 := n1) (n2 := m2 + 2) hLl hvL.symm (show K + (m2 + 2) = n1 + 1 by omega) hXY
  have hmk := fun W => mkU K (by unfold maxW; omega) W
  rw [show (K : Int) = (n1 : Int) - ((m2 : Int) + 2) + 1 by omega] at hmk
  have HN := Lib.hid (And.intro hX (And.intro hY (And.intro hK (And.intro e1 (And.intro e2 (And.intro hLl (And.intro hDl (And.intro hDt (And.intro hvL (And.intro hvD hdv0))))))))))
  have hK1 : (K : Int) = (n1 : Int) - ((m2 : Int) + 2) + 1 := by omega
  have HK := Lib.hid hK1
  have kb1 : (K : Int) ≤ 1099511627777 := by unfold maxW at hb1; omega
  have kb0 : (1 : Int) ≤ (K : Int) := by omega
  clear hX hY hK e1 e2 hLl hDl hDt hvL hvD hdv0 hK1 hlz
  go_wp2_with fail
  go_loopg [11] K (fun k i wr => ∃ Ls zs : List Nat, k ≤ K ∧ i = .int .i64 ((k : Int) - 1) ∧ Ls.length = n1 + 1 ∧ Ok B64 Ls ∧ Row wr U w.heap.size 146 Ls ∧ zs.length = K ∧ Ok B64 zs ∧ Row wr U w2.heap.size 146 zs ∧
      DV B64 X Y k Ls zs ∧ Row wr U w1.heap.size 146 D ∧ Below w.heap.size w wr)
  case atStart =>
    obtain ⟨_, _, _, _, _, hLl, _, _, _, _, hdv0⟩ := HN.out
    exact ⟨L, List.replicate K 0, Nat.le_refl _, rfl, hLl, oL, hrL2.alloc _, by simp, Ok.rep two_le_B _, Row.newRep w2 U _ _, hdv0, hrD.alloc _, hbW2.alloc (by have := hbW2.size; omega) _⟩
  case round =>
    obtain ⟨Ls, zs, hk, rfl, hLsl, oLs, hrLs, hzl, oz, hrz, hdv, hrDr, hbel⟩ := hrel
    cases gk with
    | zero =>
      rw [show (((0 : Nat) : Int) - 1) = -1 from rfl]
      obtain ⟨hX, hY, -⟩ := HN.out
      have hpos : 0 < o := by
        rcases Nat.eq_zero_or_pos o with h0 | h0
        · rw [h0] at hY; omega
        · exact h0
      obtain ⟨f1, f2⟩ := dv_end hX hY hpos hdv
      have ht := fun W (h : Row W U w2.heap.size 146 zs) => trim_mag (some ⟨w2.heap.size, 0, none⟩) K K zs W (by have := h.sl0; rw [hzl] at this; exact this) oz (by omega) (by omega)
      have hlow := fun W (h : Row W U w.heap.size 146 Ls) => lowered_any (some ⟨w.heap.size, 0, none⟩) (n1 + 1) (n1 + 1) s Ls W (by have := h.sl0; rw [hLsl] at this; exact this) oLs hb0 s63
      rw [f1] at ht
      rw [f2] at hlow
      clear hX hY f1 f2 hLsl hzl hmk
      go_wp2_with fail
      refine (ht _ hrz).mono ?_
      rintro e w4 ⟨q, rfl, hq, rfl⟩
      go_wp2_with fail
      refine (hlow _ hrLs).mono ?_
      rintro e w5 ⟨r, rfl, hr, hb5⟩
      go_wp2_with fail
      go_ret2
      exact ⟨q, r, rfl, hq.below hb5, hr, hbel.trans (hb5.mono hbel.size)⟩
    | succ j =>
      rw [show (((j + 1 : Nat) : Int) - 1) = (j : Int) from by omega]
      have hb3 : j + (m2 + 2) + 1 ≤ n1 + 1 := by have := HN.out.2.2.1; omega
      obtain ⟨hm1, hm2⟩ := dv_mid (n2 := m2 + 2) two_le_B hYlt (by omega) oLs hdv
      have hsplit : Ls = Ls.take j ++ ((Ls.drop j).take (m2 + 3) ++ Ls.drop (j + (m2 + 3))) := by
        rw [← List.drop_drop, List.take_append_drop, List.take_append_drop]
      have hrLs' := hrLs
      rw [hsplit] at hrLs'
      have hpl : (Ls.take j).length = j := by rw [List.length_take]; omega
      have hsD := hrDr.slk (k := m2 + 2) (by have := HN.out.2.2.2.2.2.2.1; omega)
      have hcall := takeMultiples_any w.heap.size (n1 + 1 - j) (some ⟨w1.heap.size, 0, none⟩) (m2 + 2 + 1) (m2 + 1) (Ls.take j) ((Ls.drop j).take (m2 + 3)) (Ls.drop (j + (m2 + 3))) (D.take (m2 + 2)) wr hrLs' hsD
        (fun g3 o3 e3 _ => by injection e3 with e3; injection e3 with e4 _ _; omega) (by rw [List.length_take, List.length_drop]; omega) ((oLs.drop j).take _) (oD.take _) hb2 hDtop (by rw [HN.out.2.2.2.2.2.2.2.1]; exact hm1)
      rw [hpl, HN.out.2.2.2.2.2.2.2.1] at hcall
      rw [show m2 + 1 + 1 = m2 + 2 from rfl] at hcall
      have hj0 : (0 : Int) ≤ (j : Int) := by omega
      have hjn : (j : Int) + ((m2 : Int) + 2) + 1 ≤ (n1 : Int) + 1 := by omega
      have hjK : (j : Int) < (K : Int) := by omega
      have Hs := Lib.hid (And.intro hsplit (And.intro hpl (And.intro hLsl hzl)))
      clear hsplit hpl hLsl hzl hrLs' hmk
      go_wp2_with fail
      rw [show j + (m2 + 2) + 1 - j = m2 + 1 + 2 by omega]
      refine hcall.mono ?_
      rintro e w3 ⟨zs', rfl, hzl', oz', hr3, hg3, hv3⟩
      obtain ⟨hsplit, hpl, hLsl, hzl⟩ := Hs.out
      have hrz3 := hrz.grown hg3 (fun e => by injection e with e; omega)
      have hrD3 := hrDr.grown hg3 (fun e => by injection e with e; omega)
      have hcq := hrz3.cell (i := j) (by omega)
      have hfq := hrz3.frozen j
      unfold U at hcq
      obtain ⟨Q, hQ⟩ : ∃ Q, Q = val B64 ((Ls.drop j).take (m2 + 3)) / Y := ⟨_, rfl⟩
      rw [← hQ]
      have hQlt : Q < B64 := by rw [hQ, Nat.div_lt_iff_lt_mul hYpos, Nat.mul_comm]; exact hm1
      have hrz4 := hrz3.set j Q
      have hdv' := dv_step (n2 := m2 + 2) (mid' := zs') two_le_B hYpos hYlt (by omega) oLs hdv (by omega) (by omega) hv3
      rw [show m2 + 2 + 1 = m2 + 3 from rfl, ← hQ] at hdv'
      have Hd := Lib.hid (And.intro hdv' (And.intro hzl' hQ))
      clear hsplit hpl hLsl hzl hQ hdv' hzl' hv3 hcall
      go_wp2_with fail
      obtain ⟨hsplit, hpl, hLsl, hzl⟩ := Hs.out
      obtain ⟨hdv', hzl', hQ⟩ := Hd.out
      go_roundg j
      case measure => omega
      case rel =>
        refine ⟨Ls.take j ++ (zs' ++ Ls.drop (j + (m2 + 3))), zs.set j Q, by omega, rfl, ?_, (oLs.take _).app (oz'.app (oLs.drop _)), hr3.far (by show w.heap.size ≠ w2.heap.size; omega) _, by rw [List.length_set]; exact hzl, oz.set hQlt, hrz4, hdv', hrD3.far (by show w1.heap.size ≠ w2.heap.size; omega) _, ?_⟩
        · rw [List.length_append, List.length_append, hpl, hzl', List.length_drop]; omega
        · exact (below_grown_tr hbel hg3 (Nat.le_refl _)).setCell (by show w.heap.size ≤ w2.heap.size; omega) _


set_option maxRecDepth 100000 in
set_option maxHeartbeats 1000000 in
theorem divide_less (v1 v2 : Value) (m o : Nat) (w : World) (h1 : MagV w v1 m) (h2 : MagV w v2 o) (hb : wlen B64 o ≤ maxW) (hlt : m < o) :
    Calls Tryz.prog 161 #[v1, v2] w fun e w' => ∃ q r, e = .returned (.tuple #[q, r]) ∧ MagV w' q (m / o) ∧ MagV w' r (m % o) ∧ Below w.heap.size w w' := by
  have hcmp := compare_any _ _ m o w h1 h2 hb
  rw [show cmpN m o = -1 by unfold cmpN; rw [if_pos hlt]] at hcmp
  have z := MagV.zero w
  rw [show m / o = 0 from Nat.div_eq_of_lt hlt, show m % o = m from Nat.mod_eq_of_lt hlt]
  obtain ⟨A1, c1, rfl, _, s1⟩ := h1.ok_len
  obtain ⟨A2, c2, rfl, _, s2⟩ := h2.ok_len
  go_enter Tryz.func161, Tryz.ntmps161
  go_wp2_with (go_at_call 155; refine hcmp.mono ?_; rintro e w1 ⟨rfl, d, rfl⟩)
  go_ret2
  exact ⟨_, _, rfl, z.drewN d, h1.drewN d, below_drewN (Below.refl _ _) d⟩

set_option maxRecDepth 100000 in
set_option maxHeartbeats 1000000 in
theorem divide_word (v1 v2 : Value) (m o : Nat) (w : World) (h1 : MagV w v1 m) (h2 : MagV w v2 o) (hb : wlen B64 m ≤ maxW) (hle : o ≤ m) (ho : wlen B64 o = 1) :
    Calls Tryz.prog 161 #[v1, v2] w fun e w' => ∃ q r, e = .returned (.tuple #[q, r]) ∧ MagV w' q (m / o) ∧ MagV w' r (m % o) ∧ Below w.heap.size w w' := by
  have hcmp := compare_any _ _ m o w h1 h2 (by rw [ho]; decide)
  obtain ⟨cv, hcv⟩ : ∃ z, z = cmpN m o := ⟨_, rfl⟩
  have hcv0 : ¬ cv < 0 := by rw [hcv]; unfold cmpN; rw [if_neg (by omega)]; split <;> omega
  rw [← hcv] at hcmp
  have hlt : o < B64 := by have := (wlen_le_iff two_le_B o 1).1 (by omega); simpa using this
  have hne : o ≠ 0 := by intro h0; rw [h0, wlen_zero] at ho; omega
  obtain ⟨A2, c2, rfl, _, s2⟩ := h2.ok_len
  rw [ho] at s2 hcmp ⊢
  obtain ⟨g2, o2, rfl, hg2, hcy⟩ := s2.at_ (by omega)
  have hc0 := hcy 0 (by omega)
  rw [ws_one two_le_B hlt hne, show nth [o] 0 = o from rfl] at hc0
  unfold U at hc0
  rw [Nat.add_zero] at hc0
  have hdw := fun d => divWord_any v1 m o (w.drewN d) (h1.drewN d) hb (by omega) hlt
  have hfw := fun W => fromWord_any (m % o) (Nat.lt_trans (Nat.mod_lt _ (by omega)) hlt) W
  obtain ⟨A1, c1, rfl, _, s1⟩ := h1.ok_len
  obtain ⟨rr, hrr⟩ : ∃ r, r = m % o := ⟨_, rfl⟩
  rw [← hrr] at hfw ⊢
  simp only [← hrr] at hdw
  clear hcv hcy ho hrr
  go_enter Tryz.func161, Tryz.ntmps161
  go_wp2_with (go_at_call 155; refine hcmp.mono ?_; rintro e w1 ⟨rfl, d, rfl⟩)
  refine (hdw d).mono ?_
  rintro e w2 ⟨q, rfl, hq, hb2⟩
  go_wp2_with fail
  refine (hfw w2).mono ?_
  rintro e w3 ⟨r, rfl, hr, hb3⟩
  go_wp2_with fail
  go_ret2
  have hb2' : Below w.heap.size w w2 := below_of_drewN hb2
  exact ⟨q, r, rfl, hq.below hb3, hr, hb2'.trans (hb3.mono hb2'.size)⟩

/-- 'Divide' by a number that is not 0 -/
theorem divide_any (v1 v2 : Value) (m o : Nat) (w : World) (h1 : MagV w v1 m) (h2 : MagV w v2 o) (b1 : wlen B64 m + 1 ≤ maxW) (b2 : wlen B64 o ≤ maxW) (ho : 0 < o) :
    Calls Tryz.prog 161 #[v1, v2] w fun e w' => ∃ q r, e = .returned (.tuple #[q, r]) ∧ MagV w' q (m / o) ∧ MagV w' r (m % o) ∧ Below w.heap.size w w' := by
  rcases Nat.lt_or_ge m o with h | h
  · exact divide_less v1 v2 m o w h1 h2 b2 h
  · have hp : 0 < wlen B64 o := by
      rcases Nat.eq_zero_or_pos (wlen B64 o) with h0 | h0
      · rw [wlen_eq_zero two_le_B] at h0; omega
      · exact h0
    by_cases h1w : wlen B64 o = 1
    · exact divide_word v1 v2 m o w h1 h2 (by omega) h h1w
    · obtain ⟨n2, hn2⟩ : ∃ n, wlen B64 o = n + 2 := ⟨wlen B64 o - 2, by omega⟩
      have h1' := h1
      have h2' := h2
      obtain ⟨A1, c1, rfl, _, s1⟩ := h1.ok_len
      obtain ⟨A2, c2, rfl, _, s2⟩ := h2.ok_len
      rw [hn2] at s2 h2' ⊢
      exact divide_long A1 A2 _ n2 c1 c2 m o w rfl hn2 s1 s2 h b1 h1' h2'

end Go.Proofs.YtfkdcgjphnoioaaGreatDoor
