/- Contract: Decimal. -/
import Derived.Test.YtdkgifkmkghggaaGreatDoorTxtD
import Derived.Lib.SlBytesRow
namespace Go.Proofs.YtdkgifkmkghggaaGreatDoor
open Go.RowKit Vd

theorem infoB8 : (Tryz.prog.info? 5).map (fun i => (i.zero, i.size, i.bytes)) = some (some (.int .u8 0), 1, 1) := by kernel_rfl
theorem mkB8 (n : Nat) (hn : n ≤ 1099511627776) (w : World) : (Instr.makeSlice 128 (.int .i64 (n : Int)) (.int .i64 (n : Int))).run Tryz.prog w = .ok (.slice (some ⟨w.heap.size, 0, none⟩) n n) (w.alloc (.cells ((List.replicate n 0).map B8).toArray 5)) := by
  have h := run_make_row' (P := Tryz.prog) 128 5 (.int .u8 0) 1 Tryz.underlying128 infoB8 rfl .i64 .i64 n (by omega) (by omega) w
  rw [← madeCells_eq]
  exact h

theorem dlen_gt {n L most : Nat} (hL : wlen B64 n = L) (h1 : 1 ≤ L) (hm : 1 ≤ most) (h : most ≤ (L - 1) * 19) : ¬ dlen n ≤ most := by
  rw [dlen_le_iff _ _ hm]
  intro hlt
  have h2 : B64 ^ (L - 1) ≤ n := pow_le_of_lt_wlen two_le_B (by omega)
  have h3 : 10 ^ most ≤ B64 ^ (L - 1) := by
    refine Nat.le_trans (Nat.pow_le_pow_right (by omega) h) ?_
    rw [Nat.mul_comm, Nat.pow_mul]
    exact Nat.pow_le_pow_left (by decide) _
  omega

theorem lt_digits {n L : Nat} (hL : wlen B64 n = L) : n < 10 ^ (20 * L) := by
  refine Nat.lt_of_lt_of_le (lt_pow_wlen two_le_B n) ?_
  rw [hL, Nat.pow_mul]
  exact Nat.pow_le_pow_left (by decide) _

/-- a group more can be taken off -/
theorem room_more {n L j : Nat} (hL : wlen B64 n = L) (h : 1 < wlen B64 (n / 10 ^ (19 * j))) : 19 * j + 19 < 20 * L := by
  have h1 : B64 ^ 1 ≤ n / 10 ^ (19 * j) := pow_le_of_lt_wlen two_le_B h
  have h2 : 10 ^ 19 ≤ n / 10 ^ (19 * j) := Nat.le_trans (by decide) h1
  have hp : 0 < 10 ^ (19 * j) := Nat.pow_pos (by omega)
  rw [Nat.le_div_iff_mul_le hp, ← Nat.pow_add] at h2
  have h3 := Nat.lt_of_le_of_lt h2 (lt_digits hL)
  have := (Nat.pow_lt_pow_iff_right (a := 10) (by omega)).1 h3
  omega

theorem conv_suffix {W : World} {gx s k cap : Nat} {zs : List Nat} {D : List UInt8} (hr : Row W B8 gx 5 zs) (hd : zs.drop s = D.map (·.toNat)) (hk : D.length = k) :
    (convert 128 9 (.slice (some ⟨gx, s, none⟩) k cap)).run Tryz.prog W = .ok (.string ⟨D.toArray⟩) W := by
  have hB : Lib.Bytes W gx s ⟨D.toArray⟩ := by
    intro i hi
    have hi' : i < D.length := hi
    have h1 : nth zs (s + i) = (D[i]).toNat := by
      rw [← nth_drop, hd]
      unfold nth
      rw [List.getElem?_map, List.getElem?_eq_getElem hi']
      rfl
    have hlen : s + i < zs.length := by
      have := congrArg List.length hd
      rw [List.length_drop, List.length_map] at this
      omega
    rw [hr.cell hlen, h1]
    rfl
  subst hk
  exact Lib.run_convert_whole W 128 5 9 Tryz.underlying128 Tryz.underlying5 Tryz.underlying9 gx s ⟨D.toArray⟩ hB cap

/-- the last put -/
theorem put_last {n L j : Nat} (hL : wlen B64 n = L) (hpos : j = 0 ∨ 0 < n / 10 ^ (19 * j)) :
    PutK (n / 10 ^ (19 * j)) 1 (dlen n - 19 * j) ∧ 19 * j + 1 ≤ dlen n ∧ dlen n ≤ 20 * L + 1 := by
  obtain ⟨M, hM⟩ : ∃ M, M = n / 10 ^ (19 * j) := ⟨_, rfl⟩
  rw [← hM] at hpos ⊢
  have hp : 0 < 10 ^ (19 * j) := Nat.pow_pos (by omega)
  have hdM : dlen n = dlen M + 19 * j := by
    rcases Nat.eq_zero_or_pos M with h0 | h0
    · rcases hpos with rfl | h1
      · rw [Nat.mul_zero, Nat.pow_zero, Nat.div_one] at hM; rw [hM, Nat.mul_zero, Nat.add_zero]
      · omega
    · have := dlen_mul_pow (v := M) (k := 19 * j) (w := n % 10 ^ (19 * j)) h0 (Nat.mod_lt _ hp)
      rw [hM, Nat.mul_comm, Nat.div_add_mod] at this
      rw [hM]; exact this
  have hd1 := dlen_pos M
  have hd2 : dlen n ≤ 20 * L + 1 := by
    rw [dlen_le_iff _ _ (by omega), Nat.pow_succ]
    have := lt_digits hL
    omega
  refine ⟨⟨by omega, ?_, ?_⟩, by omega, hd2⟩
  · rw [hdM, Nat.add_sub_cancel]; exact lt_pow_dlen M
  · rw [hdM, Nat.add_sub_cancel]
    by_cases h1 : dlen M = 1
    · left; exact h1
    · right; exact ⟨hd1, pow_le_of_lt_dlen (by omega) (by omega)⟩

/-- what 'Decimal' answers -/
def decV (n most : Nat) : Value := if dlen n ≤ most then .tuple #[.string ⟨(digs n).toArray⟩, .bool true] else .tuple #[.string ⟨#[]⟩, .bool false]

/-- what the loop of 'Decimal' keeps -/
structure DecR (w : World) (n c M : Nat) (v : Value) (W : World) (j : Nat) (zs : List Nat) : Prop where
  m : M = n / 10 ^ (19 * j)
  mag : MagV W v M
  put : PutS (w.heap.size + 1 + 1) (w.heap.size + 1) w.heap.size c W (c - 19 * j) zs
  drop : zs.drop (c - 19 * j) = (padd (19 * j) n).map (·.toNat)
  le : 19 * j + 1 ≤ c
  pos : j = 0 ∨ 0 < M
  bel : Below w.heap.size w W

theorem putS_below {gs gt gx c : Nat} {W W' : World} {s : Nat} {zs : List Nat} (h : PutS gs gt gx c W s zs) (hb : Below W.heap.size W W') : PutS gs gt gx c W' s zs := by
  have hlt : gt < W.heap.size := by
    rcases Nat.lt_or_ge gt W.heap.size with h1 | h1
    · exact h1
    · have h2 := h.tx
      simp [World.cell?, Array.getElem?_eq_none h1] at h2
  exact ⟨h.srow.below hb h.srow.lt, (hb.cell (p := ⟨gt, 0, none⟩) hlt).trans h.tx, h.row.below hb h.row.lt, h.len, h.n1, h.n2, h.n3, h.cl⟩

theorem decR_step {w : World} {n c M L : Nat} {v v2 : Value} {W W2 W3 : World} {j : Nat} {zs zs' : List Nat} (h : DecR w n c M v W j zs) (hc : c = 20 * L + 1) (hroom : 19 * j + 19 < 20 * L) (hb : Below W.heap.size W W2) (hM : 1 < wlen B64 M)
    (hq : MagV W2 v2 (M / G19)) (ht : Two (w.heap.size + 1 + 1) w.heap.size W2 W3) (hp : PutS (w.heap.size + 1 + 1) (w.heap.size + 1) w.heap.size c W3 (c - 19 * j - 19) zs')
    (hd : zs'.drop (c - 19 * j - 19) = (padd 19 (M % G19)).map (·.toNat) ++ zs.drop (c - 19 * j)) : DecR w n c (M / G19) v2 W3 (j + 1) zs' := by
  have e : c - 19 * j - 19 = c - 19 * (j + 1) := by omega
  have hb2 : Below w.heap.size w W2 := h.bel.trans (hb.mono h.bel.size)
  refine ⟨?_, (putS_below h.put hb).mag ht hq, by rw [← e]; exact hp, ?_, by omega, Or.inr ?_, hb2.trans (ht.below (by omega) (Nat.le_refl _))⟩
  · rw [h.m, G19_eq, Nat.div_div_eq_div_mul, ← Nat.pow_add]; rfl
  · rw [← e, hd, h.drop, G19_eq, padd_mod, h.m, ← List.map_append, ← padd_add]
    rw [show 19 * (j + 1) = 19 + 19 * j by omega]
  · have h1 : B64 ^ 1 ≤ M := pow_le_of_lt_wlen two_le_B hM
    rw [Nat.div_pos_iff]
    exact ⟨by decide, Nat.le_trans (by decide) h1⟩

theorem decR_start {w : World} {n c : Nat} {v : Value} (hv : MagV w v n) (hc : 1 ≤ c) (hcl : c ≤ 1099511627776) :
    DecR w n c n v (((w.alloc (.cells (Array.replicate c (B8 0)) 5)).alloc (.cells #[.slice (some ⟨w.heap.size, 0, none⟩) c c] 128)).alloc (.cells #[.int .i64 (c : Int)] 3)) 0 (List.replicate c 0) := by
  have hbel : Below w.heap.size w (((w.alloc (.cells (Array.replicate c (B8 0)) 5)).alloc (.cells #[.slice (some ⟨w.heap.size, 0, none⟩) c c] 128)).alloc (.cells #[.int .i64 (c : Int)] 3)) :=
    (((Below.refl _ _).alloc (Nat.le_refl _) _).alloc (by simp) _).alloc (by simp; omega) _
  have hr := ((Row.newRep w B8 5 c).alloc (.cells #[.slice (some ⟨w.heap.size, 0, none⟩) c c] 128)).alloc (.cells #[.int .i64 (c : Int)] 3)
  have hs := Row.new ((w.alloc (.cells (Array.replicate c (B8 0)) 5)).alloc (.cells #[.slice (some ⟨w.heap.size, 0, none⟩) c c] 128)) I8 3 [c]
  rw [World.size_alloc, World.size_alloc] at hs
  refine ⟨by simp, hv.below hbel, ⟨hs, ?_, hr, by simp, by omega, by omega, by omega, hcl⟩, ?_, by omega, Or.inl rfl, hbel⟩
  · simp [go_sem]
  · rw [Nat.mul_zero, Nat.sub_zero, padd_zero, List.drop_eq_nil_of_le (by simp)]; rfl

set_option maxRecDepth 100000 in
set_option maxHeartbeats 2000000 in
theorem decimal_any (v : Value) (n most : Nat) (w : World) (hv : MagV w v n) (hb : wlen B64 n ≤ 1000000) (hm : 1 ≤ most) (hm2 : most ≤ 1000000000) :
    Calls Tryz.prog 113 #[v, .int .i64 (most : Int)] w fun e w' => e = .returned (decV n most) ∧ Below w.heap.size w w' := by
  have hv' := hv
  obtain ⟨A1, c1, rfl, _, s1⟩ := hv.ok_len
  obtain ⟨L, hL⟩ : ∃ L, wlen B64 n = L := ⟨_, rfl⟩
  rw [hL] at s1 hv' hb ⊢
  have e1 : IntKind.i64.wrap ((L : Int) - 1) = (L : Int) - 1 := by rw [IntKind.wrap_i64]; omega
  have e2 : IntKind.i64.wrap (((L : Int) - 1) * 19) = ((L : Int) - 1) * 19 := by rw [IntKind.wrap_i64]; omega
  have HL := Lib.hid (And.intro hL hb)
  by_cases hlong : (most : Int) ≤ ((L : Int) - 1) * 19
  · have hk : decide ((most : Int) ≤ ((L : Int) - 1) * 19) = true := by simp; omega
    have hg := dlen_gt hL (by omega) hm (by omega)
    have HG : Hid (decV n most = .tuple #[.string ⟨#[]⟩, .bool false]) := Lib.hid (by unfold decV; rw [if_neg hg])
    clear hg hL hb hv hv' s1
    go_enter Tryz.func113, Tryz.ntmps113
    go_wp2
    refine bodyPost_ret (v := .tuple #[.string ⟨#[]⟩, .bool false]) (by simp [results, Tryz.results113, go_sem]) rfl ⟨by rw [HG.out], Below.refl _ _⟩
  · obtain ⟨c, hc⟩ : ∃ c, c = 20 * L + 1 := ⟨_, rfl⟩
    have hmk := fun W => mkB8 c (by omega) W
    have hk : ¬ (most : Int) ≤ ((L : Int) - 1) * 19 := hlong
    have e3 : IntKind.i64.wrap ((L : Int) * 20) = (L : Int) * 20 := by rw [IntKind.wrap_i64]; omega
    have e4 : IntKind.i64.wrap ((L : Int) * 20 + 1) = (c : Int) := by rw [IntKind.wrap_i64]; omega
    have HC := Lib.hid hc
    clear hc hlong hL hb
    go_enter Tryz.func113, Tryz.ntmps113
    go_wp2
    go_loopg [0] n (fun M v W => ∃ (j : Nat) (zs : List Nat), DecR w n c M v W j zs)
    case atStart =>
      exact ⟨0, List.replicate c 0, decR_start hv' (by have := HC.out; omega) (by have := HC.out; have := HL.out; omega)⟩
    case round =>
      clear hv hv' s1 hmk
      obtain ⟨j, zs, hR⟩ := hrel
      obtain ⟨A2, c2, rfl, _, s2⟩ := hR.mag.ok_len
      have HR := Lib.hid hR
      by_cases hlen : 1 < wlen B64 gk
      · have k1 : (1 : Int) < ((wlen B64 gk : Nat) : Int) := by omega
        have hroom := room_more (j := j) HL.out.1 (by rw [← hR.m]; exact hlen)
        have hle : wlen B64 gk ≤ maxW := by
          have h1 : gk ≤ n := by rw [hR.m]; exact Nat.div_le_self _ _
          have := wlen_mono (b := B64) two_le_B h1
          have := HL.out
          unfold maxW; omega
        have hdw := divWord_any _ gk G19 _ hR.mag hle (by decide) (by decide)
        rw [show ((G19 : Nat) : Int) = 10000000000000000000 from rfl] at hdw
        have hgl : gk % G19 < B64 := Nat.lt_trans (Nat.mod_lt _ (by decide)) (by decide)
        have hpk : PutK (gk % G19) 19 19 := ⟨Nat.le_refl _, Nat.mod_lt _ (by decide), Or.inl rfl⟩
        obtain ⟨grp, hgrp⟩ : ∃ g, g = gk % G19 := ⟨_, rfl⟩
        rw [← hgrp] at hdw hgl hpk
        have HV := Lib.hid (And.intro hroom (And.intro hgrp (And.intro hgl hpk)))
        clear hR hroom hgrp hle hgl hpk hlen
        go_wp2_with fail
        refine hdw.mono ?_
        rintro e w2 ⟨qv, rfl, hq, hb2⟩
        have hps := putS_below HR.out.put hb2
        have hput := put_any _ _ _ _ grp 19 19 _ zs w2 hps HV.out.2.2.2 (by have := HV.out.1; have := HC.out; omega) (Nat.sub_le _ _) HV.out.2.2.1
        have hput' : Calls Tryz.prog 139 #[.int .u64 (grp : Int), .int .i64 19, .pointer (some ⟨w.heap.size + 1 + 1, 0, none⟩), .pointer (some ⟨w.heap.size + 1, 0, none⟩)] w2 _ := hput
        clear hput
        have HB := Lib.hid (And.intro hb2 hq)
        clear hb2 hq hps hdw
        go_wp2_with fail
        refine hput'.mono ?_
        rintro e w3 ⟨rfl, zs', p1, p2, p3⟩
        have HP := Lib.hid (And.intro p1 (And.intro p2 p3))
        clear p1 p2 p3 hput'
        go_wp2_with fail
        go_roundg (gk / G19)
        case measure => exact Nat.div_lt_self (by rcases Nat.eq_zero_or_pos gk with h0 | h0
                                                  · rw [h0, wlen_zero] at k1; omega
                                                  · exact h0) (by decide)
        case rel => exact ⟨j + 1, zs', decR_step HR.out HC.out HV.out.1 HB.out.1 (by omega) HB.out.2 HP.out.2.2 HP.out.1 (by rw [← HV.out.2.1]; exact HP.out.2.1)⟩
      · have k1 : ¬ (1 : Int) < ((wlen B64 gk : Nat) : Int) := by omega
        have hlast := put_last (j := j) HL.out.1 (by rw [← hR.m]; exact hR.pos)
        rw [← hR.m] at hlast
        have hwd := word_any A2 _ c2 _ 0 _ s2 (by have := HR.out.mag; have : wlen B64 gk ≤ 1 := by omega
                                                  omega) (by omega)
        have hgl : gk < B64 := by have := (wlen_le_iff two_le_B gk 1).1 (by omega); simpa using this
        have hw0 : nth (ws B64 gk) 0 = gk := by
          by_cases h0 : gk = 0
          · rw [h0, ws_zero]; rfl
          · rw [ws_one two_le_B hgl h0]; rfl
        rw [hw0] at hwd
        have hput' := put_any _ _ _ _ gk 1 _ _ zs _ hR.put hlast.1 (by have := HC.out; omega) (Nat.sub_le _ _) hgl
        obtain ⟨S, hS⟩ : ∃ S, S = c - 19 * j - (dlen n - 19 * j) := ⟨_, rfl⟩
        have hS2 : S + dlen n = c := by have := HC.out; omega
        have hdp := dlen_pos n
        rw [← hS] at hput'
        have i1 : IntKind.i64.wrap ((c : Int) - (S : Int)) = (dlen n : Int) := by have := HC.out; have := HL.out; rw [IntKind.wrap_i64]; omega
        have i2 : (S : Int) ≤ (c : Int) := by omega
        have i3 : ¬ (c = S) := by omega
        have i4 : c - S = dlen n := by omega
        have i5 : (S : Int) < (c : Int) := by omega
        have HV := Lib.hid (And.intro hlast (And.intro hS (And.intro hgl hw0)))
        clear hR hlast hS hgl hw0 hlen s2
        go_wp2_with fail
        refine hwd.mono ?_
        rintro e w2 ⟨rfl, rfl⟩
        go_wp2_with fail
        refine hput'.mono ?_
        rintro e w3 ⟨rfl, zs', p1, p2, p3⟩
        have hcs := p1.st
        have hct := p1.tx
        have hdrop : zs'.drop S = (digs n).map (·.toNat) := by
          rw [p2, HR.out.drop, HR.out.m, ← List.map_append, ← padd_add]
          unfold digs
          rw [Nat.sub_add_cancel (by have := HV.out.1.2.1; omega)]
        have hconv := fun cap => conv_suffix (cap := cap) p1.row hdrop (digs_length n)
        have hbel : Below w.heap.size w w3 := HR.out.bel.trans (p3.below (by have := HR.out.bel.size; omega) (Nat.le_refl _))
        have HF := Lib.hid hbel
        clear p1 p2 p3 hdrop hbel hput' hwd hS2 hdp
        by_cases hfit : dlen n ≤ most
        · have k2 : ¬ (most : Int) < ((dlen n : Nat) : Int) := by omega
          have HG : Hid (decV n most = .tuple #[.string ⟨(digs n).toArray⟩, .bool true]) := Lib.hid (by unfold decV; rw [if_pos hfit])
          clear hfit
          go_wp2_with fail
          exact bodyPost_ret (v := .tuple #[.string ⟨(digs n).toArray⟩, .bool true]) (by simp [results, Tryz.results113, go_sem]) rfl ⟨by rw [HG.out], HF.out⟩
        · have k2 : (most : Int) < ((dlen n : Nat) : Int) := by omega
          have HG : Hid (decV n most = .tuple #[.string ⟨#[]⟩, .bool false]) := Lib.hid (by unfold decV; rw [if_neg hfit])
          clear hfit hconv
          go_wp2_with fail
          exact bodyPost_ret (v := .tuple #[.string ⟨#[]⟩, .bool false]) (by simp [results, Tryz.results113, go_sem]) rfl ⟨by rw [HG.out], HF.out⟩

end Go.Proofs.YtdkgifkmkghggaaGreatDoor
