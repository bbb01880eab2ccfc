/- Contracts of the reference: Floor, Root. -/
import Derived.Test.YtcigciclpdnbhaaGreatDoorRefQ
import Derived.Deep.RegionHeld3
import Derived.Deep.DrawnRows
import Derived.RegionTactic
namespace Go.Proofs.YtcigciclpdnbhaaGreatDoor
open Go.RowKit Vd
attribute [local go_sem ↓] Go.wp_at_zero Go.wp_at_succ

/-- appending, as one step of a region that draws its order -/
theorem stepAppendSl {P : Program} (w : World) {ops : Array Oper} {o : Oper} {a : Act} {K : Act → World → Prop} {Q : Exit → Act → World → Prop} {E : Prop} (hgd : o.guard = none) (s x : Operand) (t : TypeId)
    (ho : o.op = .call { callee := .builtin .append, args := #[s, x], argTypes := #[t, t] })
    (base : Nat) (e : TypeId) (i : TypeInfo) (z : Value) (bytes : Nat) (ht : P.underlying t = some (.slice e)) (hi : P.info? e = some i) (hz : i.zero = some z)
    (hsize : i.size = 1) (hby : i.bytes = bytes) (hzs : z.cells.size = 1)
    (v : Value) (n : Nat) (xs : List Value) (hsv : a.eval s = v) (hown : w.ownsRow base e 1 v n xs) {f : Nat → Value} {A : Option Addr} {m c : Nat} {ns : List Nat} (hx : a.eval x = .slice A m c) (hs : Sl w f A m ns) (h1 : ∀ x, (f x).oneCell' = true)
    (h63 : n + m ≤ maxLen) (hbytes : (n + m) * bytes ≤ 140737488355328) (hbase : base ≤ w.heap.size)
    (h : ∀ v' w', w'.ownsRow base e 1 v' (n + m) (xs ++ ns.map f) → w.grownBy w' v.ownBlock → K (a.put o.dst v') w') :
    if Region.wanted o (yielded ops a.tmps) = true then Oper.wp P o a w K Q else E := by
  rw [if_pos (by simp [Region.wanted, hgd])]
  obtain ⟨v', w', hr, h2, h3⟩ := run_append_sl (P := P) w base t o.type e i z bytes ht hi hz hsize hby hzs v n xs hown (c := c) hs h1 h63 hbytes hbase
  unfold Oper.wp execOp
  simp only [ho, resolve, invoke, builtin, Sem.run_bind, Sem.run_pure, Result.andThen_ok, List.map_toArray, List.map_cons, List.map_nil, hsv, hx, hr]
  exact h v' w' h2 h3

theorem val_set0 (b : Nat) : ∀ (zs : List Nat) (i x : Nat), i < zs.length → nth zs i = 0 → val b (zs.set i x) = val b zs + x * b ^ i
  | [], i, x, h, _ => absurd h (by simp)
  | y :: ys, 0, x, _, h => by
    have h0 : y = 0 := by simpa [nth] using h
    subst h0
    rw [List.set_cons_zero, val_cons, val_cons, Nat.pow_zero]
    omega
  | y :: ys, i + 1, x, h, hn => by
    rw [List.set_cons_succ, val_cons, val_cons, val_set0 b ys i x (by simpa using h) (by simpa [nth] using hn), Nat.pow_succ, Nat.mul_add, Nat.add_assoc]
    congr 2
    rw [← Nat.mul_assoc, Nat.mul_comm b, Nat.mul_assoc, Nat.mul_comm b]
theorem set_nth (zs : List Nat) (i : Nat) (h : i < zs.length) (h0 : nth zs i = 0) : zs.set i 0 = zs := by
  have : zs[i] = 0 := by rw [nth_lt h] at h0; exact h0
  rw [← this, List.set_getElem_self]
theorem nth_set_ne (zs : List Nat) (i j x : Nat) (h : i ≠ j) : nth (zs.set i x) j = nth zs j := by
  unfold nth
  rw [List.getElem?_set_ne h]

theorem root_start {A L k n : Nat} (hk : 1 ≤ k) (hL : L = wlen B4 A) (hn : n = (L + k - 1) / k) : A < (0 + B4 ^ n) ^ k := by
  rw [Nat.zero_add, ← Nat.pow_mul]
  refine Nat.lt_of_lt_of_le (lt_pow_wlen two_le_B4 A) (Nat.pow_le_pow_right (by decide) ?_)
  rw [← hL, hn]
  have h1 := Nat.div_add_mod (L + k - 1) k
  have h2 := Nat.mod_lt (L + k - 1) (show 0 < k by omega)
  rw [Nat.mul_comm] at h1
  omega
theorem root_next {A P i k lo hi : Nat} (h1 : (P + lo * B4 ^ i) ^ k ≤ A) (h2 : A < (P + hi * B4 ^ i) ^ k) (h : hi ≤ lo + 1) : (P + lo * B4 ^ i) ^ k ≤ A ∧ A < (P + lo * B4 ^ i + B4 ^ i) ^ k := by
  refine ⟨h1, Nat.lt_of_lt_of_le h2 (Nat.pow_le_pow_left ?_ k)⟩
  have h3 : hi * B4 ^ i ≤ (lo + 1) * B4 ^ i := Nat.mul_le_mul_right _ h
  rw [Nat.succ_mul] at h3
  omega

/-- what the outer loop of 'Floor' keeps -/
structure FlR (w w0 : World) (A k n t P : Nat) (zs : List Nat) (W : World) : Prop where
  tl : t ≤ n
  len : zs.length = n
  ok : Ok B4 zs
  low : ∀ j, j < t → nth zs j = 0
  val : Vd.val B4 zs = P
  lo : P ^ k ≤ A
  hi : A < (P + B4 ^ t) ^ k
  row : Row W I8 (w.heap.size + 1 + 1) 3 zs
  bel : Below (w.heap.size + 1 + 1) w0 W

theorem FlR.step {w w0 W : World} {A k n i P lo hi : Nat} {zs : List Nat} {W1 : World} (h : FlR w w0 A k n (i + 1) P zs W) (h1 : (P + lo * B4 ^ i) ^ k ≤ A) (h2 : A < (P + hi * B4 ^ i) ^ k) (hh : hi ≤ lo + 1) (hl : lo < B4)
    (row : Row W1 I8 (w.heap.size + 1 + 1) 3 (zs.set i lo)) (bel : Below (w.heap.size + 1 + 1) w0 W1) : FlR w w0 A k n i (P + lo * B4 ^ i) (zs.set i lo) W1 := by
  have hi' : i < zs.length := by rw [h.len]; exact h.tl
  obtain ⟨e1, e2⟩ := root_next h1 h2 hh
  refine ⟨by have := h.tl; omega, by rw [List.length_set]; exact h.len, h.ok.set hl, fun j hj => ?_, ?_, e1, e2, row, bel⟩
  · rw [nth_set_ne _ _ _ _ (by omega)]; exact h.low j (by omega)
  · rw [val_set0 B4 zs i lo hi' (h.low i (by omega)), h.val]

theorem cmpZ_le (x y : Int) : cmpZ x y ≤ 0 ↔ x ≤ y := by
  unfold cmpZ
  by_cases h : x < y
  · rw [if_pos h]; omega
  · rw [if_neg h]
    by_cases h2 : y < x
    · rw [if_pos h2]; omega
    · rw [if_neg h2]; omega
theorem wlen_val {zs : List Nat} (h : Ok B4 zs) : wlen B4 (val B4 zs) ≤ zs.length := (wlen_le_iff two_le_B4 _ _).2 (val_lt h)

abbrev FlS (w W0 : World) (b0 : Bool) (m0 : Value) (W : World) : Prop :=
  Below W0.heap.size W0 W ∧ W.cell? ⟨w.heap.size, 0, none⟩ = some (.bool b0) ∧ W.cell? ⟨w.heap.size, 1, none⟩ = some m0
theorem fls_step {w W0 W W' : World} {b0 : Bool} {m0 : Value} (h : FlS w W0 b0 m0 W) (hb : Below W.heap.size W W') : FlS w W0 b0 m0 W' := by
  have hl := World.block_lt_of_cell? W _ h.2.1
  exact ⟨h.1.trans (hb.mono h.1.size), (hb.cell (p := ⟨w.heap.size, 0, none⟩) hl).trans h.2.1, (hb.cell (p := ⟨w.heap.size, 1, none⟩) hl).trans h.2.2⟩

set_option maxRecDepth 100000 in
set_option maxHeartbeats 8000000 in
theorem floor_core (b0 : Bool) (Aa : Option Addr) (L c0 A k n : Nat) (w : World) (h : PlV w (.agg #[.bool b0, .slice Aa L c0]) (A : Int)) (hL : L = wlen B4 A) (hk1 : 1 ≤ k) (hk2 : k ≤ 12) (hn : n = (L + k - 1) / k) (hA : L ≤ 1000) :
    Calls Tryz.prog 74 #[.agg #[.bool b0, .slice Aa L c0], .int .i64 (k : Int)] w fun e w' => ∃ v, e = .returned v ∧ (∃ r : Nat, IsRoot k A r ∧ PlV w' v (r : Int)) ∧ Below w.heap.size w w' := by
  obtain ⟨i0, hi, hz0, hz1, hz2⟩ := info_parts infoI
  have HI := Lib.hid (And.intro hi (And.intro hz0 (And.intro hz1 hz2)))
  clear hi hz0 hz1 hz2
  have hn9 : n ≤ 1000 := by
    have h1 : n ≤ L := by
      rw [hn]
      have : (L + k - 1) / k ≤ L := by
        rcases Nat.eq_zero_or_pos L with h0 | h0
        · subst h0; rw [Nat.div_eq_of_lt (by omega)]; omega
        · refine Nat.div_le_of_le_mul ?_
          have : L + k ≤ k * L + 1 := by
            have : (k - 1) * 1 ≤ (k - 1) * L := Nat.mul_le_mul_left _ h0
            have e : k * L = (k - 1) * L + L := by rw [← Nat.succ_mul]; congr 1; omega
            omega
          omega
      exact this
    omega
  have hmk := fun W => mkJ n (by unfold maxW; omega) W
  have E1 : ((L : Int) + (k : Int) - 1) / (k : Int) = (n : Int) := by
    rw [hn, show ((L : Int) + (k : Int) - 1) = ((L + k - 1 : Nat) : Int) by omega]; simp
  have k1 : (k : Int) ≤ 12 := by omega
  have k2 : (1 : Int) ≤ (k : Int) := by omega
  have k3 : (L : Int) ≤ 1000 := by omega
  have k4 : (n : Int) ≤ 1000 := by omega
  have k5 : (0 : Int) ≤ (n : Int) := by omega
  have k6 : ((k : Int) == 0) = false := by rw [beq_eq_false_iff_ne]; omega
  have k7 : (k : Int) ≠ 0 := by omega
  have hst := root_start hk1 hL hn
  have HA := Lib.hid (And.intro h (And.intro hL (And.intro hk1 (And.intro hk2 (And.intro hst (show 0 < k by omega))))))
  clear h hL hk1 hk2 hn hst hA hn9
  go_enter Tryz.func74, Tryz.ntmps74
  go_wp2_with fail
  have hbW : Below w.heap.size w ((w.alloc (.cells #[.bool b0, .slice Aa L c0] 68)).alloc (.cells #[.bool false, .slice none 0 0] 68)) := ((Below.refl _ _).alloc (Nat.le_refl _) _).alloc (by simp) _
  obtain ⟨w0, hw0⟩ : ∃ w0, w0 = ((w.alloc (.cells #[.bool b0, .slice Aa L c0] 68)).alloc (.cells #[.bool false, .slice none 0 0] 68)) := ⟨_, rfl⟩
  have hz0 : w0.heap.size = w.heap.size + 1 + 1 := by rw [hw0]; simp
  have hbx0 : BoxP w0 (w.heap.size + 1) := by rw [hw0]; exact boxP_new (by simp)
  have ha0 : w0.cell? ⟨w.heap.size, 0, none⟩ = some (.bool b0) := by rw [hw0]; simp [go_sem]
  have ha1 : w0.cell? ⟨w.heap.size, 1, none⟩ = some (.slice Aa L c0) := by rw [hw0]; simp [go_sem]
  have hF0 : FlR w w0 A k n n 0 (List.replicate n 0) (w0.alloc (.cells (Array.replicate n (I8 0)) 3)) := by
    obtain ⟨_, _, h1, _, h2, h3⟩ := HA.out
    refine ⟨Nat.le_refl _, by simp, Ok.rep two_le_B4 _, fun j _ => nth_replicate n j, val_replicate n, ?_, h2, ?_, (Below.refl _ _).alloc (by omega) _⟩
    · rw [Nat.zero_pow h3]; exact Nat.zero_le _
    · have := Row.newRep w0 I8 3 n
      rw [hz0] at this
      exact this
  rw [← hw0] at hbW
  have HW : Hid (∀ W, Below (w.heap.size + 1 + 1) w0 W → W.cell? ⟨w.heap.size, 0, none⟩ = some (.bool b0) ∧ W.cell? ⟨w.heap.size, 1, none⟩ = some (.slice Aa L c0) ∧ BoxP W (w.heap.size + 1) ∧ Below w.heap.size w W ∧ PlV W (.agg #[.bool b0, .slice Aa L c0]) (A : Int)) := Lib.hid (fun W hW => by
    have h1 : Below w.heap.size w W := hbW.trans (hW.mono (by omega))
    exact ⟨by rw [hW.cell (p := ⟨w.heap.size, 0, none⟩) (by show w.heap.size < _; omega)]; exact ha0, by rw [hW.cell (p := ⟨w.heap.size, 1, none⟩) (by show w.heap.size < _; omega)]; exact ha1, hbx0.below hW (by omega), h1, HA.out.1.below h1⟩)
  simp only [← hw0]
  have HF0 := Lib.hid hF0
  clear hbW hw0 hz0 hbx0 ha0 ha1 hF0 hmk E1
  go_loopg [7] n (fun r iv W => ∃ (t P : Nat) (zs : List Nat), t = r ∧ iv = .int .i64 ((t : Int) - 1) ∧ FlR w w0 A k n t P zs W)
  case atStart => exact ⟨n, 0, _, rfl, rfl, HF0.out⟩
  case round =>
    clear HF0
    obtain ⟨t, P, zs, rfl, rfl, hF⟩ := hrel
    obtain ⟨wo, rfl⟩ : ∃ wo : World, wo = wr := ⟨_, rfl⟩
    cases t with
    | zero =>
      rw [show (((0 : Nat) : Int) - 1) = -1 from rfl]
      have hsl := hF.row.sl0
      rw [hF.len] at hsl
      have hmd := made4_any false (.slice (some ⟨w.heap.size + 1 + 1, 0, none⟩) n n) P wo ⟨_, n, n, zs, rfl, hsl, hF.ok, hF.val, Nat.le_refl _, by omega⟩
      have HF := Lib.hid hF
      clear hF hsl
      go_wp2_with fail
      refine hmd.mono ?_
      rintro e w2 ⟨A2, l2, c2, k2', rfl, hv, hb2⟩
      obtain ⟨_, _, hbx, hbel, _⟩ := HW.out _ HF.out.bel
      have hbx2 := hbx.below hb2 hbx.lt
      obtain ⟨⟨q0, hc0⟩, ⟨q1, hc1⟩, hf0, hf1⟩ := hbx2.facts
      have HB := Lib.hid (hbel.trans (hb2.mono hbel.size))
      clear hmd hbx hbel hb2
      go_wp2_with fail
      exact bodyPost_ret (v := .agg #[.bool k2', .slice A2 l2 c2]) (by simp [results, Tryz.results74, go_sem, hc0, hc1]) rfl ⟨_, rfl, ⟨P, ⟨HF.out.lo, by have := HF.out.hi; rwa [Nat.pow_zero] at this⟩, hv.sets hbx2 _ _⟩, (HB.out.setCell (by simp) _).setCell (by simp) _⟩
    | succ i =>
      rw [show (((i + 1 : Nat) : Int) - 1) = (i : Int) from by omega]
      have HF := Lib.hid hF
      have i1 : (0 : Int) ≤ (i : Int) := by omega
      have hiz : i < zs.length := by rw [hF.len]; exact hF.tl
      have i2 : (i : Int) < (n : Int) := by have := hF.tl; omega
      have hs0 : Row wo I8 (w.heap.size + 1 + 1) 3 (zs.set i 0) := by rw [set_nth zs i hiz (hF.low i (by omega))]; exact hF.row
      have hhi : A < (P + 10000 * B4 ^ i) ^ k := by
        have := hF.hi
        rwa [Nat.pow_succ, Nat.mul_comm, B4_eq] at this
      have hlo : (P + 0 * B4 ^ i) ^ k ≤ A := by rw [Nat.zero_mul, Nat.add_zero]; exact hF.lo
      have HS := Lib.hid (And.intro hs0 (And.intro hhi (And.intro hlo (And.intro hF.bel hiz))))
      clear hF hiz hs0 hhi hlo
      go_wp2_with fail
      go_loopg [8, 9] 10000 (fun r lv hv W => ∃ (lo hi x : Nat), r = hi - lo ∧ lv = .int .i64 (lo : Int) ∧ hv = .int .i64 (hi : Int) ∧ lo < hi ∧ hi ≤ 10000 ∧ (P + lo * B4 ^ i) ^ k ≤ A ∧ A < (P + hi * B4 ^ i) ^ k ∧ x < B4 ∧ Row W I8 (w.heap.size + 1 + 1) 3 (zs.set i x) ∧ Below (w.heap.size + 1 + 1) w0 W)
      case atStart => exact ⟨0, 10000, 0, rfl, rfl, rfl, by omega, by omega, HS.out.2.2.1, HS.out.2.1, by decide, HS.out.1, HS.out.2.2.2.1⟩
      case round =>
        obtain ⟨lo, hi, x, rfl, rfl, rfl, hlh, hi9, hlo, hhi, hx4, hrow, hbel⟩ := hrel
        have hco := hrow.cell (i := i) (by rw [List.length_set]; exact HS.out.2.2.2.2)
        have hfo := hrow.frozen i
        unfold I8 at hco
        have m3 : (0 : Int) ≤ (lo : Int) := by omega
        have m4 : (hi : Int) ≤ 10000 := by omega
        have m5 : (lo : Int) ≤ 10000 := by omega
        have m6 : (0 : Int) ≤ (hi : Int) := by omega
        by_cases hc : 1 < hi - lo
        · obtain ⟨m, hm⟩ : ∃ m, m = (lo + hi) / 2 := ⟨_, rfl⟩
          have m1 : ((lo : Int) + (hi : Int)) / 2 = (m : Int) := by rw [hm]; omega
          have m2 : (1 : Int) < (hi : Int) - (lo : Int) := by omega
          have hm4 : m < B4 := by rw [B4_eq]; omega
          have m7 : (m : Int) ≤ 9999 := by rw [B4_eq] at hm4; omega
          have m8 : (0 : Int) ≤ (m : Int) := by omega
          have hrow1 := hrow.set i m
          rw [List.set_set] at hrow1
          have hbel1 : Below (w.heap.size + 1 + 1) w0 (wr.setCell ⟨w.heap.size + 1 + 1, i, none⟩ (I8 m)) := hbel.setCell (Nat.le_refl _) _
          obtain ⟨W1, hW1⟩ : ∃ W1, W1 = wr.setCell ⟨w.heap.size + 1 + 1, i, none⟩ (I8 m) := ⟨_, rfl⟩
          rw [← hW1] at hrow1 hbel1
          have hV : val B4 (zs.set i m) = P + m * B4 ^ i := by rw [val_set0 B4 zs i m HS.out.2.2.2.2 (HF.out.low i (by omega)), HF.out.val]
          have hln : (zs.set i m).length = n := by rw [List.length_set]; exact HF.out.len
          have hokm : Ok B4 (zs.set i m) := HF.out.ok.set hm4
          have HM := Lib.hid (And.intro hm (And.intro hlh (And.intro hi9 (And.intro hlo (And.intro hhi (And.intro hc (And.intro hrow1 (And.intro hbel1 (And.intro hV (And.intro hln (And.intro hokm hm4)))))))))))
          obtain ⟨_, hq1, hq2, _, _⟩ := And.intro True.intro (HW.out _ hbel1)
          clear hm hlh hi9 hlo hhi hc hrow1 hbel1 hV hln hokm hm4 hrow hbel hx4
          have HS1 : Hid (∀ W, Below W1.heap.size W1 W → (Below W1.heap.size W1 W ∧ W.cell? ⟨w.heap.size, 0, none⟩ = some (.bool b0) ∧ W.cell? ⟨w.heap.size, 1, none⟩ = some (.slice Aa L c0)) ∧ PlV W (.agg #[.bool b0, .slice Aa L c0]) (A : Int) ∧ Below (w.heap.size + 1 + 1) w0 W) := Lib.hid (fun W hW => by
            have hb1 := HM.out.2.2.2.2.2.2.2.1
            have h1 : Below (w.heap.size + 1 + 1) w0 W := hb1.trans (hW.mono (Nat.le_of_lt HM.out.2.2.2.2.2.2.1.lt))
            obtain ⟨e1, e2, _, _, e3⟩ := HW.out W h1
            exact ⟨⟨hW, e1, e2⟩, e3, h1⟩)
          obtain ⟨V, hVV⟩ : ∃ V, V = val B4 (zs.set i m) := ⟨_, rfl⟩
          obtain ⟨D, hD⟩ : ∃ D, D = cmpZ ((V : Int) ^ k) (A : Int) := ⟨_, rfl⟩
          have HD := Lib.hid (show (D ≤ 0 ↔ (P + m * B4 ^ i) ^ k ≤ A) ∧ wlen B4 V ≤ 1000 by
            constructor
            · rw [hD, cmpZ_le, hVV, HM.out.2.2.2.2.2.2.2.2.1, ← Int.natCast_pow]; omega
            · rw [hVV]; have := wlen_val HM.out.2.2.2.2.2.2.2.2.2.2.1; rw [HM.out.2.2.2.2.2.2.2.2.2.1] at this; omega)
          have HO : Hid (∀ W v1 v2, PlV W v1 ((V : Int) ^ k) → PlV W v2 (A : Int) → Calls Tryz.prog 57 #[v1, v2] W fun e w' => e = .returned (.int .i64 D) ∧ Below W.heap.size W w') := Lib.hid (fun W v1 v2 h1 h2 => by
            rw [hD]
            exact orderZ4_any v1 v2 _ _ W h1 h2 (w4_pow (by rw [Int.natAbs_natCast]; exact HD.out.2) (by have := HA.out.2.2.2.1; omega)) (by rw [Int.natAbs_natCast, ← HA.out.2.1]; omega))
          have HR : Hid (∀ W v1, PlV W v1 (V : Int) → Calls Tryz.prog 72 #[v1, .int .i64 (k : Int)] W fun e w' => ∃ v, e = .returned v ∧ PlV w' v ((V : Int) ^ k) ∧ Below W.heap.size W w') := Lib.hid (fun W v1 h1 => raisedZ_any v1 _ k W h1 (by rw [Int.natAbs_natCast]; exact HD.out.2) (by have := HA.out.2.2.2.1; omega))
          have hown0 : (W1.alloc (.cells #[] 3)).drew.ownsRow W1.heap.size 3 1 (.slice (some ⟨W1.heap.size, 0, none⟩) 0 0) 0 [] := owns_none W1 3
          have hsl0 : Sl (W1.alloc (.cells #[] 3)).drew I8 (some ⟨w.heap.size + 1 + 1, 0, none⟩) n (zs.set i m) := by
            have h1 := HM.out.2.2.2.2.2.2.1.sl0
            rw [HM.out.2.2.2.2.2.2.2.2.2.1] at h1
            exact h1.alloc _
          have hSd := (HS1.out W1.drew ((Below.refl _ _).drew)).1
          have hSa := (HS1.out (W1.alloc (.cells #[] 3)).drew (((Below.refl _ _).alloc (Nat.le_refl _) _).drew)).1
          have HV := Lib.hid hVV
          rw [show I8 m = Value.int .i64 (m : Int) from rfl] at hW1
          clear hVV hD
          go_wp2_with fail
          rw [← hW1]
          clear hW1 hco hfo
          go_region_held3 (fun W => Below W1.heap.size W1 W ∧ W.cell? ⟨w.heap.size, 0, none⟩ = some (.bool b0) ∧ W.cell? ⟨w.heap.size, 1, none⟩ = some (.slice Aa L c0)) (first | with_reducible assumption)
            (first
              | (go_at_call 75; refine (made4_any false _ V _ hdl).mono ?_; rintro e w6 ⟨A6, n6, c6, k6, rfl, hp6, hb6⟩; have hb6 := hb5.trans (hb6.mono hb5.size); obtain ⟨hS6, _, _⟩ := HS1.out _ hb6)
              | (go_at_call 72; refine (HR.out _ _ hp6).mono ?_; rintro e w7 ⟨v7, rfl, hp7, hb7⟩; have hb7 := hb6.trans (hb7.mono hb6.size); obtain ⟨hS7, hpa7, _⟩ := HS1.out _ hb7; obtain ⟨A7, n7, c7, k7', rfl⟩ := hp7.open)
              | (go_at_call 57; refine (HO.out _ _ _ hp7 hpa7).mono ?_; rintro e w8 ⟨rfl, hb8⟩; have hb8 := hb7.trans (hb8.mono hb7.size); obtain ⟨hS8, _, hbel8⟩ := HS1.out _ hb8)
              | (refine stepAppendSl _ rfl (.tmp 37) (.tmp 38) 66 rfl W1.heap.size 3 i0 (.int .i64 0) 8 Tryz.underlying66 HI.out.1 HI.out.2.1 HI.out.2.2.1 HI.out.2.2.2 rfl (.slice (some ⟨W1.heap.size, 0, none⟩) 0 0) 0 [] rfl hown0 rfl hsl0 (fun _ => rfl) (by unfold maxLen; omega) (by omega) (by simp) ?_; intro v' w5 hown' hgrow; have hb5 : Below W1.heap.size W1 w5 := below_own (((Below.refl _ _).alloc (Nat.le_refl _) _).drew) hown0 hgrow (Nat.le_refl _) (by simp); obtain ⟨hS5, _, _⟩ := HS1.out _ hb5; rw [Nat.zero_add, List.nil_append] at hown'; obtain ⟨A5, c5, rfl, hn5, hm5, hs5⟩ := owns_sl hown'; have hdl : DigL w5 (.slice A5 n c5) V := ⟨A5, n, c5, _, rfl, hs5, HM.out.2.2.2.2.2.2.2.2.2.2.1, HV.out.symm, hn5, hm5⟩))
          have hrow8 := HM.out.2.2.2.2.2.2.1.below hb8 HM.out.2.2.2.2.2.2.1.lt
          have hco := hrow8.cell (i := i) (by rw [List.length_set]; exact HS.out.2.2.2.2)
          rw [getD_set zs i i m HS.out.2.2.2.2, if_pos rfl] at hco
          unfold I8 at hco
          have HE := Lib.hid (And.intro hrow8 hbel8)
          clear hrow8 hbel8 hS8 hb8 hSd hSa hown0 hsl0
          by_cases hd : D ≤ 0
          · have HX := Lib.hid (HD.out.1.1 hd)
            go_wp2_with fail
            go_roundg (hi - m)
            case measure => have := HM.out.1; have := HM.out.2.1; have := HM.out.2.2.2.2.2.1; omega
            case rel => exact ⟨m, hi, m, rfl, rfl, rfl, by have := HM.out.1; have := HM.out.2.2.2.2.2.1; omega, HM.out.2.2.1, HX.out, HM.out.2.2.2.2.1, HM.out.2.2.2.2.2.2.2.2.2.2.2, HE.out.1, HE.out.2⟩
          · have HX := Lib.hid (Nat.lt_of_not_le (fun h => hd (HD.out.1.2 h)))
            go_wp2_with fail
            go_roundg (m - lo)
            case measure => have := HM.out.1; have := HM.out.2.1; have := HM.out.2.2.2.2.2.1; omega
            case rel => exact ⟨lo, m, m, rfl, rfl, rfl, by have := HM.out.1; have := HM.out.2.2.2.2.2.1; omega, by have := HM.out.1; have := HM.out.2.2.1; omega, HM.out.2.2.2.1, HX.out, HM.out.2.2.2.2.2.2.2.2.2.2.2, HE.out.1, HE.out.2⟩
        · have m2 : ¬ (1 : Int) < (hi : Int) - (lo : Int) := by omega
          have hl4 : lo < B4 := by rw [B4_eq]; omega
          have hrow1 := hrow.set i lo
          rw [List.set_set] at hrow1
          have hst := HF.out.step hlo hhi (by omega) hl4 hrow1 (hbel.setCell (Nat.le_refl _) _)
          have HX := Lib.hid hst
          clear hst hrow1 hl4 hlo hhi hlh hi9 hc hrow hbel hx4
          go_wp2_with fail
          go_roundg i
          case measure => omega
          case rel => exact ⟨i, _, _, rfl, by go_num, HX.out⟩

theorem floor4_any (v : Value) (A k : Nat) (w : World) (h : PlV w v (A : Int)) (hk1 : 1 ≤ k) (hk2 : k ≤ 12) (hA : wlen B4 A ≤ 1000) :
    Calls Tryz.prog 74 #[v, .int .i64 (k : Int)] w fun e w' => ∃ v, e = .returned v ∧ (∃ r : Nat, IsRoot k A r ∧ PlV w' v (r : Int)) ∧ Below w.heap.size w w' := by
  obtain ⟨Aa, n, c, b, rfl⟩ := h.open
  have hn := (order4z_cells h).2
  rw [Int.natAbs_natCast] at hn
  subst hn
  exact floor_core b Aa _ c A k _ w h rfl hk1 hk2 rfl hA

theorem field_below (k : Bool) (A : Option Addr) (n c : Nat) (W : World) : (Instr.field 68 (.agg #[.bool k, .slice A n c]) 0).run Tryz.prog W = .ok (.bool k) W := by
  kernel_rfl

set_option maxRecDepth 100000 in
set_option maxHeartbeats 1000000 in
theorem rroot_some (l : List UInt8) (z : Int) (k r : Nat) (w : World) (h : rd l = some z) (hz : 0 ≤ z) (hk1 : 1 ≤ k) (hk2 : k ≤ 12) (hroot : IsRoot k z.natAbs r) :
    Calls Tryz.prog 40 #[.string ⟨l.toArray⟩, .int .i64 (k : Int)] w fun e w' => e = .returned (.tuple #[.string ⟨(wr (r : Int)).toArray⟩, .int .i64 0]) ∧ Below w.heap.size w w' := by
  have hr := fun W => right_any l (rd_len h) W
  rw [rd_okB h] at hr
  have hi := fun W => in_any l z W h
  have d1 := w4_one (rd_low h)
  have hz2 : (z.natAbs : Int) = z := by omega
  have HF : Hid (∀ W v, PlV W v z → Calls Tryz.prog 74 #[v, .int .i64 (k : Int)] W fun e w' => ∃ v, e = .returned v ∧ PlV w' v (r : Int) ∧ Below W.heap.size W w') := Lib.hid (fun W v hv => by
    rw [← hz2] at hv
    refine (floor4_any v _ k W hv hk1 hk2 (by omega)).mono ?_
    rintro e w' ⟨v, he, ⟨r', hr', hp⟩, hb⟩
    rw [root_unique hroot hr']
    exact ⟨v, he, hp, hb⟩)
  have hrl : r ≤ z.natAbs := by
    have h1 := hroot.1
    exact Nat.le_trans (Nat.le_self_pow (by omega) r) h1
  have hrs : small (r : Int) := by
    unfold small
    rw [Int.natAbs_natCast]
    exact Nat.lt_of_le_of_lt hrl (rd_some h).2
  have ho := fun W v hv => out4_any v (r : Int) W hv (by rw [Int.natAbs_natCast]; exact Nat.le_trans (wlen_mono two_le_B4 hrl) (by omega))
  simp only [outV_small hrs] at ho
  obtain ⟨t, ht⟩ : ∃ t, t = wr (r : Int) := ⟨_, rfl⟩
  simp only [← ht] at ho
  rw [← ht]
  have HO := Lib.hid ho
  have i1 : (k : Int) ≤ 12 := by omega
  have i2 : (1 : Int) ≤ (k : Int) := by omega
  have hzn : decide (z < 0) = false := by simp; omega
  have HZ := Lib.hid hzn
  clear h d1 hz2 hrl hrs ho ht hroot hk1 hk2 hz hzn
  go_enter Tryz.func40, Tryz.ntmps40
  go_wp2_with fail
  refine (hr _).mono ?_
  rintro e w1 ⟨rfl, rfl⟩
  clear hr
  go_wp2_with fail
  refine (hi _).mono ?_
  rintro e w2 ⟨v1, rfl, hv1, hb2⟩
  obtain ⟨A1, n1, c1, k1, rfl⟩ := hv1.open
  obtain rfl : k1 = false := by rw [(order4z_cells hv1).1]; exact HZ.out
  have hfd := field_below false A1 n1 c1
  have HB := Lib.hid hb2
  clear hv1 hb2
  go_wp2_with fail
  refine (hi _).mono ?_
  rintro e w3 ⟨v2, rfl, hv2, hb3⟩
  obtain ⟨A2, n2, c2, k2, rfl⟩ := hv2.open
  have hop := HF.out _ _ hv2
  have HB2 := Lib.hid (below_tr HB.out hb3)
  clear hi hfd hv2 hb3
  go_wp2_with fail
  refine hop.mono ?_
  rintro e w4 ⟨v3, rfl, hv3, hb4⟩
  obtain ⟨A3, n3, c3, k3, rfl⟩ := hv3.open
  have ho := HO.out _ _ hv3
  have HB3 := Lib.hid (below_tr HB2.out hb4)
  clear hop hv3 hb4
  go_wp2_with fail
  refine ho.mono ?_
  rintro e w5 ⟨rfl, hb5⟩
  go_wp2_with fail
  go_ret2
  exact ⟨rfl, below_tr HB3.out hb5⟩

set_option maxRecDepth 100000 in
set_option maxHeartbeats 1000000 in
theorem rroot_arg (l : List UInt8) (z k : Int) (w : World) (h : rd l = some z) (hk : k < 1 ∨ 12 < k ∨ z < 0) :
    Calls Tryz.prog 40 #[.string ⟨l.toArray⟩, .int .i64 k] w fun e w' => e = .returned (.tuple #[.string ⟨#[]⟩, .int .i64 2]) ∧ Below w.heap.size w w' := by
  have hr := fun W => right_any l (rd_len h) W
  rw [rd_okB h] at hr
  have hi := fun W => in_any l z W h
  clear h
  by_cases h1 : k < 1
  · clear hk hi
    go_enter Tryz.func40, Tryz.ntmps40
    go_wp2_with fail
    refine (hr _).mono ?_
    rintro e w1 ⟨rfl, rfl⟩
    go_wp2_with fail
    go_ret2
    exact ⟨rfl, Below.refl _ _⟩
  · by_cases h2 : 12 < k
    · clear hk hi
      go_enter Tryz.func40, Tryz.ntmps40
      go_wp2_with fail
      refine (hr _).mono ?_
      rintro e w1 ⟨rfl, rfl⟩
      go_wp2_with fail
      go_ret2
      exact ⟨rfl, Below.refl _ _⟩
    · have h3 : z < 0 := by omega
      have HZ := Lib.hid (show decide (z < 0) = true by simpa using h3)
      clear hk h3
      go_enter Tryz.func40, Tryz.ntmps40
      go_wp2_with fail
      refine (hr _).mono ?_
      rintro e w1 ⟨rfl, rfl⟩
      clear hr
      go_wp2_with fail
      refine (hi _).mono ?_
      rintro e w2 ⟨v1, rfl, hv1, hb2⟩
      obtain ⟨A1, n1, c1, k1, rfl⟩ := hv1.open
      obtain rfl : k1 = true := by rw [(order4z_cells hv1).1]; exact HZ.out
      have hfd := field_below true A1 n1 c1
      clear hv1
      go_wp2_with fail
      go_ret2
      exact ⟨rfl, hb2⟩

set_option maxRecDepth 100000 in
set_option maxHeartbeats 1000000 in
theorem rroot_none (l : List UInt8) (k : Int) (w : World) (b : l.length ≤ 1000000) (h : rd l = none) :
    Calls Tryz.prog 40 #[.string ⟨l.toArray⟩, .int .i64 k] w fun e w' => e = .returned (.tuple #[.string ⟨#[]⟩, .int .i64 10]) ∧ Below w.heap.size w w' := by
  have hr := fun W => right_any l b W
  rw [rd_noB h] at hr
  clear h b
  go_enter Tryz.func40, Tryz.ntmps40
  go_wp2_with fail
  refine (hr _).mono ?_
  rintro e w1 ⟨rfl, rfl⟩
  go_wp2_with fail
  go_ret2
  exact ⟨rfl, Below.refl _ _⟩

end Go.Proofs.YtcigciclpdnbhaaGreatDoor
