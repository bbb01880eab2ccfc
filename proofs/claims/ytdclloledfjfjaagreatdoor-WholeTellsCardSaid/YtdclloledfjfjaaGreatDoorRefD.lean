/- Contract of the reference: product. -/
import Derived.Test.YtdclloledfjfjaaGreatDoorRefC
namespace Go.Proofs.YtdclloledfjfjaaGreatDoor
open Go.RowKit Vd

theorem mkJ (n : Nat) (hn : n ≤ 3 * maxW) (w : World) : (Instr.makeSlice 90 (.int .i64 (n : Int)) (.int .i64 (n : Int))).run Tryz.prog w = .ok (.slice (some ⟨w.heap.size, 0, none⟩) n n) (w.alloc (.cells ((List.replicate n 0).map I8).toArray 3)) := by
  have h := run_make_row' (P := Tryz.prog) 90 3 (.int .i64 0) 8 Tryz.underlying90 infoI rfl .i64 .i64 n (by unfold maxW at hn; omega) (by unfold maxW at hn; omega) w
  rw [← madeCells_eq]
  exact h

/-- digits, or one that is 10000 at most -/
def PB (ys : List Nat) : Prop := Ok B4 ys ∨ ∃ m, ys = [m] ∧ m ≤ 10000
theorem PB.le {ys : List Nat} (h : PB ys) (j : Nat) : nth ys j ≤ 10000 := by
  rcases h with h | ⟨m, rfl, hm⟩
  · have := h.get two_le_B4 j; rw [B4_eq] at this; omega
  · cases j with
    | zero => exact hm
    | succ j => rw [nth_ge (by simp)]; omega
theorem PB.bound {ys : List Nat} (h : PB ys) {j c o x : Nat} (hj : j < ys.length) (hc : c < B4) (h0 : j = 0 → c = 0) (ho : o < B4) (hx : x < B4) : c + o + x * nth ys j ≤ 99999999 := by
  rw [B4_eq] at *
  rcases h with h | ⟨m, rfl, hm⟩
  · have h1 := h.get two_le_B4 j
    rw [B4_eq] at h1
    have : x * nth ys j ≤ 9999 * 9999 := Nat.mul_le_mul (by omega) (by omega)
    omega
  · have hj0 : j = 0 := by simp at hj; exact hj
    subst hj0
    have h1 : nth [m] 0 ≤ 10000 := hm
    have : x * nth [m] 0 ≤ 9999 * 10000 := Nat.mul_le_mul (by omega) h1
    have := h0 rfl
    omega

/-- what the inner loop of 'product' keeps -/
structure ProR (w : World) (L i x : Nat) (ys os : List Nat) (j carry : Nat) (zs : List Nat) (W : World) : Prop where
  cl : carry < B4
  c0 : j = 0 → carry = 0
  len : zs.length = L
  ok : Ok B4 zs
  drop : zs.drop (i + j) = os.drop (i + j)
  val : val B4 (zs.take (i + j)) + B4 ^ (i + j) * carry = val B4 (os.take (i + j)) + B4 ^ i * (x * val B4 (ys.take j))
  row : Row W I8 w.heap.size 3 zs
  bel : Below w.heap.size w W

theorem pro_math (P Q Z c O V a x y lo hi : Nat) (h : Z + P * Q * c = O + P * (x * V)) (e : lo + B4 * hi = c + a + x * y) : Z + lo * (P * Q) + P * Q * B4 * hi = O + a * (P * Q) + P * (x * (V + y * Q)) := by
  have e1 : P * Q * (lo + B4 * hi) = P * Q * (c + a + x * y) := by rw [e]
  grind

theorem ProR.drewN {w : World} {L i x : Nat} {ys os : List Nat} {j carry : Nat} {zs : List Nat} {W : World} (h : ProR w L i x ys os j carry zs W) (n : Nat) : ProR w L i x ys os j carry zs (W.drewN n) :=
  ⟨h.cl, h.c0, h.len, h.ok, h.drop, h.val, h.row.drewN n, below_drewN h.bel n⟩
theorem ProR.step {w : World} {L i x : Nat} {ys os : List Nat} {j carry : Nat} {zs : List Nat} {W : World} (h : ProR w L i x ys os j carry zs W) (hij : i + j < L) (hx : x < B4) (oy : PB ys) (hjl : j < ys.length) {T : Nat} (hT : T = carry + nth zs (i + j) + x * nth ys j) :
    ProR w L i x ys os (j + 1) (dHi T) (zs.set (i + j) (dLo T)) (W.setCell ⟨w.heap.size, i + j, none⟩ (I8 (dLo T))) := by
  have hd := d_eq T
  have ho := h.ok.get two_le_B4 (i + j)
  have hT9 := oy.bound hjl h.cl h.c0 ho hx
  have hcl := h.cl
  refine ⟨?_, fun h0 => by omega, by rw [List.length_set]; exact h.len, h.ok.set (dLo_lt _), ?_, ?_, h.row.set _ _, h.bel.setCell (Nat.le_refl _) _⟩
  · unfold dHi; rw [B4_eq] at *; omega
  · show (zs.set (i + j) (dLo T)).drop (i + j + 1) = os.drop (i + j + 1)
    rw [drop_set_succ]; exact drop_succ_of h.drop
  · show Vd.val B4 ((zs.set (i + j) (dLo T)).take (i + j + 1)) + B4 ^ (i + j + 1) * dHi T = Vd.val B4 (os.take (i + j + 1)) + B4 ^ i * (x * Vd.val B4 (ys.take (j + 1)))
    have hv := h.val
    rw [val_take_set _ _ _ (by rw [h.len]; exact hij), val_take_succ, val_take_succ, ← nth_of_drop h.drop, Nat.pow_succ, Nat.pow_add]
    rw [Nat.pow_add] at hv
    rw [hT] at hd
    rw [hT]
    exact pro_math _ _ _ _ _ _ _ _ _ _ _ hv hd

set_option maxRecDepth 100000 in
set_option maxHeartbeats 2000000 in
theorem product4_core (A1 A2 : Option Addr) (n1 n2 c1 c2 : Nat) (xs ys : List Nat) (w : World) (hx : Sl w I8 A1 n1 xs) (hy : Sl w I8 A2 n2 ys) (ox : Ok B4 xs) (oy : PB ys) (b1 : n1 ≤ 1000000000) (b2 : n2 ≤ 1000000000) :
    Calls Tryz.prog 186 #[.slice A1 n1 c1, .slice A2 n2 c2] w fun e w' => ∃ A n c, e = .returned (.slice A n c) ∧ DigV w' (.slice A n c) (val B4 xs * val B4 ys) ∧ Below w.heap.size w w' := by
  obtain ⟨L, hL⟩ : ∃ L, L = n1 + n2 := ⟨_, rfl⟩
  have hmk := fun W => mkJ L (by unfold maxW; omega) W
  rw [show (L : Int) = (n1 : Int) + (n2 : Int) by omega] at hmk
  have HX := Lib.hid (And.intro hx.len (And.intro hy.len hL))
  have q1 : (n1 : Int) ≤ 1000000000 := by omega
  have q2 : (n2 : Int) ≤ 1000000000 := by omega
  clear hL b1 b2
  go_enter Tryz.func186, Tryz.ntmps186
  go_wp2_with fail
  go_loopg [6] n1 (fun r iv W => ∃ (i : Nat) (zs : List Nat), r = n1 - i ∧ iv = .int .i64 (i : Int) ∧ i ≤ n1 ∧ zs.length = L ∧ Ok B4 zs ∧ Row W I8 w.heap.size 3 zs ∧ val B4 (zs.take (i + n2)) = val B4 (xs.take i) * val B4 ys ∧ Below w.heap.size w W)
  case atStart => exact ⟨0, List.replicate L 0, rfl, rfl, Nat.zero_le _, by simp, Ok.rep two_le_B4 _, Row.newRep w I8 _ _, by simp [List.take_replicate, val_replicate, val_nil], (Below.refl _ _).alloc (Nat.le_refl _) _⟩
  case round =>
    obtain ⟨i, zs, rfl, rfl, hi, hlz, hoz, hrow, hval, hbel⟩ := hrel
    obtain ⟨wo, rfl⟩ : ∃ wo : World, wo = wr := ⟨_, rfl⟩
    by_cases ha : i < n1
    · have hia : (i : Int) < (n1 : Int) := by omega
      have HO := Lib.hid (And.intro hval (And.intro hlz (And.intro ha hi)))
      have hR0 : ProR w L i (nth xs i) ys zs 0 0 zs wo := ⟨by decide, fun _ => rfl, hlz, hoz, rfl, by simp [val_nil], hrow, hbel⟩
      obtain ⟨g1, o1, rfl, hg1, hc1⟩ := hx.at_ (by omega)
      have hc1i := hc1 i ha
      clear hval hlz ha hi hrow hbel hmk hc1
      go_wp2_with fail
      go_loopg [7, 8] n2 (fun r cv jv W => ∃ (j carry : Nat) (zs' : List Nat), r = n2 - j ∧ cv = .int .i64 (carry : Int) ∧ jv = .int .i64 (j : Int) ∧ j ≤ n2 ∧ ProR w L i (nth xs i) ys zs j carry zs' W)
      case atStart => exact ⟨0, 0, zs, rfl, rfl, rfl, Nat.zero_le _, hR0⟩
      case round =>
        clear hR0
        obtain ⟨j, carry, zs', rfl, rfl, rfl, hj, hR⟩ := hrel
        have hij : i + n2 < L := by have := HX.out.2.2; have := HO.out.2.2.1; omega
        by_cases hb : j < n2
        · have hjb : (j : Int) < (n2 : Int) := by omega
          obtain ⟨g2, o2, rfl, hg2, hc2⟩ := hy.at_ (by omega)
          have hcb := (hR.bel.cell (p := ⟨g2, o2 + j, none⟩) hg2).trans (hc2 j hb)
          have hca := (hR.bel.cell (p := ⟨g1, o1 + i, none⟩) hg1).trans hc1i
          have hco := hR.row.cell (i := i + j) (by rw [hR.len]; omega)
          have hfo := hR.row.frozen (i + j)
          have hxk := ox.get two_le_B4 i
          have hyk := oy.le j
          have hT9 := oy.bound (by rw [HX.out.2.1]; exact hb) hR.cl hR.c0 (hR.ok.get two_le_B4 (i + j)) (ox.get two_le_B4 i)
          have hok := hR.ok.get two_le_B4 (i + j)
          have hcl := hR.cl
          have HR := Lib.hid hR
          obtain ⟨x, hxx⟩ : ∃ x, x = nth xs i := ⟨_, rfl⟩
          obtain ⟨y, hyy⟩ : ∃ x, x = nth ys j := ⟨_, rfl⟩
          obtain ⟨o, hoo⟩ : ∃ x, x = nth zs' (i + j) := ⟨_, rfl⟩
          rw [← hxx] at hca hxk
          rw [← hyy] at hcb hyk
          rw [← hoo] at hco hok
          unfold I8 at hca hcb hco
          rw [B4_eq] at hxk hok hcl
          have hxy : x * y ≤ 9999 * 10000 := Nat.mul_le_mul (by omega) (by omega)
          rw [← hoo, ← hxx, ← hyy] at hT9
          obtain ⟨M, hM⟩ : ∃ M, M = x * y := ⟨_, rfl⟩
          obtain ⟨T, hT⟩ : ∃ T, T = carry + o + M := ⟨_, rfl⟩
          rw [← hM, ← hT] at hT9
          have hMI : (x : Int) * (y : Int) = (M : Int) := by rw [hM, Int.natCast_mul]
          rw [← hM] at hxy
          have k1 : IntKind.i64.wrap ((i : Int) + (j : Int)) = (i : Int) + (j : Int) := by rw [IntKind.wrap_i64]; omega
          have k2 : ((i : Int) + (j : Int)).toNat = i + j := by omega
          have k3 : (0 : Int) ≤ (i : Int) + (j : Int) := by omega
          have k4 : (i : Int) + (j : Int) < (L : Int) := by omega
          have k5 : IntKind.i64.wrap ((carry : Int) + (o : Int)) = (carry : Int) + (o : Int) := by rw [IntKind.wrap_i64]; omega
          have k6 : IntKind.i64.wrap ((x : Int) * (y : Int)) = (M : Int) := by rw [hMI, IntKind.wrap_i64]; omega
          have k7 : IntKind.i64.wrap ((carry : Int) + (o : Int) + (M : Int)) = (T : Int) := by rw [IntKind.wrap_i64]; omega
          have e1 := dLo_eq T
          have e2 := dHi_eq T
          have k8 : (0 : Int) ≤ (T : Int) := by omega
          have k9 : (0 : Int) ≤ (i : Int) := by omega
          have k11 : (T : Int) ≤ 99999999 := by omega
          have k12 : (0 : Int) ≤ (dHi T : Int) := by omega
          have k13 : (dHi T : Int) ≤ 9999 := by omega
          have k10 : (0 : Int) ≤ (j : Int) := by omega
          have HT := Lib.hid (And.intro hT (And.intro hM (And.intro hxx (And.intro hyy (And.intro hoo (And.intro hb hij))))))
          clear hT9 hT hM hxx hyy hoo hMI hxy hxk hyk hok hcl hR hc2 hb hj hij
          go_wp2_with fail
          go_quiet (fail)
          go_wp2_with fail
          go_roundg (n2 - (j + 1))
          case measure => have := HT.out.2.2.2.2.2.1; omega
          case rel =>
            obtain ⟨hT, hM, hxx, hyy, hoo, hb, hij⟩ := HT.out
            have hst := (HR.out.drewN nq).step (T := T) (by omega) (ox.get two_le_B4 i) oy (by rw [HX.out.2.1]; exact hb) (by rw [hT, hM, hxx, hyy, hoo])
            exact ⟨j + 1, dHi T, _, rfl, by first | rw [e2] | rfl, by go_num, by omega, hst⟩
        · have hjn : j = n2 := by omega
          subst hjn
          have hjb : ¬ (j : Int) < (j : Int) := by omega
          have hfo := hR.row.frozen (i + j)
          have hco := hR.row.cell (i := i + j) (by rw [hR.len]; omega)
          have k1 : IntKind.i64.wrap ((i : Int) + (j : Int)) = (i : Int) + (j : Int) := by rw [IntKind.wrap_i64]; omega
          have k2 : ((i : Int) + (j : Int)).toNat = i + j := by omega
          have k3 : (0 : Int) ≤ (i : Int) + (j : Int) := by omega
          have k4 : (i : Int) + (j : Int) < (L : Int) := by omega
          have HR := Lib.hid (And.intro hR hij)
          clear hR hb hj hij
          go_wp2_with fail
          go_roundg (n1 - (i + 1))
          case measure => have := HO.out.2.2.1; omega
          case rel =>
            obtain ⟨hR, hij⟩ := HR.out
            have hv := hR.val
            refine ⟨i + 1, zs'.set (i + j) carry, rfl, by go_num, by have := HO.out.2.2.1; omega, by rw [List.length_set]; exact hR.len, hR.ok.set hR.cl, hR.row.set _ _, ?_, hR.bel.setCell (Nat.le_refl _) _⟩
            rw [show i + 1 + j = i + j + 1 by omega, val_take_set _ _ _ (by rw [hR.len]; exact hij), val_take_succ]
            rw [show ys.take j = ys from List.take_of_length_le (by rw [HX.out.2.1]; exact Nat.le_refl _), HO.out.1] at hv
            rw [Nat.mul_comm carry, hv, Nat.add_mul]
            congr 1
            rw [← Nat.mul_assoc, Nat.mul_comm (B4 ^ i)]
    · have hin : i = n1 := by omega
      subst hin
      have hia : ¬ (i : Int) < (i : Int) := by omega
      have hsl := hrow.sl0
      rw [hlz] at hsl
      have hv : val B4 zs = val B4 xs * val B4 ys := by
        rw [List.take_of_length_le (by have := HX.out.2.2; omega), List.take_of_length_le (by rw [HX.out.1]; exact Nat.le_refl _)] at hval
        exact hval
      have hcut := cut4_dig _ L L zs wo hsl hoz (Nat.le_refl _) (by have := HX.out.2.2; omega)
      rw [hv] at hcut
      clear hval hlz hoz hrow hsl hv ha hi hmk
      go_wp2_with fail
      refine hcut.mono ?_
      rintro e w2 ⟨k, rfl, hk, hd, rfl⟩
      have HD := Lib.hid (And.intro hk hd)
      clear hk hd hcut
      go_wp2_with fail
      go_ret
      exact ⟨_, k, L, rfl, HD.out.2, hbel⟩

end Go.Proofs.YtdclloledfjfjaaGreatDoor
