/- Contract: the closure of Decimal. -/
import Derived.Test.YtdkgifkmkghggaaGreatDoorTxtC
namespace Go.Proofs.YtdkgifkmkghggaaGreatDoor
open Go.RowKit Vd

def B8 (x : Nat) : Value := .int .u8 (x : Int)
def I8 (x : Nat) : Value := .int .i64 (x : Int)

/-- only the blocks gs and gx have turned -/
structure Two (gs gx : Nat) (w w' : World) : Prop where
  os : w'.os = w.os
  tape : w'.tape = w.tape
  output : w'.output = w.output
  size : w'.heap.size = w.heap.size
  block : ∀ b, b ≠ gs → b ≠ gx → w'.heap[b]? = w.heap[b]?
theorem Two.refl (gs gx : Nat) (w : World) : Two gs gx w w := ⟨rfl, rfl, rfl, rfl, fun _ _ _ => rfl⟩
theorem Two.step {gs gx : Nat} {a w : World} (h : Two gs gx a w) (i j : Nat) (u v : Value) : Two gs gx a ((w.setCell ⟨gs, i, none⟩ u).setCell ⟨gx, j, none⟩ v) :=
  ⟨h.os, h.tape, h.output, by simpa using h.size, fun b h1 h2 => (Below.heap_setCell _ ⟨gx, j, none⟩ v b h2).trans ((Below.heap_setCell _ ⟨gs, i, none⟩ u b h1).trans (h.block b h1 h2))⟩
theorem Two.below {gs gx B : Nat} {a w : World} (h : Two gs gx a w) (h1 : B ≤ gs) (h2 : B ≤ gx) : Below B a w :=
  ⟨h.os, h.tape, h.output, by rw [h.size]; exact Nat.le_refl _, fun k hk => h.block k (by omega) (by omega)⟩

theorem row_kind {w : World} {f : Nat → Value} {g : Nat} {t : TypeId} {xs : List Nat} (h : Row w f g t xs) {i : Nat} {u : Value} (hc : w.cell? ⟨g, i, none⟩ = some u) : ∃ x, u = f x := by
  rw [cell_of_row w g i _ t (0, 0) h] at hc
  simp at hc
  obtain ⟨x, _, hx⟩ := hc
  exact ⟨x, hx.symm⟩

/-- the captured variables of 'put' -/
structure PutS (gs gt gx c : Nat) (W : World) (s : Nat) (zs : List Nat) : Prop where
  srow : Row W I8 gs 3 [s]
  tx : W.cell? ⟨gt, 0, none⟩ = some (.slice (some ⟨gx, 0, none⟩) c c)
  row : Row W B8 gx 5 zs
  len : zs.length = c
  n1 : gs ≠ gt
  n2 : gs ≠ gx
  n3 : gt ≠ gx
  cl : c ≤ 1099511627776

theorem PutS.st {gs gt gx c : Nat} {W : World} {s : Nat} {zs : List Nat} (h : PutS gs gt gx c W s zs) : W.cell? ⟨gs, 0, none⟩ = some (.int .i64 (s : Int)) := h.srow.cell (i := 0) (by simp)
theorem PutS.sf {gs gt gx c : Nat} {W : World} {s : Nat} {zs : List Nat} (h : PutS gs gt gx c W s zs) : W.frozen? ⟨gs, 0, none⟩ = false := h.srow.frozen 0
/-- a number stays when the digits are written -/
theorem PutS.mag {gs gt gx c : Nat} {W W' : World} {s : Nat} {zs : List Nat} (h : PutS gs gt gx c W s zs) (ht : Two gs gx W W') {v : Value} {n : Nat} (hm : MagV W v n) : MagV W' v n := by
  obtain ⟨A, c', e, h1, h2, h3⟩ := hm
  refine ⟨A, c', e, h1, h2, h3.1, fun hn => ?_⟩
  obtain ⟨g, o, e, hlt, hc⟩ := h3.2 hn
  have hc0 := hc 0 hn
  refine ⟨g, o, e, by rw [ht.size]; exact hlt, fun i hi => ?_⟩
  have hg1 : g ≠ gs := by
    intro eg
    subst eg
    obtain ⟨x, hx⟩ := row_kind h.srow hc0
    unfold U I8 at hx
    injection hx with hx
    cases hx
  have hg2 : g ≠ gx := by
    intro eg
    subst eg
    obtain ⟨x, hx⟩ := row_kind h.row hc0
    unfold U B8 at hx
    injection hx with hx
    cases hx
  exact (World.cell?_of_block (w := W) (ht.block g hg1 hg2)).trans (hc i hi)

theorem PutS.step {gs gt gx c : Nat} {W : World} {s : Nat} {zs : List Nat} (h : PutS gs gt gx c W (s + 1) zs) (x : Nat) :
    PutS gs gt gx c ((W.setCell ⟨gs, 0, none⟩ (.int .i64 (s : Int))).setCell ⟨gx, s, none⟩ (B8 x)) s (zs.set s x) where
  srow := (h.srow.set 0 s).far (fun e => h.n2 e) _
  tx := by
    rw [World.cell?_setCell_other _ _ _ _ (by intro e; injection e with e; exact h.n3 e.symm), World.cell?_setCell_other _ _ _ _ (by intro e; injection e with e; exact h.n1 e)]
    exact h.tx
  row := (h.row.far (fun e => h.n2 e.symm) _).set s x
  len := by rw [List.length_set]; exact h.len
  n1 := h.n1
  n2 := h.n2
  n3 := h.n3
  cl := h.cl

theorem padd_front (j n : Nat) : padd (j + 1) n = dig (n / 10 ^ j % 10) :: padd j n := by
  rw [Nat.add_comm, padd_add]
  rfl

theorem drop_set_front {zs : List Nat} {s x : Nat} (h : s < zs.length) : (zs.set s x).drop s = x :: zs.drop (s + 1) := drop_set_self h

/-- how many digits 'put' writes -/
structure PutK (grp width k : Nat) : Prop where
  wk : width ≤ k
  lt : grp < 10 ^ k
  mn : k = width ∨ (1 ≤ k ∧ 10 ^ (k - 1) ≤ grp)

theorem PutK.more {grp width k j : Nat} (h : PutK grp width k) : j < k ↔ (0 < grp / 10 ^ j ∨ j < width) := by
  have hp : 0 < 10 ^ j := Nat.pow_pos (by omega)
  constructor
  · intro hj
    rcases h.mn with e | ⟨h1, h2⟩
    · right; omega
    · left
      rw [Nat.div_pos_iff]
      exact ⟨hp, Nat.le_trans (Nat.pow_le_pow_right (by omega) (by omega)) h2⟩
  · intro hj
    rcases hj with h1 | h1
    · rw [Nat.div_pos_iff] at h1
      refine (Nat.pow_lt_pow_iff_right (a := 10) (by omega)).1 (Nat.lt_of_le_of_lt h1.2 h.lt)
    · have := h.wk; omega

set_option maxRecDepth 100000 in
set_option maxHeartbeats 1000000 in
theorem put_any (gs gt gx c grp width k s : Nat) (zs : List Nat) (w : World) (hP : PutS gs gt gx c w s zs) (hK : PutK grp width k) (hks : k ≤ s) (hsc : s ≤ c) (hg : grp < B64) :
    Calls Tryz.prog 139 #[.int .u64 (grp : Int), .int .i64 (width : Int), .pointer (some ⟨gs, 0, none⟩), .pointer (some ⟨gt, 0, none⟩)] w fun e w' => e = .returned (.tuple #[]) ∧ ∃ zs' : List Nat, PutS gs gt gx c w' (s - k) zs' ∧ zs'.drop (s - k) = (padd k grp).map (·.toNat) ++ zs.drop s ∧ Two gs gx w w' := by
  have hcl := hP.cl
  have ist := hP.st
  have hw := hK.wk
  have e1 : IntKind.i64.wrap ((s : Int) - (width : Int)) = (s : Int) - (width : Int) := by rw [IntKind.wrap_i64]; omega
  have HA := Lib.hid (And.intro hP (And.intro hK (And.intro hks hsc)))
  clear hP hK hks hsc hcl hw
  go_enter Tryz.func139, Tryz.ntmps139
  go_wp2
  go_loopg [0] k (fun r a W => ∃ (j : Nat) (ys : List Nat), j ≤ k ∧ r = k - j ∧ a = .int .u64 ((grp / 10 ^ j : Nat) : Int) ∧ PutS gs gt gx c W (s - j) ys ∧ ys.drop (s - j) = (padd j grp).map (·.toNat) ++ zs.drop s ∧ Two gs gx w W)
  case atStart => exact ⟨0, zs, Nat.zero_le _, rfl, by rw [Nat.pow_zero, Nat.div_one], HA.out.1, rfl, Two.refl _ _ _⟩
  case round =>
    obtain ⟨j, ys, hj, rfl, rfl, hP, hdr, hbel⟩ := hrel
    by_cases hlt : j < k
    · obtain ⟨q, hq⟩ : ∃ q, q = grp / 10 ^ j := ⟨_, rfl⟩
      obtain ⟨S, hS⟩ : ∃ S, S = s - j := ⟨_, rfl⟩
      obtain ⟨t, ht⟩ : ∃ t, S = t + 1 := ⟨S - 1, by have := HA.out; omega⟩
      obtain ⟨d, hd⟩ : ∃ d, d = q % 10 := ⟨_, rfl⟩
      obtain ⟨x, hx⟩ : ∃ x, x = 48 + d := ⟨_, rfl⟩
      obtain ⟨q2, hq2⟩ : ∃ x, x = q / 10 := ⟨_, rfl⟩
      have hmore := (HA.out.2.1.more (j := j)).1 hlt
      have hcl := hP.cl
      have htc : t < c := by have := HA.out; omega
      rw [← hS] at hP hdr
      rw [← hq] at hmore ⊢
      have hst := hP.st
      have hsf := hP.sf
      have htx := hP.tx
      have hn1 := hP.n1
      have hn1' : ¬ gt = gs := fun e => hP.n1 e.symm
      have hn2 := hP.n2
      have hn2' : ¬ gx = gs := fun e => hP.n2 e.symm
      have hn3 := hP.n3
      have hn3' : ¬ gx = gt := fun e => hP.n3 e.symm
      have hcs := hP.row.cell (i := t) (by rw [hP.len]; exact htc)
      have hfs := hP.row.frozen t
      unfold B8 at hcs
      have D1 : (q : Int) % 10 = (d : Int) := by omega
      have D2 : (d : Int) % 256 = (d : Int) := by omega
      have D3 : (48 + (d : Int)) % 256 = (x : Int) := by omega
      have D4 : IntKind.u8.wrap (d : Int) = (d : Int) := by rw [IntKind.wrap_u8]; omega
      have D5 : IntKind.u8.wrap (48 + (d : Int)) = (x : Int) := by rw [IntKind.wrap_u8]; omega
      have Q1 : (q : Int) / 10 = (q2 : Int) := by omega
      have Q2 : IntKind.u64.wrap (q2 : Int) = (q2 : Int) := wrapU (by have := Nat.div_le_self grp (10 ^ j); omega)
      have S1 : IntKind.i64.wrap ((S : Int) - 1) = (t : Int) := by rw [IntKind.wrap_i64]; omega
      have T1 : (t : Int) < (c : Int) := by omega
      have T0 : (0 : Int) ≤ (t : Int) := by omega
      have HV := Lib.hid (And.intro hq (And.intro hS (And.intro ht (And.intro hd (And.intro hx (And.intro hq2 (And.intro hP hdr)))))))
      by_cases hq0 : 0 < q
      · have k1 : (0 : Int) < (q : Int) := by omega
        clear hq hS ht hd hx hq2 hP hdr hmore hcl htc ist
        go_wp2
        go_roundg (k - (j + 1))
        case measure => omega
        case rel =>
          obtain ⟨hq, hS, ht, hd, hx, hq2, hP, hdr⟩ := HV.out
          refine ⟨j + 1, ys.set t x, by omega, rfl, ?_, ?_, ?_, hbel.step _ _ _ _⟩
          · rw [hq2, hq, Nat.div_div_eq_div_mul, Nat.pow_succ]
          · rw [show s - (j + 1) = t by omega]
            rw [ht] at hP
            exact hP.step x
          · rw [show s - (j + 1) = t by omega, drop_set_front (by rw [hP.len]; have := HA.out; omega), ← ht, hdr, padd_front, List.map_cons, List.cons_append, dig_toNat (Nat.mod_lt _ (by omega)), ← hq, ← hd, ← hx]
      · have k1 : ¬ (0 : Int) < (q : Int) := by omega
        have k2 : (s : Int) - (width : Int) < (S : Int) := by omega
        clear hq hS ht hd hx hq2 hP hdr hmore hcl htc ist
        go_wp2
        go_roundg (k - (j + 1))
        case measure => omega
        case rel =>
          obtain ⟨hq, hS, ht, hd, hx, hq2, hP, hdr⟩ := HV.out
          refine ⟨j + 1, ys.set t x, by omega, rfl, ?_, ?_, ?_, hbel.step _ _ _ _⟩
          · rw [hq2, hq, Nat.div_div_eq_div_mul, Nat.pow_succ]
          · rw [show s - (j + 1) = t by omega]
            rw [ht] at hP
            exact hP.step x
          · rw [show s - (j + 1) = t by omega, drop_set_front (by rw [hP.len]; have := HA.out; omega), ← ht, hdr, padd_front, List.map_cons, List.cons_append, dig_toNat (Nat.mod_lt _ (by omega)), ← hq, ← hd, ← hx]
    · obtain rfl : j = k := by omega
      obtain ⟨q, hq⟩ : ∃ q, q = grp / 10 ^ j := ⟨_, rfl⟩
      obtain ⟨S, hS⟩ : ∃ S, S = s - j := ⟨_, rfl⟩
      have hmore := fun h => hlt ((HA.out.2.1.more (j := j)).2 h)
      have hw := HA.out.2.1.wk
      have hks := HA.out.2.2.1
      have k1 : ¬ (0 : Int) < ((grp / 10 ^ j : Nat) : Int) := fun h => hmore (Or.inl (by omega))
      rw [← hS] at hP hdr
      rw [← hq] at k1 ⊢
      have hst := hP.st
      have k2 : ¬ ((s : Int) - (width : Int) < (S : Int)) := by omega
      have HV := Lib.hid (And.intro hS (And.intro hP hdr))
      clear hq hS hP hdr hmore ist hlt hj hw hks
      go_wp2
      refine ⟨rfl, .tuple #[], by simp [results, Tryz.results139, go_sem], ?_⟩
      exact ⟨rfl, ys, by rw [← HV.out.1]; exact HV.out.2.1, by rw [← HV.out.1]; exact HV.out.2.2, hbel⟩

end Go.Proofs.YtdkgifkmkghggaaGreatDoor
