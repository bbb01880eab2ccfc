/- Contract: Read. -/
import Derived.Test.YtdkgifkmkghggaaGreatDoorTxtB
import Derived.Test.YtdkgifkmkghggaaGreatDoorShelf
namespace Go.Proofs.YtdkgifkmkghggaaGreatDoor
open Go.RowKit Vd

theorem cut_eq (l : List UInt8) : Lib.trimPrefix l [45] = (cutm l).1 ∧ Lib.hasPrefix l [45] = (cutm l).2 := by
  cases l with
  | nil => simp [Lib.trimPrefix, Lib.hasPrefix, cutm]
  | cons c t =>
    by_cases h : c = 45
    · subst h; simp [Lib.trimPrefix, Lib.hasPrefix, cutm]
    · have h' : ¬ 45 = c := fun e => h e.symm
      simp [Lib.trimPrefix, Lib.hasPrefix, cutm, h, h', List.isPrefixOf]

theorem cut_any (l : List UInt8) (w : World) : Calls Tryz.prog 111 #[.string ⟨l.toArray⟩, .string ⟨#[45]⟩] w fun e w' => e = .returned (.tuple #[.string ⟨(cutm l).1.toArray⟩, .bool (cutm l).2]) ∧ w = w' := by
  refine (Tryz.strings_CutPrefix ⟨l.toArray⟩ ⟨#[45]⟩ w).mono ?_
  rintro e w' ⟨he, rfl⟩
  refine ⟨?_, rfl⟩
  rw [he]
  have h := cut_eq l
  rw [← h.1, ← h.2]

/-- the value v is the whole number z -/
def SgV (w : World) (v : Value) (z : Int) : Prop := ∃ m, v = .agg #[m, .bool (decide (z < 0))] ∧ MagV w m z.natAbs

theorem SgV.below {w w' : World} {v : Value} {z : Int} (h : SgV w v z) (hb : Below w.heap.size w w') : SgV w' v z := by
  obtain ⟨m, e, hm⟩ := h
  exact ⟨m, e, hm.below hb⟩
theorem SgV.drewN {w : World} {v : Value} {z : Int} (h : SgV w v z) (k : Nat) : SgV (w.drewN k) v z := h

theorem MagV.far {w : World} {g o m c n : Nat} {p : Addr} (h : MagV w (.slice (some ⟨g, o, none⟩) m c) n) (hp : g ≠ p.block) (u : Value) : MagV (w.setCell p u) (.slice (some ⟨g, o, none⟩) m c) n := by
  obtain ⟨A, c', e, h1, h2, h3⟩ := h
  refine ⟨A, c', e, h1, h2, h3.far (fun g' o' e' _ => ?_) u⟩
  injection e with e1 e2 e3
  rw [← e1] at e'
  injection e' with e'
  injection e' with e' e''
  rw [← e']; exact hp

theorem dval_pos {l : List UInt8} (h : l.all isDig = true) (hne : l ≠ []) (hh : l.head? ≠ some 48) : 0 < dval l := by
  rcases Nat.eq_zero_or_pos (dval l) with h0 | h0
  · have := digs_dval h hne (fun e => absurd e hh)
    rw [h0, digs_zero] at this
    rw [← this] at hh
    exact absurd rfl hh
  · exact h0

/-- a whole number of at most so many digits -/
def rdMost (most : Nat) (s : List UInt8) : Option Int := if (cutm s).1.length ≤ most then rdAny s else none
theorem rdMost_maxDigits (s : List UInt8) : rdMost 600 s = rd s := rfl
/-- what 'Read' says of a text -/
def ReadP (most : Nat) (l : List UInt8) (ok : Bool) (z : Int) : Prop := (ok = true ∧ rdMost most l = some z) ∨ (ok = false ∧ rdMost most l = none ∧ z = 0)
theorem rdMost_none {most : Nat} {l : List UInt8} (h : rdAny l = none) : rdMost most l = none := by unfold rdMost; rw [h]; split <;> rfl
theorem rdMost_some {most : Nat} {l : List UInt8} {z : Int} (hm : (cutm l).1.length ≤ most) (h : rdAny l = some z) : rdMost most l = some z := by unfold rdMost; rw [if_pos hm, h]
theorem rdMost_long {most : Nat} {l : List UInt8} (hm : ¬ (cutm l).1.length ≤ most) : rdMost most l = none := by unfold rdMost; rw [if_neg hm]

theorem rdAny_none_head {l : List UInt8} (h : (cutm l).1 = [] ∨ ((cutm l).1.head? = some 48 ∧ l ≠ [48]) ∨ (cutm l).1.all isDig = false) : rdAny l = none := by
  unfold rdAny
  rw [if_neg]
  rintro ⟨h1, h2, h3⟩
  rcases h with h | ⟨h, h'⟩ | h
  · exact h1 h
  · exact h' (h3 h)
  · rw [h] at h2; cases h2

theorem rdAny_good {l : List UInt8} (h1 : (cutm l).1 ≠ []) (h2 : (cutm l).1.all isDig = true) (h3 : (cutm l).1.head? = some 48 → l = [48]) :
    ∃ z, rdAny l = some z ∧ z.natAbs = dval (cutm l).1 ∧ decide (z < 0) = (cutm l).2 := by
  refine ⟨_, by unfold rdAny; rw [if_pos ⟨h1, h2, h3⟩], ?_, ?_⟩
  · split <;> simp
  · by_cases hc : (cutm l).2 = true
    · rw [if_pos hc, hc]
      have hp := dval_pos h2 h1 (by
        intro hh
        rw [h3 hh] at hc
        exact absurd hc (by decide))
      simp; omega
    · rw [if_neg hc]
      simp at hc
      rw [hc]
      simp

theorem rdMost_good {most : Nat} {l : List UInt8} {n : Nat} {b : Bool} (hm : (cutm l).1.length ≤ most) (h : ∃ z, rdAny l = some z ∧ z.natAbs = n ∧ decide (z < 0) = b) :
    ∃ z, rdMost most l = some z ∧ z.natAbs = n ∧ decide (z < 0) = b := by
  obtain ⟨z, h1, h2, h3⟩ := h
  exact ⟨z, rdMost_some hm h1, h2, h3⟩

set_option maxRecDepth 100000 in
set_option maxHeartbeats 1000000 in
theorem read_any (l : List UInt8) (most : Nat) (w : World) (hmost : most ≤ 1000000) :
    Calls Tryz.prog 85 #[.string ⟨l.toArray⟩, .int .i64 (most : Int)] w fun e w' => ∃ (x : Value) (ok : Bool) (z : Int), e = .returned (.tuple #[x, .bool ok]) ∧ SgV w' x z ∧ ReadP most l ok z ∧ Below w.heap.size w w' := by
  obtain ⟨dg, hdg⟩ : ∃ d, d = (cutm l).1 := ⟨_, rfl⟩
  obtain ⟨ng, hng⟩ : ∃ d, d = (cutm l).2 := ⟨_, rfl⟩
  have hcut := fun W => cut_any l W
  rw [← hdg, ← hng] at hcut
  have hrd := fun (hle : dg.length ≤ most) W => readDigits_any dg W (Nat.le_trans hle hmost)
  have HD := Lib.hid (And.intro hdg hng)
  clear hdg hng hmost
  have z0 : ∀ W : World, SgV W (.agg #[.slice none 0 0, .bool false]) 0 := fun W => ⟨_, rfl, MagV.zero W⟩
  have HZ := Lib.hid z0
  clear z0
  by_cases h0 : dg = []
  · have E0 : dg.isEmpty = true := by rw [h0]; rfl
    have HP := Lib.hid (show ReadP most l false 0 from Or.inr ⟨rfl, rdMost_none <| rdAny_none_head (Or.inl (by rw [← HD.out.1]; exact h0)), rfl⟩)
    clear h0
    go_enter Tryz.func85, Tryz.ntmps85
    go_wp2_with (go_at_call 111; refine (hcut _).mono ?_; rintro e w1 ⟨rfl, rfl⟩)
    refine bodyPost_ret (v := .tuple #[.agg #[.slice none 0 0, .bool false], .bool false]) (by simp [results, Tryz.results85, go_sem]) rfl ⟨_, false, 0, rfl, HZ.out _, HP.out, (Below.refl _ _).alloc (Nat.le_refl _) _⟩
  · have E0 : dg.isEmpty = false := by cases dg with
      | nil => exact absurd rfl h0
      | cons => rfl
    have hlen : 0 < dg.length := by cases dg with
      | nil => exact absurd rfl h0
      | cons => exact Nat.succ_pos _
    obtain ⟨x, hx⟩ : ∃ x, dg[0]? = some x := ⟨dg[0], List.getElem?_eq_getElem hlen⟩
    have hhd : dg.head? = some x := by rw [List.head?_eq_getElem?]; exact hx
    have hgx := getB hlen x hx hlen
    have hlen' : (0 : Int) < (dg.length : Int) := by omega
    by_cases hlong : most < dg.length
    · have KL : decide (most < dg.length) = true := by simpa using hlong
      have HP := Lib.hid (show ReadP most l false 0 from Or.inr ⟨rfl, rdMost_long (by rw [← HD.out.1]; omega), rfl⟩)
      clear h0 hx hhd hlong hrd hgx
      go_enter Tryz.func85, Tryz.ntmps85
      go_wp2_with (go_at_call 111; refine (hcut _).mono ?_; rintro e w1 ⟨rfl, rfl⟩)
      exact bodyPost_ret (v := .tuple #[.agg #[.slice none 0 0, .bool false], .bool false]) (by simp [results, Tryz.results85, go_sem]) rfl ⟨_, false, 0, rfl, HZ.out _, HP.out, (Below.refl _ _).alloc (Nat.le_refl _) _⟩
    have hrd := hrd (Nat.le_of_not_lt hlong)
    have KL : decide (most < dg.length) = false := by simpa using hlong
    have HLE := Lib.hid (Nat.le_of_not_lt hlong)
    clear hlong
    by_cases hbad : x = 48 ∧ l ≠ [48]
    · have K1 : ((x.toNat : Int) == 48) = true := by rw [hbad.1]; decide
      have K2 : (l == [48]) = false := by rw [beq_eq_false_iff_ne]; exact hbad.2
      have HP := Lib.hid (show ReadP most l false 0 from Or.inr ⟨rfl, rdMost_none <| rdAny_none_head (Or.inr (Or.inl ⟨by rw [← HD.out.1, hhd, hbad.1], hbad.2⟩)), rfl⟩)
      clear h0 hx hhd hbad
      go_enter Tryz.func85, Tryz.ntmps85
      go_wp2_with (go_at_call 111; refine (hcut _).mono ?_; rintro e w1 ⟨rfl, rfl⟩)
      refine bodyPost_ret (v := .tuple #[.agg #[.slice none 0 0, .bool false], .bool false]) (by simp [results, Tryz.results85, go_sem]) rfl ⟨_, false, 0, rfl, HZ.out _, HP.out, (Below.refl _ _).alloc (Nat.le_refl _) _⟩
    · have hgood : ((x.toNat : Int) == 48) = false ∨ (((x.toNat : Int) == 48) = true ∧ (l == [48]) = true) := by
        by_cases h1 : x = 48
        · by_cases h2 : l = [48]
          · exact Or.inr ⟨by rw [h1]; decide, by rw [h2]; decide⟩
          · exact absurd ⟨h1, h2⟩ hbad
        · refine Or.inl ?_
          rw [beq_eq_false_iff_ne]
          intro e
          exact h1 (UInt8.toNat_inj.1 (by have : x.toNat = 48 := by omega
                                          rw [this]; rfl))
      have HG : Hid (dg.all isDig = true → ∃ z, rdMost most l = some z ∧ z.natAbs = dval dg ∧ decide (z < 0) = ng) := Lib.hid (fun ha => by
        have hle := HLE.out
        rw [HD.out.1] at hle
        rw [HD.out.1, HD.out.2]
        refine rdMost_good hle (rdAny_good (by rw [← HD.out.1]; exact h0) (by rw [← HD.out.1]; exact ha) (fun hh => ?_))
        rw [← HD.out.1, hhd] at hh
        injection hh with hh
        exact Classical.byContradiction fun hl => hbad ⟨hh, hl⟩)
      have HN : Hid (dg.all isDig = false → ReadP most l false 0) := Lib.hid (fun ha => Or.inr ⟨rfl, rdMost_none <| rdAny_none_head (Or.inr (Or.inr (by rw [← HD.out.1]; exact ha))), rfl⟩)
      clear h0 hx hhd hbad
      rcases hgood with K1 | ⟨K1, K2⟩
      · go_enter Tryz.func85, Tryz.ntmps85
        go_wp2_with (go_at_call 111; refine (hcut _).mono ?_; rintro e w1 ⟨rfl, rfl⟩)
        refine (hrd _).mono ?_
        rintro e w2 ⟨v, rfl, hm, hb⟩
        have hc0 : w2.cell? ⟨w.heap.size, 0, none⟩ = some (.slice none 0 0) := by rw [hb.cell (by simp)]; simp [go_sem]
        have hc1 : w2.cell? ⟨w.heap.size, 1, none⟩ = some (.bool false) := by rw [hb.cell (by simp)]; simp [go_sem]
        have hf0 : w2.frozen? ⟨w.heap.size, 0, none⟩ = false := by rw [hb.frozen (by simp)]; simp [go_sem]
        have hf1 : w2.frozen? ⟨w.heap.size, 1, none⟩ = false := by rw [hb.frozen (by simp)]; simp [go_sem]
        have hb' : Below w.heap.size w w2 := ((Below.refl _ _).alloc (Nat.le_refl _) _).trans (hb.mono (by simp))
        by_cases hall : dg.all isDig = true
        · have ⟨hm1, nn, cc, hv⟩ := hm hall
          have HM := Lib.hid hm1
          subst hv
          clear hm hm1
          go_wp2_with fail
          obtain ⟨z, hz, hn, hd⟩ := HG.out hall
          refine bodyPost_ret (v := .tuple #[.agg #[.slice (some ⟨w.heap.size + 1, 0, none⟩) nn cc, .bool ng], .bool true]) (by simp [results, Tryz.results85, go_sem, hc0, hc1]) rfl ⟨_, true, z, rfl, ⟨_, by rw [hd], ?_⟩, Or.inl ⟨rfl, hz⟩, (hb'.setCell (Nat.le_refl _) _).setCell (Nat.le_refl _) _⟩
          have := HM.out
          rw [← hn, World.size_alloc] at this
          exact (this.far (by simp) _).far (by simp) _
        · have hall' : dg.all isDig = false := by simpa using hall
          clear hm hall
          go_wp2_with fail
          exact bodyPost_ret (v := .tuple #[.agg #[.slice none 0 0, .bool false], .bool false]) (by simp [results, Tryz.results85, go_sem, hc0, hc1]) rfl ⟨_, false, 0, rfl, HZ.out _, HN.out hall', (hb'.setCell (Nat.le_refl _) _).setCell (Nat.le_refl _) _⟩
      · go_enter Tryz.func85, Tryz.ntmps85
        go_wp2_with (go_at_call 111; refine (hcut _).mono ?_; rintro e w1 ⟨rfl, rfl⟩)
        refine (hrd _).mono ?_
        rintro e w2 ⟨v, rfl, hm, hb⟩
        have hc0 : w2.cell? ⟨w.heap.size, 0, none⟩ = some (.slice none 0 0) := by rw [hb.cell (by simp)]; simp [go_sem]
        have hc1 : w2.cell? ⟨w.heap.size, 1, none⟩ = some (.bool false) := by rw [hb.cell (by simp)]; simp [go_sem]
        have hf0 : w2.frozen? ⟨w.heap.size, 0, none⟩ = false := by rw [hb.frozen (by simp)]; simp [go_sem]
        have hf1 : w2.frozen? ⟨w.heap.size, 1, none⟩ = false := by rw [hb.frozen (by simp)]; simp [go_sem]
        have hb' : Below w.heap.size w w2 := ((Below.refl _ _).alloc (Nat.le_refl _) _).trans (hb.mono (by simp))
        by_cases hall : dg.all isDig = true
        · have ⟨hm1, nn, cc, hv⟩ := hm hall
          have HM := Lib.hid hm1
          subst hv
          clear hm hm1
          go_wp2_with fail
          obtain ⟨z, hz, hn, hd⟩ := HG.out hall
          refine bodyPost_ret (v := .tuple #[.agg #[.slice (some ⟨w.heap.size + 1, 0, none⟩) nn cc, .bool ng], .bool true]) (by simp [results, Tryz.results85, go_sem, hc0, hc1]) rfl ⟨_, true, z, rfl, ⟨_, by rw [hd], ?_⟩, Or.inl ⟨rfl, hz⟩, (hb'.setCell (Nat.le_refl _) _).setCell (Nat.le_refl _) _⟩
          have := HM.out
          rw [← hn, World.size_alloc] at this
          exact (this.far (by simp) _).far (by simp) _
        · have hall' : dg.all isDig = false := by simpa using hall
          clear hm hall
          go_wp2_with fail
          exact bodyPost_ret (v := .tuple #[.agg #[.slice none 0 0, .bool false], .bool false]) (by simp [results, Tryz.results85, go_sem, hc0, hc1]) rfl ⟨_, false, 0, rfl, HZ.out _, HN.out hall', (hb'.setCell (Nat.le_refl _) _).setCell (Nat.le_refl _) _⟩

end Go.Proofs.YtdkgifkmkghggaaGreatDoor
