/- Decimal texts with a period: plain mathematics, no program. -/
import Derived.Test.YtfkdcgjphnoioaaGreatDoorText
namespace Vd

/-- the characters before the first period, and those behind it -/
def bef : List UInt8 → List UInt8
  | [] => []
  | c :: t => if c = 46 then [] else c :: bef t
def beh : List UInt8 → List UInt8
  | [] => []
  | c :: t => if c = 46 then t else beh t

theorem bef_no {p : List UInt8} (h : 46 ∉ p) (s : List UInt8) : bef (p ++ s) = p ++ bef s ∧ beh (p ++ s) = beh s := by
  induction p with
  | nil => exact ⟨rfl, rfl⟩
  | cons c t ih =>
    simp only [List.mem_cons, not_or] at h
    have hc : ¬ c = 46 := fun e => h.1 e.symm
    simp [bef, beh, hc, ih h.2]
theorem bef_in {p : List UInt8} (h : 46 ∈ p) (s : List UInt8) : bef (p ++ s) = bef p ∧ beh (p ++ s) = beh p ++ s := by
  induction p with
  | nil => simp at h
  | cons c t ih =>
    by_cases hc : c = 46
    · simp [bef, beh, hc]
    · have ht : 46 ∈ t := by
        rcases List.mem_cons.1 h with e | e
        · exact absurd e.symm hc
        · exact e
      simp [bef, beh, hc, ih ht]
theorem bef_all {t : List UInt8} (h : 46 ∉ t) : bef t = t ∧ beh t = [] := by
  have := bef_no h []
  simpa [bef, beh] using this
theorem bef_beh {t : List UInt8} (h : 46 ∈ t) : t = bef t ++ 46 :: beh t := by
  induction t with
  | nil => simp at h
  | cons c t ih =>
    by_cases hc : c = 46
    · simp [bef, beh, hc]
    · have ht : 46 ∈ t := by
        rcases List.mem_cons.1 h with e | e
        · exact absurd e.symm hc
        · exact e
      simp only [bef, beh, hc, if_false, List.cons_append]
      rw [← ih ht]
theorem bef_take {t : List UInt8} (h : 46 ∈ t) : t.take (bef t).length = bef t ∧ t.drop ((bef t).length + 1) = beh t ∧ (bef t).length + 1 + (beh t).length = t.length := by
  have e := bef_beh h
  refine ⟨?_, ?_, ?_⟩
  · conv => lhs; arg 2; rw [e]
    simp
  · conv => lhs; arg 2; rw [e]
    rw [← List.drop_drop]
    simp
  · conv => rhs; rw [e]
    simp; omega
theorem no46 {t : List UInt8} (h : t.all isDig = true) : 46 ∉ t := by
  intro hm
  have := List.all_eq_true.1 h _ hm
  simp [isDig] at this

/-- digits, and at most one period among them -/
def okc (t : List UInt8) : Bool := (bef t).all isDig && (beh t).all isDig
theorem okc_nil : okc [] = true := rfl
theorem okc_digit {p : List UInt8} {c : UInt8} (h : okc p = true) (hc : isDig c = true) : okc (p ++ [c]) = true ∧ (46 ∈ p ++ [c] ↔ 46 ∈ p) ∧ (46 ∈ p → bef (p ++ [c]) = bef p) := by
  have h46 : ¬ (46 = c) := by intro e; subst e; simp [isDig] at hc
  have h46' : ¬ (c = 46) := fun e => h46 e.symm
  unfold okc at h ⊢
  by_cases hp : 46 ∈ p
  · obtain ⟨e1, e2⟩ := bef_in hp [c]
    rw [e1, e2]
    refine ⟨by simp_all, by simp [h46], fun _ => rfl⟩
  · obtain ⟨e1, e2⟩ := bef_no hp [c]
    obtain ⟨e3, e4⟩ := bef_all hp
    rw [e3, e4] at h
    rw [e1, e2]
    refine ⟨by simp [bef, beh, h46', hc] at h ⊢; exact h, by simp [h46], fun h => absurd h hp⟩
theorem okc_period {p : List UInt8} (h : okc p = true) (hp : 46 ∉ p) : okc (p ++ [46]) = true ∧ 46 ∈ p ++ [46] ∧ bef (p ++ [46]) = p := by
  obtain ⟨e1, e2⟩ := bef_no hp [46]
  obtain ⟨e3, e4⟩ := bef_all hp
  unfold okc at h ⊢
  rw [e3, e4] at h
  rw [e1, e2]
  simp [bef, beh] at h ⊢
  exact h
theorem okc_bad {p : List UInt8} {c : UInt8} (r : List UInt8) (hc : isDig c = false) (hp : c = 46 → 46 ∈ p) : okc (p ++ c :: r) = false := by
  unfold okc
  by_cases h : 46 ∈ p
  · obtain ⟨e1, e2⟩ := bef_in h (c :: r)
    rw [e2]
    simp [hc]
  · obtain ⟨e1, e2⟩ := bef_no h (c :: r)
    have hc' : ¬ c = 46 := fun e => h (hp e)
    rw [e1]
    simp [bef, hc', hc]

/-- where the period stands, or -1 -/
def per (t : List UInt8) : Int := if 46 ∈ t then ((bef t).length : Int) else -1

/-- a decimal text -/
def decOk (l : List UInt8) : Prop :=
  okc (cutm l).1 = true ∧ bef (cutm l).1 ≠ [] ∧ ((bef (cutm l).1).head? = some 48 → bef (cutm l).1 = [48]) ∧ (46 ∈ (cutm l).1 → beh (cutm l).1 ≠ []) ∧ (beh (cutm l).1).length ≤ 20 ∧ ((cutm l).2 = true → dval (bef (cutm l).1 ++ beh (cutm l).1) ≠ 0)
instance (l : List UInt8) : Decidable (decOk l) := by unfold decOk; exact inferInstance
/-- how many units of its last digit it has, and how many digits behind the period -/
def decN (l : List UInt8) : Int := if (cutm l).2 then -(dval (bef (cutm l).1 ++ beh (cutm l).1) : Int) else (dval (bef (cutm l).1 ++ beh (cutm l).1) : Int)
def decK (l : List UInt8) : Nat := (beh (cutm l).1).length

theorem decOk_digits {l : List UInt8} (h : decOk l) : (bef (cutm l).1 ++ beh (cutm l).1).all isDig = true := by
  have := h.1
  unfold okc at this
  simp only [List.all_append]
  exact this

/-- z units of the p-th place as a text -/
def dtx (z : Int) (p : Nat) : List UInt8 := (if z < 0 then [45] else []) ++ (digs (z.natAbs / 10 ^ p) ++ (if p = 0 then [] else 46 :: padd p z.natAbs))

theorem cutm_dtx (z : Int) (p : Nat) : cutm (dtx z p) = (digs (z.natAbs / 10 ^ p) ++ (if p = 0 then [] else 46 :: padd p z.natAbs), decide (z < 0)) := by
  unfold dtx
  by_cases h : z < 0
  · simp only [h, if_true, decide_true]
    exact cutm_minus _
  · simp only [h, if_false, decide_false, List.nil_append]
    unfold cutm
    rw [if_neg]
    intro hh
    rw [List.head?_append] at hh
    cases hd : (digs (z.natAbs / 10 ^ p)).head? with
    | none =>
      have := digs_ne_nil (z.natAbs / 10 ^ p)
      simp at hd
      exact this hd
    | some c =>
      rw [hd] at hh
      simp at hh
      subst hh
      exact digs_head_ne_minus _ hd
theorem dtx_parts (n p : Nat) : bef (digs (n / 10 ^ p) ++ (if p = 0 then [] else 46 :: padd p n)) = digs (n / 10 ^ p) ∧ beh (digs (n / 10 ^ p) ++ (if p = 0 then [] else 46 :: padd p n)) = padd p n := by
  have hn := no46 (digs_all (n / 10 ^ p))
  obtain ⟨e1, e2⟩ := bef_no hn (if p = 0 then [] else 46 :: padd p n)
  rw [e1, e2]
  by_cases h : p = 0
  · subst h; simp [bef, beh, padd_zero]
  · simp [bef, beh, h]
theorem dval_both (n p : Nat) : dval (digs (n / 10 ^ p) ++ padd p n) = n := by
  rw [dval_append, dval_digs, dval_padd, padd_length]
  have := Nat.div_add_mod n (10 ^ p)
  rw [Nat.mul_comm] at this
  exact this
theorem dtx_ok (z : Int) (p : Nat) (hp : p ≤ 20) : decOk (dtx z p) ∧ decN (dtx z p) = z ∧ decK (dtx z p) = p ∧ bef (cutm (dtx z p)).1 = digs (z.natAbs / 10 ^ p) := by
  obtain ⟨e1, e2⟩ := dtx_parts z.natAbs p
  have e3 := dval_both z.natAbs p
  unfold decOk decN decK
  rw [cutm_dtx]
  simp only [e1, e2, e3, padd_length]
  refine ⟨⟨?_, digs_ne_nil _, ?_, ?_, hp, ?_⟩, ?_, trivial, trivial⟩
  · unfold okc
    rw [e1, e2, digs_all, padd_all]
    rfl
  · intro hh
    rcases Nat.eq_zero_or_pos (z.natAbs / 10 ^ p) with h0 | h0
    · rw [h0, digs_zero]
    · exact absurd hh (digs_head h0)
  · intro hm hn
    have : p = 0 := by rw [← padd_length p z.natAbs, hn]; rfl
    subst this
    simp only [if_true, List.append_nil] at hm
    exact no46 (digs_all _) hm
  · intro hz
    have : z < 0 := by simpa using hz
    omega
  · by_cases h : z < 0
    · simp [h]; omega
    · simp [h]; omega
theorem dtx_of {l : List UInt8} (h : decOk l) : dtx (decN l) (decK l) = l := by
  have hd := decOk_digits h
  obtain ⟨h1, h2, h3, h4, h5, h6⟩ := h
  obtain ⟨t, b, hc⟩ : ∃ t b, cutm l = (t, b) := ⟨_, _, rfl⟩
  unfold dtx decN decK
  rw [hc] at h1 h2 h3 h4 h5 h6 hd ⊢
  simp only at h1 h2 h3 h4 h5 h6 hd ⊢
  have hall := hd
  rw [List.all_append, Bool.and_eq_true] at hall
  obtain ⟨d, hdE⟩ : ∃ d, d = dval (bef t ++ beh t) := ⟨_, rfl⟩
  have hna : (if b = true then -(dval (bef t ++ beh t) : Int) else (dval (bef t ++ beh t) : Int)).natAbs = dval (bef t ++ beh t) := by cases b <;> simp
  rw [hna]
  have hdv : dval (bef t ++ beh t) / 10 ^ (beh t).length = dval (bef t) := by
    rw [dval_append, Nat.mul_comm, Nat.mul_add_div (Nat.pow_pos (by omega)), Nat.div_eq_of_lt (dval_lt hall.2), Nat.add_zero]
  have hpb : padd (beh t).length (dval (bef t ++ beh t)) = beh t := by
    rw [← padd_mod, dval_append, Nat.mul_comm, Nat.mul_add_mod, Nat.mod_eq_of_lt (dval_lt hall.2)]
    exact padd_dval hall.2
  rw [hdv, digs_dval hall.1 h2 h3, hpb]
  have ht : bef t ++ (if (beh t).length = 0 then [] else 46 :: beh t) = t := by
    by_cases hm : 46 ∈ t
    · rw [if_neg (by have := h4 hm; cases hb : beh t with | nil => exact absurd hb this | cons _ _ => simp)]
      exact (bef_beh hm).symm
    · obtain ⟨e1, e2⟩ := bef_all hm
      rw [e1, e2]; simp
  rw [ht]
  unfold cutm at hc
  by_cases hm : l.head? = some 45
  · rw [if_pos hm] at hc
    injection hc with hc1 hc2
    subst hc2
    have hne := h6 rfl
    rw [if_pos rfl, if_pos (by omega), ← hc1]
    cases l with
    | nil => simp at hm
    | cons c r => simp at hm; subst hm; rfl
  · rw [if_neg hm] at hc
    injection hc with hc1 hc2
    subst hc2
    rw [if_neg (by simp), ← hc1]
    rfl

/- the digits that are laid before the period and behind it -/
theorem dlen_div (n p : Nat) : dlen (n / 10 ^ p) + p = max (p + 1) (dlen n) := by
  by_cases h : n < 10 ^ p
  · rw [Nat.div_eq_of_lt h, dlen_small (by omega)]
    by_cases hp : p = 0
    · subst hp
      rw [dlen_small (by simp at h; omega)]
      rfl
    · have := (dlen_le_iff n p (by omega)).2 h
      omega
  · have hpos : 0 < 10 ^ p := Nat.pow_pos (by omega)
    have hv : 0 < n / 10 ^ p := Nat.div_pos (by omega) hpos
    have e := dlen_mul_pow hv (Nat.mod_lt n hpos)
    have e2 := Nat.div_add_mod n (10 ^ p)
    rw [Nat.mul_comm] at e2
    rw [e2] at e
    rw [e]
    have := dlen_pos (n / 10 ^ p)
    omega
theorem laid_digs (n j : Nat) : List.replicate j 48 ++ digs n = padd (j + dlen n) n := by
  rw [padd_add, Nat.div_eq_of_lt (lt_pow_dlen n), padd_zero_num]
  rfl
theorem laid_parts (n p j : Nat) (hj : j = p + 1 - dlen n) : (List.replicate j 48 ++ digs n).length = dlen (n / 10 ^ p) + p ∧ (List.replicate j 48 ++ digs n).take (dlen (n / 10 ^ p)) = digs (n / 10 ^ p) ∧ (List.replicate j 48 ++ digs n).drop (dlen (n / 10 ^ p)) = padd p n := by
  have e : j + dlen n = dlen (n / 10 ^ p) + p := by rw [dlen_div]; omega
  rw [laid_digs, e, padd_add]
  refine ⟨by simp [padd_length], ?_, ?_⟩
  · rw [List.take_left' (padd_length _ _)]; rfl
  · rw [List.drop_left' (padd_length _ _)]

/-- the nearest whole number of x times s -/
def nearZ (x : Rat) (s : Int) : Int := (x.num * s + x.num * s + (x.den : Int)) / ((x.den : Int) + (x.den : Int))

theorem nearZ_of {x : Rat} {z s : Int} (h : x.num * s = z * (x.den : Int)) : nearZ x s = z := by
  unfold nearZ
  have hd : 0 < (x.den : Int) := by have := x.den_pos; omega
  rw [h]
  generalize (x.den : Int) = d at *
  have e : z * d + z * d + d = d + z * (d + d) := by rw [Int.mul_add]; omega
  rw [e, Int.add_mul_ediv_right _ _ (by omega), Int.ediv_eq_zero_of_lt (by omega) (by omega)]
  omega
theorem nearZ_exact {z s : Int} (hs : s ≠ 0) : nearZ (Rat.divInt z s) s = z := by
  apply nearZ_of
  have hd : ((Rat.divInt z s).den : Int) ≠ 0 := by have := (Rat.divInt z s).den_nz; omega
  exact (Rat.divInt_eq_divInt_iff hd hs).1 (Rat.num_divInt_den _)
theorem nearZ_abs (x : Rat) (s : Int) : (nearZ x s).natAbs ≤ x.num.natAbs * s.natAbs + 1 := by
  unfold nearZ
  have hd : 1 ≤ (x.den : Int) := by have := x.den_pos; omega
  generalize (x.den : Int) = d at *
  rw [← Int.natAbs_mul]
  generalize x.num * s = a
  have h0 : (a.natAbs : Int) ≤ (a.natAbs : Int) * d := by
    have := Int.mul_le_mul_of_nonneg_left hd (show (0 : Int) ≤ a.natAbs by omega)
    omega
  have h1 : (a + a + d) / (d + d) ≤ (a.natAbs : Int) + 1 := Int.ediv_le_of_le_mul (by omega) (by
    rw [Int.add_mul, Int.mul_add]; omega)
  have h2 : -((a.natAbs : Int) + 1) ≤ (a + a + d) / (d + d) := Int.le_ediv_of_mul_le (by omega) (by
    rw [Int.neg_mul, Int.add_mul, Int.mul_add]; omega)
  omega

end Vd
