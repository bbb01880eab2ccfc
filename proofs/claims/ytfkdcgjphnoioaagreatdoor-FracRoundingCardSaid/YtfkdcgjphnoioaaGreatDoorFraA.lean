/- Fractions: what two texts read as, what a fraction is written as, and the steps of the arithmetic on numerators and denominators. -/
import Derived.Test.YtfkdcgjphnoioaaGreatDoorWhoA
namespace Go.Proofs.YtfkdcgjphnoioaaGreatDoor
open Go.RowKit Vd

/-- what two texts read as: a fraction in lowest terms -/
def rdF (ln ld : List UInt8) : Option Rat :=
  match rd ln, rd ld with
  | some n, some d => if 0 < d ∧ Nat.gcd n.natAbs d.natAbs = 1 then some (mkRat n d.natAbs) else none
  | _, _ => none

theorem mkRat_coprime {n : Int} {d : Nat} (hd : 0 < d) (hg : Nat.gcd n.natAbs d = 1) : (mkRat n d).num = n ∧ (mkRat n d).den = d := by
  rw [Rat.num_mkRat, Rat.den_mkRat, if_neg (by omega), if_neg (by omega), Nat.gcd_comm, hg]
  simp

theorem rdF_some {ln ld : List UInt8} {q : Rat} (h : rdF ln ld = some q) : rd ln = some q.num ∧ rd ld = some (q.den : Int) := by
  unfold rdF at h
  split at h
  · rename_i n d h1 h2
    split at h
    · rename_i hc
      injection h with h
      have hm := mkRat_coprime (n := n) (d := d.natAbs) (by omega) hc.2
      rw [← h, hm.1, hm.2, h1, h2]
      refine ⟨rfl, ?_⟩
      rw [Int.natAbs_of_nonneg (by omega)]
    · cases h
  · cases h

theorem rat_coprime (q : Rat) : 0 < (q.den : Int) ∧ Nat.gcd q.num.natAbs (q.den : Int).natAbs = 1 := ⟨by have := q.den_pos; omega, by simpa using q.reduced⟩

theorem rdF_of {ln ld : List UInt8} {q : Rat} (h1 : rd ln = some q.num) (h2 : rd ld = some (q.den : Int)) : rdF ln ld = some q := by
  unfold rdF
  rw [h1, h2]
  simp only
  rw [if_pos (rat_coprime q)]
  simp [Rat.mkRat_self]

theorem rdF_none {ln ld : List UInt8} (h : rdF ln ld = none) : rd ln = none ∨ rd ld = none ∨ ∃ n d, rd ln = some n ∧ rd ld = some d ∧ ¬ (0 < d ∧ Nat.gcd n.natAbs d.natAbs = 1) := by
  unfold rdF at h
  cases h1 : rd ln with
  | none => exact Or.inl rfl
  | some n =>
    cases h2 : rd ld with
    | none => exact Or.inr (Or.inl rfl)
    | some d =>
      rw [h1, h2] at h
      simp only at h
      split at h
      · cases h
      · rename_i hc
        exact Or.inr (Or.inr ⟨n, d, rfl, rfl, hc⟩)

/-- the fraction can be written -/
def smallF (q : Rat) : Prop := small q.num ∧ small (q.den : Int)
instance (q : Rat) : Decidable (smallF q) := by unfold smallF; exact inferInstance
theorem rdF_small {ln ld : List UInt8} {q : Rat} (h : rdF ln ld = some q) : smallF q := ⟨(rd_some (rdF_some h).1).2, (rd_some (rdF_some h).2).2⟩
theorem rdF_wr {q : Rat} (h : smallF q) : rdF (wr q.num) (wr (q.den : Int)) = some q := rdF_of (rd_wr h.1) (rd_wr h.2)
theorem rdF_text {ln ld : List UInt8} {q : Rat} (h : rdF ln ld = some q) : ln = wr q.num ∧ ld = wr (q.den : Int) := ⟨(rd_some (rdF_some h).1).1.symm, (rd_some (rdF_some h).2).1.symm⟩

/-- a fraction as a value of the program -/
def frV (q : Rat) : Value := .agg #[.string ⟨(wr q.num).toArray⟩, .string ⟨(wr (q.den : Int)).toArray⟩]
/-- no fraction -/
def frNone : Value := .agg #[.string ⟨#[]⟩, .string ⟨#[]⟩]
/-- what 'write' answers -/
def outF (q : Rat) : Value := if smallF q then .tuple #[frV q, .int .i64 0] else .tuple #[frNone, .int .i64 6]

/-- the value v is the fraction q -/
def RaV (w : World) (v : Value) (q : Rat) : Prop := ∃ (A1 : Option Addr) (n1 c1 : Nat) (k1 : Bool) (A2 : Option Addr) (n2 c2 : Nat) (k2 : Bool), v = .agg #[.slice A1 n1 c1, .bool k1, .slice A2 n2 c2, .bool k2] ∧ SgV w (.agg #[.slice A1 n1 c1, .bool k1]) q.num ∧ SgV w (.agg #[.slice A2 n2 c2, .bool k2]) (q.den : Int)
theorem RaV.below {w w' : World} {v : Value} {q : Rat} (h : RaV w v q) (hb : Below w.heap.size w w') : RaV w' v q := by
  obtain ⟨A1, n1, c1, k1, A2, n2, c2, k2, e, h1, h2⟩ := h
  exact ⟨A1, n1, c1, k1, A2, n2, c2, k2, e, h1.below hb, h2.below hb⟩

/- the steps of the arithmetic -/
theorem div_parts (n d : Int) (hd : d ≠ 0) (g : Int) (hg : g = if d < 0 then -((Nat.gcd n.natAbs d.natAbs : Nat) : Int) else ((Nat.gcd n.natAbs d.natAbs : Nat) : Int)) : g ≠ 0 ∧ (Rat.divInt n d).num = n / g ∧ ((Rat.divInt n d).den : Int) = d / g := by
  have hp : 0 < Nat.gcd n.natAbs d.natAbs := Nat.gcd_pos_of_pos_right _ (by omega)
  have hc : Int.gcd d n = Nat.gcd n.natAbs d.natAbs := by rw [Int.gcd_comm]; rfl
  rw [Rat.num_divInt, Rat.den_divInt, if_neg hd, hc]
  generalize hG : Nat.gcd n.natAbs d.natAbs = G at *
  have hdG : (G : Int) ∣ d := by rw [← Int.dvd_natAbs, Int.ofNat_dvd, ← hG]; exact Nat.gcd_dvd_right _ _
  have hnG : (G : Int) ∣ n := by rw [← Int.dvd_natAbs, Int.ofNat_dvd, ← hG]; exact Nat.gcd_dvd_left _ _
  by_cases h : d < 0
  · rw [if_pos h] at hg
    subst hg
    refine ⟨by omega, ?_, ?_⟩
    · rw [Int.sign_eq_neg_one_of_neg h, Int.ediv_neg, Int.neg_mul, Int.one_mul, Int.neg_ediv_of_dvd hnG]
    · rw [Int.ediv_neg, ← Int.neg_ediv_of_dvd hdG, Int.natCast_ediv, Int.ofNat_natAbs_of_nonpos (by omega)]
  · rw [if_neg h] at hg
    subst hg
    refine ⟨by omega, ?_, ?_⟩
    · rw [Int.sign_eq_one_of_pos (by omega), Int.one_mul]
    · rw [Int.natCast_ediv, Int.natAbs_of_nonneg (by omega)]

theorem add_nat (x y : Rat) (g a b : Nat) (hg : g = Nat.gcd x.den y.den) (ha : a = x.den / g) (hb : b = y.den / g) (t : Int) (ht : t = x.num * b + y.num * a) (d : Nat) (hd : d = Nat.gcd t.natAbs g) :
    g ≠ 0 ∧ d ≠ 0 ∧ (x + y).num = t / d ∧ (x + y).den = a * (y.den / d) := by
  have hgp : 0 < g := by rw [hg]; exact Nat.gcd_pos_of_pos_left _ x.den_pos
  have hx : a * g = x.den := by rw [ha]; exact Nat.div_mul_cancel (hg ▸ Nat.gcd_dvd_left _ _)
  have hy : b * g = y.den := by rw [hb]; exact Nat.div_mul_cancel (hg ▸ Nat.gcd_dvd_right _ _)
  have hap : 0 < a := Nat.pos_of_ne_zero fun h => by rw [h] at hx; have := x.den_pos; omega
  have haux : t.natAbs.gcd g = t.natAbs.gcd (a * y.den) := by
    have := Rat.add.aux x y hg ha hb
    simp only at this
    rw [← ht] at this
    exact this
  have e : x + y = mkRat t (a * y.den) := by
    rw [Rat.add_def', ← Rat.mkRat_mul_right (n := t) (d := a * y.den) (a := g) (by omega)]
    congr 1
    · rw [ht, Int.add_mul, Int.mul_assoc, Int.mul_assoc, ← Int.natCast_mul, ← Int.natCast_mul, hx, hy]
    · rw [Nat.mul_right_comm, hx]
  have hne : a * y.den ≠ 0 := Nat.mul_ne_zero (by omega) y.den_nz
  have hdg : d ∣ g := hd ▸ Nat.gcd_dvd_right _ _
  have hdp : 0 < d := by rw [hd]; exact Nat.gcd_pos_of_pos_right _ hgp
  have hgc : Nat.gcd (a * y.den) t.natAbs = d := by rw [Nat.gcd_comm, ← haux, hd]
  refine ⟨by omega, by omega, ?_, ?_⟩
  · rw [e, Rat.num_mkRat, if_neg hne, hgc]
  · rw [e, Rat.den_mkRat, if_neg hne, hgc, Nat.mul_div_assoc _ (Nat.dvd_trans hdg (hg ▸ Nat.gcd_dvd_right _ _))]

theorem add_parts (x y : Rat) (s m o t d : Int) (hs : s = ((Nat.gcd (x.den : Int).natAbs (y.den : Int).natAbs : Nat) : Int)) (hm : m = (x.den : Int) / s) (ho : o = (y.den : Int) / s) (ht : t = x.num * o + y.num * m) (hd : d = ((Nat.gcd t.natAbs s.natAbs : Nat) : Int)) :
    s ≠ 0 ∧ d ≠ 0 ∧ (x + y).num = t / d ∧ ((x + y).den : Int) = m * ((y.den : Int) / d) := by
  simp only [Int.natAbs_natCast] at hs
  obtain ⟨h1, h2, h3, h4⟩ := add_nat x y _ _ _ rfl rfl rfl _ rfl _ rfl
  subst hs
  rw [← Int.natCast_ediv] at hm ho
  subst hm ho
  subst ht
  simp only [Int.natAbs_natCast] at hd
  subst hd
  refine ⟨by omega, by omega, h3, ?_⟩
  rw [h4, Int.natCast_mul, Int.natCast_ediv, Int.natCast_ediv]

theorem subQ_eq (x y : Rat) : x + -y = x - y := (Rat.sub_eq_add_neg x y).symm
theorem mul_divInt (x y : Rat) : Rat.divInt (x.num * y.num) ((x.den : Int) * (y.den : Int)) = x * y := by
  rw [Rat.mul_def', ← Rat.divInt_ofNat, Int.natCast_mul]
theorem over_divInt (x y : Rat) : Rat.divInt (x.num * (y.den : Int)) ((x.den : Int) * y.num) = x / y := by
  rw [Rat.div_def, Rat.inv_def, ← Rat.divInt_mul_divInt, Rat.num_divInt_den]
/-- the order of two fractions -/
def cmpQ (x y : Rat) : Int := cmpZ (x.num * (y.den : Int)) (y.num * (x.den : Int))
theorem cmpQ_lt (x y : Rat) : cmpQ x y < 0 ↔ x < y := by
  rw [Rat.lt_iff]; unfold cmpQ cmpZ; split <;> (try split) <;> omega
theorem cmpQ_gt (x y : Rat) : 0 < cmpQ x y ↔ y < x := by
  rw [Rat.lt_iff]; unfold cmpQ cmpZ; split <;> (try split) <;> omega
theorem cmpQ_eq (x y : Rat) : cmpQ x y = 0 ↔ x = y := by
  rw [Rat.eq_iff_mul_eq_mul]; unfold cmpQ cmpZ; split <;> (try split) <;> omega

end Go.Proofs.YtfkdcgjphnoioaaGreatDoor
