/- Numbers as texts of decimal digits: plain mathematics, no program. -/
namespace Vd
theorem rev_ind {α : Type} {P : List α → Prop} (h0 : P []) (h1 : ∀ l c,P l → P (l ++ [c])) (l : List α) : P l := by
 rw [← List.reverse_reverse l]
 induction l.reverse with
 | nil => exact h0
 | cons c t ih => rw [List.reverse_cons];exact h1 _ _ ih
def dig (d : Nat) : UInt8 := UInt8.ofNat (48 + d)
theorem dig_toNat {d : Nat} (h : d < 10) : (dig d).toNat = 48 + d := by
 unfold dig;rw [UInt8.toNat_ofNat'];omega
def isDig (c : UInt8) : Bool := decide (48 ≤ c.toNat) && decide (c.toNat ≤ 57)
theorem isDig_iff {c : UInt8} : isDig c = true ↔ 48 ≤ c.toNat ∧ c.toNat ≤ 57 := by unfold isDig;simp
theorem isDig_dig {d : Nat} (h : d < 10) : isDig (dig d) = true := by rw [isDig_iff,dig_toNat h];omega
theorem dig_of {c : UInt8} (h : isDig c = true) : dig (c.toNat - 48) = c := by
 rw [isDig_iff] at h
 apply UInt8.toNat_inj.1
 rw [dig_toNat (by omega)];omega
def dval (l : List UInt8) : Nat := l.foldl (fun a c => a * 10 + (c.toNat - 48)) 0
theorem dval_nil : dval [] = 0 := rfl
theorem dval_snoc (l : List UInt8) (c : UInt8) : dval (l ++ [c]) = dval l * 10 + (c.toNat - 48) := by
 unfold dval;rw [List.foldl_append];rfl
theorem dval_append (l k : List UInt8) : dval (l ++ k) = dval l * 10 ^ k.length + dval k := by
 induction k using rev_ind with
 | h0 => simp [dval_nil]
 | h1 k c ih =>
   rw [← List.append_assoc,dval_snoc,dval_snoc,ih,List.length_append,List.length_singleton,Nat.pow_succ];grind
theorem dval_lt {l : List UInt8} (h : l.all isDig = true) : dval l < 10 ^ l.length := by
 induction l using rev_ind with
 | h0 => simp [dval_nil]
 | h1 l c ih =>
   rw [List.all_append] at h
   simp only [Bool.and_eq_true] at h
   have hc : isDig c = true := by simpa using h.2
   rw [isDig_iff] at hc
   have := ih h.1
   rw [dval_snoc,List.length_append,List.length_singleton,Nat.pow_succ]
   omega
def padd : Nat → Nat → List UInt8
 | 0,_ => []
 | k + 1,n => padd k (n / 10) ++ [dig (n % 10)]
theorem padd_zero (n : Nat) : padd 0 n = [] := rfl
theorem padd_succ (k n : Nat) : padd (k + 1) n = padd k (n / 10) ++ [dig (n % 10)] := rfl
theorem padd_length (k n : Nat) : (padd k n).length = k := by
 induction k generalizing n with
 | zero => rfl
 | succ k ih => rw [padd_succ,List.length_append,ih];rfl
theorem padd_all (k n : Nat) : (padd k n).all isDig = true := by
 induction k generalizing n with
 | zero => rfl
 | succ k ih => rw [padd_succ,List.all_append,ih];simp [isDig_dig (Nat.mod_lt n (by omega : 10 > 0))]
theorem dval_padd (k n : Nat) : dval (padd k n) = n % 10 ^ k := by
 induction k generalizing n with
 | zero => simp [padd_zero,dval_nil,Nat.mod_one]
 | succ k ih =>
   rw [padd_succ,dval_snoc,ih,dig_toNat (Nat.mod_lt _ (by omega)),Nat.pow_succ,Nat.mul_comm (10^k),Nat.mod_mul];omega
theorem padd_dval {l : List UInt8} (h : l.all isDig = true) : padd l.length (dval l) = l := by
 induction l using rev_ind with
 | h0 => rfl
 | h1 l c ih =>
   rw [List.all_append] at h
   simp only [Bool.and_eq_true] at h
   have hc : isDig c = true := by simpa using h.2
   have hc' := isDig_iff.1 hc
   rw [List.length_append,List.length_singleton,padd_succ,dval_snoc]
   have e1 : (dval l * 10 + (c.toNat - 48)) / 10 = dval l := by omega
   have e2 : (dval l * 10 + (c.toNat - 48)) % 10 = c.toNat - 48 := by omega
   rw [e1,e2,ih h.1,dig_of hc]
theorem padd_add (j k n : Nat) : padd (j + k) n = padd j (n / 10 ^ k) ++ padd k n := by
 induction k generalizing n with
 | zero => simp [padd_zero]
 | succ k ih =>
   rw [← Nat.add_assoc,padd_succ,padd_succ,ih,Nat.div_div_eq_div_mul,Nat.pow_succ,Nat.mul_comm 10,List.append_assoc]
theorem padd_zero_num (k : Nat) : padd k 0 = List.replicate k 48 := by
 induction k with
 | zero => rfl
 | succ k ih => rw [padd_succ,Nat.zero_div,ih,List.replicate_succ'];rfl
theorem padd_mod (k n : Nat) : padd k (n % 10 ^ k) = padd k n := by
 have := padd_dval (padd_all k n)
 rw [padd_length,dval_padd] at this
 exact this
def dlen (n : Nat) : Nat := if _h : n < 10 then 1 else dlen (n / 10) + 1
termination_by n
decreasing_by omega
theorem dlen_small {n : Nat} (h : n < 10) : dlen n = 1 := by rw [dlen];simp [h]
theorem dlen_big {n : Nat} (h : ¬ n < 10) : dlen n = dlen (n / 10) + 1 := by rw [dlen];simp [h]
theorem dlen_pos (n : Nat) : 1 ≤ dlen n := by rw [dlen];split <;> omega
theorem dlen_le_iff (n k : Nat) (hk : 1 ≤ k) : dlen n ≤ k ↔ n < 10 ^ k := by
 induction k generalizing n with
 | zero => omega
 | succ k ih =>
   by_cases h : n < 10
   · rw [dlen_small h,Nat.pow_succ]
     have := Nat.pow_pos (n := k) (show 0 < 10 by omega)
     omega
   · rw [dlen_big h]
     by_cases hk0 : k = 0
     · subst hk0
       have := dlen_pos (n / 10)
       simp;omega
     · have := ih (n / 10) (by omega)
       rw [Nat.pow_succ]
       omega
theorem lt_pow_dlen (n : Nat) : n < 10 ^ dlen n := (dlen_le_iff n _ (dlen_pos n)).1 (Nat.le_refl _)
theorem pow_le_of_lt_dlen {n k : Nat} (h : k < dlen n) (hk : 1 ≤ k) : 10 ^ k ≤ n := by
 rcases Nat.lt_or_ge n (10 ^ k) with h1 | h1
 · have := (dlen_le_iff n k hk).2 h1;omega
 · exact h1
def digs (n : Nat) : List UInt8 := padd (dlen n) n
theorem digs_length (n : Nat) : (digs n).length = dlen n := padd_length _ _
theorem digs_all (n : Nat) : (digs n).all isDig = true := padd_all _ _
theorem dval_digs (n : Nat) : dval (digs n) = n := by
 unfold digs;rw [dval_padd];exact Nat.mod_eq_of_lt (lt_pow_dlen n)
theorem digs_ne_nil (n : Nat) : digs n ≠ [] := by
 intro h;have := digs_length n;rw [h] at this;have := dlen_pos n;simp at *;omega
theorem digs_small {n : Nat} (h : n < 10) : digs n = [dig n] := by
 unfold digs;rw [dlen_small h,padd_succ,padd_zero,Nat.mod_eq_of_lt h];rfl
theorem digs_big {n : Nat} (h : ¬ n < 10) : digs n = digs (n / 10) ++ [dig (n % 10)] := by
 unfold digs;rw [dlen_big h,padd_succ]
theorem digs_zero : digs 0 = [48] := by rw [digs_small (by omega)];rfl
theorem dlen_mul_pow {v k w : Nat} (hv : 0 < v) (hw : w < 10 ^ k) : dlen (v * 10 ^ k + w) = dlen v + k := by
 induction k generalizing w with
 | zero => simp at hw;subst hw;simp
 | succ k ih =>
   have h10 : ¬ (v * 10 ^ (k + 1) + w < 10) := by
    have : 1 ≤ v * 10 ^ k := Nat.mul_pos hv (Nat.pow_pos (by omega))
    rw [Nat.pow_succ,← Nat.mul_assoc];omega
   rw [Nat.pow_succ] at hw
   rw [dlen_big h10,← Nat.add_assoc,← ih (w := w / 10) (by omega),Nat.pow_succ,← Nat.mul_assoc]
   congr 1
   congr 1
   omega
theorem digs_mul_pow {v k w : Nat} (hv : 0 < v) (hw : w < 10 ^ k) : digs (v * 10 ^ k + w) = digs v ++ padd k w := by
 have hp : 0 < 10 ^ k := Nat.pow_pos (by omega)
 have e1 : (v * 10 ^ k + w) / 10 ^ k = v := by
  rw [Nat.mul_comm,Nat.mul_add_div hp,Nat.div_eq_of_lt hw];simp
 have e2 : padd k (v * 10 ^ k + w) = padd k w := by
  rw [← padd_mod k (v * 10 ^ k + w)]
  congr 1
  rw [Nat.mul_comm,Nat.mul_add_mod];exact Nat.mod_eq_of_lt hw
 show padd (dlen (v * 10 ^ k + w)) (v * 10 ^ k + w) = padd (dlen v) v ++ padd k w
 rw [dlen_mul_pow hv hw,padd_add,e1,e2]
theorem digs_head {n : Nat} (h : 0 < n) : (digs n).head? ≠ some 48 := by
 induction n using Nat.strongRecOn with
 | _ n ih =>
   by_cases h10 : n < 10
   · rw [digs_small h10]
     intro hh
     simp only [List.head?_cons,Option.some.injEq] at hh
     have := congrArg UInt8.toNat hh
     rw [dig_toNat h10] at this
     simp at this;omega
   · rw [digs_big h10]
     have := ih (n / 10) (by omega) (by omega)
     cases hd : digs (n / 10) with
     | nil => exact absurd hd (digs_ne_nil _)
     | cons x xs => rw [hd] at this;simpa using this
theorem digs_dval {l : List UInt8} (h : l.all isDig = true) (hne : l ≠ []) (hh : l.head? = some 48 → l = [48]) : digs (dval l) = l := by
 cases l with
 | nil => exact absurd rfl hne
 | cons c t =>
   by_cases h0 : c = 48
   · subst h0
     have := hh rfl
     rw [this]
     decide +kernel
   · have hc : isDig c = true := by rw [List.all_cons] at h;simp only [Bool.and_eq_true] at h;exact h.1
     have ht : t.all isDig = true := by rw [List.all_cons] at h;simp only [Bool.and_eq_true] at h;exact h.2
     have hc' := isDig_iff.1 hc
     have hc0 : c.toNat ≠ 48 := fun e => h0 (UInt8.toNat_inj.1 e)
     have e : dval (c :: t) = (c.toNat - 48) * 10 ^ t.length + dval t := by
      have := dval_append [c] t
      rw [List.singleton_append] at this
      rw [this]
      simp [dval]
     rw [e,digs_mul_pow (by omega) (dval_lt ht),padd_dval ht,digs_small (by omega),dig_of hc];rfl
def strip : List UInt8 → List UInt8
 | [] => []
 | c :: t => if c = 48 then strip t else c :: t
theorem strip_digs {l : List UInt8} (h : l.all isDig = true) : strip l = if dval l = 0 then [] else digs (dval l) := by
 induction l with
 | nil => rfl
 | cons c t ih =>
   have hc : isDig c = true := by rw [List.all_cons] at h;simp only [Bool.and_eq_true] at h;exact h.1
   have ht : t.all isDig = true := by rw [List.all_cons] at h;simp only [Bool.and_eq_true] at h;exact h.2
   have e : dval (c :: t) = (c.toNat - 48) * 10 ^ t.length + dval t := by
    have := dval_append [c] t
    rw [List.singleton_append] at this
    rw [this]
    simp [dval]
   unfold strip
   split
   · rename_i h0
     subst h0
     rw [ih ht,e]
     simp
   · rename_i h0
     have hc' := isDig_iff.1 hc
     have hc0 : c.toNat ≠ 48 := fun e => h0 (UInt8.toNat_inj.1 e)
     have hp : 0 < (c.toNat - 48) * 10 ^ t.length := Nat.mul_pos (by omega) (Nat.pow_pos (by omega))
     rw [if_neg (by omega),digs_dval h (by simp)]
     intro hh
     simp at hh
     exact absurd hh h0
-- whole numbers as texts
def wr (z : Int) : List UInt8 := if z < 0 then 45 :: digs z.natAbs else digs z.natAbs
def cutm (s : List UInt8) : List UInt8 × Bool := if s.head? = some 45 then (s.tail,true) else (s,false)
def rdAny (s : List UInt8) : Option Int :=
 if (cutm s).1 ≠ [] ∧ (cutm s).1.all isDig = true ∧ ((cutm s).1.head? = some 48 → s = [48]) then some (if (cutm s).2 then -(dval (cutm s).1 : Int) else (dval (cutm s).1 : Int)) else none
def maxDigits : Nat := 600
theorem maxDigits_eq : maxDigits = 600 := rfl
def rd (s : List UInt8) : Option Int := if (cutm s).1.length ≤ maxDigits then rdAny s else none
theorem digs_head_ne_minus (n : Nat) : (digs n).head? ≠ some 45 := by
 intro h
 have ha := digs_all n
 cases hd : digs n with
 | nil => exact digs_ne_nil n hd
 | cons c t =>
   rw [hd] at h ha
   simp only [List.head?_cons,Option.some.injEq] at h
   subst h
   simp [isDig] at ha
theorem cutm_digs (n : Nat) : cutm (digs n) = (digs n,false) := by unfold cutm;rw [if_neg (digs_head_ne_minus n)]
theorem cutm_minus (t : List UInt8) : cutm (45 :: t) = (t,true) := by unfold cutm;simp
theorem cutm_wr (z : Int) : cutm (wr z) = (digs z.natAbs,decide (z < 0)) := by
 unfold wr
 split
 · rename_i h;rw [cutm_minus];simp [h]
 · rename_i h;rw [cutm_digs];simp [h]
theorem rdAny_wr (z : Int) : rdAny (wr z) = some z := by
 unfold rdAny
 rw [cutm_wr]
 rw [if_pos]
 · simp only [dval_digs]
   by_cases h : z < 0
   · simp [h];omega
   · simp [h];omega
 · refine ⟨digs_ne_nil _,digs_all _,?_⟩
   intro hh
   by_cases h0 : z = 0
   · subst h0;unfold wr;simp [digs_zero]
   · exact absurd hh (digs_head (by omega))
theorem wr_of_rdAny {s : List UInt8} {z : Int} (h : rdAny s = some z) : wr z = s := by
 unfold rdAny at h
 split at h
 · rename_i hc
   obtain ⟨h1,h2,h3⟩ := hc
   simp only [Option.some.injEq] at h
   unfold cutm at h1 h2 h3 h
   by_cases hm : s.head? = some 45
   · simp only [hm,if_true] at h1 h2 h3 h
     cases s with
     | nil => simp at hm
     | cons c t =>
       simp only [List.head?_cons,Option.some.injEq] at hm
       subst hm
       simp only [List.tail_cons] at h1 h2 h3 h
       have hd := digs_dval h2 h1 (fun e => by have := h3 e;simp at this)
       have hpos : 0 < dval t := by
        rcases Nat.eq_zero_or_pos (dval t) with h0 | h0
        · rw [h0,digs_zero] at hd
          have := h3 (by rw [← hd];rfl)
          simp at this
        · exact h0
       subst h
       unfold wr
       rw [if_pos (by omega)]
       have : (-(dval t : Int)).natAbs = dval t := by omega
       rw [this,hd]
   · simp only [hm,if_false] at h1 h2 h3 h
     have hd := digs_dval h2 h1 h3
     simp at h
     subst h
     unfold wr
     rw [if_neg (by omega)]
     simpa using hd
 · cases h
def small (z : Int) : Prop := z.natAbs < 10 ^ maxDigits
instance (z : Int) : Decidable (small z) := by unfold small;exact inferInstance
theorem rd_wr {z : Int} (h : small z) : rd (wr z) = some z := by
 unfold rd
 rw [cutm_wr,if_pos,rdAny_wr]
 rw [digs_length]
 exact (dlen_le_iff _ _ (by decide)).2 h
theorem rd_some {s : List UInt8} {z : Int} (h : rd s = some z) : wr z = s ∧ small z := by
 unfold rd at h
 split at h
 · rename_i hl
   have e := wr_of_rdAny h
   refine ⟨e,?_⟩
   rw [← e,cutm_wr,digs_length] at hl
   exact (dlen_le_iff _ _ (by decide)).1 hl
 · cases h
end Vd
namespace Vd
def bef : List UInt8 → List UInt8
 | [] => []
 | c :: t => if c = 46 then [] else c :: bef t
def beh : List UInt8 → List UInt8
 | [] => []
 | c :: t => if c = 46 then t else beh t
theorem bef_no {p : List UInt8} (h : 46 ∉ p) (s : List UInt8) : bef (p ++ s) = p ++ bef s ∧ beh (p ++ s) = beh s := by
 induction p with
 | nil => exact ⟨rfl,rfl⟩
 | cons c t ih =>
   simp only [List.mem_cons,not_or] at h
   have hc : ¬ c = 46 := fun e => h.1 e.symm
   simp [bef,beh,hc,ih h.2]
theorem bef_in {p : List UInt8} (h : 46 ∈ p) (s : List UInt8) : bef (p ++ s) = bef p ∧ beh (p ++ s) = beh p ++ s := by
 induction p with
 | nil => simp at h
 | cons c t ih =>
   by_cases hc : c = 46
   · simp [bef,beh,hc]
   · have ht : 46 ∈ t := by
      rcases List.mem_cons.1 h with e | e
      · exact absurd e.symm hc
      · exact e
     simp [bef,beh,hc,ih ht]
theorem bef_all {t : List UInt8} (h : 46 ∉ t) : bef t = t ∧ beh t = [] := by
 have := bef_no h []
 simpa [bef,beh] using this
theorem bef_beh {t : List UInt8} (h : 46 ∈ t) : t = bef t ++ 46 :: beh t := by
 induction t with
 | nil => simp at h
 | cons c t ih =>
   by_cases hc : c = 46
   · simp [bef,beh,hc]
   · have ht : 46 ∈ t := by
      rcases List.mem_cons.1 h with e | e
      · exact absurd e.symm hc
      · exact e
     simp only [bef,beh,hc,if_false,List.cons_append]
     rw [← ih ht]
theorem bef_take {t : List UInt8} (h : 46 ∈ t) : t.take (bef t).length = bef t ∧ t.drop ((bef t).length + 1) = beh t ∧ (bef t).length + 1 + (beh t).length = t.length := by
 have e := bef_beh h
 refine ⟨?_,?_,?_⟩
 · conv => lhs;arg 2;rw [e]
   simp
 · conv => lhs;arg 2;rw [e]
   rw [← List.drop_drop]
   simp
 · conv => rhs;rw [e]
   simp;omega
def okc (t : List UInt8) : Bool := (bef t).all isDig && (beh t).all isDig
theorem okc_digit {p : List UInt8} {c : UInt8} (h : okc p = true) (hc : isDig c = true) : okc (p ++ [c]) = true ∧ (46 ∈ p ++ [c] ↔ 46 ∈ p) ∧ (46 ∈ p → bef (p ++ [c]) = bef p) := by
 have h46 : ¬ (46 = c) := by intro e;subst e;simp [isDig] at hc
 have h46' : ¬ (c = 46) := fun e => h46 e.symm
 unfold okc at h ⊢
 by_cases hp : 46 ∈ p
 · obtain ⟨e1,e2⟩ := bef_in hp [c]
   rw [e1,e2]
   refine ⟨by simp_all,by simp [h46],fun _ => rfl⟩
 · obtain ⟨e1,e2⟩ := bef_no hp [c]
   obtain ⟨e3,e4⟩ := bef_all hp
   rw [e3,e4] at h
   rw [e1,e2]
   refine ⟨by simp [bef,beh,h46',hc] at h ⊢;exact h,by simp [h46],fun h => absurd h hp⟩
theorem okc_period {p : List UInt8} (h : okc p = true) (hp : 46 ∉ p) : okc (p ++ [46]) = true ∧ 46 ∈ p ++ [46] ∧ bef (p ++ [46]) = p := by
 obtain ⟨e1,e2⟩ := bef_no hp [46]
 obtain ⟨e3,e4⟩ := bef_all hp
 unfold okc at h ⊢
 rw [e3,e4] at h
 rw [e1,e2]
 simp [bef,beh] at h ⊢
 exact h
theorem okc_bad {p : List UInt8} {c : UInt8} (r : List UInt8) (hc : isDig c = false) (hp : c = 46 → 46 ∈ p) : okc (p ++ c :: r) = false := by
 unfold okc
 by_cases h : 46 ∈ p
 · obtain ⟨e1,e2⟩ := bef_in h (c :: r)
   rw [e2]
   simp [hc]
 · obtain ⟨e1,e2⟩ := bef_no h (c :: r)
   have hc' : ¬ c = 46 := fun e => h (hp e)
   rw [e1]
   simp [bef,hc',hc]
def per (t : List UInt8) : Int := if 46 ∈ t then ((bef t).length : Int) else -1
def decOk (l : List UInt8) : Prop :=
 okc (cutm l).1 = true ∧ bef (cutm l).1 ≠ [] ∧ ((bef (cutm l).1).head? = some 48 → bef (cutm l).1 = [48]) ∧ (46 ∈ (cutm l).1 → beh (cutm l).1 ≠ []) ∧ (beh (cutm l).1).length ≤ 20 ∧ ((cutm l).2 = true → dval (bef (cutm l).1 ++ beh (cutm l).1) ≠ 0)
instance (l : List UInt8) : Decidable (decOk l) := by unfold decOk;exact inferInstance
def decN (l : List UInt8) : Int := if (cutm l).2 then -(dval (bef (cutm l).1 ++ beh (cutm l).1) : Int) else (dval (bef (cutm l).1 ++ beh (cutm l).1) : Int)
def decK (l : List UInt8) : Nat := (beh (cutm l).1).length
theorem decOk_digits {l : List UInt8} (h : decOk l) : (bef (cutm l).1 ++ beh (cutm l).1).all isDig = true := by
 have := h.1
 unfold okc at this
 simp only [List.all_append]
 exact this
def dtx (z : Int) (p : Nat) : List UInt8 := (if z < 0 then [45] else []) ++ (digs (z.natAbs / 10 ^ p) ++ (if p = 0 then [] else 46 :: padd p z.natAbs))
theorem dlen_div (n p : Nat) : dlen (n / 10 ^ p) + p = max (p + 1) (dlen n) := by
 by_cases h : n < 10 ^ p
 · rw [Nat.div_eq_of_lt h,dlen_small (by omega)]
   by_cases hp : p = 0
   · subst hp
     rw [dlen_small (by simp at h;omega)]
     rfl
   · have := (dlen_le_iff n p (by omega)).2 h
     omega
 · have hpos : 0 < 10 ^ p := Nat.pow_pos (by omega)
   have hv : 0 < n / 10 ^ p := Nat.div_pos (by omega) hpos
   have e := dlen_mul_pow hv (Nat.mod_lt n hpos)
   have e2 := Nat.div_add_mod n (10 ^ p)
   rw [Nat.mul_comm] at e2
   rw [e2] at e
   rw [e]
   have := dlen_pos (n / 10 ^ p)
   omega
theorem laid_digs (n j : Nat) : List.replicate j 48 ++ digs n = padd (j + dlen n) n := by
 rw [padd_add,Nat.div_eq_of_lt (lt_pow_dlen n),padd_zero_num]
 rfl
theorem laid_parts (n p j : Nat) (hj : j = p + 1 - dlen n) : (List.replicate j 48 ++ digs n).length = dlen (n / 10 ^ p) + p ∧ (List.replicate j 48 ++ digs n).take (dlen (n / 10 ^ p)) = digs (n / 10 ^ p) ∧ (List.replicate j 48 ++ digs n).drop (dlen (n / 10 ^ p)) = padd p n := by
 have e : j + dlen n = dlen (n / 10 ^ p) + p := by rw [dlen_div];omega
 rw [laid_digs,e,padd_add]
 refine ⟨by simp [padd_length],?_,?_⟩
 · rw [List.take_left' (padd_length _ _)];rfl
 · rw [List.drop_left' (padd_length _ _)]
def nearZ (x : Rat) (s : Int) : Int := (x.num * s + x.num * s + (x.den : Int)) / ((x.den : Int) + (x.den : Int))
theorem nearZ_abs (x : Rat) (s : Int) : (nearZ x s).natAbs ≤ x.num.natAbs * s.natAbs + 1 := by
 unfold nearZ
 have hd : 1 ≤ (x.den : Int) := by have := x.den_pos;omega
 generalize (x.den : Int) = d at *
 rw [← Int.natAbs_mul]
 generalize x.num * s = a
 have h0 : (a.natAbs : Int) ≤ (a.natAbs : Int) * d := by
  have := Int.mul_le_mul_of_nonneg_left hd (show (0 : Int) ≤ a.natAbs by omega)
  omega
 have h1 : (a + a + d) / (d + d) ≤ (a.natAbs : Int) + 1 := Int.ediv_le_of_le_mul (by omega) (by
  rw [Int.add_mul,Int.mul_add];omega)
 have h2 : -((a.natAbs : Int) + 1) ≤ (a + a + d) / (d + d) := Int.le_ediv_of_mul_le (by omega) (by
  rw [Int.neg_mul,Int.add_mul,Int.mul_add];omega)
 omega
end Vd
