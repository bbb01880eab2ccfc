/- Fractions: what two texts read as, what a fraction is written as, and the steps of the arithmetic on numerators and denominators. -/
import Derived.Test.YtlfgpmnjnpdkdaaGreatDoorWhoA
import Derived.Laws.Tables
namespace Go.Proofs.YtlfgpmnjnpdkdaaGreatDoor
open Go.RowKit Vd
def rdF (ln ld : List UInt8) : Option Rat :=
 match rd ln,rd ld with
 | some n,some d => if 0 < d ∧ Nat.gcd n.natAbs d.natAbs = 1 then some (mkRat n d.natAbs) else none
 | _,_ => none
theorem mkRat_coprime {n : Int} {d : Nat} (hd : 0 < d) (hg : Nat.gcd n.natAbs d = 1) : (mkRat n d).num = n ∧ (mkRat n d).den = d := by
 rw [Rat.num_mkRat,Rat.den_mkRat,if_neg (by omega),if_neg (by omega),Nat.gcd_comm,hg]
 simp
theorem rdF_some {ln ld : List UInt8} {q : Rat} (h : rdF ln ld = some q) : rd ln = some q.num ∧ rd ld = some (q.den : Int) := by
 unfold rdF at h
 split at h
 · rename_i n d h1 h2
   split at h
   · rename_i hc
     injection h with h
     have hm := mkRat_coprime (n := n) (d := d.natAbs) (by omega) hc.2
     rw [← h,hm.1,hm.2,h1,h2]
     refine ⟨rfl,?_⟩
     rw [Int.natAbs_of_nonneg (by omega)]
   · cases h
 · cases h
theorem rat_coprime (q : Rat) : 0 < (q.den : Int) ∧ Nat.gcd q.num.natAbs (q.den : Int).natAbs = 1 := ⟨by have := q.den_pos;omega,by simpa using q.reduced⟩
theorem rdF_of {ln ld : List UInt8} {q : Rat} (h1 : rd ln = some q.num) (h2 : rd ld = some (q.den : Int)) : rdF ln ld = some q := by
 unfold rdF
 rw [h1,h2]
 simp only
 rw [if_pos (rat_coprime q)]
 simp [Rat.mkRat_self]
theorem rdF_none {ln ld : List UInt8} (h : rdF ln ld = none) : rd ln = none ∨ rd ld = none ∨ ∃ n d,rd ln = some n ∧ rd ld = some d ∧ ¬ (0 < d ∧ Nat.gcd n.natAbs d.natAbs = 1) := by
 unfold rdF at h
 cases h1 : rd ln with
 | none => exact Or.inl rfl
 | some n =>
   cases h2 : rd ld with
   | none => exact Or.inr (Or.inl rfl)
   | some d =>
     rw [h1,h2] at h
     simp only at h
     split at h
     · cases h
     · rename_i hc
       exact Or.inr (Or.inr ⟨n,d,rfl,rfl,hc⟩)
def smallF (q : Rat) : Prop := small q.num ∧ small (q.den : Int)
instance (q : Rat) : Decidable (smallF q) := by unfold smallF;exact inferInstance
theorem rdF_small {ln ld : List UInt8} {q : Rat} (h : rdF ln ld = some q) : smallF q := ⟨(rd_some (rdF_some h).1).2,(rd_some (rdF_some h).2).2⟩
theorem rdF_wr {q : Rat} (h : smallF q) : rdF (wr q.num) (wr (q.den : Int)) = some q := rdF_of (rd_wr h.1) (rd_wr h.2)
theorem rdF_text {ln ld : List UInt8} {q : Rat} (h : rdF ln ld = some q) : ln = wr q.num ∧ ld = wr (q.den : Int) := ⟨(rd_some (rdF_some h).1).1.symm,(rd_some (rdF_some h).2).1.symm⟩
def frV (q : Rat) : Value := .agg #[.string ⟨(wr q.num).toArray⟩,.string ⟨(wr (q.den : Int)).toArray⟩]
def frNone : Value := .agg #[.string ⟨#[]⟩,.string ⟨#[]⟩]
def outF (q : Rat) : Value := if smallF q then .tuple #[frV q,.int .i64 0] else .tuple #[frNone,.int .i64 6]
def RaV (w : World) (v : Value) (q : Rat) : Prop := ∃ (A1 : Option Addr) (n1 c1 : Nat) (k1 : Bool) (A2 : Option Addr) (n2 c2 : Nat) (k2 : Bool),v = .agg #[.slice A1 n1 c1,.bool k1,.slice A2 n2 c2,.bool k2] ∧ SgV w (.agg #[.slice A1 n1 c1,.bool k1]) q.num ∧ SgV w (.agg #[.slice A2 n2 c2,.bool k2]) (q.den : Int)
theorem RaV.below {w w' : World} {v : Value} {q : Rat} (h : RaV w v q) (hb : Below w.heap.size w w') : RaV w' v q := by
 obtain ⟨A1,n1,c1,k1,A2,n2,c2,k2,e,h1,h2⟩ := h
 exact ⟨A1,n1,c1,k1,A2,n2,c2,k2,e,h1.below hb,h2.below hb⟩
theorem div_parts (n d : Int) (hd : d ≠ 0) (g : Int) (hg : g = if d < 0 then -((Nat.gcd n.natAbs d.natAbs : Nat) : Int) else ((Nat.gcd n.natAbs d.natAbs : Nat) : Int)) : g ≠ 0 ∧ (Rat.divInt n d).num = n / g ∧ ((Rat.divInt n d).den : Int) = d / g := by
 have hp : 0 < Nat.gcd n.natAbs d.natAbs := Nat.gcd_pos_of_pos_right _ (by omega)
 have hc : Int.gcd d n = Nat.gcd n.natAbs d.natAbs := by rw [Int.gcd_comm];rfl
 rw [Rat.num_divInt,Rat.den_divInt,if_neg hd,hc]
 generalize hG : Nat.gcd n.natAbs d.natAbs = G at *
 have hdG : (G : Int) ∣ d := by rw [← Int.dvd_natAbs,Int.ofNat_dvd,← hG];exact Nat.gcd_dvd_right _ _
 have hnG : (G : Int) ∣ n := by rw [← Int.dvd_natAbs,Int.ofNat_dvd,← hG];exact Nat.gcd_dvd_left _ _
 by_cases h : d < 0
 · rw [if_pos h] at hg
   subst hg
   refine ⟨by omega,?_,?_⟩
   · rw [Int.sign_eq_neg_one_of_neg h,Int.ediv_neg,Int.neg_mul,Int.one_mul,Int.neg_ediv_of_dvd hnG]
   · rw [Int.ediv_neg,← Int.neg_ediv_of_dvd hdG,Int.natCast_ediv,Int.ofNat_natAbs_of_nonpos (by omega)]
 · rw [if_neg h] at hg
   subst hg
   refine ⟨by omega,?_,?_⟩
   · rw [Int.sign_eq_one_of_pos (by omega),Int.one_mul]
   · rw [Int.natCast_ediv,Int.natAbs_of_nonneg (by omega)]
theorem add_nat (x y : Rat) (g a b : Nat) (hg : g = Nat.gcd x.den y.den) (ha : a = x.den / g) (hb : b = y.den / g) (t : Int) (ht : t = x.num * b + y.num * a) (d : Nat) (hd : d = Nat.gcd t.natAbs g) :
 g ≠ 0 ∧ d ≠ 0 ∧ (x + y).num = t / d ∧ (x + y).den = a * (y.den / d) := by
 have hgp : 0 < g := by rw [hg];exact Nat.gcd_pos_of_pos_left _ x.den_pos
 have hx : a * g = x.den := by rw [ha];exact Nat.div_mul_cancel (hg ▸ Nat.gcd_dvd_left _ _)
 have hy : b * g = y.den := by rw [hb];exact Nat.div_mul_cancel (hg ▸ Nat.gcd_dvd_right _ _)
 have hap : 0 < a := Nat.pos_of_ne_zero fun h => by rw [h] at hx;have := x.den_pos;omega
 have haux : t.natAbs.gcd g = t.natAbs.gcd (a * y.den) := by
  have := Rat.add.aux x y hg ha hb
  simp only at this
  rw [← ht] at this
  exact this
 have e : x + y = mkRat t (a * y.den) := by
  rw [Rat.add_def',← Rat.mkRat_mul_right (n := t) (d := a * y.den) (a := g) (by omega)]
  congr 1
  · rw [ht,Int.add_mul,Int.mul_assoc,Int.mul_assoc,← Int.natCast_mul,← Int.natCast_mul,hx,hy]
  · rw [Nat.mul_right_comm,hx]
 have hne : a * y.den ≠ 0 := Nat.mul_ne_zero (by omega) y.den_nz
 have hdg : d ∣ g := hd ▸ Nat.gcd_dvd_right _ _
 have hdp : 0 < d := by rw [hd];exact Nat.gcd_pos_of_pos_right _ hgp
 have hgc : Nat.gcd (a * y.den) t.natAbs = d := by rw [Nat.gcd_comm,← haux,hd]
 refine ⟨by omega,by omega,?_,?_⟩
 · rw [e,Rat.num_mkRat,if_neg hne,hgc]
 · rw [e,Rat.den_mkRat,if_neg hne,hgc,Nat.mul_div_assoc _ (Nat.dvd_trans hdg (hg ▸ Nat.gcd_dvd_right _ _))]
theorem add_parts (x y : Rat) (s m o t d : Int) (hs : s = ((Nat.gcd (x.den : Int).natAbs (y.den : Int).natAbs : Nat) : Int)) (hm : m = (x.den : Int) / s) (ho : o = (y.den : Int) / s) (ht : t = x.num * o + y.num * m) (hd : d = ((Nat.gcd t.natAbs s.natAbs : Nat) : Int)) :
 s ≠ 0 ∧ d ≠ 0 ∧ (x + y).num = t / d ∧ ((x + y).den : Int) = m * ((y.den : Int) / d) := by
 simp only [Int.natAbs_natCast] at hs
 obtain ⟨h1,h2,h3,h4⟩ := add_nat x y _ _ _ rfl rfl rfl _ rfl _ rfl
 subst hs
 rw [← Int.natCast_ediv] at hm ho
 subst hm ho
 subst ht
 simp only [Int.natAbs_natCast] at hd
 subst hd
 refine ⟨by omega,by omega,h3,?_⟩
 rw [h4,Int.natCast_mul,Int.natCast_ediv,Int.natCast_ediv]
theorem subQ_eq (x y : Rat) : x + -y = x - y := (Rat.sub_eq_add_neg x y).symm
theorem mul_divInt (x y : Rat) : Rat.divInt (x.num * y.num) ((x.den : Int) * (y.den : Int)) = x * y := by
 rw [Rat.mul_def',← Rat.divInt_ofNat,Int.natCast_mul]
theorem over_divInt (x y : Rat) : Rat.divInt (x.num * (y.den : Int)) ((x.den : Int) * y.num) = x / y := by
 rw [Rat.div_def,Rat.inv_def,← Rat.divInt_mul_divInt,Rat.num_divInt_den]
def cmpQ (x y : Rat) : Int := cmpZ (x.num * (y.den : Int)) (y.num * (x.den : Int))
theorem cmpQ_lt (x y : Rat) : cmpQ x y < 0 ↔ x < y := by
 rw [Rat.lt_iff];unfold cmpQ cmpZ;split <;> (try split) <;> omega
theorem cmpQ_gt (x y : Rat) : 0 < cmpQ x y ↔ y < x := by
 rw [Rat.lt_iff];unfold cmpQ cmpZ;split <;> (try split) <;> omega
end Go.Proofs.YtlfgpmnjnpdkdaaGreatDoor
namespace Go.Proofs.YtlfgpmnjnpdkdaaGreatDoor
open Go.RowKit Vd
attribute [local go_sem ↓] Go.wp_at_zero Go.wp_at_succ
def Fr (W : World) (b : Nat) (vs : Array Value) (t : TypeId) : Prop := W.heap[b]? = some (.cells vs t (0,0))
section
variable {W W' : World} {b g o : Nat} {vs : Array Value} {t : TypeId}
theorem Fr.lt (h : Fr W b vs t) : b < W.heap.size := (Array.getElem?_eq_some_iff.1 h).1
theorem Fr.call (hb : Below W.heap.size W W') (h : Fr W b vs t) : Fr W' b vs t := (hb.block b h.lt).trans h
theorem Fr.new (h : b = W.heap.size) : Fr (W.alloc (.cells vs t)) b vs t := by subst h;exact heap_alloc_new W _
theorem Fr.old {u : Obj} (h : Fr W b vs t) : Fr (W.alloc u) b vs t := Fr.call ((Below.refl _ _).alloc (Nat.le_refl _) u) h
theorem Fr.drew (h : Fr W b vs t) : Fr W.drew b vs t := h
theorem Fr.drewN {k : Nat} (h : Fr W b vs t) : Fr (W.drewN k) b vs t := h
theorem Fr.far {v : Value} (hne : b ≠ g) (h : Fr W b vs t) : Fr (W.setCell ⟨g,o,none⟩ v) b vs t := (Below.heap_setCell W ⟨g,o,none⟩ v b hne).trans h
theorem Fr.set {v : Value} (h : Fr W b vs t) : Fr (W.setCell ⟨b,o,none⟩ v) b (vs.setIfInBounds o v) t := by
 unfold Fr at h ⊢
 simp [World.setCell,Array.getElem?_modify,h]
theorem Fr.set2 {u v u' v' : Value} (h : Fr W b #[u,v] t) : Fr ((W.setCell ⟨b,0,none⟩ u').setCell ⟨b,1,none⟩ v') b #[u',v'] t := h.set.set
theorem Fr.set4 {a c d e a' c' d' e' : Value} (h : Fr W b #[a,c,d,e] t) : Fr ((((W.setCell ⟨b,0,none⟩ a').setCell ⟨b,1,none⟩ c').setCell ⟨b,2,none⟩ d').setCell ⟨b,3,none⟩ e') b #[a',c',d',e'] t := h.set.set.set.set
theorem Fr.cell (h : Fr W b vs t) (o : Nat) : W.cell? ⟨b,o,none⟩ = vs[o]? := cell_of_row W b o _ _ (0,0) h
theorem Fr.frozen (h : Fr W b vs t) (o : Nat) : W.frozen? ⟨b,o,none⟩ = false := by
 unfold Fr at h
 simp [World.frozen?,h]
theorem Fr.cells2 {u v : Value} (h : Fr W b #[u,v] t) : W.cell? ⟨b,0,none⟩ = some u ∧ W.cell? ⟨b,1,none⟩ = some v ∧ W.frozen? ⟨b,0,none⟩ = false ∧ W.frozen? ⟨b,1,none⟩ = false := ⟨h.cell 0,h.cell 1,h.frozen 0,h.frozen 1⟩
theorem Fr.cells2a {a c : Value} (h : Fr W b #[a,c] t) : (∀ p0 : Obj,(W.alloc p0).cell? ⟨b,0,none⟩ = some a) ∧ (∀ p0 : Obj,(W.alloc p0).cell? ⟨b,1,none⟩ = some c) ∧ (∀ p0 : Obj,(W.alloc p0).frozen? ⟨b,0,none⟩ = false) ∧ (∀ p0 : Obj,(W.alloc p0).frozen? ⟨b,1,none⟩ = false) := ⟨fun _ => h.old.cell 0,fun _ => h.old.cell 1,fun _ => h.old.frozen 0,fun _ => h.old.frozen 1⟩
theorem Fr.cells2b {a c : Value} (h : Fr W b #[a,c] t) : (∀ p0 p1 : Obj,((W.alloc p0).alloc p1).cell? ⟨b,0,none⟩ = some a) ∧ (∀ p0 p1 : Obj,((W.alloc p0).alloc p1).cell? ⟨b,1,none⟩ = some c) ∧ (∀ p0 p1 : Obj,((W.alloc p0).alloc p1).frozen? ⟨b,0,none⟩ = false) ∧ (∀ p0 p1 : Obj,((W.alloc p0).alloc p1).frozen? ⟨b,1,none⟩ = false) := ⟨fun _ _ => h.old.old.cell 0,fun _ _ => h.old.old.cell 1,fun _ _ => h.old.old.frozen 0,fun _ _ => h.old.old.frozen 1⟩
theorem Fr.cells4a {a c d e : Value} (h : Fr W b #[a,c,d,e] t) : (∀ p0 : Obj,(W.alloc p0).cell? ⟨b,0,none⟩ = some a) ∧ (∀ p0 : Obj,(W.alloc p0).cell? ⟨b,1,none⟩ = some c) ∧ (∀ p0 : Obj,(W.alloc p0).cell? ⟨b,2,none⟩ = some d) ∧ (∀ p0 : Obj,(W.alloc p0).cell? ⟨b,3,none⟩ = some e) ∧ (∀ p0 : Obj,(W.alloc p0).frozen? ⟨b,0,none⟩ = false) ∧ (∀ p0 : Obj,(W.alloc p0).frozen? ⟨b,1,none⟩ = false) ∧ (∀ p0 : Obj,(W.alloc p0).frozen? ⟨b,2,none⟩ = false) ∧ (∀ p0 : Obj,(W.alloc p0).frozen? ⟨b,3,none⟩ = false) := ⟨fun _ => h.old.cell 0,fun _ => h.old.cell 1,fun _ => h.old.cell 2,fun _ => h.old.cell 3,fun _ => h.old.frozen 0,fun _ => h.old.frozen 1,fun _ => h.old.frozen 2,fun _ => h.old.frozen 3⟩
theorem Fr.cells4 {a c d e : Value} (h : Fr W b #[a,c,d,e] t) : W.cell? ⟨b,0,none⟩ = some a ∧ W.cell? ⟨b,1,none⟩ = some c ∧ W.cell? ⟨b,2,none⟩ = some d ∧ W.cell? ⟨b,3,none⟩ = some e ∧ W.frozen? ⟨b,0,none⟩ = false ∧ W.frozen? ⟨b,1,none⟩ = false ∧ W.frozen? ⟨b,2,none⟩ = false ∧ W.frozen? ⟨b,3,none⟩ = false := ⟨h.cell 0,h.cell 1,h.cell 2,h.cell 3,h.frozen 0,h.frozen 1,h.frozen 2,h.frozen 3⟩
end
def notWord : Value → Bool
 | .int .u64 _ => false
 | _ => true
theorem MagV.beside {W : World} {b o : Nat} {vs : Array Value} {t : TypeId} {m : Value} {n : Nat} {u : Value} (h : Fr W b vs t) (hn : vs.toList.all notWord = true) (hm : MagV W m n) : MagV (W.setCell ⟨b,o,none⟩ u) m n := by
 obtain ⟨A,c,e,h1,h2,h3⟩ := hm
 have hne : ∀ g o,A = some ⟨g,o,none⟩ → 0 < wlen B64 n → g ≠ b := by
  intro g o e hl eg
  subst eg
  obtain ⟨g2,o2,e2,_,hc⟩ := h3.2 hl
  rw [e] at e2
  injection e2 with e2
  injection e2 with e2 e3
  subst e2
  have hc0 := hc 0 hl
  rw [h.cell] at hc0
  have hm := Array.mem_of_getElem? hc0
  have := List.all_eq_true.1 hn _ (Array.mem_toList_iff.2 hm)
  unfold U at this
  simp [notWord] at this
 exact ⟨A,c,e,h1,h2,h3.far (p := ⟨b,o,none⟩) hne u⟩
theorem SgV.beside {W : World} {b o : Nat} {vs : Array Value} {t : TypeId} {v : Value} {z : Int} {u : Value} (h : Fr W b vs t) (hn : vs.toList.all notWord = true) (hv : SgV W v z) : SgV (W.setCell ⟨b,o,none⟩ u) v z := by
 obtain ⟨m,e,hm⟩ := hv
 exact ⟨m,e,hm.beside h hn⟩
theorem SgV.set2 {W : World} {b : Nat} {x y u u' : Value} {t : TypeId} {v : Value} {z : Int} (h : Fr W b #[x,y] t) (h1 : notWord x = true) (h2 : notWord y = true) (h3 : notWord u = true) (hv : SgV W v z) : SgV ((W.setCell ⟨b,0,none⟩ u).setCell ⟨b,1,none⟩ u') v z :=
 (hv.beside h (by simp [h1,h2])).beside (vs := #[u,y]) (t := t) h.set (by simp [h3,h2])
theorem SgV.set4 {W : World} {b : Nat} {x0 x1 x2 x3 u0 u1 u2 u3 : Value} {t : TypeId} {v : Value} {z : Int} (h : Fr W b #[x0,x1,x2,x3] t) (h0 : notWord x0 = true) (h1 : notWord x1 = true) (h2 : notWord x2 = true) (h3 : notWord x3 = true) (k0 : notWord u0 = true) (k1 : notWord u1 = true) (k2 : notWord u2 = true) (hv : SgV W v z) :
 SgV ((((W.setCell ⟨b,0,none⟩ u0).setCell ⟨b,1,none⟩ u1).setCell ⟨b,2,none⟩ u2).setCell ⟨b,3,none⟩ u3) v z :=
 (((hv.beside h (by simp [h0,h1,h2,h3])).beside (vs := #[u0,x1,x2,x3]) (t := t) h.set (by simp [h1,h2,h3,k0])).beside (vs := #[u0,u1,x2,x3]) (t := t) (Fr.set (o := 1) (Fr.set (o := 0) h)) (by simp [h2,h3,k0,k1])).beside (vs := #[u0,u1,u2,x3]) (t := t) (Fr.set (o := 2) (Fr.set (o := 1) (Fr.set (o := 0) h))) (by simp [h3,k0,k1,k2])
theorem SgV.old {W : World} {v : Value} {z : Int} {u : Obj} (hv : SgV W v z) : SgV (W.alloc u) v z := hv.below ((Below.refl _ _).alloc (Nat.le_refl _) u)
theorem SgV.call {W W' : World} {v : Value} {z : Int} (hb : Below W.heap.size W W') (hv : SgV W v z) : SgV W' v z := hv.below hb
theorem sg_built (A : Option Addr) (n c : Nat) (k : Bool) (W : World) : (Instr.build 80 #[(0,.slice A n c),(1,.bool k)]).run Tryz.prog W = .ok (.agg #[.slice A n c,.bool k]) W :=
 run_build W _ _ _ (by kernel_rfl)
theorem ra_built (A : Option Addr) (n c : Nat) (k : Bool) (A' : Option Addr) (n' c' : Nat) (k' : Bool) (W : World) : (Instr.build 82 #[(0,.agg #[.slice A n c,.bool k]),(1,.agg #[.slice A' n' c',.bool k'])]).run Tryz.prog W = .ok (.agg #[.slice A n c,.bool k,.slice A' n' c',.bool k']) W :=
 run_build W _ _ _ (by kernel_rfl)
theorem ra_built0 (W : World) : (Instr.build 82 #[]).run Tryz.prog W = .ok (.agg #[.slice none 0 0,.bool false,.slice none 0 0,.bool false]) W :=
 run_build W _ _ _ (by kernel_rfl)
theorem fr_built (s t : ByteArray) (W : World) : (Instr.build 24 #[(0,.string s),(1,.string t)]).run Tryz.prog W = .ok (.agg #[.string s,.string t]) W :=
 run_build W _ _ _ (by kernel_rfl)
theorem fr_built0 (W : World) : (Instr.build 24 #[]).run Tryz.prog W = .ok (.agg #[.string ⟨#[]⟩,.string ⟨#[]⟩]) W :=
 run_build W _ _ _ (by kernel_rfl)
set_option maxRecDepth 100000 in
set_option maxHeartbeats 1000000 in
theorem numOf_any (n : Int) (w : World) (h0 : -9223372036854775808 ≤ n) (h1 : n ≤ 9223372036854775807) :
 Calls Tryz.prog 54 #[.int .i64 n] w fun e w' => ∃ (A : Option Addr) (l c : Nat) (k : Bool),e = .returned (.agg #[.slice A l c,.bool k]) ∧ SgV w' (.agg #[.slice A l c,.bool k]) n ∧ Below w.heap.size w w' := by
 have hF0 : Fr (w.alloc (.cells #[.slice none 0 0,.bool false] 80)) w.heap.size #[.slice none 0 0,.bool false] 80 := Fr.new rfl
 have hbW : Below w.heap.size w (w.alloc (.cells #[.slice none 0 0,.bool false] 80)) := (Below.refl _ _).alloc (Nat.le_refl _) _
 have hbd := sg_built
 rcases (show n < 0 ∨ 0 ≤ n by omega) with h | h
 · obtain ⟨m,rfl⟩ : ∃ m : Nat,n = -(m : Int) := ⟨n.natAbs,by omega⟩
   have hfw := fun W => fromWord_any m (by show m < 18446744073709551616;omega) W
   obtain ⟨u,hu⟩ : ∃ u : Int,u = 18446744073709551616 - (m : Int) := ⟨_,rfl⟩
   have e1 : IntKind.u64.wrap (-(m : Int)) = u := by rw [IntKind.wrap_u64];omega
   have e2 : IntKind.u64.wrap (-u) = (m : Int) := by rw [IntKind.wrap_u64];omega
   have hs : decide (-(m : Int) < 0) = true := by simpa using h
   have HM := Lib.hid (And.intro h (And.intro hbW hs))
   clear hu h0 h1 hbW hs
   go_enter Tryz.func54,Tryz.ntmps54
   go_wp2_with fail
   refine (hfw _).mono ?_
   rintro e w1 ⟨v,rfl,hv,hb⟩
   obtain ⟨A,c,rfl,_,_⟩ := hv.ok_len
   have hF1 := hF0.call hb
   obtain ⟨c0,c1,z0,z1⟩ := hF1.cells2
   have HV := Lib.hid (And.intro hv hb)
   clear hv hb hfw
   go_wp2_with fail
   exact bodyPost_ret (v := .agg #[.slice A (wlen B64 m) c,.bool true]) (by simp [results,Tryz.results54,go_sem,c0,c1]) rfl ⟨A,_,c,true,rfl,SgV.set2 hF1 rfl rfl rfl ⟨_,by rw [HM.out.2.2],by simpa using HV.out.1⟩,((HM.out.2.1.trans (HV.out.2.mono HM.out.2.1.size)).setCell (Nat.le_refl _) _).setCell (Nat.le_refl _) _⟩
 · obtain ⟨m,rfl⟩ : ∃ m : Nat,n = (m : Int) := ⟨n.natAbs,by omega⟩
   have hfw := fun W => fromWord_any m (by show m < 18446744073709551616;omega) W
   have e1 : IntKind.u64.wrap (m : Int) = (m : Int) := by rw [IntKind.wrap_u64];omega
   have hs : decide ((m : Int) < 0) = false := by simp
   have h' : ¬ (m : Int) < 0 := by omega
   have HM := Lib.hid (And.intro h (And.intro hbW hs))
   clear h0 h1 hbW hs h
   go_enter Tryz.func54,Tryz.ntmps54
   go_wp2_with fail
   refine (hfw _).mono ?_
   rintro e w1 ⟨v,rfl,hv,hb⟩
   obtain ⟨A,c,rfl,_,_⟩ := hv.ok_len
   have hF1 := hF0.call hb
   obtain ⟨c0,c1,z0,z1⟩ := hF1.cells2
   have HV := Lib.hid (And.intro hv hb)
   clear hv hb hfw
   go_wp2_with fail
   exact bodyPost_ret (v := .agg #[.slice A (wlen B64 m) c,.bool false]) (by simp [results,Tryz.results54,go_sem,c0,c1]) rfl ⟨A,_,c,false,rfl,SgV.set2 hF1 rfl rfl rfl ⟨_,by rw [HM.out.2.2],by simpa using HV.out.1⟩,((HM.out.2.1.trans (HV.out.2.mono HM.out.2.1.size)).setCell (Nat.le_refl _) _).setCell (Nat.le_refl _) _⟩
end Go.Proofs.YtlfgpmnjnpdkdaaGreatDoor
