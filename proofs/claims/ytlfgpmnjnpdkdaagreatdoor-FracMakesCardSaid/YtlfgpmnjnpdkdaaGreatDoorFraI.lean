/- Contracts: package frac: fractions read, all of a list. -/
import Derived.Test.YtlfgpmnjnpdkdaaGreatDoorFraG
namespace Go.Proofs.YtlfgpmnjnpdkdaaGreatDoor
open Go.RowKit Vd
attribute [local go_sem ↓] Go.wp_at_zero Go.wp_at_succ
structure Quad where
 A : Option Addr
 n : Nat
 e : Nat
 k : Bool
 A' : Option Addr
 n' : Nat
 e' : Nat
 k' : Bool
def Quad.a (q : Quad) : Value := .slice q.A q.n q.e
def Quad.b (q : Quad) : Value := .bool q.k
def Quad.c (q : Quad) : Value := .slice q.A' q.n' q.e'
def Quad.d (q : Quad) : Value := .bool q.k'
def zq : Quad := ⟨none,0,0,false,none,0,0,false⟩
def flat : List Quad → List Value
 | [] => []
 | q :: l => q.a :: q.b :: q.c :: q.d :: flat l
theorem flat_length (l : List Quad) : (flat l).length = 4 * l.length := by
 induction l with
 | nil => rfl
 | cons q l ih => simp [flat,ih];omega
theorem flat_get (l : List Quad) (i : Nat) (q : Quad) (h : l[i]? = some q) : (flat l)[i * 4]? = some q.a ∧ (flat l)[i * 4 + 1]? = some q.b ∧ (flat l)[i * 4 + 2]? = some q.c ∧ (flat l)[i * 4 + 3]? = some q.d := by
 induction l generalizing i with
 | nil => simp at h
 | cons x l ih =>
   cases i with
   | zero => simp at h;subst h;simp [flat]
   | succ i =>
     have := ih i (by simpa using h)
     rw [show (i + 1) * 4 = i * 4 + 1 + 1 + 1 + 1 by omega]
     exact this
theorem flat_set (l : List Quad) (i : Nat) (q : Quad) (h : i < l.length) : flat (l.set i q) = ((((flat l).set (i * 4) q.a).set (i * 4 + 1) q.b).set (i * 4 + 2) q.c).set (i * 4 + 3) q.d := by
 induction l generalizing i with
 | nil => simp at h
 | cons x l ih =>
   cases i with
   | zero => simp [flat]
   | succ i =>
     have := ih i (by simpa using h)
     rw [List.set_cons_succ]
     simp only [flat,this]
     rw [show (i + 1) * 4 = i * 4 + 1 + 1 + 1 + 1 by omega]
     rfl
theorem flat_zero (n : Nat) : (flat (List.replicate n zq)).toArray = madeCells (Value.agg #[.slice none 0 0,.bool false,.slice none 0 0,.bool false]).cells (n * 4) := by
 unfold madeCells
 apply Array.ext
 · simp [flat_length,Nat.mul_comm]
 · intro j h1 h2
   have hj : j < n * 4 := by simpa using h2
   have hq : (List.replicate n zq)[j / 4]? = some zq := by rw [List.getElem?_replicate];rw [if_pos (by omega)]
   obtain ⟨e0,e1,e2,e3⟩ := flat_get _ _ _ hq
   have hl : j < (flat (List.replicate n zq)).length := by rw [flat_length,List.length_replicate];omega
   have hg : (flat (List.replicate n zq))[j]? = some ((flat (List.replicate n zq))[j]) := List.getElem?_eq_getElem hl
   simp only [List.getElem_toArray,Array.getElem_map,Array.getElem_range]
   rcases (show j % 4 = 0 ∨ j % 4 = 1 ∨ j % 4 = 2 ∨ j % 4 = 3 by omega) with h | h | h | h
   · rw [show j / 4 * 4 = j by omega,hg] at e0
     rw [Option.some.inj e0];simp [Value.cells,h,zq,Quad.a]
   · rw [show j / 4 * 4 + 1 = j by omega,hg] at e1
     rw [Option.some.inj e1];simp [Value.cells,h,zq,Quad.b]
   · rw [show j / 4 * 4 + 2 = j by omega,hg] at e2
     rw [Option.some.inj e2];simp [Value.cells,h,zq,Quad.c]
   · rw [show j / 4 * 4 + 3 = j by omega,hg] at e3
     rw [Option.some.inj e3];simp [Value.cells,h,zq,Quad.d]
theorem infoRa : (Tryz.prog.info? 82).map (fun i => (i.zero,i.size,i.bytes)) = some (some (.agg #[.slice none 0 0,.bool false,.slice none 0 0,.bool false]),4,64) := by kernel_rfl
theorem mkRa (n : Nat) (hn : n ≤ 1000000) (w : World) : (Instr.makeSlice 108 (.int .i64 (n : Int)) (.int .i64 (n : Int))).run Tryz.prog w = .ok (.slice (some ⟨w.heap.size,0,none⟩) n n) (w.alloc (.cells (flat (List.replicate n zq)).toArray 82)) := by
 obtain ⟨i0,hi,hz0,hz1,hz2⟩ := info_parts infoRa
 have h := run_make (P := Tryz.prog) w 108 82 i0 _ Tryz.underlying108 hi hz0 .i64 .i64 (n : Int) (n : Int) (by omega) (by omega) (by rw [hz2];omega) (by omega)
 rw [hz1,← flat_zero] at h
 exact h
theorem flat_words (l : List Quad) : (flat l).all notWord = true := by
 induction l with
 | nil => rfl
 | cons q l ih => simp [flat,ih,Quad.a,Quad.b,Quad.c,Quad.d,notWord]
theorem all_set {l : List Value} {i : Nat} {v : Value} (h : l.all notWord = true) (hv : notWord v = true) : (l.set i v).all notWord = true := by
 rw [List.all_eq_true] at h ⊢
 intro x hx
 rcases List.mem_or_eq_of_mem_set hx with h1 | h1
 · exact h x h1
 · rw [h1];exact hv
abbrev stoQ (W : World) (b i : Nat) (q : Quad) : World := (((W.setCell ⟨b,i * 4,none⟩ q.a).setCell ⟨b,i * 4 + 1,none⟩ q.b).setCell ⟨b,i * 4 + 2,none⟩ q.c).setCell ⟨b,i * 4 + 3,none⟩ q.d
theorem frQ_set {W : World} {b i : Nat} {l : List Quad} {t : TypeId} {q : Quad} (h : Fr W b (flat l).toArray t) (hi : i < l.length) : Fr (stoQ W b i q) b (flat (l.set i q)).toArray t := by
 have h1 := Fr.set (o := i * 4) (v := q.a) h
 have h2 := Fr.set (o := i * 4 + 1) (v := q.b) h1
 have h3 := Fr.set (o := i * 4 + 2) (v := q.c) h2
 have h4 := Fr.set (o := i * 4 + 3) (v := q.d) h3
 rw [flat_set l i q hi]
 simpa using h4
theorem sgQ_set {W : World} {b i : Nat} {l : List Quad} {t : TypeId} {q : Quad} {v : Value} {z : Int} (h : Fr W b (flat l).toArray t) (hv : SgV W v z) : SgV (stoQ W b i q) v z := by
 have h1 := Fr.set (o := i * 4) (v := q.a) h
 have h2 := Fr.set (o := i * 4 + 1) (v := q.b) h1
 have h3 := Fr.set (o := i * 4 + 2) (v := q.c) h2
 have n0 := flat_words l
 have n1 := all_set (i := i * 4) (v := q.a) n0 rfl
 have n2 := all_set (i := i * 4 + 1) (v := q.b) n1 rfl
 have n3 := all_set (i := i * 4 + 2) (v := q.c) n2 rfl
 exact SgV.beside h3 (by simpa using n3) (SgV.beside h2 (by simpa using n2) (SgV.beside h1 (by simpa using n1) (SgV.beside h (by simpa using n0) hv)))
def RaQ (W : World) (x : Quad) (q : Rat) : Prop := SgV W (.agg #[x.a,x.b]) q.num ∧ SgV W (.agg #[x.c,x.d]) (q.den : Int)
theorem RaQ.call {W W' : World} {x : Quad} {q : Rat} (hb : Below W.heap.size W W') (h : RaQ W x q) : RaQ W' x q := ⟨h.1.below hb,h.2.below hb⟩
def RaL (W : World) (g : Nat) (qs : List Rat) : Prop := ∃ l : List Quad,Fr W g (flat l).toArray 82 ∧ l.length = qs.length ∧ ∀ (i : Nat) (q : Rat),qs[i]? = some q → ∃ x : Quad,l[i]? = some x ∧ RaQ W x q
theorem RaL.call {W W' : World} {g : Nat} {qs : List Rat} (h : RaL W g qs) (hb : Below W.heap.size W W') : RaL W' g qs := by
 obtain ⟨l,h1,h2,h3⟩ := h
 refine ⟨l,h1.call hb,h2,fun i q hq => ?_⟩
 obtain ⟨x,hx,hr⟩ := h3 i q hq
 exact ⟨x,hx,hr.call hb⟩
theorem RaL.at_ {W : World} {g : Nat} {qs : List Rat} (h : RaL W g qs) {i : Nat} {q : Rat} (hq : qs[i]? = some q) : ∃ (A1 : Option Addr) (n1 c1 : Nat) (k1 : Bool) (A2 : Option Addr) (n2 c2 : Nat) (k2 : Bool),W.cell? ⟨g,i * 4,none⟩ = some (.slice A1 n1 c1) ∧ W.cell? ⟨g,i * 4 + 1,none⟩ = some (.bool k1) ∧ W.cell? ⟨g,i * 4 + 2,none⟩ = some (.slice A2 n2 c2) ∧ W.cell? ⟨g,i * 4 + 3,none⟩ = some (.bool k2) ∧ RaV W (.agg #[.slice A1 n1 c1,.bool k1,.slice A2 n2 c2,.bool k2]) q := by
 obtain ⟨l,h1,h2,h3⟩ := h
 obtain ⟨x,hx,hr⟩ := h3 i q hq
 obtain ⟨e0,e1,e2,e3⟩ := flat_get l i x hx
 exact ⟨x.A,x.n,x.e,x.k,x.A',x.n',x.e',x.k',by rw [h1.cell,List.getElem?_toArray];exact e0,by rw [h1.cell,List.getElem?_toArray];exact e1,by rw [h1.cell,List.getElem?_toArray];exact e2,by rw [h1.cell,List.getElem?_toArray];exact e3,⟨_,_,_,_,_,_,_,_,rfl,hr.1,hr.2⟩⟩
def flat2 : List (List UInt8 × List UInt8) → List Value
 | [] => []
 | p :: l => .string ⟨p.1.toArray⟩ :: .string ⟨p.2.toArray⟩ :: flat2 l
theorem flat2_get (l : List (List UInt8 × List UInt8)) (i : Nat) (p : List UInt8 × List UInt8) (h : l[i]? = some p) : (flat2 l)[i * 2]? = some (.string ⟨p.1.toArray⟩) ∧ (flat2 l)[i * 2 + 1]? = some (.string ⟨p.2.toArray⟩) := by
 induction l generalizing i with
 | nil => simp at h
 | cons x l ih =>
   cases i with
   | zero => simp at h;subst h;simp [flat2]
   | succ i =>
     have := ih i (by simpa using h)
     rw [show (i + 1) * 2 = i * 2 + 1 + 1 by omega]
     exact this
set_option maxRecDepth 100000 in
set_option maxHeartbeats 4000000 in
theorem freadAll_some (g n c : Nat) (ls : List (List UInt8 × List UInt8)) (qs : List Rat) (w : World) (hF : Fr w g (flat2 ls).toArray 24) (hl : ls.length = n) (hql : qs.length = n) (hq : ∀ (i : Nat) (p : List UInt8 × List UInt8) (q : Rat),ls[i]? = some p → qs[i]? = some q → rdF p.1 p.2 = some q) (hn : n ≤ 1000000) :
    Calls Tryz.prog 71 #[.slice (some ⟨g,0,none⟩) n c] w fun e w' => ∃ g2 : Nat,e = .returned (.tuple #[.slice (some ⟨g2,0,none⟩) n n,.int .i64 0]) ∧ RaL w' g2 qs ∧ Below w.heap.size w w' := by
 have hmk := fun W => mkRa n hn W
 have H := Lib.hid (And.intro hF (And.intro hl (And.intro hql (And.intro hq hn))))
 have hn0 : (0 : Int) ≤ (n : Int) := by omega
 have hn9 : (n : Int) ≤ 1000000 := by omega
 clear hF hl hql hq hn
 go_enter Tryz.func71,Tryz.ntmps71
 go_wp2_with fail
 go_loopg [14] n (fun r iv W => ∃ (i : Nat) (l : List Quad),r = n - i ∧ iv = .int .i64 (i : Int) ∧ i ≤ n ∧ Below w.heap.size w W ∧ Fr W w.heap.size (flat l).toArray 82 ∧ l.length = n ∧ ∀ (j : Nat) (q : Rat),j < i → qs[j]? = some q → ∃ x : Quad,l[j]? = some x ∧ RaQ W x q)
 case atStart => exact ⟨0,List.replicate n zq,rfl,rfl,by omega,(Below.refl _ _).alloc (Nat.le_refl _) _,Fr.new rfl,by simp,fun j q hj => absurd hj (by omega)⟩
 case round =>
  obtain ⟨i,l,rfl,rfl,hi,hb,hG,hll,hR⟩ := hrel
  by_cases ha : i < n
  · have i1 : (i : Int) < (n : Int) := by omega
    have i2 : (0 : Int) ≤ (i : Int) := by omega
    obtain ⟨hF,hl,hql,hq,hn⟩ := H.out
    have hFw := Fr.call hb hF
    have hp := List.getElem?_eq_getElem (l := ls) (i := i) (by omega)
    obtain ⟨p,hpe⟩ : ∃ p,p = ls[i] := ⟨_,rfl⟩
    rw [← hpe] at hp
    have hqi := List.getElem?_eq_getElem (l := qs) (i := i) (by omega)
    obtain ⟨q,hqe⟩ : ∃ q,q = qs[i] := ⟨_,rfl⟩
    rw [← hqe] at hqi
    obtain ⟨s1,s2⟩ := p
    obtain ⟨t0,t1⟩ := flat2_get ls i _ hp
    have hc0 : wr.cell? ⟨g,i * 2,none⟩ = some (.string ⟨s1.toArray⟩) := by rw [hFw.cell,List.getElem?_toArray];exact t0
    have hc1 : wr.cell? ⟨g,i * 2 + 1,none⟩ = some (.string ⟨s2.toArray⟩) := by rw [hFw.cell,List.getElem?_toArray];exact t1
    have hrd := fun W => fread_some s1 s2 q W (hq i _ q hp hqi)
    have HR := Lib.hid (And.intro hi (And.intro hb (And.intro hG (And.intro hll (And.intro hR (And.intro hqi ha))))))
    clear hF hl hql hq hn hFw hp hpe hqe t0 t1 hi hb hG hll hR hqi ha
    go_wp2_with fail
    refine (hrd _).mono ?_
    rintro e w5 ⟨v5,rfl,hv5,hb5⟩
    obtain ⟨A1,n1,c1,k1,A2,n2,c2,k2,rfl,hs1,hs2⟩ := hv5.open
    obtain ⟨hi,hb,hG,hll,hR,hqi,ha⟩ := HR.out
    have hbr : Below wr.heap.size wr w5 := ((Below.refl _ _).alloc (Nat.le_refl _) _).trans (hb5.mono (by simp))
    have hG5 := hG.call hbr
    have hG6 : Fr (w5.alloc (.cells #[.slice A1 n1 c1,.bool k1,.slice A2 n2 c2,.bool k2] 82)) w.heap.size (flat l).toArray 82 := hG5.old
    have hx := List.getElem?_eq_getElem (l := l) (i := i) (by omega)
    obtain ⟨x,hxe⟩ : ∃ x,x = l[i] := ⟨_,rfl⟩
    rw [← hxe] at hx
    obtain ⟨e0,e1,e2,e3⟩ := flat_get l i x hx
    have d0 : (w5.alloc (.cells #[.slice A1 n1 c1,.bool k1,.slice A2 n2 c2,.bool k2] 82)).cell? ⟨w.heap.size,i * 4,none⟩ = some x.a := by rw [hG6.cell,List.getElem?_toArray];exact e0
    have d1 : (w5.alloc (.cells #[.slice A1 n1 c1,.bool k1,.slice A2 n2 c2,.bool k2] 82)).cell? ⟨w.heap.size,i * 4 + 1,none⟩ = some x.b := by rw [hG6.cell,List.getElem?_toArray];exact e1
    have d2 : (w5.alloc (.cells #[.slice A1 n1 c1,.bool k1,.slice A2 n2 c2,.bool k2] 82)).cell? ⟨w.heap.size,i * 4 + 2,none⟩ = some x.c := by rw [hG6.cell,List.getElem?_toArray];exact e2
    have d3 : (w5.alloc (.cells #[.slice A1 n1 c1,.bool k1,.slice A2 n2 c2,.bool k2] 82)).cell? ⟨w.heap.size,i * 4 + 3,none⟩ = some x.d := by rw [hG6.cell,List.getElem?_toArray];exact e3
    have z0 := hG6.frozen (i * 4)
    have z1 := hG6.frozen (i * 4 + 1)
    have z2 := hG6.frozen (i * 4 + 2)
    have z3 := hG6.frozen (i * 4 + 3)
    have HS := Lib.hid (And.intro hs1 (And.intro hs2 (And.intro hbr (And.intro hG5 (And.intro hG6 hx)))))
    clear hi hb hG hll hR hqi ha hbr hG5 hG6 hx hxe e0 e1 e2 e3 hs1 hs2 hv5 hb5 hrd
    go_wp2_with fail
    obtain ⟨hi,hb,hG,hll,hR,hqi,ha⟩ := HR.out
    obtain ⟨hs1,hs2,hbr,hG5,hG6,hx⟩ := HS.out
    have key := frQ_set (i := i) (q := (⟨A1,n1,c1,k1,A2,n2,c2,k2⟩ : Quad)) hG6 (by omega)
    have ks := fun v z (hv : SgV (w5.alloc (.cells #[.slice A1 n1 c1,.bool k1,.slice A2 n2 c2,.bool k2] 82)) v z) => sgQ_set (i := i) (q := (⟨A1,n1,c1,k1,A2,n2,c2,k2⟩ : Quad)) hG6 hv
    simp only [stoQ,Quad.a,Quad.b,Quad.c,Quad.d] at key ks
    have hnn := H.out.2.2.2.2
    go_roundg (n - (i + 1))
    case measure => omega
    case rel =>
     have hba : Below w5.heap.size w5 (w5.alloc (.cells #[.slice A1 n1 c1,.bool k1,.slice A2 n2 c2,.bool k2] 82)) := (Below.refl _ _).alloc (Nat.le_refl _) _
     refine ⟨i + 1,l.set i ⟨A1,n1,c1,k1,A2,n2,c2,k2⟩,rfl,by go_num,by omega,?_,key,by simp [hll],fun j q' hj hq' => ?_⟩
     · have h1 := belowt (belowt hb hb.size hbr) (by have := hb.size;have := hbr.size;omega) hba
       exact (((h1.setCell (Nat.le_refl _) _).setCell (Nat.le_refl _) _).setCell (Nat.le_refl _) _).setCell (Nat.le_refl _) _
     · rcases Nat.lt_or_ge j i with h | h
       · obtain ⟨y,hy,hr⟩ := hR j q' h hq'
         have hr2 := (hr.call hbr).call hba
         exact ⟨y,by rw [List.getElem?_set_ne (by omega)];exact hy,ks _ _ hr2.1,ks _ _ hr2.2⟩
       · obtain rfl : j = i := by omega
         rw [hqi] at hq'
         obtain rfl := Option.some.inj hq'
         exact ⟨⟨A1,n1,c1,k1,A2,n2,c2,k2⟩,List.getElem?_set_self (by omega),ks _ _ hs1.old,ks _ _ hs2.old⟩
  · obtain rfl : i = n := by omega
    have HZ := Lib.hid (And.intro hb (And.intro hG (And.intro hll hR)))
    clear hi hb hG hll hR
    go_wp2_with fail
    go_ret2
    obtain ⟨hb,hG,hll,hR⟩ := HZ.out
    refine ⟨w.heap.size,rfl,⟨l,hG,by rw [hll,H.out.2.2.1],fun j q hq' => hR j q ?_ hq'⟩,hb⟩
    rcases Nat.lt_or_ge j i with h | h
    · exact h
    · rw [List.getElem?_eq_none (by rw [H.out.2.2.1];exact h)] at hq';cases hq'
set_option maxRecDepth 100000 in
set_option maxHeartbeats 4000000 in
theorem freadAll_none (g n c : Nat) (ls : List (List UInt8 × List UInt8)) (w : World) (hF : Fr w g (flat2 ls).toArray 24) (hl : ls.length = n) (hq : ∃ (i : Nat) (p : List UInt8 × List UInt8),ls[i]? = some p ∧ rdF p.1 p.2 = none) (hn : n ≤ 1000000) :
    Calls Tryz.prog 71 #[.slice (some ⟨g,0,none⟩) n c] w fun e w' => e = .returned (.tuple #[.slice none 0 0,.int .i64 20]) ∧ Below w.heap.size w w' := by
 have hmk := fun W => mkRa n hn W
 have H := Lib.hid (And.intro hF (And.intro hl (And.intro hq hn)))
 have hn0 : (0 : Int) ≤ (n : Int) := by omega
 have hn9 : (n : Int) ≤ 1000000 := by omega
 clear hF hl hq hn
 go_enter Tryz.func71,Tryz.ntmps71
 go_wp2_with fail
 go_loopg [14] n (fun r iv W => ∃ (i : Nat) (l : List Quad),r = n - i ∧ iv = .int .i64 (i : Int) ∧ i ≤ n ∧ Below w.heap.size w W ∧ Fr W w.heap.size (flat l).toArray 82 ∧ l.length = n ∧ ∀ (j : Nat) (p : List UInt8 × List UInt8),j < i → ls[j]? = some p → rdF p.1 p.2 ≠ none)
 case atStart => exact ⟨0,List.replicate n zq,rfl,rfl,by omega,(Below.refl _ _).alloc (Nat.le_refl _) _,Fr.new rfl,by simp,fun j p hj => absurd hj (by omega)⟩
 case round =>
  obtain ⟨i,l,rfl,rfl,hi,hb,hG,hll,hR⟩ := hrel
  by_cases ha : i < n
  · have i1 : (i : Int) < (n : Int) := by omega
    have i2 : (0 : Int) ≤ (i : Int) := by omega
    obtain ⟨hF,hl,hq,hn⟩ := H.out
    have hFw := Fr.call hb hF
    have hp := List.getElem?_eq_getElem (l := ls) (i := i) (by omega)
    obtain ⟨p,hpe⟩ : ∃ p,p = ls[i] := ⟨_,rfl⟩
    rw [← hpe] at hp
    obtain ⟨s1,s2⟩ := p
    obtain ⟨t0,t1⟩ := flat2_get ls i _ hp
    have hc0 : wr.cell? ⟨g,i * 2,none⟩ = some (.string ⟨s1.toArray⟩) := by rw [hFw.cell,List.getElem?_toArray];exact t0
    have hc1 : wr.cell? ⟨g,i * 2 + 1,none⟩ = some (.string ⟨s2.toArray⟩) := by rw [hFw.cell,List.getElem?_toArray];exact t1
    cases hrd0 : rdF s1 s2 with
    | none =>
      have hrd := fun W => fread_none s1 s2 W hrd0
      unfold raNone at hrd
      have HR := Lib.hid hb
      clear hF hl hq hn hFw hp hpe t0 t1 hi hb hG hll hR ha hrd0
      go_wp2_with fail
      refine (hrd _).mono ?_
      rintro e w5 ⟨rfl,hb5⟩
      have hbr : Below wr.heap.size wr w5 := ((Below.refl _ _).alloc (Nat.le_refl _) _).trans (hb5.mono (by simp))
      have hbz := belowt HR.out HR.out.size hbr
      clear hb5 hrd hbr
      go_wp2_with fail
      go_ret2
      exact ⟨rfl,hbz.alloc hbz.size _⟩
    | some q =>
      have hrd := fun W => fread_some s1 s2 q W hrd0
      have HR := Lib.hid (And.intro hi (And.intro hb (And.intro hG (And.intro hll (And.intro hR (And.intro hp (And.intro hrd0 ha)))))))
      clear hF hl hq hn hFw hp hpe t0 t1 hi hb hG hll hR hrd0 ha
      go_wp2_with fail
      refine (hrd _).mono ?_
      rintro e w5 ⟨v5,rfl,hv5,hb5⟩
      obtain ⟨A1,n1,c1,k1,A2,n2,c2,k2,rfl,hs1,hs2⟩ := hv5.open
      obtain ⟨hi,hb,hG,hll,hR,hpi,hrd0,ha⟩ := HR.out
      have hbr : Below wr.heap.size wr w5 := ((Below.refl _ _).alloc (Nat.le_refl _) _).trans (hb5.mono (by simp))
      have hG5 := hG.call hbr
      have hG6 : Fr (w5.alloc (.cells #[.slice A1 n1 c1,.bool k1,.slice A2 n2 c2,.bool k2] 82)) w.heap.size (flat l).toArray 82 := hG5.old
      have hx := List.getElem?_eq_getElem (l := l) (i := i) (by omega)
      obtain ⟨x,hxe⟩ : ∃ x,x = l[i] := ⟨_,rfl⟩
      rw [← hxe] at hx
      obtain ⟨e0,e1,e2,e3⟩ := flat_get l i x hx
      have d0 : (w5.alloc (.cells #[.slice A1 n1 c1,.bool k1,.slice A2 n2 c2,.bool k2] 82)).cell? ⟨w.heap.size,i * 4,none⟩ = some x.a := by rw [hG6.cell,List.getElem?_toArray];exact e0
      have d1 : (w5.alloc (.cells #[.slice A1 n1 c1,.bool k1,.slice A2 n2 c2,.bool k2] 82)).cell? ⟨w.heap.size,i * 4 + 1,none⟩ = some x.b := by rw [hG6.cell,List.getElem?_toArray];exact e1
      have d2 : (w5.alloc (.cells #[.slice A1 n1 c1,.bool k1,.slice A2 n2 c2,.bool k2] 82)).cell? ⟨w.heap.size,i * 4 + 2,none⟩ = some x.c := by rw [hG6.cell,List.getElem?_toArray];exact e2
      have d3 : (w5.alloc (.cells #[.slice A1 n1 c1,.bool k1,.slice A2 n2 c2,.bool k2] 82)).cell? ⟨w.heap.size,i * 4 + 3,none⟩ = some x.d := by rw [hG6.cell,List.getElem?_toArray];exact e3
      have z0 := hG6.frozen (i * 4)
      have z1 := hG6.frozen (i * 4 + 1)
      have z2 := hG6.frozen (i * 4 + 2)
      have z3 := hG6.frozen (i * 4 + 3)
      have HS := Lib.hid (And.intro hs1 (And.intro hs2 (And.intro hbr (And.intro hG5 (And.intro hG6 hx)))))
      clear hi hb hG hll hR hpi hrd0 ha hbr hG5 hG6 hx hxe e0 e1 e2 e3 hs1 hs2 hv5 hb5 hrd
      go_wp2_with fail
      obtain ⟨hi,hb,hG,hll,hR,hpi,hrd0,ha⟩ := HR.out
      obtain ⟨hs1,hs2,hbr,hG5,hG6,hx⟩ := HS.out
      have key := frQ_set (i := i) (q := (⟨A1,n1,c1,k1,A2,n2,c2,k2⟩ : Quad)) hG6 (by omega)
      simp only [stoQ,Quad.a,Quad.b,Quad.c,Quad.d] at key
      have hnn := H.out.2.2.2
      go_roundg (n - (i + 1))
      case measure => omega
      case rel =>
       have hba : Below w5.heap.size w5 (w5.alloc (.cells #[.slice A1 n1 c1,.bool k1,.slice A2 n2 c2,.bool k2] 82)) := (Below.refl _ _).alloc (Nat.le_refl _) _
       refine ⟨i + 1,l.set i ⟨A1,n1,c1,k1,A2,n2,c2,k2⟩,rfl,by go_num,by omega,?_,key,by simp [hll],fun j q' hj hq' => ?_⟩
       · have h1 := belowt (belowt hb hb.size hbr) (by have := hb.size;have := hbr.size;omega) hba
         exact (((h1.setCell (Nat.le_refl _) _).setCell (Nat.le_refl _) _).setCell (Nat.le_refl _) _).setCell (Nat.le_refl _) _
       · rcases Nat.lt_or_ge j i with h | h
         · exact hR j q' h hq'
         · obtain rfl : j = i := by omega
           rw [hpi] at hq'
           obtain rfl := Option.some.inj hq'
           rw [hrd0];intro hc;cases hc
  · obtain rfl : i = n := by omega
    exfalso
    obtain ⟨k,p,hk,hk2⟩ := H.out.2.2.1
    refine hR k p ?_ hk hk2
    rcases Nat.lt_or_ge k i with h | h
    · exact h
    · rw [List.getElem?_eq_none (by rw [H.out.2.1];exact h)] at hk;cases hk
end Go.Proofs.YtlfgpmnjnpdkdaaGreatDoor
