/- Contracts: package frac: Div, Pow. Contracts: package frac: Pow. -/
import Derived.Test.YtlfgpmnjnpdkdaaGreatDoorFraK
namespace Go.Proofs.YtlfgpmnjnpdkdaaGreatDoor
open Go.RowKit Vd
attribute [local go_sem ↓] Go.wp_at_zero Go.wp_at_succ
def BoxF (W : World) (b : Nat) : Prop := ∃ (s t : ByteArray),Fr W b #[.string s,.string t] 24
theorem Fr.boxF {W : World} {b : Nat} {s t : ByteArray} (h : Fr W b #[.string s,.string t] 24) : BoxF W b := ⟨_,_,h⟩
theorem BoxF.call {W W' : World} {b : Nat} (h : BoxF W b) (hb : Below W.heap.size W W') : BoxF W' b := by obtain ⟨_,_,h⟩ := h;exact (h.call hb).boxF
theorem BoxF.old {W : World} {b : Nat} {u : Obj} (h : BoxF W b) : BoxF (W.alloc u) b := h.call ((Below.refl _ _).alloc (Nat.le_refl _) u)
theorem BoxF.sets {W : World} {b : Nat} (h : BoxF W b) (s t : ByteArray) : BoxF (sto2 W b (.string s) (.string t)) b := by
 obtain ⟨_,_,h⟩ := h;exact (Fr.set2 h).boxF
theorem BoxF.sg {W : World} {b : Nat} (h : BoxF W b) (s t : ByteArray) {v : Value} {z : Int} (hv : SgV W v z) : SgV (sto2 W b (.string s) (.string t)) v z := by
 obtain ⟨_,_,h⟩ := h;exact SgV.set2 h rfl rfl rfl hv
theorem BoxF.facts {W : World} {b : Nat} (h : BoxF W b) : (∃ u,W.cell? ⟨b,0,none⟩ = some u) ∧ (∃ u,W.cell? ⟨b,1,none⟩ = some u) ∧ W.frozen? ⟨b,0,none⟩ = false ∧ W.frozen? ⟨b,1,none⟩ = false := by
 obtain ⟨_,_,h⟩ := h
 obtain ⟨a,b,c,d⟩ := h.cells2
 exact ⟨⟨_,a⟩,⟨_,b⟩,c,d⟩
theorem RaV.parts {W : World} {A1 : Option Addr} {n1 c1 : Nat} {k1 : Bool} {A2 : Option Addr} {n2 c2 : Nat} {k2 : Bool} {q : Rat} (h : RaV W (.agg #[.slice A1 n1 c1,.bool k1,.slice A2 n2 c2,.bool k2]) q) : SgV W (.agg #[.slice A1 n1 c1,.bool k1]) q.num ∧ SgV W (.agg #[.slice A2 n2 c2,.bool k2]) (q.den : Int) := by
 obtain ⟨_,_,_,_,_,_,_,_,he,g1,g2⟩ := h
 simp only [Value.agg.injEq,Array.mk.injEq,List.cons.injEq,Value.slice.injEq,Value.bool.injEq,and_true] at he
 obtain ⟨⟨rfl,rfl,rfl⟩,rfl,⟨rfl,rfl,rfl⟩,rfl⟩ := he
 exact ⟨g1,g2⟩
theorem raL_ne {W : World} {b g : Nat} {qs : List Rat} (hb : BoxF W b) (hL : RaL W g qs) : b ≠ g := by
 intro e
 subst e
 obtain ⟨s,t,hf⟩ := hb
 obtain ⟨l,hl,hll,_⟩ := hL
 unfold Fr at hf hl
 rw [hf] at hl
 injection hl with hl
 injection hl with hl _ _
 have := congrArg Array.size hl
 simp [flat_length] at this
 omega
theorem Fz.div {x y : Rat} {K L : Nat} (hx : Fz x K) (hy : Fz y L) (h : y ≠ 0) : Fz (x / y) (K + L + 1) := by
 rw [← over_divInt]
 have hn : y.num ≠ 0 := fun e => h (Rat.num_eq_zero.1 e)
 refine Fz.divInt (Int.mul_ne_zero (by have := x.den_pos;omega) hn) ?_ ?_
 · have := Nat.le_trans (wlen_mulZ x.num (y.den : Int)) (Nat.add_le_add hx.1 (fz_den hy));omega
 · have := Nat.le_trans (wlen_mulZ (x.den : Int) y.num) (Nat.add_le_add (fz_den hx) hy.1);omega
abbrev DvS (w : World) (x y : Rat) (b g : Nat) (A1 : Option Addr) (n1 c1 : Nat) (k1 : Bool) (A2 : Option Addr) (n2 c2 : Nat) (k2 : Bool) (A3 : Option Addr) (n3 c3 : Nat) (k3 : Bool) (A4 : Option Addr) (n4 c4 : Nat) (k4 : Bool) (W : World) : Prop := (Below w.heap.size w W ∧ BoxF W (b) ∧ SgV W (.agg #[.slice A1 n1 c1,.bool k1]) x.num ∧ SgV W (.agg #[.slice A2 n2 c2,.bool k2]) (x.den : Int) ∧ SgV W (.agg #[.slice A3 n3 c3,.bool k3]) y.num ∧ SgV W (.agg #[.slice A4 n4 c4,.bool k4]) (y.den : Int) ∧ w.heap.size ≤ b ∧ b ≠ g) ∧ W.cell? ⟨g,0,none⟩ = some (.slice A1 n1 c1) ∧ W.cell? ⟨g,1,none⟩ = some (.bool k1) ∧ W.cell? ⟨g,2,none⟩ = some (.slice A2 n2 c2) ∧ W.cell? ⟨g,3,none⟩ = some (.bool k2) ∧ W.cell? ⟨g,4,none⟩ = some (.slice A3 n3 c3) ∧ W.cell? ⟨g,5,none⟩ = some (.bool k3) ∧ W.cell? ⟨g,6,none⟩ = some (.slice A4 n4 c4) ∧ W.cell? ⟨g,7,none⟩ = some (.bool k4)
theorem dvS_step {w : World} {x y : Rat} {b g : Nat} {A1 : Option Addr} {n1 c1 : Nat} {k1 : Bool} {A2 : Option Addr} {n2 c2 : Nat} {k2 : Bool} {A3 : Option Addr} {n3 c3 : Nat} {k3 : Bool} {A4 : Option Addr} {n4 c4 : Nat} {k4 : Bool} {W W' : World} (h : DvS w x y b g A1 n1 c1 k1 A2 n2 c2 k2 A3 n3 c3 k3 A4 n4 c4 k4 W) (hb : Below W.heap.size W W') : DvS w x y b g A1 n1 c1 k1 A2 n2 c2 k2 A3 n3 c3 k3 A4 n4 c4 k4 W' := by
 obtain ⟨⟨hb0,hB,g0,g1,g2,g3,l0,l1⟩,e0,e1,e2,e3,e4,e5,e6,e7⟩ := h
 exact ⟨⟨belowt hb0 hb0.size hb,hB.call hb,g0.below hb,g1.below hb,g2.below hb,g3.below hb,l0,l1⟩,keepc hb e0,keepc hb e1,keepc hb e2,keepc hb e3,keepc hb e4,keepc hb e5,keepc hb e6,keepc hb e7⟩
theorem dvS_drew {w : World} {x y : Rat} {b g : Nat} {A1 : Option Addr} {n1 c1 : Nat} {k1 : Bool} {A2 : Option Addr} {n2 c2 : Nat} {k2 : Bool} {A3 : Option Addr} {n3 c3 : Nat} {k3 : Bool} {A4 : Option Addr} {n4 c4 : Nat} {k4 : Bool} {W : World} (h : DvS w x y b g A1 n1 c1 k1 A2 n2 c2 k2 A3 n3 c3 k3 A4 n4 c4 k4 W) : DvS w x y b g A1 n1 c1 k1 A2 n2 c2 k2 A3 n3 c3 k3 A4 n4 c4 k4 W.drew := by
 obtain ⟨⟨hb0,hB,g0,g1,g2,g3,l0,l1⟩,e0,e1,e2,e3,e4,e5,e6,e7⟩ := h
 exact ⟨⟨hb0.drew,hB,g0,g1,g2,g3,l0,l1⟩,e0,e1,e2,e3,e4,e5,e6,e7⟩
theorem dvS_store {w : World} {x y : Rat} {b g : Nat} {A1 : Option Addr} {n1 c1 : Nat} {k1 : Bool} {A2 : Option Addr} {n2 c2 : Nat} {k2 : Bool} {A3 : Option Addr} {n3 c3 : Nat} {k3 : Bool} {A4 : Option Addr} {n4 c4 : Nat} {k4 : Bool} {W : World} (h : DvS w x y b g A1 n1 c1 k1 A2 n2 c2 k2 A3 n3 c3 k3 A4 n4 c4 k4 W) (s t : ByteArray) : DvS w x y b g A1 n1 c1 k1 A2 n2 c2 k2 A3 n3 c3 k3 A4 n4 c4 k4 (sto2 W (b) (.string s) (.string t)) := by
 obtain ⟨⟨hb0,hB,g0,g1,g2,g3,l0,l1⟩,e0,e1,e2,e3,e4,e5,e6,e7⟩ := h
 exact ⟨⟨below_set2 hb0 (by omega),hB.sets _ _,hB.sg _ _ g0,hB.sg _ _ g1,hB.sg _ _ g2,hB.sg _ _ g3,l0,l1⟩,(cell_set2 (by omega)).trans e0,(cell_set2 (by omega)).trans e1,(cell_set2 (by omega)).trans e2,(cell_set2 (by omega)).trans e3,(cell_set2 (by omega)).trans e4,(cell_set2 (by omega)).trans e5,(cell_set2 (by omega)).trans e6,(cell_set2 (by omega)).trans e7⟩
set_option maxRecDepth 100000 in
set_option maxHeartbeats 2000000 in
theorem fdiv_some (a1 a2 b1 b2 : List UInt8) (x y : Rat) (w : World) (ha : rdF a1 a2 = some x) (hb : rdF b1 b2 = some y) (hy : y ≠ 0) :
    Calls Tryz.prog 29 #[.agg #[.string ⟨a1.toArray⟩,.string ⟨a2.toArray⟩],.agg #[.string ⟨b1.toArray⟩,.string ⟨b2.toArray⟩]] w fun e w' => e = .returned (outF (x / y)) ∧ Below w.heap.size w w' := by
 have hb0 : Below w.heap.size w ((((w.alloc (.cells #[.string ⟨a1.toArray⟩,.string ⟨a2.toArray⟩] 24)).alloc (.cells #[.string ⟨b1.toArray⟩,.string ⟨b2.toArray⟩] 24)).alloc (.cells #[.string ⟨#[]⟩,.string ⟨#[]⟩] 24)).alloc (.cells #[.string ⟨a1.toArray⟩,.string ⟨a2.toArray⟩,.string ⟨b1.toArray⟩,.string ⟨b2.toArray⟩] 24)) := ((((Below.refl _ _).alloc (Nat.le_refl _) _).alloc (by simp) _).alloc (by simp;omega) _).alloc (by simp;omega) _
 have hB0 : BoxF ((((w.alloc (.cells #[.string ⟨a1.toArray⟩,.string ⟨a2.toArray⟩] 24)).alloc (.cells #[.string ⟨b1.toArray⟩,.string ⟨b2.toArray⟩] 24)).alloc (.cells #[.string ⟨#[]⟩,.string ⟨#[]⟩] 24)).alloc (.cells #[.string ⟨a1.toArray⟩,.string ⟨a2.toArray⟩,.string ⟨b1.toArray⟩,.string ⟨b2.toArray⟩] 24)) (w.heap.size + 1 + 1) := (Fr.boxF (Fr.new (by simp))).old
 have hrd := read2_some (w.heap.size + 1 + 1 + 1) a1 a2 b1 b2 x y ((((w.alloc (.cells #[.string ⟨a1.toArray⟩,.string ⟨a2.toArray⟩] 24)).alloc (.cells #[.string ⟨b1.toArray⟩,.string ⟨b2.toArray⟩] 24)).alloc (.cells #[.string ⟨#[]⟩,.string ⟨#[]⟩] 24)).alloc (.cells #[.string ⟨a1.toArray⟩,.string ⟨a2.toArray⟩,.string ⟨b1.toArray⟩,.string ⟨b2.toArray⟩] 24)) ha hb (Fr.new (by simp))
 obtain ⟨s,t,k,hsk⟩ := outF_open (x / y)
 rw [hsk]
 have H := Lib.hid (And.intro (rdF_fz ha) (And.intro (rdF_fz hb) (And.intro hb0 (And.intro hB0 (And.intro hsk hy)))))
 clear ha hb hb0 hB0 hsk hy
 go_enter Tryz.func29,Tryz.ntmps29
 go_wp2_with fail
 refine hrd.mono ?_
 rintro e w1 ⟨g2,rfl,hL,hb1⟩
 obtain ⟨A1,n1,c1,k1,A2,n2,c2,k2,e0,e1,e2,e3,hv1⟩ := hL.at_ (i := 0) (q := x) rfl
 obtain ⟨A3,n3,c3,k3,A4,n4,c4,k4,f0,f1,f2,f3,hv2⟩ := hL.at_ (i := 1) (q := y) rfl
 simp only [Nat.zero_mul,Nat.one_mul,Nat.zero_add,Nat.reduceAdd] at e0 e1 e2 e3 f0 f1 f2 f3
 have hbw := belowt H.out.2.2.1 H.out.2.2.1.size hb1
 have hB1 := H.out.2.2.2.1.call hb1
 have hne := raL_ne hB1 hL
 have hr1 := hv1.parts
 have hr2 := hv2.parts
 have hz : decide (n3 = 0) = false := by
  have h1 := hr2.1
  obtain ⟨m,em,A',c',e',_,_,_⟩ := h1
  simp only [Value.agg.injEq,Array.mk.injEq,List.cons.injEq,and_true] at em
  rw [e'] at em
  simp only [Value.slice.injEq] at em
  rw [decide_eq_false_iff_not,em.1.2.1]
  intro h0
  have := (wlen_eq_zero two_le_B).1 h0
  exact H.out.2.2.2.2.2 (Rat.num_eq_zero.1 (by omega))
 have HO : Hid (∀ W,DvS w x y (w.heap.size + 1 + 1) g2 A1 n1 c1 k1 A2 n2 c2 k2 A3 n3 c3 k3 A4 n4 c4 k4 W → Calls Tryz.prog 78 #[.agg #[.slice A1 n1 c1,.bool k1,.slice A2 n2 c2,.bool k2],.agg #[.slice A3 n3 c3,.bool k3,.slice A4 n4 c4,.bool k4]] W fun e w' => ∃ (Ax : Option Addr) (nx cx : Nat) (kx : Bool) (Ay : Option Addr) (ny cy : Nat) (ky : Bool),e = .returned (.agg #[.slice Ax nx cx,.bool kx,.slice Ay ny cy,.bool ky]) ∧ RaV w' (.agg #[.slice Ax nx cx,.bool kx,.slice Ay ny cy,.bool ky]) (x / y) ∧ DvS w x y (w.heap.size + 1 + 1) g2 A1 n1 c1 k1 A2 n2 c2 k2 A3 n3 c3 k3 A4 n4 c4 k4 w') := Lib.hid (fun W hS => by
  refine (raover_any _ _ x y 32 32 W ⟨_,_,_,_,_,_,_,_,rfl,hS.1.2.2.1,hS.1.2.2.2.1⟩ ⟨_,_,_,_,_,_,_,_,rfl,hS.1.2.2.2.2.1,hS.1.2.2.2.2.2.1⟩ H.out.1 H.out.2.1 (by unfold maxW;omega) H.out.2.2.2.2.2).mono ?_
  rintro e w' ⟨v,he,hv,hb⟩
  obtain ⟨Ax,nx,cx,kx,Ay,ny,cy,ky,rfl,_,_⟩ := hv.open
  exact ⟨Ax,nx,cx,kx,Ay,ny,cy,ky,he,hv,dvS_step hS hb⟩)
 have HW : Hid (∀ W v,RaV W v (x / y) → DvS w x y (w.heap.size + 1 + 1) g2 A1 n1 c1 k1 A2 n2 c2 k2 A3 n3 c3 k3 A4 n4 c4 k4 W → Calls Tryz.prog 52 #[v] W fun e w' => e = .returned (.tuple #[.agg #[.string s,.string t],.int .i64 k]) ∧ DvS w x y (w.heap.size + 1 + 1) g2 A1 n1 c1 k1 A2 n2 c2 k2 A3 n3 c3 k3 A4 n4 c4 k4 w') := Lib.hid (fun W v hv hS => by
  have hw := fwrite_any v _ W hv ((H.out.1.div H.out.2.1 H.out.2.2.2.2.2).mono (by omega))
  rw [H.out.2.2.2.2.1] at hw
  refine hw.mono ?_
  rintro e w' ⟨he,hb⟩
  exact ⟨he,dvS_step hS hb⟩)
 have hS0 : DvS w x y (w.heap.size + 1 + 1) g2 A1 n1 c1 k1 A2 n2 c2 k2 A3 n3 c3 k3 A4 n4 c4 k4 w1 := ⟨⟨hbw,hB1,hr1.1,hr1.2,hr2.1,hr2.2,by omega,hne⟩,e0,e1,e2,e3,f0,f1,f2,f3⟩
 have hzc := fun W => isZero_any A3 n3 c3 W
 have HS0 := Lib.hid hS0
 clear hrd hL hb1 hv1 hv2 hbw hB1 hr1 hr2 hS0 hne
 go_wp2_with fail
 refine (hzc w1).mono ?_
 rintro e w' ⟨rfl,rfl⟩
 clear hzc
 simp only [hz]
 go_wp2_with fail
 have hS1 := dvS_drew HS0.out
 have hrb := ra_built
 have dAx : Hid True := Lib.hid trivial
 go_region_held3 (fun W => (Below w.heap.size w W ∧ BoxF W (w.heap.size + 1 + 1) ∧ SgV W (.agg #[.slice A1 n1 c1,.bool k1]) x.num ∧ SgV W (.agg #[.slice A2 n2 c2,.bool k2]) (x.den : Int) ∧ SgV W (.agg #[.slice A3 n3 c3,.bool k3]) y.num ∧ SgV W (.agg #[.slice A4 n4 c4,.bool k4]) (y.den : Int) ∧ w.heap.size ≤ w.heap.size + 1 + 1 ∧ w.heap.size + 1 + 1 ≠ g2) ∧ W.cell? ⟨g2,0,none⟩ = some (.slice A1 n1 c1) ∧ W.cell? ⟨g2,1,none⟩ = some (.bool k1) ∧ W.cell? ⟨g2,2,none⟩ = some (.slice A2 n2 c2) ∧ W.cell? ⟨g2,3,none⟩ = some (.bool k2) ∧ W.cell? ⟨g2,4,none⟩ = some (.slice A3 n3 c3) ∧ W.cell? ⟨g2,5,none⟩ = some (.bool k3) ∧ W.cell? ⟨g2,6,none⟩ = some (.slice A4 n4 c4) ∧ W.cell? ⟨g2,7,none⟩ = some (.bool k4)) (first | with_reducible assumption | (refine dvS_store ?_ _ _;with_reducible assumption))
  (first
   | (go_at_call 78;with_reducible refine (HO.out _ ?_).mono ?_;with_reducible assumption;rintro e w5 ⟨A5,n5,c5,k5,A6,n6,c6,k6,rfl,hq5,hS5⟩)
   | (go_at_call 52;with_reducible refine (HW.out _ _ ?_ ?_).mono ?_;with_reducible assumption;with_reducible assumption;rintro e w6 ⟨rfl,hS6⟩;obtain ⟨⟨q0,y0⟩,⟨q1,y1⟩,y2,y3⟩ := hS6.1.2.1.facts))
 go_wp2_with fail
 exact bodyPost_ret (v := .tuple #[.agg #[.string s,.string t],.int .i64 k]) (by simp [results,Tryz.results29,go_sem,y0,y1]) rfl ⟨rfl,(hS6.1.1.setCell (by simp;omega) _).setCell (by simp;omega) _⟩
set_option maxRecDepth 100000 in
set_option maxHeartbeats 2000000 in
theorem fdiv_none (a1 a2 b1 b2 : List UInt8) (w : World) (h : rdF a1 a2 = none ∨ rdF b1 b2 = none) :
    Calls Tryz.prog 29 #[.agg #[.string ⟨a1.toArray⟩,.string ⟨a2.toArray⟩],.agg #[.string ⟨b1.toArray⟩,.string ⟨b2.toArray⟩]] w fun e w' => e = .returned (noF 20) ∧ Below w.heap.size w w' := by
 have hb0 : Below w.heap.size w ((((w.alloc (.cells #[.string ⟨a1.toArray⟩,.string ⟨a2.toArray⟩] 24)).alloc (.cells #[.string ⟨b1.toArray⟩,.string ⟨b2.toArray⟩] 24)).alloc (.cells #[.string ⟨#[]⟩,.string ⟨#[]⟩] 24)).alloc (.cells #[.string ⟨a1.toArray⟩,.string ⟨a2.toArray⟩,.string ⟨b1.toArray⟩,.string ⟨b2.toArray⟩] 24)) := ((((Below.refl _ _).alloc (Nat.le_refl _) _).alloc (by simp) _).alloc (by simp;omega) _).alloc (by simp;omega) _
 have hB0 : BoxF ((((w.alloc (.cells #[.string ⟨a1.toArray⟩,.string ⟨a2.toArray⟩] 24)).alloc (.cells #[.string ⟨b1.toArray⟩,.string ⟨b2.toArray⟩] 24)).alloc (.cells #[.string ⟨#[]⟩,.string ⟨#[]⟩] 24)).alloc (.cells #[.string ⟨a1.toArray⟩,.string ⟨a2.toArray⟩,.string ⟨b1.toArray⟩,.string ⟨b2.toArray⟩] 24)) (w.heap.size + 1 + 1) := (Fr.boxF (Fr.new (by simp))).old
 have hrd := read2_none (w.heap.size + 1 + 1 + 1) a1 a2 b1 b2 ((((w.alloc (.cells #[.string ⟨a1.toArray⟩,.string ⟨a2.toArray⟩] 24)).alloc (.cells #[.string ⟨b1.toArray⟩,.string ⟨b2.toArray⟩] 24)).alloc (.cells #[.string ⟨#[]⟩,.string ⟨#[]⟩] 24)).alloc (.cells #[.string ⟨a1.toArray⟩,.string ⟨a2.toArray⟩,.string ⟨b1.toArray⟩,.string ⟨b2.toArray⟩] 24)) h (Fr.new (by simp))
 have H := Lib.hid (And.intro hb0 hB0)
 clear h hb0 hB0
 go_enter Tryz.func29,Tryz.ntmps29
 go_wp2_with fail
 refine hrd.mono ?_
 rintro e w1 ⟨rfl,hb1⟩
 have hbw := belowt H.out.1 H.out.1.size hb1
 obtain ⟨⟨q0,y0⟩,⟨q1,y1⟩,y2,y3⟩ := (H.out.2.call hb1).facts
 have HB := Lib.hid hbw
 clear hrd hb1 hbw
 go_wp2_with fail
 exact bodyPost_ret (v := noF 20) (by simp [results,Tryz.results29,go_sem,y0,y1]) rfl ⟨rfl,(HB.out.setCell (by simp;omega) _).setCell (by simp;omega) _⟩
set_option maxRecDepth 100000 in
set_option maxHeartbeats 2000000 in
theorem fdiv_zero (a1 a2 b1 b2 : List UInt8) (x : Rat) (w : World) (ha : rdF a1 a2 = some x) (hb : rdF b1 b2 = some 0) :
    Calls Tryz.prog 29 #[.agg #[.string ⟨a1.toArray⟩,.string ⟨a2.toArray⟩],.agg #[.string ⟨b1.toArray⟩,.string ⟨b2.toArray⟩]] w fun e w' => e = .returned (noF 7) ∧ Below w.heap.size w w' := by
 obtain ⟨y,hy⟩ : ∃ y : Rat,y = 0 := ⟨_,rfl⟩
 rw [← hy] at hb
 have hb0 : Below w.heap.size w ((((w.alloc (.cells #[.string ⟨a1.toArray⟩,.string ⟨a2.toArray⟩] 24)).alloc (.cells #[.string ⟨b1.toArray⟩,.string ⟨b2.toArray⟩] 24)).alloc (.cells #[.string ⟨#[]⟩,.string ⟨#[]⟩] 24)).alloc (.cells #[.string ⟨a1.toArray⟩,.string ⟨a2.toArray⟩,.string ⟨b1.toArray⟩,.string ⟨b2.toArray⟩] 24)) := ((((Below.refl _ _).alloc (Nat.le_refl _) _).alloc (by simp) _).alloc (by simp;omega) _).alloc (by simp;omega) _
 have hB0 : BoxF ((((w.alloc (.cells #[.string ⟨a1.toArray⟩,.string ⟨a2.toArray⟩] 24)).alloc (.cells #[.string ⟨b1.toArray⟩,.string ⟨b2.toArray⟩] 24)).alloc (.cells #[.string ⟨#[]⟩,.string ⟨#[]⟩] 24)).alloc (.cells #[.string ⟨a1.toArray⟩,.string ⟨a2.toArray⟩,.string ⟨b1.toArray⟩,.string ⟨b2.toArray⟩] 24)) (w.heap.size + 1 + 1) := (Fr.boxF (Fr.new (by simp))).old
 have hrd := read2_some (w.heap.size + 1 + 1 + 1) a1 a2 b1 b2 x y ((((w.alloc (.cells #[.string ⟨a1.toArray⟩,.string ⟨a2.toArray⟩] 24)).alloc (.cells #[.string ⟨b1.toArray⟩,.string ⟨b2.toArray⟩] 24)).alloc (.cells #[.string ⟨#[]⟩,.string ⟨#[]⟩] 24)).alloc (.cells #[.string ⟨a1.toArray⟩,.string ⟨a2.toArray⟩,.string ⟨b1.toArray⟩,.string ⟨b2.toArray⟩] 24)) ha hb (Fr.new (by simp))
 have H := Lib.hid (And.intro hb0 (And.intro hB0 hy))
 clear ha hb hb0 hB0 hy
 go_enter Tryz.func29,Tryz.ntmps29
 go_wp2_with fail
 refine hrd.mono ?_
 rintro e w1 ⟨g2,rfl,hL,hb1⟩
 obtain ⟨A1,n1,c1,k1,A2,n2,c2,k2,e0,e1,e2,e3,hv1⟩ := hL.at_ (i := 0) (q := x) rfl
 obtain ⟨A3,n3,c3,k3,A4,n4,c4,k4,f0,f1,f2,f3,hv2⟩ := hL.at_ (i := 1) (q := y) rfl
 simp only [Nat.zero_mul,Nat.one_mul,Nat.zero_add,Nat.reduceAdd] at e0 e1 e2 e3 f0 f1 f2 f3
 have hbw := belowt H.out.1 H.out.1.size hb1
 obtain ⟨⟨q0,y0⟩,⟨q1,y1⟩,y2,y3⟩ := (H.out.2.1.call hb1).facts
 have hr2 := hv2.parts
 have hz : decide (n3 = 0) = true := by
  have h1 := hr2.1
  rw [H.out.2.2] at h1
  obtain ⟨m,em,A',c',e',_,_,_⟩ := h1
  simp only [Value.agg.injEq,Array.mk.injEq,List.cons.injEq,and_true] at em
  rw [e'] at em
  simp only [Value.slice.injEq] at em
  rw [decide_eq_true_iff,em.1.2.1]
  exact (wlen_eq_zero two_le_B).2 rfl
 have hzc := fun W => isZero_any A3 n3 c3 W
 have HB := Lib.hid hbw
 clear hrd hb1 hbw hL hv1 hv2 hr2
 go_wp2_with fail
 refine (hzc w1).mono ?_
 rintro e w' ⟨rfl,rfl⟩
 clear hzc
 simp only [hz]
 go_wp2_with fail
 exact bodyPost_ret (v := noF 7) (by simp [results,Tryz.results29,go_sem,y0,y1]) rfl ⟨rfl,(HB.out.setCell (by simp;omega) _).setCell (by simp;omega) _⟩
end Go.Proofs.YtlfgpmnjnpdkdaaGreatDoor
namespace Go.Proofs.YtlfgpmnjnpdkdaaGreatDoor
open Go.RowKit Vd
attribute [local go_sem ↓] Go.wp_at_zero Go.wp_at_succ
abbrev PwS (w : World) (b g : Nat) (x : Rat) (A1 : Option Addr) (n1 c1 : Nat) (k1 : Bool) (A2 : Option Addr) (n2 c2 : Nat) (k2 : Bool) (W : World) : Prop := (Below w.heap.size w W ∧ BoxF W (b) ∧ SgV W (.agg #[.slice A1 n1 c1,.bool k1]) x.num ∧ SgV W (.agg #[.slice A2 n2 c2,.bool k2]) (x.den : Int) ∧ w.heap.size ≤ b ∧ b ≠ g) ∧ W.cell? ⟨g,0,none⟩ = some (.slice A1 n1 c1) ∧ W.cell? ⟨g,1,none⟩ = some (.bool k1) ∧ W.cell? ⟨g,2,none⟩ = some (.slice A2 n2 c2) ∧ W.cell? ⟨g,3,none⟩ = some (.bool k2)
theorem pwS_step {w : World} {b g : Nat} {x : Rat} {A1 : Option Addr} {n1 c1 : Nat} {k1 : Bool} {A2 : Option Addr} {n2 c2 : Nat} {k2 : Bool} {W W' : World} (h : PwS w b g x A1 n1 c1 k1 A2 n2 c2 k2 W) (hb : Below W.heap.size W W') : PwS w b g x A1 n1 c1 k1 A2 n2 c2 k2 W' := by
 obtain ⟨⟨hb0,hB,g0,g1,l0,l1⟩,e0,e1,e2,e3⟩ := h
 exact ⟨⟨belowt hb0 hb0.size hb,hB.call hb,g0.below hb,g1.below hb,l0,l1⟩,keepc hb e0,keepc hb e1,keepc hb e2,keepc hb e3⟩
theorem pow_fz {x : Rat} (h : Fz x 32) {n : Nat} (hn : n ≤ 40) : Fz (x ^ n) 1281 := by
 obtain ⟨h1,h2⟩ := h
 constructor
 · have := wlen_pow (b := B64) two_le_B x.num.natAbs n
   rw [Rat.num_pow,Int.natAbs_pow]
   have := Nat.mul_le_mul hn h1
   omega
 · have := wlen_pow (b := B64) two_le_B x.den n
   rw [Rat.den_pow]
   have := Nat.mul_le_mul hn h2
   omega
set_option maxRecDepth 100000 in
set_option maxHeartbeats 2000000 in
theorem fpow_some (a1 a2 : List UInt8) (x : Rat) (n : Nat) (w : World) (h : rdF a1 a2 = some x) (hn : n ≤ 40) :
    Calls Tryz.prog 50 #[.agg #[.string ⟨a1.toArray⟩,.string ⟨a2.toArray⟩],.int .i64 (n : Int)] w fun e w' => e = .returned (outF (x ^ n)) ∧ Below w.heap.size w w' := by
 have hb0 : Below w.heap.size w ((w.alloc (.cells #[.string ⟨a1.toArray⟩,.string ⟨a2.toArray⟩] 24)).alloc (.cells #[.string ⟨#[]⟩,.string ⟨#[]⟩] 24)) := ((Below.refl _ _).alloc (Nat.le_refl _) _).alloc (by simp) _
 have hB0 : BoxF ((w.alloc (.cells #[.string ⟨a1.toArray⟩,.string ⟨a2.toArray⟩] 24)).alloc (.cells #[.string ⟨#[]⟩,.string ⟨#[]⟩] 24)) (w.heap.size + 1) := Fr.boxF (Fr.new (by simp))
 have hrd := fread_some a1 a2 x ((w.alloc (.cells #[.string ⟨a1.toArray⟩,.string ⟨a2.toArray⟩] 24)).alloc (.cells #[.string ⟨#[]⟩,.string ⟨#[]⟩] 24)) h
 obtain ⟨s,t,k,hsk⟩ := outF_open (x ^ n)
 rw [hsk]
 obtain ⟨N,hN⟩ : ∃ N : Int,N = (n : Int) := ⟨_,rfl⟩
 have hd : decide (N < 0) = false := by simp;omega
 have hd2 : decide (40 < N) = false := by simp;omega
 have H := Lib.hid (And.intro (rdF_fz h) (And.intro hn (And.intro hb0 (And.intro hB0 (And.intro hsk hN)))))
 simp only [← hN]
 clear h hb0 hB0 hn hsk hN
 go_enter Tryz.func50,Tryz.ntmps50
 go_wp2_with fail
 refine hrd.mono ?_
 rintro e w1 ⟨v,rfl,hv,hb1⟩
 obtain ⟨A1,n1,c1,k1,A2,n2,c2,k2,rfl,hv1,hv2⟩ := hv.open
 have HP : Hid (∀ W,PwS w (w.heap.size + 1) w1.heap.size x A1 n1 c1 k1 A2 n2 c2 k2 W → Calls Tryz.prog 103 #[.agg #[.slice A1 n1 c1,.bool k1,.slice A2 n2 c2,.bool k2],.int .i64 N] W fun e w' => ∃ (Ax : Option Addr) (nx cx : Nat) (kx : Bool) (Ay : Option Addr) (ny cy : Nat) (ky : Bool),e = .returned (.agg #[.slice Ax nx cx,.bool kx,.slice Ay ny cy,.bool ky]) ∧ RaV w' (.agg #[.slice Ax nx cx,.bool kx,.slice Ay ny cy,.bool ky]) (x ^ n) ∧ PwS w (w.heap.size + 1) w1.heap.size x A1 n1 c1 k1 A2 n2 c2 k2 w') := Lib.hid (fun W hS => by
  rw [H.out.2.2.2.2.2]
  refine (rapow_any _ x n 32 W ⟨_,_,_,_,_,_,_,_,rfl,hS.1.2.2.1,hS.1.2.2.2.1⟩ H.out.1 (by have := H.out.2.1;omega) (by have := H.out.2.1;unfold maxW;omega) (by unfold maxW;omega)).mono ?_
  rintro e w' ⟨v,he,hv,hb⟩
  obtain ⟨Ax,nx,cx,kx,Ay,ny,cy,ky,rfl,_,_⟩ := hv.open
  exact ⟨Ax,nx,cx,kx,Ay,ny,cy,ky,he,hv,pwS_step hS hb⟩)
 have HW : Hid (∀ W v,RaV W v (x ^ n) → PwS w (w.heap.size + 1) w1.heap.size x A1 n1 c1 k1 A2 n2 c2 k2 W → Calls Tryz.prog 52 #[v] W fun e w' => e = .returned (.tuple #[.agg #[.string s,.string t],.int .i64 k]) ∧ PwS w (w.heap.size + 1) w1.heap.size x A1 n1 c1 k1 A2 n2 c2 k2 w') := Lib.hid (fun W v hv hS => by
  have hw := fwrite_any v _ W hv ((pow_fz H.out.1 H.out.2.1).mono (by omega))
  rw [H.out.2.2.2.2.1] at hw
  refine hw.mono ?_
  rintro e w' ⟨he,hb⟩
  exact ⟨he,pwS_step hS hb⟩)
 have hS0 : PwS w (w.heap.size + 1) w1.heap.size x A1 n1 c1 k1 A2 n2 c2 k2 (w1.alloc (.cells #[.slice A1 n1 c1,.bool k1,.slice A2 n2 c2,.bool k2] 82)) := by
  have r0 : Fr (w1.alloc (.cells #[.slice A1 n1 c1,.bool k1,.slice A2 n2 c2,.bool k2] 82)) w1.heap.size #[.slice A1 n1 c1,.bool k1,.slice A2 n2 c2,.bool k2] 82 := Fr.new rfl
  have hbw := belowt H.out.2.2.1 H.out.2.2.1.size hb1
  have hB1 := H.out.2.2.2.1.call hb1
  have hlt : w.heap.size + 1 < w1.heap.size := by obtain ⟨_,_,hh⟩ := hB1;exact hh.lt
  exact ⟨⟨hbw.alloc hbw.size _,hB1.old,hv1.old,hv2.old,by omega,by omega⟩,r0.cells4.1,r0.cells4.2.1,r0.cells4.2.2.1,r0.cells4.2.2.2.1⟩
 have hrb := ra_built
 have HS0 := Lib.hid hS0
 clear hrd hb1 hv hv1 hv2 hS0
 go_wp2_with fail
 refine (HP.out _ HS0.out).mono ?_
 rintro e w5 ⟨A5,n5,c5,k5,A6,n6,c6,k6,rfl,hq5,hS5⟩
 have HS5 := Lib.hid (And.intro hq5 hS5)
 clear hq5 hS5
 go_wp2_with fail
 refine (HW.out _ _ HS5.out.1 HS5.out.2).mono ?_
 rintro e w6 ⟨rfl,hS6⟩
 obtain ⟨⟨q0,y0⟩,⟨q1,y1⟩,y2,y3⟩ := hS6.1.2.1.facts
 go_wp2_with fail
 exact bodyPost_ret (v := .tuple #[.agg #[.string s,.string t],.int .i64 k]) (by simp [results,Tryz.results50,go_sem,y0,y1]) rfl ⟨rfl,(hS6.1.1.setCell (by simp) _).setCell (by simp) _⟩
end Go.Proofs.YtlfgpmnjnpdkdaaGreatDoor
