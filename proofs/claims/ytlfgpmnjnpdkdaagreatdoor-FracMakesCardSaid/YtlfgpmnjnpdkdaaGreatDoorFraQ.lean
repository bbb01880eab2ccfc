/- Contracts: package frac: Clamp. Contracts: the reference's little words: q. -/
import Derived.Test.YtlfgpmnjnpdkdaaGreatDoorFraO
namespace Go.Proofs.YtlfgpmnjnpdkdaaGreatDoor
open Go.RowKit Vd
attribute [local go_sem ↓] Go.wp_at_zero Go.wp_at_succ
theorem read3_some (g : Nat) (a1 a2 b1 b2 d1 d2 : List UInt8) (x y z : Rat) (w : World) (ha : rdF a1 a2 = some x) (hb : rdF b1 b2 = some y) (hd : rdF d1 d2 = some z) (hF : Fr w g #[.string ⟨a1.toArray⟩,.string ⟨a2.toArray⟩,.string ⟨b1.toArray⟩,.string ⟨b2.toArray⟩,.string ⟨d1.toArray⟩,.string ⟨d2.toArray⟩] 24) :
 Calls Tryz.prog 71 #[.slice (some ⟨g,0,none⟩) 3 3] w fun e w' => ∃ g2 : Nat,e = .returned (.tuple #[.slice (some ⟨g2,0,none⟩) 3 3,.int .i64 0]) ∧ RaL w' g2 [x,y,z] ∧ Below w.heap.size w w' := by
 refine freadAll_some g 3 3 [(a1,a2),(b1,b2),(d1,d2)] [x,y,z] w hF rfl rfl ?_ (by omega)
 intro i p q h1 h2
 match i,h1,h2 with
 | 0,h1,h2 => simp at h1 h2;obtain rfl := h1;obtain rfl := h2;exact ha
 | 1,h1,h2 => simp at h1 h2;obtain rfl := h1;obtain rfl := h2;exact hb
 | 2,h1,h2 => simp at h1 h2;obtain rfl := h1;obtain rfl := h2;exact hd
abbrev ClS (w : World) (a1 a2 b1 b2 d1 d2 : List UInt8) (x y z : Rat) (g : Nat) (A1 : Option Addr) (n1 c1 : Nat) (k1 : Bool) (A2 : Option Addr) (n2 c2 : Nat) (k2 : Bool) (A3 : Option Addr) (n3 c3 : Nat) (k3 : Bool) (A4 : Option Addr) (n4 c4 : Nat) (k4 : Bool) (A5 : Option Addr) (n5 c5 : Nat) (k5 : Bool) (A6 : Option Addr) (n6 c6 : Nat) (k6 : Bool) (W : World) : Prop := (Below w.heap.size w W ∧ BoxF W (w.heap.size + 1 + 1 + 1) ∧ SgV W (.agg #[.slice A1 n1 c1,.bool k1]) x.num ∧ SgV W (.agg #[.slice A2 n2 c2,.bool k2]) (x.den : Int) ∧ SgV W (.agg #[.slice A3 n3 c3,.bool k3]) y.num ∧ SgV W (.agg #[.slice A4 n4 c4,.bool k4]) (y.den : Int) ∧ SgV W (.agg #[.slice A5 n5 c5,.bool k5]) z.num ∧ SgV W (.agg #[.slice A6 n6 c6,.bool k6]) (z.den : Int)) ∧ W.cell? ⟨w.heap.size,0,none⟩ = some (.string ⟨a1.toArray⟩) ∧ W.cell? ⟨w.heap.size,1,none⟩ = some (.string ⟨a2.toArray⟩) ∧ W.cell? ⟨w.heap.size + 1,0,none⟩ = some (.string ⟨b1.toArray⟩) ∧ W.cell? ⟨w.heap.size + 1,1,none⟩ = some (.string ⟨b2.toArray⟩) ∧ W.cell? ⟨w.heap.size + 1 + 1,0,none⟩ = some (.string ⟨d1.toArray⟩) ∧ W.cell? ⟨w.heap.size + 1 + 1,1,none⟩ = some (.string ⟨d2.toArray⟩) ∧ W.cell? ⟨g,0,none⟩ = some (.slice A1 n1 c1) ∧ W.cell? ⟨g,1,none⟩ = some (.bool k1) ∧ W.cell? ⟨g,2,none⟩ = some (.slice A2 n2 c2) ∧ W.cell? ⟨g,3,none⟩ = some (.bool k2) ∧ W.cell? ⟨g,4,none⟩ = some (.slice A3 n3 c3) ∧ W.cell? ⟨g,5,none⟩ = some (.bool k3) ∧ W.cell? ⟨g,6,none⟩ = some (.slice A4 n4 c4) ∧ W.cell? ⟨g,7,none⟩ = some (.bool k4) ∧ W.cell? ⟨g,8,none⟩ = some (.slice A5 n5 c5) ∧ W.cell? ⟨g,9,none⟩ = some (.bool k5) ∧ W.cell? ⟨g,10,none⟩ = some (.slice A6 n6 c6) ∧ W.cell? ⟨g,11,none⟩ = some (.bool k6)
theorem clS_step {w : World} {a1 a2 b1 b2 d1 d2 : List UInt8} {x y z : Rat} {g : Nat} {A1 : Option Addr} {n1 c1 : Nat} {k1 : Bool} {A2 : Option Addr} {n2 c2 : Nat} {k2 : Bool} {A3 : Option Addr} {n3 c3 : Nat} {k3 : Bool} {A4 : Option Addr} {n4 c4 : Nat} {k4 : Bool} {A5 : Option Addr} {n5 c5 : Nat} {k5 : Bool} {A6 : Option Addr} {n6 c6 : Nat} {k6 : Bool} {W W' : World} (h : ClS w a1 a2 b1 b2 d1 d2 x y z g A1 n1 c1 k1 A2 n2 c2 k2 A3 n3 c3 k3 A4 n4 c4 k4 A5 n5 c5 k5 A6 n6 c6 k6 W) (hb : Below W.heap.size W W') : ClS w a1 a2 b1 b2 d1 d2 x y z g A1 n1 c1 k1 A2 n2 c2 k2 A3 n3 c3 k3 A4 n4 c4 k4 A5 n5 c5 k5 A6 n6 c6 k6 W' := by
 obtain ⟨⟨hb0,hB,g0,g1,g2,g3,g4,g5⟩,e0,e1,e2,e3,e4,e5,e6,e7,e8,e9,e10,e11,e12,e13,e14,e15,e16,e17⟩ := h
 exact ⟨⟨belowt hb0 hb0.size hb,hB.call hb,g0.below hb,g1.below hb,g2.below hb,g3.below hb,g4.below hb,g5.below hb⟩,keepc hb e0,keepc hb e1,keepc hb e2,keepc hb e3,keepc hb e4,keepc hb e5,keepc hb e6,keepc hb e7,keepc hb e8,keepc hb e9,keepc hb e10,keepc hb e11,keepc hb e12,keepc hb e13,keepc hb e14,keepc hb e15,keepc hb e16,keepc hb e17⟩
theorem clS_drew {w : World} {a1 a2 b1 b2 d1 d2 : List UInt8} {x y z : Rat} {g : Nat} {A1 : Option Addr} {n1 c1 : Nat} {k1 : Bool} {A2 : Option Addr} {n2 c2 : Nat} {k2 : Bool} {A3 : Option Addr} {n3 c3 : Nat} {k3 : Bool} {A4 : Option Addr} {n4 c4 : Nat} {k4 : Bool} {A5 : Option Addr} {n5 c5 : Nat} {k5 : Bool} {A6 : Option Addr} {n6 c6 : Nat} {k6 : Bool} {W : World} (h : ClS w a1 a2 b1 b2 d1 d2 x y z g A1 n1 c1 k1 A2 n2 c2 k2 A3 n3 c3 k3 A4 n4 c4 k4 A5 n5 c5 k5 A6 n6 c6 k6 W) : ClS w a1 a2 b1 b2 d1 d2 x y z g A1 n1 c1 k1 A2 n2 c2 k2 A3 n3 c3 k3 A4 n4 c4 k4 A5 n5 c5 k5 A6 n6 c6 k6 W.drew := by
 obtain ⟨⟨hb0,hB,g0,g1,g2,g3,g4,g5⟩,e0,e1,e2,e3,e4,e5,e6,e7,e8,e9,e10,e11,e12,e13,e14,e15,e16,e17⟩ := h
 exact ⟨⟨hb0.drew,hB,g0,g1,g2,g3,g4,g5⟩,e0,e1,e2,e3,e4,e5,e6,e7,e8,e9,e10,e11,e12,e13,e14,e15,e16,e17⟩
set_option maxRecDepth 100000 in
set_option maxHeartbeats 2000000 in
theorem fclamp_arg (a1 a2 b1 b2 d1 d2 : List UInt8) (x y z : Rat) (w : World) (ha : rdF a1 a2 = some x) (hb : rdF b1 b2 = some y) (hd : rdF d1 d2 = some z) (h1 : z < y) :
 Calls Tryz.prog 23 #[.agg #[.string ⟨a1.toArray⟩,.string ⟨a2.toArray⟩],.agg #[.string ⟨b1.toArray⟩,.string ⟨b2.toArray⟩],.agg #[.string ⟨d1.toArray⟩,.string ⟨d2.toArray⟩]] w fun e w' => e = .returned (noF 2) ∧ Below w.heap.size w w' := by
 have hb0 : Below w.heap.size w (((((w.alloc (.cells #[.string ⟨a1.toArray⟩,.string ⟨a2.toArray⟩] 24)).alloc (.cells #[.string ⟨b1.toArray⟩,.string ⟨b2.toArray⟩] 24)).alloc (.cells #[.string ⟨d1.toArray⟩,.string ⟨d2.toArray⟩] 24)).alloc (.cells #[.string ⟨#[]⟩,.string ⟨#[]⟩] 24)).alloc (.cells #[.string ⟨a1.toArray⟩,.string ⟨a2.toArray⟩,.string ⟨b1.toArray⟩,.string ⟨b2.toArray⟩,.string ⟨d1.toArray⟩,.string ⟨d2.toArray⟩] 24)) := (((((Below.refl _ _).alloc (Nat.le_refl _) _).alloc (by simp) _).alloc (by simp;omega) _).alloc (by simp;omega) _).alloc (by simp;omega) _
 have hB0 : BoxF (((((w.alloc (.cells #[.string ⟨a1.toArray⟩,.string ⟨a2.toArray⟩] 24)).alloc (.cells #[.string ⟨b1.toArray⟩,.string ⟨b2.toArray⟩] 24)).alloc (.cells #[.string ⟨d1.toArray⟩,.string ⟨d2.toArray⟩] 24)).alloc (.cells #[.string ⟨#[]⟩,.string ⟨#[]⟩] 24)).alloc (.cells #[.string ⟨a1.toArray⟩,.string ⟨a2.toArray⟩,.string ⟨b1.toArray⟩,.string ⟨b2.toArray⟩,.string ⟨d1.toArray⟩,.string ⟨d2.toArray⟩] 24)) (w.heap.size + 1 + 1 + 1) := (Fr.boxF (Fr.new (by simp))).old
 have hrd := read3_some (w.heap.size + 1 + 1 + 1 + 1) a1 a2 b1 b2 d1 d2 x y z (((((w.alloc (.cells #[.string ⟨a1.toArray⟩,.string ⟨a2.toArray⟩] 24)).alloc (.cells #[.string ⟨b1.toArray⟩,.string ⟨b2.toArray⟩] 24)).alloc (.cells #[.string ⟨d1.toArray⟩,.string ⟨d2.toArray⟩] 24)).alloc (.cells #[.string ⟨#[]⟩,.string ⟨#[]⟩] 24)).alloc (.cells #[.string ⟨a1.toArray⟩,.string ⟨a2.toArray⟩,.string ⟨b1.toArray⟩,.string ⟨b2.toArray⟩,.string ⟨d1.toArray⟩,.string ⟨d2.toArray⟩] 24)) ha hb hd (Fr.new (by simp))
 have HZ := Lib.hid (And.intro (rdF_fz ha) (And.intro (rdF_fz hb) (rdF_fz hd)))
 obtain ⟨o1,ho1⟩ : ∃ o,o = cmpQ y z := ⟨_,rfl⟩
 obtain ⟨o2,ho2⟩ : ∃ o,o = cmpQ x y := ⟨_,rfl⟩
 obtain ⟨o3,ho3⟩ : ∃ o,o = cmpQ x z := ⟨_,rfl⟩
 have hd1 : decide (0 < o1) = true := by have := cmpQ_gt y z;rw [← ho1] at this;exact decide_eq_true (this.2 h1)
 have HQ1 := Lib.hid ho1
 have HQ2 := Lib.hid ho2
 have HQ3 := Lib.hid ho3
 have HA : Fr (((((w.alloc (.cells #[.string ⟨a1.toArray⟩,.string ⟨a2.toArray⟩] 24)).alloc (.cells #[.string ⟨b1.toArray⟩,.string ⟨b2.toArray⟩] 24)).alloc (.cells #[.string ⟨d1.toArray⟩,.string ⟨d2.toArray⟩] 24)).alloc (.cells #[.string ⟨#[]⟩,.string ⟨#[]⟩] 24)).alloc (.cells #[.string ⟨a1.toArray⟩,.string ⟨a2.toArray⟩,.string ⟨b1.toArray⟩,.string ⟨b2.toArray⟩,.string ⟨d1.toArray⟩,.string ⟨d2.toArray⟩] 24)) w.heap.size #[.string ⟨a1.toArray⟩,.string ⟨a2.toArray⟩] 24 := (Fr.new rfl).old.old.old.old
 have HB : Fr (((((w.alloc (.cells #[.string ⟨a1.toArray⟩,.string ⟨a2.toArray⟩] 24)).alloc (.cells #[.string ⟨b1.toArray⟩,.string ⟨b2.toArray⟩] 24)).alloc (.cells #[.string ⟨d1.toArray⟩,.string ⟨d2.toArray⟩] 24)).alloc (.cells #[.string ⟨#[]⟩,.string ⟨#[]⟩] 24)).alloc (.cells #[.string ⟨a1.toArray⟩,.string ⟨a2.toArray⟩,.string ⟨b1.toArray⟩,.string ⟨b2.toArray⟩,.string ⟨d1.toArray⟩,.string ⟨d2.toArray⟩] 24)) (w.heap.size + 1) #[.string ⟨b1.toArray⟩,.string ⟨b2.toArray⟩] 24 := (Fr.new (by simp)).old.old.old
 have HC : Fr (((((w.alloc (.cells #[.string ⟨a1.toArray⟩,.string ⟨a2.toArray⟩] 24)).alloc (.cells #[.string ⟨b1.toArray⟩,.string ⟨b2.toArray⟩] 24)).alloc (.cells #[.string ⟨d1.toArray⟩,.string ⟨d2.toArray⟩] 24)).alloc (.cells #[.string ⟨#[]⟩,.string ⟨#[]⟩] 24)).alloc (.cells #[.string ⟨a1.toArray⟩,.string ⟨a2.toArray⟩,.string ⟨b1.toArray⟩,.string ⟨b2.toArray⟩,.string ⟨d1.toArray⟩,.string ⟨d2.toArray⟩] 24)) (w.heap.size + 1 + 1) #[.string ⟨d1.toArray⟩,.string ⟨d2.toArray⟩] 24 := (Fr.new (by simp)).old.old
 have H := Lib.hid (And.intro hb0 (And.intro hB0 (And.intro HA (And.intro HB HC))))
 clear ha hb hd hb0 hB0 ho1 ho2 ho3 HA HB HC h1
 go_enter Tryz.func23,Tryz.ntmps23
 go_wp2_with fail
 refine hrd.mono ?_
 rintro e w1 ⟨g2,rfl,hL,hb1⟩
 obtain ⟨A1,n1,c1,k1,A2,n2,c2,k2,e0,e1,e2,e3,hv1⟩ := hL.at_ (i := 0) (q := x) rfl
 obtain ⟨A3,n3,c3,k3,A4,n4,c4,k4,e4,e5,e6,e7,hv2⟩ := hL.at_ (i := 1) (q := y) rfl
 obtain ⟨A5,n5,c5,k5,A6,n6,c6,k6,e8,e9,e10,e11,hv3⟩ := hL.at_ (i := 2) (q := z) rfl
 simp only [Nat.zero_mul,Nat.one_mul,Nat.zero_add,Nat.reduceAdd,Nat.reduceMul] at e0 e1 e2 e3 e4 e5 e6 e7 e8 e9 e10 e11
 have hbw := belowt H.out.1 H.out.1.size hb1
 have hB1 := H.out.2.1.call hb1
 have rA := (H.out.2.2.1.call hb1).cells2
 have rB := (H.out.2.2.2.1.call hb1).cells2
 have rC := (H.out.2.2.2.2.call hb1).cells2
 have HS1 : Hid (ClS w a1 a2 b1 b2 d1 d2 x y z g2 A1 n1 c1 k1 A2 n2 c2 k2 A3 n3 c3 k3 A4 n4 c4 k4 A5 n5 c5 k5 A6 n6 c6 k6 w1) := Lib.hid ⟨⟨hbw,hB1,hv1.parts.1,hv1.parts.2,hv2.parts.1,hv2.parts.2,hv3.parts.1,hv3.parts.2⟩,rA.1,rA.2.1,rB.1,rB.2.1,rC.1,rC.2.1,e0,e1,e2,e3,e4,e5,e6,e7,e8,e9,e10,e11⟩
 have HO1 : Hid (∀ W,ClS w a1 a2 b1 b2 d1 d2 x y z g2 A1 n1 c1 k1 A2 n2 c2 k2 A3 n3 c3 k3 A4 n4 c4 k4 A5 n5 c5 k5 A6 n6 c6 k6 W → Calls Tryz.prog 70 #[.agg #[.slice A3 n3 c3,.bool k3,.slice A4 n4 c4,.bool k4],.agg #[.slice A5 n5 c5,.bool k5,.slice A6 n6 c6,.bool k6]] W fun e w' => e = .returned (.int .i64 o1) ∧ ClS w a1 a2 b1 b2 d1 d2 x y z g2 A1 n1 c1 k1 A2 n2 c2 k2 A3 n3 c3 k3 A4 n4 c4 k4 A5 n5 c5 k5 A6 n6 c6 k6 w') := Lib.hid (fun W hS => by
  have h := raorder_any _ _ y z 32 32 W ⟨_,_,_,_,_,_,_,_,rfl,hS.1.2.2.2.2.1,hS.1.2.2.2.2.2.1⟩ ⟨_,_,_,_,_,_,_,_,rfl,hS.1.2.2.2.2.2.2.1,hS.1.2.2.2.2.2.2.2⟩ (HZ.out.2.1) (HZ.out.2.2) (by unfold maxW;omega)
  rw [← HQ1.out] at h
  exact h.mono fun e w' h => ⟨h.1,clS_step hS h.2⟩)
 have HO2 : Hid (∀ W,ClS w a1 a2 b1 b2 d1 d2 x y z g2 A1 n1 c1 k1 A2 n2 c2 k2 A3 n3 c3 k3 A4 n4 c4 k4 A5 n5 c5 k5 A6 n6 c6 k6 W → Calls Tryz.prog 70 #[.agg #[.slice A1 n1 c1,.bool k1,.slice A2 n2 c2,.bool k2],.agg #[.slice A3 n3 c3,.bool k3,.slice A4 n4 c4,.bool k4]] W fun e w' => e = .returned (.int .i64 o2) ∧ ClS w a1 a2 b1 b2 d1 d2 x y z g2 A1 n1 c1 k1 A2 n2 c2 k2 A3 n3 c3 k3 A4 n4 c4 k4 A5 n5 c5 k5 A6 n6 c6 k6 w') := Lib.hid (fun W hS => by
  have h := raorder_any _ _ x y 32 32 W ⟨_,_,_,_,_,_,_,_,rfl,hS.1.2.2.1,hS.1.2.2.2.1⟩ ⟨_,_,_,_,_,_,_,_,rfl,hS.1.2.2.2.2.1,hS.1.2.2.2.2.2.1⟩ (HZ.out.1) (HZ.out.2.1) (by unfold maxW;omega)
  rw [← HQ2.out] at h
  exact h.mono fun e w' h => ⟨h.1,clS_step hS h.2⟩)
 have HO3 : Hid (∀ W,ClS w a1 a2 b1 b2 d1 d2 x y z g2 A1 n1 c1 k1 A2 n2 c2 k2 A3 n3 c3 k3 A4 n4 c4 k4 A5 n5 c5 k5 A6 n6 c6 k6 W → Calls Tryz.prog 70 #[.agg #[.slice A1 n1 c1,.bool k1,.slice A2 n2 c2,.bool k2],.agg #[.slice A5 n5 c5,.bool k5,.slice A6 n6 c6,.bool k6]] W fun e w' => e = .returned (.int .i64 o3) ∧ ClS w a1 a2 b1 b2 d1 d2 x y z g2 A1 n1 c1 k1 A2 n2 c2 k2 A3 n3 c3 k3 A4 n4 c4 k4 A5 n5 c5 k5 A6 n6 c6 k6 w') := Lib.hid (fun W hS => by
  have h := raorder_any _ _ x z 32 32 W ⟨_,_,_,_,_,_,_,_,rfl,hS.1.2.2.1,hS.1.2.2.2.1⟩ ⟨_,_,_,_,_,_,_,_,rfl,hS.1.2.2.2.2.2.2.1,hS.1.2.2.2.2.2.2.2⟩ (HZ.out.1) (HZ.out.2.2) (by unfold maxW;omega)
  rw [← HQ3.out] at h
  exact h.mono fun e w' h => ⟨h.1,clS_step hS h.2⟩)
 clear hrd hL hb1 hbw hB1 rA rB rC hv1 hv2 hv3
 go_wp2_with fail
 have hS1 := clS_drew HS1.out
 go_region_held3 (fun W => (Below w.heap.size w W ∧ BoxF W (w.heap.size + 1 + 1 + 1) ∧ SgV W (.agg #[.slice A1 n1 c1,.bool k1]) x.num ∧ SgV W (.agg #[.slice A2 n2 c2,.bool k2]) (x.den : Int) ∧ SgV W (.agg #[.slice A3 n3 c3,.bool k3]) y.num ∧ SgV W (.agg #[.slice A4 n4 c4,.bool k4]) (y.den : Int) ∧ SgV W (.agg #[.slice A5 n5 c5,.bool k5]) z.num ∧ SgV W (.agg #[.slice A6 n6 c6,.bool k6]) (z.den : Int)) ∧ W.cell? ⟨w.heap.size,0,none⟩ = some (.string ⟨a1.toArray⟩) ∧ W.cell? ⟨w.heap.size,1,none⟩ = some (.string ⟨a2.toArray⟩) ∧ W.cell? ⟨w.heap.size + 1,0,none⟩ = some (.string ⟨b1.toArray⟩) ∧ W.cell? ⟨w.heap.size + 1,1,none⟩ = some (.string ⟨b2.toArray⟩) ∧ W.cell? ⟨w.heap.size + 1 + 1,0,none⟩ = some (.string ⟨d1.toArray⟩) ∧ W.cell? ⟨w.heap.size + 1 + 1,1,none⟩ = some (.string ⟨d2.toArray⟩) ∧ W.cell? ⟨g2,0,none⟩ = some (.slice A1 n1 c1) ∧ W.cell? ⟨g2,1,none⟩ = some (.bool k1) ∧ W.cell? ⟨g2,2,none⟩ = some (.slice A2 n2 c2) ∧ W.cell? ⟨g2,3,none⟩ = some (.bool k2) ∧ W.cell? ⟨g2,4,none⟩ = some (.slice A3 n3 c3) ∧ W.cell? ⟨g2,5,none⟩ = some (.bool k3) ∧ W.cell? ⟨g2,6,none⟩ = some (.slice A4 n4 c4) ∧ W.cell? ⟨g2,7,none⟩ = some (.bool k4) ∧ W.cell? ⟨g2,8,none⟩ = some (.slice A5 n5 c5) ∧ W.cell? ⟨g2,9,none⟩ = some (.bool k5) ∧ W.cell? ⟨g2,10,none⟩ = some (.slice A6 n6 c6) ∧ W.cell? ⟨g2,11,none⟩ = some (.bool k6)) (first | with_reducible assumption)
  (first
   | (go_at_call 70;with_reducible refine (HO1.out _ ?_).mono ?_;with_reducible assumption;rintro e w2 ⟨rfl,hS2⟩))
 have HS2 := Lib.hid hS2
 clear hS2
 obtain ⟨⟨-,hB2,-,-,-,-,-,-⟩,u0_2,u1_2,u2_2,u3_2,u4_2,u5_2,u6_2,u7_2,u8_2,u9_2,u10_2,u11_2,u12_2,u13_2,u14_2,u15_2,u16_2,u17_2⟩ := HS2.out
 obtain ⟨⟨q0,y0⟩,⟨q1,y1⟩,y2,y3⟩ := hB2.facts
 clear hB2
 go_wp2_with fail
 exact bodyPost_ret (v := noF 2) (by simp [results,Tryz.results23,go_sem,y0,y1]) rfl ⟨rfl,(HS2.out.1.1.setCell (by simp;omega) _).setCell (by simp;omega) _⟩
set_option maxRecDepth 100000 in
set_option maxHeartbeats 2000000 in
theorem fclamp_high (a1 a2 b1 b2 d1 d2 : List UInt8) (x y z : Rat) (w : World) (ha : rdF a1 a2 = some x) (hb : rdF b1 b2 = some y) (hd : rdF d1 d2 = some z) (h1 : ¬ z < y) (h2 : ¬ x < y) (h3 : z < x) :
 Calls Tryz.prog 23 #[.agg #[.string ⟨a1.toArray⟩,.string ⟨a2.toArray⟩],.agg #[.string ⟨b1.toArray⟩,.string ⟨b2.toArray⟩],.agg #[.string ⟨d1.toArray⟩,.string ⟨d2.toArray⟩]] w fun e w' => e = .returned (.tuple #[.agg #[.string ⟨d1.toArray⟩,.string ⟨d2.toArray⟩],.int .i64 0]) ∧ Below w.heap.size w w' := by
 have hb0 : Below w.heap.size w (((((w.alloc (.cells #[.string ⟨a1.toArray⟩,.string ⟨a2.toArray⟩] 24)).alloc (.cells #[.string ⟨b1.toArray⟩,.string ⟨b2.toArray⟩] 24)).alloc (.cells #[.string ⟨d1.toArray⟩,.string ⟨d2.toArray⟩] 24)).alloc (.cells #[.string ⟨#[]⟩,.string ⟨#[]⟩] 24)).alloc (.cells #[.string ⟨a1.toArray⟩,.string ⟨a2.toArray⟩,.string ⟨b1.toArray⟩,.string ⟨b2.toArray⟩,.string ⟨d1.toArray⟩,.string ⟨d2.toArray⟩] 24)) := (((((Below.refl _ _).alloc (Nat.le_refl _) _).alloc (by simp) _).alloc (by simp;omega) _).alloc (by simp;omega) _).alloc (by simp;omega) _
 have hB0 : BoxF (((((w.alloc (.cells #[.string ⟨a1.toArray⟩,.string ⟨a2.toArray⟩] 24)).alloc (.cells #[.string ⟨b1.toArray⟩,.string ⟨b2.toArray⟩] 24)).alloc (.cells #[.string ⟨d1.toArray⟩,.string ⟨d2.toArray⟩] 24)).alloc (.cells #[.string ⟨#[]⟩,.string ⟨#[]⟩] 24)).alloc (.cells #[.string ⟨a1.toArray⟩,.string ⟨a2.toArray⟩,.string ⟨b1.toArray⟩,.string ⟨b2.toArray⟩,.string ⟨d1.toArray⟩,.string ⟨d2.toArray⟩] 24)) (w.heap.size + 1 + 1 + 1) := (Fr.boxF (Fr.new (by simp))).old
 have hrd := read3_some (w.heap.size + 1 + 1 + 1 + 1) a1 a2 b1 b2 d1 d2 x y z (((((w.alloc (.cells #[.string ⟨a1.toArray⟩,.string ⟨a2.toArray⟩] 24)).alloc (.cells #[.string ⟨b1.toArray⟩,.string ⟨b2.toArray⟩] 24)).alloc (.cells #[.string ⟨d1.toArray⟩,.string ⟨d2.toArray⟩] 24)).alloc (.cells #[.string ⟨#[]⟩,.string ⟨#[]⟩] 24)).alloc (.cells #[.string ⟨a1.toArray⟩,.string ⟨a2.toArray⟩,.string ⟨b1.toArray⟩,.string ⟨b2.toArray⟩,.string ⟨d1.toArray⟩,.string ⟨d2.toArray⟩] 24)) ha hb hd (Fr.new (by simp))
 have HZ := Lib.hid (And.intro (rdF_fz ha) (And.intro (rdF_fz hb) (rdF_fz hd)))
 obtain ⟨o1,ho1⟩ : ∃ o,o = cmpQ y z := ⟨_,rfl⟩
 obtain ⟨o2,ho2⟩ : ∃ o,o = cmpQ x y := ⟨_,rfl⟩
 obtain ⟨o3,ho3⟩ : ∃ o,o = cmpQ x z := ⟨_,rfl⟩
 have hd1 : decide (0 < o1) = false := by have := cmpQ_gt y z;rw [← ho1] at this;exact decide_eq_false (fun e => h1 (this.1 e))
 have hd2 : decide (o2 < 0) = false := by have := cmpQ_lt x y;rw [← ho2] at this;exact decide_eq_false (fun e => h2 (this.1 e))
 have hd3 : decide (0 < o3) = true := by have := cmpQ_gt x z;rw [← ho3] at this;exact decide_eq_true (this.2 h3)
 have HQ1 := Lib.hid ho1
 have HQ2 := Lib.hid ho2
 have HQ3 := Lib.hid ho3
 have HA : Fr (((((w.alloc (.cells #[.string ⟨a1.toArray⟩,.string ⟨a2.toArray⟩] 24)).alloc (.cells #[.string ⟨b1.toArray⟩,.string ⟨b2.toArray⟩] 24)).alloc (.cells #[.string ⟨d1.toArray⟩,.string ⟨d2.toArray⟩] 24)).alloc (.cells #[.string ⟨#[]⟩,.string ⟨#[]⟩] 24)).alloc (.cells #[.string ⟨a1.toArray⟩,.string ⟨a2.toArray⟩,.string ⟨b1.toArray⟩,.string ⟨b2.toArray⟩,.string ⟨d1.toArray⟩,.string ⟨d2.toArray⟩] 24)) w.heap.size #[.string ⟨a1.toArray⟩,.string ⟨a2.toArray⟩] 24 := (Fr.new rfl).old.old.old.old
 have HB : Fr (((((w.alloc (.cells #[.string ⟨a1.toArray⟩,.string ⟨a2.toArray⟩] 24)).alloc (.cells #[.string ⟨b1.toArray⟩,.string ⟨b2.toArray⟩] 24)).alloc (.cells #[.string ⟨d1.toArray⟩,.string ⟨d2.toArray⟩] 24)).alloc (.cells #[.string ⟨#[]⟩,.string ⟨#[]⟩] 24)).alloc (.cells #[.string ⟨a1.toArray⟩,.string ⟨a2.toArray⟩,.string ⟨b1.toArray⟩,.string ⟨b2.toArray⟩,.string ⟨d1.toArray⟩,.string ⟨d2.toArray⟩] 24)) (w.heap.size + 1) #[.string ⟨b1.toArray⟩,.string ⟨b2.toArray⟩] 24 := (Fr.new (by simp)).old.old.old
 have HC : Fr (((((w.alloc (.cells #[.string ⟨a1.toArray⟩,.string ⟨a2.toArray⟩] 24)).alloc (.cells #[.string ⟨b1.toArray⟩,.string ⟨b2.toArray⟩] 24)).alloc (.cells #[.string ⟨d1.toArray⟩,.string ⟨d2.toArray⟩] 24)).alloc (.cells #[.string ⟨#[]⟩,.string ⟨#[]⟩] 24)).alloc (.cells #[.string ⟨a1.toArray⟩,.string ⟨a2.toArray⟩,.string ⟨b1.toArray⟩,.string ⟨b2.toArray⟩,.string ⟨d1.toArray⟩,.string ⟨d2.toArray⟩] 24)) (w.heap.size + 1 + 1) #[.string ⟨d1.toArray⟩,.string ⟨d2.toArray⟩] 24 := (Fr.new (by simp)).old.old
 have H := Lib.hid (And.intro hb0 (And.intro hB0 (And.intro HA (And.intro HB HC))))
 clear ha hb hd hb0 hB0 ho1 ho2 ho3 HA HB HC h1 h2 h3
 go_enter Tryz.func23,Tryz.ntmps23
 go_wp2_with fail
 refine hrd.mono ?_
 rintro e w1 ⟨g2,rfl,hL,hb1⟩
 obtain ⟨A1,n1,c1,k1,A2,n2,c2,k2,e0,e1,e2,e3,hv1⟩ := hL.at_ (i := 0) (q := x) rfl
 obtain ⟨A3,n3,c3,k3,A4,n4,c4,k4,e4,e5,e6,e7,hv2⟩ := hL.at_ (i := 1) (q := y) rfl
 obtain ⟨A5,n5,c5,k5,A6,n6,c6,k6,e8,e9,e10,e11,hv3⟩ := hL.at_ (i := 2) (q := z) rfl
 simp only [Nat.zero_mul,Nat.one_mul,Nat.zero_add,Nat.reduceAdd,Nat.reduceMul] at e0 e1 e2 e3 e4 e5 e6 e7 e8 e9 e10 e11
 have hbw := belowt H.out.1 H.out.1.size hb1
 have hB1 := H.out.2.1.call hb1
 have rA := (H.out.2.2.1.call hb1).cells2
 have rB := (H.out.2.2.2.1.call hb1).cells2
 have rC := (H.out.2.2.2.2.call hb1).cells2
 have HS1 : Hid (ClS w a1 a2 b1 b2 d1 d2 x y z g2 A1 n1 c1 k1 A2 n2 c2 k2 A3 n3 c3 k3 A4 n4 c4 k4 A5 n5 c5 k5 A6 n6 c6 k6 w1) := Lib.hid ⟨⟨hbw,hB1,hv1.parts.1,hv1.parts.2,hv2.parts.1,hv2.parts.2,hv3.parts.1,hv3.parts.2⟩,rA.1,rA.2.1,rB.1,rB.2.1,rC.1,rC.2.1,e0,e1,e2,e3,e4,e5,e6,e7,e8,e9,e10,e11⟩
 have HO1 : Hid (∀ W,ClS w a1 a2 b1 b2 d1 d2 x y z g2 A1 n1 c1 k1 A2 n2 c2 k2 A3 n3 c3 k3 A4 n4 c4 k4 A5 n5 c5 k5 A6 n6 c6 k6 W → Calls Tryz.prog 70 #[.agg #[.slice A3 n3 c3,.bool k3,.slice A4 n4 c4,.bool k4],.agg #[.slice A5 n5 c5,.bool k5,.slice A6 n6 c6,.bool k6]] W fun e w' => e = .returned (.int .i64 o1) ∧ ClS w a1 a2 b1 b2 d1 d2 x y z g2 A1 n1 c1 k1 A2 n2 c2 k2 A3 n3 c3 k3 A4 n4 c4 k4 A5 n5 c5 k5 A6 n6 c6 k6 w') := Lib.hid (fun W hS => by
  have h := raorder_any _ _ y z 32 32 W ⟨_,_,_,_,_,_,_,_,rfl,hS.1.2.2.2.2.1,hS.1.2.2.2.2.2.1⟩ ⟨_,_,_,_,_,_,_,_,rfl,hS.1.2.2.2.2.2.2.1,hS.1.2.2.2.2.2.2.2⟩ (HZ.out.2.1) (HZ.out.2.2) (by unfold maxW;omega)
  rw [← HQ1.out] at h
  exact h.mono fun e w' h => ⟨h.1,clS_step hS h.2⟩)
 have HO2 : Hid (∀ W,ClS w a1 a2 b1 b2 d1 d2 x y z g2 A1 n1 c1 k1 A2 n2 c2 k2 A3 n3 c3 k3 A4 n4 c4 k4 A5 n5 c5 k5 A6 n6 c6 k6 W → Calls Tryz.prog 70 #[.agg #[.slice A1 n1 c1,.bool k1,.slice A2 n2 c2,.bool k2],.agg #[.slice A3 n3 c3,.bool k3,.slice A4 n4 c4,.bool k4]] W fun e w' => e = .returned (.int .i64 o2) ∧ ClS w a1 a2 b1 b2 d1 d2 x y z g2 A1 n1 c1 k1 A2 n2 c2 k2 A3 n3 c3 k3 A4 n4 c4 k4 A5 n5 c5 k5 A6 n6 c6 k6 w') := Lib.hid (fun W hS => by
  have h := raorder_any _ _ x y 32 32 W ⟨_,_,_,_,_,_,_,_,rfl,hS.1.2.2.1,hS.1.2.2.2.1⟩ ⟨_,_,_,_,_,_,_,_,rfl,hS.1.2.2.2.2.1,hS.1.2.2.2.2.2.1⟩ (HZ.out.1) (HZ.out.2.1) (by unfold maxW;omega)
  rw [← HQ2.out] at h
  exact h.mono fun e w' h => ⟨h.1,clS_step hS h.2⟩)
 have HO3 : Hid (∀ W,ClS w a1 a2 b1 b2 d1 d2 x y z g2 A1 n1 c1 k1 A2 n2 c2 k2 A3 n3 c3 k3 A4 n4 c4 k4 A5 n5 c5 k5 A6 n6 c6 k6 W → Calls Tryz.prog 70 #[.agg #[.slice A1 n1 c1,.bool k1,.slice A2 n2 c2,.bool k2],.agg #[.slice A5 n5 c5,.bool k5,.slice A6 n6 c6,.bool k6]] W fun e w' => e = .returned (.int .i64 o3) ∧ ClS w a1 a2 b1 b2 d1 d2 x y z g2 A1 n1 c1 k1 A2 n2 c2 k2 A3 n3 c3 k3 A4 n4 c4 k4 A5 n5 c5 k5 A6 n6 c6 k6 w') := Lib.hid (fun W hS => by
  have h := raorder_any _ _ x z 32 32 W ⟨_,_,_,_,_,_,_,_,rfl,hS.1.2.2.1,hS.1.2.2.2.1⟩ ⟨_,_,_,_,_,_,_,_,rfl,hS.1.2.2.2.2.2.2.1,hS.1.2.2.2.2.2.2.2⟩ (HZ.out.1) (HZ.out.2.2) (by unfold maxW;omega)
  rw [← HQ3.out] at h
  exact h.mono fun e w' h => ⟨h.1,clS_step hS h.2⟩)
 clear hrd hL hb1 hbw hB1 rA rB rC hv1 hv2 hv3
 go_wp2_with fail
 have hS1 := clS_drew HS1.out
 go_region_held3 (fun W => (Below w.heap.size w W ∧ BoxF W (w.heap.size + 1 + 1 + 1) ∧ SgV W (.agg #[.slice A1 n1 c1,.bool k1]) x.num ∧ SgV W (.agg #[.slice A2 n2 c2,.bool k2]) (x.den : Int) ∧ SgV W (.agg #[.slice A3 n3 c3,.bool k3]) y.num ∧ SgV W (.agg #[.slice A4 n4 c4,.bool k4]) (y.den : Int) ∧ SgV W (.agg #[.slice A5 n5 c5,.bool k5]) z.num ∧ SgV W (.agg #[.slice A6 n6 c6,.bool k6]) (z.den : Int)) ∧ W.cell? ⟨w.heap.size,0,none⟩ = some (.string ⟨a1.toArray⟩) ∧ W.cell? ⟨w.heap.size,1,none⟩ = some (.string ⟨a2.toArray⟩) ∧ W.cell? ⟨w.heap.size + 1,0,none⟩ = some (.string ⟨b1.toArray⟩) ∧ W.cell? ⟨w.heap.size + 1,1,none⟩ = some (.string ⟨b2.toArray⟩) ∧ W.cell? ⟨w.heap.size + 1 + 1,0,none⟩ = some (.string ⟨d1.toArray⟩) ∧ W.cell? ⟨w.heap.size + 1 + 1,1,none⟩ = some (.string ⟨d2.toArray⟩) ∧ W.cell? ⟨g2,0,none⟩ = some (.slice A1 n1 c1) ∧ W.cell? ⟨g2,1,none⟩ = some (.bool k1) ∧ W.cell? ⟨g2,2,none⟩ = some (.slice A2 n2 c2) ∧ W.cell? ⟨g2,3,none⟩ = some (.bool k2) ∧ W.cell? ⟨g2,4,none⟩ = some (.slice A3 n3 c3) ∧ W.cell? ⟨g2,5,none⟩ = some (.bool k3) ∧ W.cell? ⟨g2,6,none⟩ = some (.slice A4 n4 c4) ∧ W.cell? ⟨g2,7,none⟩ = some (.bool k4) ∧ W.cell? ⟨g2,8,none⟩ = some (.slice A5 n5 c5) ∧ W.cell? ⟨g2,9,none⟩ = some (.bool k5) ∧ W.cell? ⟨g2,10,none⟩ = some (.slice A6 n6 c6) ∧ W.cell? ⟨g2,11,none⟩ = some (.bool k6)) (first | with_reducible assumption)
  (first
   | (go_at_call 70;with_reducible refine (HO1.out _ ?_).mono ?_;with_reducible assumption;rintro e w2 ⟨rfl,hS2⟩))
 have HS2 := Lib.hid hS2
 clear hS2
 obtain ⟨⟨-,hB2,-,-,-,-,-,-⟩,u0_2,u1_2,u2_2,u3_2,u4_2,u5_2,u6_2,u7_2,u8_2,u9_2,u10_2,u11_2,u12_2,u13_2,u14_2,u15_2,u16_2,u17_2⟩ := HS2.out
 go_wp2_with fail
 have hS2 := clS_drew HS2.out
 go_region_held3 (fun W => (Below w.heap.size w W ∧ BoxF W (w.heap.size + 1 + 1 + 1) ∧ SgV W (.agg #[.slice A1 n1 c1,.bool k1]) x.num ∧ SgV W (.agg #[.slice A2 n2 c2,.bool k2]) (x.den : Int) ∧ SgV W (.agg #[.slice A3 n3 c3,.bool k3]) y.num ∧ SgV W (.agg #[.slice A4 n4 c4,.bool k4]) (y.den : Int) ∧ SgV W (.agg #[.slice A5 n5 c5,.bool k5]) z.num ∧ SgV W (.agg #[.slice A6 n6 c6,.bool k6]) (z.den : Int)) ∧ W.cell? ⟨w.heap.size,0,none⟩ = some (.string ⟨a1.toArray⟩) ∧ W.cell? ⟨w.heap.size,1,none⟩ = some (.string ⟨a2.toArray⟩) ∧ W.cell? ⟨w.heap.size + 1,0,none⟩ = some (.string ⟨b1.toArray⟩) ∧ W.cell? ⟨w.heap.size + 1,1,none⟩ = some (.string ⟨b2.toArray⟩) ∧ W.cell? ⟨w.heap.size + 1 + 1,0,none⟩ = some (.string ⟨d1.toArray⟩) ∧ W.cell? ⟨w.heap.size + 1 + 1,1,none⟩ = some (.string ⟨d2.toArray⟩) ∧ W.cell? ⟨g2,0,none⟩ = some (.slice A1 n1 c1) ∧ W.cell? ⟨g2,1,none⟩ = some (.bool k1) ∧ W.cell? ⟨g2,2,none⟩ = some (.slice A2 n2 c2) ∧ W.cell? ⟨g2,3,none⟩ = some (.bool k2) ∧ W.cell? ⟨g2,4,none⟩ = some (.slice A3 n3 c3) ∧ W.cell? ⟨g2,5,none⟩ = some (.bool k3) ∧ W.cell? ⟨g2,6,none⟩ = some (.slice A4 n4 c4) ∧ W.cell? ⟨g2,7,none⟩ = some (.bool k4) ∧ W.cell? ⟨g2,8,none⟩ = some (.slice A5 n5 c5) ∧ W.cell? ⟨g2,9,none⟩ = some (.bool k5) ∧ W.cell? ⟨g2,10,none⟩ = some (.slice A6 n6 c6) ∧ W.cell? ⟨g2,11,none⟩ = some (.bool k6)) (first | with_reducible assumption)
  (first
   | (go_at_call 70;with_reducible refine (HO2.out _ ?_).mono ?_;with_reducible assumption;rintro e w3 ⟨rfl,hS3⟩))
 have HS3 := Lib.hid hS3
 clear hS3
 obtain ⟨⟨-,hB3,-,-,-,-,-,-⟩,u0_3,u1_3,u2_3,u3_3,u4_3,u5_3,u6_3,u7_3,u8_3,u9_3,u10_3,u11_3,u12_3,u13_3,u14_3,u15_3,u16_3,u17_3⟩ := HS3.out
 go_wp2_with fail
 have hS3 := clS_drew HS3.out
 go_region_held3 (fun W => (Below w.heap.size w W ∧ BoxF W (w.heap.size + 1 + 1 + 1) ∧ SgV W (.agg #[.slice A1 n1 c1,.bool k1]) x.num ∧ SgV W (.agg #[.slice A2 n2 c2,.bool k2]) (x.den : Int) ∧ SgV W (.agg #[.slice A3 n3 c3,.bool k3]) y.num ∧ SgV W (.agg #[.slice A4 n4 c4,.bool k4]) (y.den : Int) ∧ SgV W (.agg #[.slice A5 n5 c5,.bool k5]) z.num ∧ SgV W (.agg #[.slice A6 n6 c6,.bool k6]) (z.den : Int)) ∧ W.cell? ⟨w.heap.size,0,none⟩ = some (.string ⟨a1.toArray⟩) ∧ W.cell? ⟨w.heap.size,1,none⟩ = some (.string ⟨a2.toArray⟩) ∧ W.cell? ⟨w.heap.size + 1,0,none⟩ = some (.string ⟨b1.toArray⟩) ∧ W.cell? ⟨w.heap.size + 1,1,none⟩ = some (.string ⟨b2.toArray⟩) ∧ W.cell? ⟨w.heap.size + 1 + 1,0,none⟩ = some (.string ⟨d1.toArray⟩) ∧ W.cell? ⟨w.heap.size + 1 + 1,1,none⟩ = some (.string ⟨d2.toArray⟩) ∧ W.cell? ⟨g2,0,none⟩ = some (.slice A1 n1 c1) ∧ W.cell? ⟨g2,1,none⟩ = some (.bool k1) ∧ W.cell? ⟨g2,2,none⟩ = some (.slice A2 n2 c2) ∧ W.cell? ⟨g2,3,none⟩ = some (.bool k2) ∧ W.cell? ⟨g2,4,none⟩ = some (.slice A3 n3 c3) ∧ W.cell? ⟨g2,5,none⟩ = some (.bool k3) ∧ W.cell? ⟨g2,6,none⟩ = some (.slice A4 n4 c4) ∧ W.cell? ⟨g2,7,none⟩ = some (.bool k4) ∧ W.cell? ⟨g2,8,none⟩ = some (.slice A5 n5 c5) ∧ W.cell? ⟨g2,9,none⟩ = some (.bool k5) ∧ W.cell? ⟨g2,10,none⟩ = some (.slice A6 n6 c6) ∧ W.cell? ⟨g2,11,none⟩ = some (.bool k6)) (first | with_reducible assumption)
  (first
   | (go_at_call 70;with_reducible refine (HO3.out _ ?_).mono ?_;with_reducible assumption;rintro e w4 ⟨rfl,hS4⟩))
 have HS4 := Lib.hid hS4
 clear hS4
 obtain ⟨⟨-,hB4,-,-,-,-,-,-⟩,u0_4,u1_4,u2_4,u3_4,u4_4,u5_4,u6_4,u7_4,u8_4,u9_4,u10_4,u11_4,u12_4,u13_4,u14_4,u15_4,u16_4,u17_4⟩ := HS4.out
 obtain ⟨⟨q0,y0⟩,⟨q1,y1⟩,y2,y3⟩ := hB4.facts
 clear hB4
 go_wp2_with fail
 exact bodyPost_ret (v := .tuple #[.agg #[.string ⟨d1.toArray⟩,.string ⟨d2.toArray⟩],.int .i64 0]) (by simp [results,Tryz.results23,go_sem,y0,y1]) rfl ⟨rfl,(HS4.out.1.1.setCell (by simp;omega) _).setCell (by simp;omega) _⟩
end Go.Proofs.YtlfgpmnjnpdkdaaGreatDoor
namespace Go.Proofs.YtlfgpmnjnpdkdaaGreatDoor
open Go.RowKit Vd
attribute [local go_sem ↓] Go.wp_at_zero Go.wp_at_succ
set_option maxRecDepth 100000 in
set_option maxHeartbeats 2000000 in
theorem q_any (n d : Int) (s t : ByteArray) (k : Int) (w : World) (hof : ∀ W,Calls Tryz.prog 8 #[.int .i64 n,.int .i64 d] W fun e w' => e = .returned (.tuple #[.agg #[.string s,.string t],.int .i64 k]) ∧ Below W.heap.size W w') :
    Calls Tryz.prog 42 #[.int .i64 n,.int .i64 d] w fun e w' => e = .returned (.agg #[.string s,.string t]) ∧ Below w.heap.size w w' := by
 have hb0 : Below w.heap.size w (w.alloc (.cells #[.string ⟨#[]⟩,.string ⟨#[]⟩] 24)) := (Below.refl _ _).alloc (Nat.le_refl _) _
 have hB0 : BoxF (w.alloc (.cells #[.string ⟨#[]⟩,.string ⟨#[]⟩] 24)) w.heap.size := Fr.boxF (Fr.new rfl)
 have HO := Lib.hid hof
 have H := Lib.hid (And.intro hb0 hB0)
 clear hof hb0 hB0
 go_enter Tryz.func42,Tryz.ntmps42
 go_wp2_with fail
 refine (HO.out _).mono ?_
 rintro e w1 ⟨rfl,hb1⟩
 have hbw := belowt H.out.1 H.out.1.size hb1
 obtain ⟨s0,t0,hF0⟩ := H.out.2.call hb1
 obtain ⟨y0,y1,y2,y3⟩ := hF0.cells2a
 have HB := Lib.hid hbw
 clear hb1 hbw
 go_wp2_with fail
 exact bodyPost_ret (v := .agg #[.string s,.string t]) (by simp [results,Tryz.results42,go_sem,y0,y1]) rfl ⟨rfl,((HB.out.alloc HB.out.size _).setCell (by simp) _).setCell (by simp) _⟩
end Go.Proofs.YtlfgpmnjnpdkdaaGreatDoor
