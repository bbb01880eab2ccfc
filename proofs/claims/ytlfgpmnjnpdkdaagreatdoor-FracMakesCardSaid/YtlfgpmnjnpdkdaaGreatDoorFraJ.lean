/- Contracts: package frac: combine, over two fractions. -/
import Derived.Test.YtlfgpmnjnpdkdaaGreatDoorFraI
namespace Go.Proofs.YtlfgpmnjnpdkdaaGreatDoor
open Go.RowKit Vd
attribute [local go_sem ↓] Go.wp_at_zero Go.wp_at_succ
theorem read2_some (g : Nat) (a1 a2 b1 b2 : List UInt8) (x y : Rat) (w : World) (ha : rdF a1 a2 = some x) (hb : rdF b1 b2 = some y) (hF : Fr w g #[.string ⟨a1.toArray⟩,.string ⟨a2.toArray⟩,.string ⟨b1.toArray⟩,.string ⟨b2.toArray⟩] 24) :
 Calls Tryz.prog 71 #[.slice (some ⟨g,0,none⟩) 2 2] w fun e w' => ∃ g2 : Nat,e = .returned (.tuple #[.slice (some ⟨g2,0,none⟩) 2 2,.int .i64 0]) ∧ RaL w' g2 [x,y] ∧ Below w.heap.size w w' := by
 refine freadAll_some g 2 2 [(a1,a2),(b1,b2)] [x,y] w hF rfl rfl ?_ (by omega)
 intro i p q h1 h2
 match i,h1,h2 with
 | 0,h1,h2 => simp at h1 h2;obtain rfl := h1;obtain rfl := h2;exact ha
 | 1,h1,h2 => simp at h1 h2;obtain rfl := h1;obtain rfl := h2;exact hb
theorem read2_none (g : Nat) (a1 a2 b1 b2 : List UInt8) (w : World) (h : rdF a1 a2 = none ∨ rdF b1 b2 = none) (hF : Fr w g #[.string ⟨a1.toArray⟩,.string ⟨a2.toArray⟩,.string ⟨b1.toArray⟩,.string ⟨b2.toArray⟩] 24) :
 Calls Tryz.prog 71 #[.slice (some ⟨g,0,none⟩) 2 2] w fun e w' => e = .returned (.tuple #[.slice none 0 0,.int .i64 20]) ∧ Below w.heap.size w w' := by
 refine freadAll_none g 2 2 [(a1,a2),(b1,b2)] w hF rfl ?_ (by omega)
 rcases h with h | h
 · exact ⟨0,(a1,a2),rfl,h⟩
 · exact ⟨1,(b1,b2),rfl,h⟩
theorem rdF_fz {a b : List UInt8} {q : Rat} (h : rdF a b = some q) : Fz q 32 := by
 have h2 := rdF_some h
 refine ⟨rd_wlen h2.1,?_⟩
 have := rd_wlen h2.2
 rwa [Int.natAbs_natCast] at this
abbrev CbS (w1 : World) (g : Nat) (A1 : Option Addr) (n1 c1 : Nat) (k1 : Bool) (A2 : Option Addr) (n2 c2 : Nat) (k2 : Bool) (A3 : Option Addr) (n3 c3 : Nat) (k3 : Bool) (A4 : Option Addr) (n4 c4 : Nat) (k4 : Bool) (W : World) : Prop := (Below w1.heap.size w1 W) ∧ W.cell? ⟨g,0,none⟩ = some (.slice A1 n1 c1) ∧ W.cell? ⟨g,1,none⟩ = some (.bool k1) ∧ W.cell? ⟨g,2,none⟩ = some (.slice A2 n2 c2) ∧ W.cell? ⟨g,3,none⟩ = some (.bool k2) ∧ W.cell? ⟨g,4,none⟩ = some (.slice A3 n3 c3) ∧ W.cell? ⟨g,5,none⟩ = some (.bool k3) ∧ W.cell? ⟨g,6,none⟩ = some (.slice A4 n4 c4) ∧ W.cell? ⟨g,7,none⟩ = some (.bool k4)
theorem cbS_step {w1 : World} {g : Nat} {A1 : Option Addr} {n1 c1 : Nat} {k1 : Bool} {A2 : Option Addr} {n2 c2 : Nat} {k2 : Bool} {A3 : Option Addr} {n3 c3 : Nat} {k3 : Bool} {A4 : Option Addr} {n4 c4 : Nat} {k4 : Bool} {W W' : World} (h : CbS w1 g A1 n1 c1 k1 A2 n2 c2 k2 A3 n3 c3 k3 A4 n4 c4 k4 W) (hb : Below W.heap.size W W') : CbS w1 g A1 n1 c1 k1 A2 n2 c2 k2 A3 n3 c3 k3 A4 n4 c4 k4 W' := by
 obtain ⟨hb0,e0,e1,e2,e3,e4,e5,e6,e7⟩ := h
 exact ⟨belowt hb0 hb0.size hb,keepc hb e0,keepc hb e1,keepc hb e2,keepc hb e3,keepc hb e4,keepc hb e5,keepc hb e6,keepc hb e7⟩
abbrev CrS (w : World) (x y : Rat) (b g : Nat) (A1 : Option Addr) (n1 c1 : Nat) (k1 : Bool) (A2 : Option Addr) (n2 c2 : Nat) (k2 : Bool) (A3 : Option Addr) (n3 c3 : Nat) (k3 : Bool) (A4 : Option Addr) (n4 c4 : Nat) (k4 : Bool) (W : World) : Prop := (Below w.heap.size w W ∧ BoxR W (b) ∧ SgV W (.agg #[.slice A1 n1 c1,.bool k1]) x.num ∧ SgV W (.agg #[.slice A2 n2 c2,.bool k2]) (x.den : Int) ∧ SgV W (.agg #[.slice A3 n3 c3,.bool k3]) y.num ∧ SgV W (.agg #[.slice A4 n4 c4,.bool k4]) (y.den : Int) ∧ w.heap.size ≤ b ∧ b ≠ g) ∧ W.cell? ⟨g,0,none⟩ = some (.slice A1 n1 c1) ∧ W.cell? ⟨g,1,none⟩ = some (.bool k1) ∧ W.cell? ⟨g,2,none⟩ = some (.slice A2 n2 c2) ∧ W.cell? ⟨g,3,none⟩ = some (.bool k2) ∧ W.cell? ⟨g,4,none⟩ = some (.slice A3 n3 c3) ∧ W.cell? ⟨g,5,none⟩ = some (.bool k3) ∧ W.cell? ⟨g,6,none⟩ = some (.slice A4 n4 c4) ∧ W.cell? ⟨g,7,none⟩ = some (.bool k4)
theorem crS_step {w : World} {x y : Rat} {b g : Nat} {A1 : Option Addr} {n1 c1 : Nat} {k1 : Bool} {A2 : Option Addr} {n2 c2 : Nat} {k2 : Bool} {A3 : Option Addr} {n3 c3 : Nat} {k3 : Bool} {A4 : Option Addr} {n4 c4 : Nat} {k4 : Bool} {W W' : World} (h : CrS w x y b g A1 n1 c1 k1 A2 n2 c2 k2 A3 n3 c3 k3 A4 n4 c4 k4 W) (hb : Below W.heap.size W W') : CrS w x y b g A1 n1 c1 k1 A2 n2 c2 k2 A3 n3 c3 k3 A4 n4 c4 k4 W' := by
 obtain ⟨⟨hb0,hB,g0,g1,g2,g3,l0,l1⟩,e0,e1,e2,e3,e4,e5,e6,e7⟩ := h
 exact ⟨⟨belowt hb0 hb0.size hb,hB.call hb,g0.below hb,g1.below hb,g2.below hb,g3.below hb,l0,l1⟩,keepc hb e0,keepc hb e1,keepc hb e2,keepc hb e3,keepc hb e4,keepc hb e5,keepc hb e6,keepc hb e7⟩
theorem crS_store {w : World} {x y : Rat} {b g : Nat} {A1 : Option Addr} {n1 c1 : Nat} {k1 : Bool} {A2 : Option Addr} {n2 c2 : Nat} {k2 : Bool} {A3 : Option Addr} {n3 c3 : Nat} {k3 : Bool} {A4 : Option Addr} {n4 c4 : Nat} {k4 : Bool} {W : World} (h : CrS w x y b g A1 n1 c1 k1 A2 n2 c2 k2 A3 n3 c3 k3 A4 n4 c4 k4 W) (Ax : Option Addr) (nx cx : Nat) (kx : Bool) (Ay : Option Addr) (ny cy : Nat) (ky : Bool) : CrS w x y b g A1 n1 c1 k1 A2 n2 c2 k2 A3 n3 c3 k3 A4 n4 c4 k4 (sto4 W (b) (.slice Ax nx cx) (.bool kx) (.slice Ay ny cy) (.bool ky)) := by
 obtain ⟨⟨hb0,hB,g0,g1,g2,g3,l0,l1⟩,e0,e1,e2,e3,e4,e5,e6,e7⟩ := h
 exact ⟨⟨below_set4 hb0 (by omega),hB.set4 _ _ _ _ _ _ _ _,hB.sg _ _ _ _ _ _ _ _ g0,hB.sg _ _ _ _ _ _ _ _ g1,hB.sg _ _ _ _ _ _ _ _ g2,hB.sg _ _ _ _ _ _ _ _ g3,l0,l1⟩,(cell_set4 (by omega)).trans e0,(cell_set4 (by omega)).trans e1,(cell_set4 (by omega)).trans e2,(cell_set4 (by omega)).trans e3,(cell_set4 (by omega)).trans e4,(cell_set4 (by omega)).trans e5,(cell_set4 (by omega)).trans e6,(cell_set4 (by omega)).trans e7⟩
set_option maxRecDepth 100000 in
set_option maxHeartbeats 2000000 in
theorem combOrder_some (a1 a2 b1 b2 : List UInt8) (x y : Rat) (w : World) (ha : rdF a1 a2 = some x) (hb : rdF b1 b2 = some y) :
 Calls Tryz.prog 69 #[.agg #[.string ⟨a1.toArray⟩,.string ⟨a2.toArray⟩],.agg #[.string ⟨b1.toArray⟩,.string ⟨b2.toArray⟩],.func (.func 70) #[] #[]] w fun e w' => e = .returned (.tuple #[.int .i64 (cmpQ x y),.int .i64 0]) ∧ Below w.heap.size w w' := by
 have hb0 : Below w.heap.size w (((w.alloc (.cells #[.string ⟨a1.toArray⟩,.string ⟨a2.toArray⟩] 24)).alloc (.cells #[.string ⟨b1.toArray⟩,.string ⟨b2.toArray⟩] 24)).alloc (.cells #[.string ⟨a1.toArray⟩,.string ⟨a2.toArray⟩,.string ⟨b1.toArray⟩,.string ⟨b2.toArray⟩] 24)) := (((Below.refl _ _).alloc (Nat.le_refl _) _).alloc (by simp) _).alloc (by simp;omega) _
 have hrd := read2_some (w.heap.size + 1 + 1) a1 a2 b1 b2 x y (((w.alloc (.cells #[.string ⟨a1.toArray⟩,.string ⟨a2.toArray⟩] 24)).alloc (.cells #[.string ⟨b1.toArray⟩,.string ⟨b2.toArray⟩] 24)).alloc (.cells #[.string ⟨a1.toArray⟩,.string ⟨a2.toArray⟩,.string ⟨b1.toArray⟩,.string ⟨b2.toArray⟩] 24)) ha hb (Fr.new (by simp))
 have H := Lib.hid (And.intro (rdF_fz ha) (And.intro (rdF_fz hb) hb0))
 obtain ⟨C,hC⟩ : ∃ C,C = cmpQ x y := ⟨_,rfl⟩
 rw [← hC]
 have HC := Lib.hid hC
 clear ha hb hb0 hC
 go_enter Tryz.func69,Tryz.ntmps69
 go_wp2_with fail
 refine hrd.mono ?_
 rintro e w1 ⟨g2,rfl,hL,hb1⟩
 obtain ⟨A1,n1,c1,k1,A2,n2,c2,k2,e0,e1,e2,e3,hv1⟩ := hL.at_ (i := 0) (q := x) rfl
 obtain ⟨A3,n3,c3,k3,A4,n4,c4,k4,f0,f1,f2,f3,hv2⟩ := hL.at_ (i := 1) (q := y) rfl
 simp only [Nat.zero_mul,Nat.one_mul,Nat.zero_add,Nat.reduceAdd] at e0 e1 e2 e3 f0 f1 f2 f3
 have hbw := belowt H.out.2.2 H.out.2.2.size hb1
 have HO : Hid (∀ W,CbS w1 g2 A1 n1 c1 k1 A2 n2 c2 k2 A3 n3 c3 k3 A4 n4 c4 k4 W → Calls Tryz.prog 70 #[.agg #[.slice A1 n1 c1,.bool k1,.slice A2 n2 c2,.bool k2],.agg #[.slice A3 n3 c3,.bool k3,.slice A4 n4 c4,.bool k4]] W fun e w' => e = .returned (.int .i64 C) ∧ CbS w1 g2 A1 n1 c1 k1 A2 n2 c2 k2 A3 n3 c3 k3 A4 n4 c4 k4 w') := Lib.hid (fun W hS => by
  refine (raorder_any _ _ x y 32 32 W (hv1.below hS.1) (hv2.below hS.1) H.out.1 H.out.2.1 (by unfold maxW;omega)).mono ?_
  rintro e w' ⟨he,hb⟩
  exact ⟨by rw [he,HC.out],cbS_step hS hb⟩)
 have hS1 : CbS w1 g2 A1 n1 c1 k1 A2 n2 c2 k2 A3 n3 c3 k3 A4 n4 c4 k4 w1.drew := ⟨(Below.refl _ _).drew,e0,e1,e2,e3,f0,f1,f2,f3⟩
 have HB := Lib.hid hbw
 clear hrd hL hb1 e0 e1 e2 e3 f0 f1 f2 f3 hv1 hv2 hbw
 go_wp2_with fail
 go_region_held3 (fun W => (Below w1.heap.size w1 W) ∧ W.cell? ⟨g2,0,none⟩ = some (.slice A1 n1 c1) ∧ W.cell? ⟨g2,1,none⟩ = some (.bool k1) ∧ W.cell? ⟨g2,2,none⟩ = some (.slice A2 n2 c2) ∧ W.cell? ⟨g2,3,none⟩ = some (.bool k2) ∧ W.cell? ⟨g2,4,none⟩ = some (.slice A3 n3 c3) ∧ W.cell? ⟨g2,5,none⟩ = some (.bool k3) ∧ W.cell? ⟨g2,6,none⟩ = some (.slice A4 n4 c4) ∧ W.cell? ⟨g2,7,none⟩ = some (.bool k4)) (first | with_reducible assumption | exact ⟨hS1.1,hS1.2⟩)
  (first
   | (go_at_call 70;with_reducible refine (HO.out _ ?_).mono ?_;with_reducible assumption;rintro e w5 ⟨rfl,hS5⟩))
 have hbz := belowt HB.out HB.out.size hS5.1
 go_wp2_with fail
 go_ret2
 exact ⟨rfl,hbz⟩
set_option maxRecDepth 100000 in
set_option maxHeartbeats 2000000 in
theorem combPlus_some (a1 a2 b1 b2 : List UInt8) (x y : Rat) (w : World) (ha : rdF a1 a2 = some x) (hb : rdF b1 b2 = some y) :
 Calls Tryz.prog 74 #[.agg #[.string ⟨a1.toArray⟩,.string ⟨a2.toArray⟩],.agg #[.string ⟨b1.toArray⟩,.string ⟨b2.toArray⟩],.func (.func 75) #[] #[]] w fun e w' => ∃ v,e = .returned (.tuple #[v,.int .i64 0]) ∧ RaV w' v (x + y) ∧ Below w.heap.size w w' := by
 have hb0 : Below w.heap.size w ((((w.alloc (.cells #[.string ⟨a1.toArray⟩,.string ⟨a2.toArray⟩] 24)).alloc (.cells #[.string ⟨b1.toArray⟩,.string ⟨b2.toArray⟩] 24)).alloc (.cells #[.slice none 0 0,.bool false,.slice none 0 0,.bool false] 82)).alloc (.cells #[.string ⟨a1.toArray⟩,.string ⟨a2.toArray⟩,.string ⟨b1.toArray⟩,.string ⟨b2.toArray⟩] 24)) := ((((Below.refl _ _).alloc (Nat.le_refl _) _).alloc (by simp) _).alloc (by simp;omega) _).alloc (by simp;omega) _
 have hB0 : BoxR ((((w.alloc (.cells #[.string ⟨a1.toArray⟩,.string ⟨a2.toArray⟩] 24)).alloc (.cells #[.string ⟨b1.toArray⟩,.string ⟨b2.toArray⟩] 24)).alloc (.cells #[.slice none 0 0,.bool false,.slice none 0 0,.bool false] 82)).alloc (.cells #[.string ⟨a1.toArray⟩,.string ⟨a2.toArray⟩,.string ⟨b1.toArray⟩,.string ⟨b2.toArray⟩] 24)) (w.heap.size + 1 + 1) := (Fr.boxR (Fr.new (by simp))).old
 have hrd := read2_some (w.heap.size + 1 + 1 + 1) a1 a2 b1 b2 x y ((((w.alloc (.cells #[.string ⟨a1.toArray⟩,.string ⟨a2.toArray⟩] 24)).alloc (.cells #[.string ⟨b1.toArray⟩,.string ⟨b2.toArray⟩] 24)).alloc (.cells #[.slice none 0 0,.bool false,.slice none 0 0,.bool false] 82)).alloc (.cells #[.string ⟨a1.toArray⟩,.string ⟨a2.toArray⟩,.string ⟨b1.toArray⟩,.string ⟨b2.toArray⟩] 24)) ha hb (Fr.new (by simp))
 have H := Lib.hid (And.intro (rdF_fz ha) (And.intro (rdF_fz hb) (And.intro hb0 hB0)))
 clear ha hb hb0 hB0
 go_enter Tryz.func74,Tryz.ntmps74
 go_wp2_with fail
 refine hrd.mono ?_
 rintro e w1 ⟨g2,rfl,hL,hb1⟩
 obtain ⟨A1,n1,c1,k1,A2,n2,c2,k2,e0,e1,e2,e3,hv1⟩ := hL.at_ (i := 0) (q := x) rfl
 obtain ⟨A3,n3,c3,k3,A4,n4,c4,k4,f0,f1,f2,f3,hv2⟩ := hL.at_ (i := 1) (q := y) rfl
 simp only [Nat.zero_mul,Nat.one_mul,Nat.zero_add,Nat.reduceAdd] at e0 e1 e2 e3 f0 f1 f2 f3
 have hbw := belowt H.out.2.2.1 H.out.2.2.1.size hb1
 have hB1 := H.out.2.2.2.call hb1
 have hne : w.heap.size + 1 + 1 ≠ g2 := by
  intro e
  obtain ⟨_,_,_,_,_,_,_,_,hf⟩ := H.out.2.2.2
  have h1 := hf.call hb1
  obtain ⟨l,hl,hll,_⟩ := hL
  rw [← e] at hl
  unfold Fr at h1 hl
  rw [h1] at hl
  injection hl with hl
  injection hl with hl _ _
  have := congrArg Array.size hl
  simp [flat_length,hll] at this
 have HO : Hid (∀ W,CrS w x y (w.heap.size + 1 + 1) g2 A1 n1 c1 k1 A2 n2 c2 k2 A3 n3 c3 k3 A4 n4 c4 k4 W → Calls Tryz.prog 75 #[.agg #[.slice A1 n1 c1,.bool k1,.slice A2 n2 c2,.bool k2],.agg #[.slice A3 n3 c3,.bool k3,.slice A4 n4 c4,.bool k4]] W fun e w' => ∃ (Ax : Option Addr) (nx cx : Nat) (kx : Bool) (Ay : Option Addr) (ny cy : Nat) (ky : Bool),e = .returned (.agg #[.slice Ax nx cx,.bool kx,.slice Ay ny cy,.bool ky]) ∧ RaV w' (.agg #[.slice Ax nx cx,.bool kx,.slice Ay ny cy,.bool ky]) (x + y) ∧ Below W.heap.size W w' ∧ CrS w x y (w.heap.size + 1 + 1) g2 A1 n1 c1 k1 A2 n2 c2 k2 A3 n3 c3 k3 A4 n4 c4 k4 w') := Lib.hid (fun W hS => by
  refine (raplus_any _ _ x y 32 32 W ⟨_,_,_,_,_,_,_,_,rfl,hS.1.2.2.1,hS.1.2.2.2.1⟩ ⟨_,_,_,_,_,_,_,_,rfl,hS.1.2.2.2.2.1,hS.1.2.2.2.2.2.1⟩ H.out.1 H.out.2.1 (by unfold maxW;omega)).mono ?_
  rintro e w' ⟨v,he,hv,hb⟩
  obtain ⟨Ax,nx,cx,kx,Ay,ny,cy,ky,rfl,_,_⟩ := hv.open
  exact ⟨Ax,nx,cx,kx,Ay,ny,cy,ky,he,hv,hb,crS_step hS hb⟩)
 have hr1 : SgV w1 (.agg #[.slice A1 n1 c1,.bool k1]) x.num ∧ SgV w1 (.agg #[.slice A2 n2 c2,.bool k2]) (x.den : Int) := by
  obtain ⟨_,_,_,_,_,_,_,_,he,g1,g2'⟩ := hv1
  simp only [Value.agg.injEq,Array.mk.injEq,List.cons.injEq,Value.slice.injEq,Value.bool.injEq,and_true] at he
  obtain ⟨⟨rfl,rfl,rfl⟩,rfl,⟨rfl,rfl,rfl⟩,rfl⟩ := he
  exact ⟨g1,g2'⟩
 have hr2 : SgV w1 (.agg #[.slice A3 n3 c3,.bool k3]) y.num ∧ SgV w1 (.agg #[.slice A4 n4 c4,.bool k4]) (y.den : Int) := by
  obtain ⟨_,_,_,_,_,_,_,_,he,g1,g2'⟩ := hv2
  simp only [Value.agg.injEq,Array.mk.injEq,List.cons.injEq,Value.slice.injEq,Value.bool.injEq,and_true] at he
  obtain ⟨⟨rfl,rfl,rfl⟩,rfl,⟨rfl,rfl,rfl⟩,rfl⟩ := he
  exact ⟨g1,g2'⟩
 have hS1 : CrS w x y (w.heap.size + 1 + 1) g2 A1 n1 c1 k1 A2 n2 c2 k2 A3 n3 c3 k3 A4 n4 c4 k4 w1.drew := ⟨⟨hbw.drew,hB1,hr1.1,hr1.2,hr2.1,hr2.2,by omega,hne⟩,e0,e1,e2,e3,f0,f1,f2,f3⟩
 clear hrd hL hb1 e0 e1 e2 e3 f0 f1 f2 f3 hv1 hv2 hbw hB1 hr1 hr2
 go_wp2_with fail
 go_region_held3 (fun W => (Below w.heap.size w W ∧ BoxR W (w.heap.size + 1 + 1) ∧ SgV W (.agg #[.slice A1 n1 c1,.bool k1]) x.num ∧ SgV W (.agg #[.slice A2 n2 c2,.bool k2]) (x.den : Int) ∧ SgV W (.agg #[.slice A3 n3 c3,.bool k3]) y.num ∧ SgV W (.agg #[.slice A4 n4 c4,.bool k4]) (y.den : Int) ∧ w.heap.size ≤ w.heap.size + 1 + 1 ∧ w.heap.size + 1 + 1 ≠ g2) ∧ W.cell? ⟨g2,0,none⟩ = some (.slice A1 n1 c1) ∧ W.cell? ⟨g2,1,none⟩ = some (.bool k1) ∧ W.cell? ⟨g2,2,none⟩ = some (.slice A2 n2 c2) ∧ W.cell? ⟨g2,3,none⟩ = some (.bool k2) ∧ W.cell? ⟨g2,4,none⟩ = some (.slice A3 n3 c3) ∧ W.cell? ⟨g2,5,none⟩ = some (.bool k3) ∧ W.cell? ⟨g2,6,none⟩ = some (.slice A4 n4 c4) ∧ W.cell? ⟨g2,7,none⟩ = some (.bool k4)) (first | with_reducible assumption | exact ⟨⟨hS1.1.1,hS1.1.2⟩,hS1.2⟩ | (refine crS_store ?_ _ _ _ _ _ _ _ _;with_reducible assumption))
  (first
   | (go_at_call 75;with_reducible refine (HO.out _ ?_).mono ?_;with_reducible assumption;rintro e w5 ⟨A5,n5,c5,k5,A6,n6,c6,k6,rfl,hr5,hb5,hS5⟩;obtain ⟨⟨q0,y0⟩,⟨q1,y1⟩,⟨q2,y2⟩,⟨q3,y3⟩,y4,y5,y6,y7⟩ := hS5.1.2.1.facts))
 go_wp2_with fail
 obtain ⟨_,_,_,_,_,_,_,_,he,g1,g2'⟩ := hr5
 simp only [Value.agg.injEq,Array.mk.injEq,List.cons.injEq,Value.slice.injEq,Value.bool.injEq,and_true] at he
 obtain ⟨⟨rfl,rfl,rfl⟩,rfl,⟨rfl,rfl,rfl⟩,rfl⟩ := he
 exact bodyPost_ret (v := .tuple #[.agg #[.slice A5 n5 c5,.bool k5,.slice A6 n6 c6,.bool k6],.int .i64 0]) (by simp [results,Tryz.results74,go_sem,y0,y1,y2,y3]) rfl ⟨_,rfl,RaV.fin hS5.1.2.1 g1 g2',below_set4 hS5.1.1 (by omega)⟩
set_option maxRecDepth 100000 in
set_option maxHeartbeats 2000000 in
theorem combPlus_none (a1 a2 b1 b2 : List UInt8) (w : World) (h : rdF a1 a2 = none ∨ rdF b1 b2 = none) :
 Calls Tryz.prog 74 #[.agg #[.string ⟨a1.toArray⟩,.string ⟨a2.toArray⟩],.agg #[.string ⟨b1.toArray⟩,.string ⟨b2.toArray⟩],.func (.func 75) #[] #[]] w fun e w' => e = .returned (.tuple #[raNone,.int .i64 20]) ∧ Below w.heap.size w w' := by
 have hb0 : Below w.heap.size w ((((w.alloc (.cells #[.string ⟨a1.toArray⟩,.string ⟨a2.toArray⟩] 24)).alloc (.cells #[.string ⟨b1.toArray⟩,.string ⟨b2.toArray⟩] 24)).alloc (.cells #[.slice none 0 0,.bool false,.slice none 0 0,.bool false] 82)).alloc (.cells #[.string ⟨a1.toArray⟩,.string ⟨a2.toArray⟩,.string ⟨b1.toArray⟩,.string ⟨b2.toArray⟩] 24)) := ((((Below.refl _ _).alloc (Nat.le_refl _) _).alloc (by simp) _).alloc (by simp;omega) _).alloc (by simp;omega) _
 have hB0 : Fr ((((w.alloc (.cells #[.string ⟨a1.toArray⟩,.string ⟨a2.toArray⟩] 24)).alloc (.cells #[.string ⟨b1.toArray⟩,.string ⟨b2.toArray⟩] 24)).alloc (.cells #[.slice none 0 0,.bool false,.slice none 0 0,.bool false] 82)).alloc (.cells #[.string ⟨a1.toArray⟩,.string ⟨a2.toArray⟩,.string ⟨b1.toArray⟩,.string ⟨b2.toArray⟩] 24)) (w.heap.size + 1 + 1) #[.slice none 0 0,.bool false,.slice none 0 0,.bool false] 82 := (Fr.new (by simp)).old
 have hrd := read2_none (w.heap.size + 1 + 1 + 1) a1 a2 b1 b2 ((((w.alloc (.cells #[.string ⟨a1.toArray⟩,.string ⟨a2.toArray⟩] 24)).alloc (.cells #[.string ⟨b1.toArray⟩,.string ⟨b2.toArray⟩] 24)).alloc (.cells #[.slice none 0 0,.bool false,.slice none 0 0,.bool false] 82)).alloc (.cells #[.string ⟨a1.toArray⟩,.string ⟨a2.toArray⟩,.string ⟨b1.toArray⟩,.string ⟨b2.toArray⟩] 24)) h (Fr.new (by simp))
 have H := Lib.hid (And.intro hb0 hB0)
 unfold raNone
 clear h hb0 hB0
 go_enter Tryz.func74,Tryz.ntmps74
 go_wp2_with fail
 refine hrd.mono ?_
 rintro e w1 ⟨rfl,hb1⟩
 have hbw := belowt H.out.1 H.out.1.size hb1
 have hB1 := H.out.2.call hb1
 obtain ⟨y0,y1,y2,y3,y4,y5,y6,y7⟩ := hB1.cells4
 have HB := Lib.hid hbw
 clear hrd hb1 hbw hB1
 go_wp2_with fail
 exact bodyPost_ret (v := .tuple #[.agg #[.slice none 0 0,.bool false,.slice none 0 0,.bool false],.int .i64 20]) (by simp [results,Tryz.results74,go_sem,y0,y1,y2,y3]) rfl ⟨rfl,below_set4 HB.out (by omega)⟩
set_option maxRecDepth 100000 in
set_option maxHeartbeats 2000000 in
theorem combMinus_some (a1 a2 b1 b2 : List UInt8) (x y : Rat) (w : World) (ha : rdF a1 a2 = some x) (hb : rdF b1 b2 = some y) :
 Calls Tryz.prog 74 #[.agg #[.string ⟨a1.toArray⟩,.string ⟨a2.toArray⟩],.agg #[.string ⟨b1.toArray⟩,.string ⟨b2.toArray⟩],.func (.func 76) #[] #[]] w fun e w' => ∃ v,e = .returned (.tuple #[v,.int .i64 0]) ∧ RaV w' v (x - y) ∧ Below w.heap.size w w' := by
 have hb0 : Below w.heap.size w ((((w.alloc (.cells #[.string ⟨a1.toArray⟩,.string ⟨a2.toArray⟩] 24)).alloc (.cells #[.string ⟨b1.toArray⟩,.string ⟨b2.toArray⟩] 24)).alloc (.cells #[.slice none 0 0,.bool false,.slice none 0 0,.bool false] 82)).alloc (.cells #[.string ⟨a1.toArray⟩,.string ⟨a2.toArray⟩,.string ⟨b1.toArray⟩,.string ⟨b2.toArray⟩] 24)) := ((((Below.refl _ _).alloc (Nat.le_refl _) _).alloc (by simp) _).alloc (by simp;omega) _).alloc (by simp;omega) _
 have hB0 : BoxR ((((w.alloc (.cells #[.string ⟨a1.toArray⟩,.string ⟨a2.toArray⟩] 24)).alloc (.cells #[.string ⟨b1.toArray⟩,.string ⟨b2.toArray⟩] 24)).alloc (.cells #[.slice none 0 0,.bool false,.slice none 0 0,.bool false] 82)).alloc (.cells #[.string ⟨a1.toArray⟩,.string ⟨a2.toArray⟩,.string ⟨b1.toArray⟩,.string ⟨b2.toArray⟩] 24)) (w.heap.size + 1 + 1) := (Fr.boxR (Fr.new (by simp))).old
 have hrd := read2_some (w.heap.size + 1 + 1 + 1) a1 a2 b1 b2 x y ((((w.alloc (.cells #[.string ⟨a1.toArray⟩,.string ⟨a2.toArray⟩] 24)).alloc (.cells #[.string ⟨b1.toArray⟩,.string ⟨b2.toArray⟩] 24)).alloc (.cells #[.slice none 0 0,.bool false,.slice none 0 0,.bool false] 82)).alloc (.cells #[.string ⟨a1.toArray⟩,.string ⟨a2.toArray⟩,.string ⟨b1.toArray⟩,.string ⟨b2.toArray⟩] 24)) ha hb (Fr.new (by simp))
 have H := Lib.hid (And.intro (rdF_fz ha) (And.intro (rdF_fz hb) (And.intro hb0 hB0)))
 clear ha hb hb0 hB0
 go_enter Tryz.func74,Tryz.ntmps74
 go_wp2_with fail
 refine hrd.mono ?_
 rintro e w1 ⟨g2,rfl,hL,hb1⟩
 obtain ⟨A1,n1,c1,k1,A2,n2,c2,k2,e0,e1,e2,e3,hv1⟩ := hL.at_ (i := 0) (q := x) rfl
 obtain ⟨A3,n3,c3,k3,A4,n4,c4,k4,f0,f1,f2,f3,hv2⟩ := hL.at_ (i := 1) (q := y) rfl
 simp only [Nat.zero_mul,Nat.one_mul,Nat.zero_add,Nat.reduceAdd] at e0 e1 e2 e3 f0 f1 f2 f3
 have hbw := belowt H.out.2.2.1 H.out.2.2.1.size hb1
 have hB1 := H.out.2.2.2.call hb1
 have hne : w.heap.size + 1 + 1 ≠ g2 := by
  intro e
  obtain ⟨_,_,_,_,_,_,_,_,hf⟩ := H.out.2.2.2
  have h1 := hf.call hb1
  obtain ⟨l,hl,hll,_⟩ := hL
  rw [← e] at hl
  unfold Fr at h1 hl
  rw [h1] at hl
  injection hl with hl
  injection hl with hl _ _
  have := congrArg Array.size hl
  simp [flat_length,hll] at this
 have HO : Hid (∀ W,CrS w x y (w.heap.size + 1 + 1) g2 A1 n1 c1 k1 A2 n2 c2 k2 A3 n3 c3 k3 A4 n4 c4 k4 W → Calls Tryz.prog 76 #[.agg #[.slice A1 n1 c1,.bool k1,.slice A2 n2 c2,.bool k2],.agg #[.slice A3 n3 c3,.bool k3,.slice A4 n4 c4,.bool k4]] W fun e w' => ∃ (Ax : Option Addr) (nx cx : Nat) (kx : Bool) (Ay : Option Addr) (ny cy : Nat) (ky : Bool),e = .returned (.agg #[.slice Ax nx cx,.bool kx,.slice Ay ny cy,.bool ky]) ∧ RaV w' (.agg #[.slice Ax nx cx,.bool kx,.slice Ay ny cy,.bool ky]) (x - y) ∧ Below W.heap.size W w' ∧ CrS w x y (w.heap.size + 1 + 1) g2 A1 n1 c1 k1 A2 n2 c2 k2 A3 n3 c3 k3 A4 n4 c4 k4 w') := Lib.hid (fun W hS => by
  refine (raminus_any _ _ x y 32 32 W ⟨_,_,_,_,_,_,_,_,rfl,hS.1.2.2.1,hS.1.2.2.2.1⟩ ⟨_,_,_,_,_,_,_,_,rfl,hS.1.2.2.2.2.1,hS.1.2.2.2.2.2.1⟩ H.out.1 H.out.2.1 (by unfold maxW;omega)).mono ?_
  rintro e w' ⟨v,he,hv,hb⟩
  obtain ⟨Ax,nx,cx,kx,Ay,ny,cy,ky,rfl,_,_⟩ := hv.open
  exact ⟨Ax,nx,cx,kx,Ay,ny,cy,ky,he,hv,hb,crS_step hS hb⟩)
 have hr1 : SgV w1 (.agg #[.slice A1 n1 c1,.bool k1]) x.num ∧ SgV w1 (.agg #[.slice A2 n2 c2,.bool k2]) (x.den : Int) := by
  obtain ⟨_,_,_,_,_,_,_,_,he,g1,g2'⟩ := hv1
  simp only [Value.agg.injEq,Array.mk.injEq,List.cons.injEq,Value.slice.injEq,Value.bool.injEq,and_true] at he
  obtain ⟨⟨rfl,rfl,rfl⟩,rfl,⟨rfl,rfl,rfl⟩,rfl⟩ := he
  exact ⟨g1,g2'⟩
 have hr2 : SgV w1 (.agg #[.slice A3 n3 c3,.bool k3]) y.num ∧ SgV w1 (.agg #[.slice A4 n4 c4,.bool k4]) (y.den : Int) := by
  obtain ⟨_,_,_,_,_,_,_,_,he,g1,g2'⟩ := hv2
  simp only [Value.agg.injEq,Array.mk.injEq,List.cons.injEq,Value.slice.injEq,Value.bool.injEq,and_true] at he
  obtain ⟨⟨rfl,rfl,rfl⟩,rfl,⟨rfl,rfl,rfl⟩,rfl⟩ := he
  exact ⟨g1,g2'⟩
 have hS1 : CrS w x y (w.heap.size + 1 + 1) g2 A1 n1 c1 k1 A2 n2 c2 k2 A3 n3 c3 k3 A4 n4 c4 k4 w1.drew := ⟨⟨hbw.drew,hB1,hr1.1,hr1.2,hr2.1,hr2.2,by omega,hne⟩,e0,e1,e2,e3,f0,f1,f2,f3⟩
 clear hrd hL hb1 e0 e1 e2 e3 f0 f1 f2 f3 hv1 hv2 hbw hB1 hr1 hr2
 go_wp2_with fail
 go_region_held3 (fun W => (Below w.heap.size w W ∧ BoxR W (w.heap.size + 1 + 1) ∧ SgV W (.agg #[.slice A1 n1 c1,.bool k1]) x.num ∧ SgV W (.agg #[.slice A2 n2 c2,.bool k2]) (x.den : Int) ∧ SgV W (.agg #[.slice A3 n3 c3,.bool k3]) y.num ∧ SgV W (.agg #[.slice A4 n4 c4,.bool k4]) (y.den : Int) ∧ w.heap.size ≤ w.heap.size + 1 + 1 ∧ w.heap.size + 1 + 1 ≠ g2) ∧ W.cell? ⟨g2,0,none⟩ = some (.slice A1 n1 c1) ∧ W.cell? ⟨g2,1,none⟩ = some (.bool k1) ∧ W.cell? ⟨g2,2,none⟩ = some (.slice A2 n2 c2) ∧ W.cell? ⟨g2,3,none⟩ = some (.bool k2) ∧ W.cell? ⟨g2,4,none⟩ = some (.slice A3 n3 c3) ∧ W.cell? ⟨g2,5,none⟩ = some (.bool k3) ∧ W.cell? ⟨g2,6,none⟩ = some (.slice A4 n4 c4) ∧ W.cell? ⟨g2,7,none⟩ = some (.bool k4)) (first | with_reducible assumption | exact ⟨⟨hS1.1.1,hS1.1.2⟩,hS1.2⟩ | (refine crS_store ?_ _ _ _ _ _ _ _ _;with_reducible assumption))
  (first
   | (go_at_call 76;with_reducible refine (HO.out _ ?_).mono ?_;with_reducible assumption;rintro e w5 ⟨A5,n5,c5,k5,A6,n6,c6,k6,rfl,hr5,hb5,hS5⟩;obtain ⟨⟨q0,y0⟩,⟨q1,y1⟩,⟨q2,y2⟩,⟨q3,y3⟩,y4,y5,y6,y7⟩ := hS5.1.2.1.facts))
 go_wp2_with fail
 obtain ⟨_,_,_,_,_,_,_,_,he,g1,g2'⟩ := hr5
 simp only [Value.agg.injEq,Array.mk.injEq,List.cons.injEq,Value.slice.injEq,Value.bool.injEq,and_true] at he
 obtain ⟨⟨rfl,rfl,rfl⟩,rfl,⟨rfl,rfl,rfl⟩,rfl⟩ := he
 exact bodyPost_ret (v := .tuple #[.agg #[.slice A5 n5 c5,.bool k5,.slice A6 n6 c6,.bool k6],.int .i64 0]) (by simp [results,Tryz.results74,go_sem,y0,y1,y2,y3]) rfl ⟨_,rfl,RaV.fin hS5.1.2.1 g1 g2',below_set4 hS5.1.1 (by omega)⟩
set_option maxRecDepth 100000 in
set_option maxHeartbeats 2000000 in
theorem combMinus_none (a1 a2 b1 b2 : List UInt8) (w : World) (h : rdF a1 a2 = none ∨ rdF b1 b2 = none) :
 Calls Tryz.prog 74 #[.agg #[.string ⟨a1.toArray⟩,.string ⟨a2.toArray⟩],.agg #[.string ⟨b1.toArray⟩,.string ⟨b2.toArray⟩],.func (.func 76) #[] #[]] w fun e w' => e = .returned (.tuple #[raNone,.int .i64 20]) ∧ Below w.heap.size w w' := by
 have hb0 : Below w.heap.size w ((((w.alloc (.cells #[.string ⟨a1.toArray⟩,.string ⟨a2.toArray⟩] 24)).alloc (.cells #[.string ⟨b1.toArray⟩,.string ⟨b2.toArray⟩] 24)).alloc (.cells #[.slice none 0 0,.bool false,.slice none 0 0,.bool false] 82)).alloc (.cells #[.string ⟨a1.toArray⟩,.string ⟨a2.toArray⟩,.string ⟨b1.toArray⟩,.string ⟨b2.toArray⟩] 24)) := ((((Below.refl _ _).alloc (Nat.le_refl _) _).alloc (by simp) _).alloc (by simp;omega) _).alloc (by simp;omega) _
 have hB0 : Fr ((((w.alloc (.cells #[.string ⟨a1.toArray⟩,.string ⟨a2.toArray⟩] 24)).alloc (.cells #[.string ⟨b1.toArray⟩,.string ⟨b2.toArray⟩] 24)).alloc (.cells #[.slice none 0 0,.bool false,.slice none 0 0,.bool false] 82)).alloc (.cells #[.string ⟨a1.toArray⟩,.string ⟨a2.toArray⟩,.string ⟨b1.toArray⟩,.string ⟨b2.toArray⟩] 24)) (w.heap.size + 1 + 1) #[.slice none 0 0,.bool false,.slice none 0 0,.bool false] 82 := (Fr.new (by simp)).old
 have hrd := read2_none (w.heap.size + 1 + 1 + 1) a1 a2 b1 b2 ((((w.alloc (.cells #[.string ⟨a1.toArray⟩,.string ⟨a2.toArray⟩] 24)).alloc (.cells #[.string ⟨b1.toArray⟩,.string ⟨b2.toArray⟩] 24)).alloc (.cells #[.slice none 0 0,.bool false,.slice none 0 0,.bool false] 82)).alloc (.cells #[.string ⟨a1.toArray⟩,.string ⟨a2.toArray⟩,.string ⟨b1.toArray⟩,.string ⟨b2.toArray⟩] 24)) h (Fr.new (by simp))
 have H := Lib.hid (And.intro hb0 hB0)
 unfold raNone
 clear h hb0 hB0
 go_enter Tryz.func74,Tryz.ntmps74
 go_wp2_with fail
 refine hrd.mono ?_
 rintro e w1 ⟨rfl,hb1⟩
 have hbw := belowt H.out.1 H.out.1.size hb1
 have hB1 := H.out.2.call hb1
 obtain ⟨y0,y1,y2,y3,y4,y5,y6,y7⟩ := hB1.cells4
 have HB := Lib.hid hbw
 clear hrd hb1 hbw hB1
 go_wp2_with fail
 exact bodyPost_ret (v := .tuple #[.agg #[.slice none 0 0,.bool false,.slice none 0 0,.bool false],.int .i64 20]) (by simp [results,Tryz.results74,go_sem,y0,y1,y2,y3]) rfl ⟨rfl,below_set4 HB.out (by omega)⟩
set_option maxRecDepth 100000 in
set_option maxHeartbeats 2000000 in
theorem combTimes_some (a1 a2 b1 b2 : List UInt8) (x y : Rat) (w : World) (ha : rdF a1 a2 = some x) (hb : rdF b1 b2 = some y) :
 Calls Tryz.prog 74 #[.agg #[.string ⟨a1.toArray⟩,.string ⟨a2.toArray⟩],.agg #[.string ⟨b1.toArray⟩,.string ⟨b2.toArray⟩],.func (.func 77) #[] #[]] w fun e w' => ∃ v,e = .returned (.tuple #[v,.int .i64 0]) ∧ RaV w' v (x * y) ∧ Below w.heap.size w w' := by
 have hb0 : Below w.heap.size w ((((w.alloc (.cells #[.string ⟨a1.toArray⟩,.string ⟨a2.toArray⟩] 24)).alloc (.cells #[.string ⟨b1.toArray⟩,.string ⟨b2.toArray⟩] 24)).alloc (.cells #[.slice none 0 0,.bool false,.slice none 0 0,.bool false] 82)).alloc (.cells #[.string ⟨a1.toArray⟩,.string ⟨a2.toArray⟩,.string ⟨b1.toArray⟩,.string ⟨b2.toArray⟩] 24)) := ((((Below.refl _ _).alloc (Nat.le_refl _) _).alloc (by simp) _).alloc (by simp;omega) _).alloc (by simp;omega) _
 have hB0 : BoxR ((((w.alloc (.cells #[.string ⟨a1.toArray⟩,.string ⟨a2.toArray⟩] 24)).alloc (.cells #[.string ⟨b1.toArray⟩,.string ⟨b2.toArray⟩] 24)).alloc (.cells #[.slice none 0 0,.bool false,.slice none 0 0,.bool false] 82)).alloc (.cells #[.string ⟨a1.toArray⟩,.string ⟨a2.toArray⟩,.string ⟨b1.toArray⟩,.string ⟨b2.toArray⟩] 24)) (w.heap.size + 1 + 1) := (Fr.boxR (Fr.new (by simp))).old
 have hrd := read2_some (w.heap.size + 1 + 1 + 1) a1 a2 b1 b2 x y ((((w.alloc (.cells #[.string ⟨a1.toArray⟩,.string ⟨a2.toArray⟩] 24)).alloc (.cells #[.string ⟨b1.toArray⟩,.string ⟨b2.toArray⟩] 24)).alloc (.cells #[.slice none 0 0,.bool false,.slice none 0 0,.bool false] 82)).alloc (.cells #[.string ⟨a1.toArray⟩,.string ⟨a2.toArray⟩,.string ⟨b1.toArray⟩,.string ⟨b2.toArray⟩] 24)) ha hb (Fr.new (by simp))
 have H := Lib.hid (And.intro (rdF_fz ha) (And.intro (rdF_fz hb) (And.intro hb0 hB0)))
 clear ha hb hb0 hB0
 go_enter Tryz.func74,Tryz.ntmps74
 go_wp2_with fail
 refine hrd.mono ?_
 rintro e w1 ⟨g2,rfl,hL,hb1⟩
 obtain ⟨A1,n1,c1,k1,A2,n2,c2,k2,e0,e1,e2,e3,hv1⟩ := hL.at_ (i := 0) (q := x) rfl
 obtain ⟨A3,n3,c3,k3,A4,n4,c4,k4,f0,f1,f2,f3,hv2⟩ := hL.at_ (i := 1) (q := y) rfl
 simp only [Nat.zero_mul,Nat.one_mul,Nat.zero_add,Nat.reduceAdd] at e0 e1 e2 e3 f0 f1 f2 f3
 have hbw := belowt H.out.2.2.1 H.out.2.2.1.size hb1
 have hB1 := H.out.2.2.2.call hb1
 have hne : w.heap.size + 1 + 1 ≠ g2 := by
  intro e
  obtain ⟨_,_,_,_,_,_,_,_,hf⟩ := H.out.2.2.2
  have h1 := hf.call hb1
  obtain ⟨l,hl,hll,_⟩ := hL
  rw [← e] at hl
  unfold Fr at h1 hl
  rw [h1] at hl
  injection hl with hl
  injection hl with hl _ _
  have := congrArg Array.size hl
  simp [flat_length,hll] at this
 have HO : Hid (∀ W,CrS w x y (w.heap.size + 1 + 1) g2 A1 n1 c1 k1 A2 n2 c2 k2 A3 n3 c3 k3 A4 n4 c4 k4 W → Calls Tryz.prog 77 #[.agg #[.slice A1 n1 c1,.bool k1,.slice A2 n2 c2,.bool k2],.agg #[.slice A3 n3 c3,.bool k3,.slice A4 n4 c4,.bool k4]] W fun e w' => ∃ (Ax : Option Addr) (nx cx : Nat) (kx : Bool) (Ay : Option Addr) (ny cy : Nat) (ky : Bool),e = .returned (.agg #[.slice Ax nx cx,.bool kx,.slice Ay ny cy,.bool ky]) ∧ RaV w' (.agg #[.slice Ax nx cx,.bool kx,.slice Ay ny cy,.bool ky]) (x * y) ∧ Below W.heap.size W w' ∧ CrS w x y (w.heap.size + 1 + 1) g2 A1 n1 c1 k1 A2 n2 c2 k2 A3 n3 c3 k3 A4 n4 c4 k4 w') := Lib.hid (fun W hS => by
  refine (ratimes_any _ _ x y 32 32 W ⟨_,_,_,_,_,_,_,_,rfl,hS.1.2.2.1,hS.1.2.2.2.1⟩ ⟨_,_,_,_,_,_,_,_,rfl,hS.1.2.2.2.2.1,hS.1.2.2.2.2.2.1⟩ H.out.1 H.out.2.1 (by unfold maxW;omega)).mono ?_
  rintro e w' ⟨v,he,hv,hb⟩
  obtain ⟨Ax,nx,cx,kx,Ay,ny,cy,ky,rfl,_,_⟩ := hv.open
  exact ⟨Ax,nx,cx,kx,Ay,ny,cy,ky,he,hv,hb,crS_step hS hb⟩)
 have hr1 : SgV w1 (.agg #[.slice A1 n1 c1,.bool k1]) x.num ∧ SgV w1 (.agg #[.slice A2 n2 c2,.bool k2]) (x.den : Int) := by
  obtain ⟨_,_,_,_,_,_,_,_,he,g1,g2'⟩ := hv1
  simp only [Value.agg.injEq,Array.mk.injEq,List.cons.injEq,Value.slice.injEq,Value.bool.injEq,and_true] at he
  obtain ⟨⟨rfl,rfl,rfl⟩,rfl,⟨rfl,rfl,rfl⟩,rfl⟩ := he
  exact ⟨g1,g2'⟩
 have hr2 : SgV w1 (.agg #[.slice A3 n3 c3,.bool k3]) y.num ∧ SgV w1 (.agg #[.slice A4 n4 c4,.bool k4]) (y.den : Int) := by
  obtain ⟨_,_,_,_,_,_,_,_,he,g1,g2'⟩ := hv2
  simp only [Value.agg.injEq,Array.mk.injEq,List.cons.injEq,Value.slice.injEq,Value.bool.injEq,and_true] at he
  obtain ⟨⟨rfl,rfl,rfl⟩,rfl,⟨rfl,rfl,rfl⟩,rfl⟩ := he
  exact ⟨g1,g2'⟩
 have hS1 : CrS w x y (w.heap.size + 1 + 1) g2 A1 n1 c1 k1 A2 n2 c2 k2 A3 n3 c3 k3 A4 n4 c4 k4 w1.drew := ⟨⟨hbw.drew,hB1,hr1.1,hr1.2,hr2.1,hr2.2,by omega,hne⟩,e0,e1,e2,e3,f0,f1,f2,f3⟩
 clear hrd hL hb1 e0 e1 e2 e3 f0 f1 f2 f3 hv1 hv2 hbw hB1 hr1 hr2
 go_wp2_with fail
 go_region_held3 (fun W => (Below w.heap.size w W ∧ BoxR W (w.heap.size + 1 + 1) ∧ SgV W (.agg #[.slice A1 n1 c1,.bool k1]) x.num ∧ SgV W (.agg #[.slice A2 n2 c2,.bool k2]) (x.den : Int) ∧ SgV W (.agg #[.slice A3 n3 c3,.bool k3]) y.num ∧ SgV W (.agg #[.slice A4 n4 c4,.bool k4]) (y.den : Int) ∧ w.heap.size ≤ w.heap.size + 1 + 1 ∧ w.heap.size + 1 + 1 ≠ g2) ∧ W.cell? ⟨g2,0,none⟩ = some (.slice A1 n1 c1) ∧ W.cell? ⟨g2,1,none⟩ = some (.bool k1) ∧ W.cell? ⟨g2,2,none⟩ = some (.slice A2 n2 c2) ∧ W.cell? ⟨g2,3,none⟩ = some (.bool k2) ∧ W.cell? ⟨g2,4,none⟩ = some (.slice A3 n3 c3) ∧ W.cell? ⟨g2,5,none⟩ = some (.bool k3) ∧ W.cell? ⟨g2,6,none⟩ = some (.slice A4 n4 c4) ∧ W.cell? ⟨g2,7,none⟩ = some (.bool k4)) (first | with_reducible assumption | exact ⟨⟨hS1.1.1,hS1.1.2⟩,hS1.2⟩ | (refine crS_store ?_ _ _ _ _ _ _ _ _;with_reducible assumption))
  (first
   | (go_at_call 77;with_reducible refine (HO.out _ ?_).mono ?_;with_reducible assumption;rintro e w5 ⟨A5,n5,c5,k5,A6,n6,c6,k6,rfl,hr5,hb5,hS5⟩;obtain ⟨⟨q0,y0⟩,⟨q1,y1⟩,⟨q2,y2⟩,⟨q3,y3⟩,y4,y5,y6,y7⟩ := hS5.1.2.1.facts))
 go_wp2_with fail
 obtain ⟨_,_,_,_,_,_,_,_,he,g1,g2'⟩ := hr5
 simp only [Value.agg.injEq,Array.mk.injEq,List.cons.injEq,Value.slice.injEq,Value.bool.injEq,and_true] at he
 obtain ⟨⟨rfl,rfl,rfl⟩,rfl,⟨rfl,rfl,rfl⟩,rfl⟩ := he
 exact bodyPost_ret (v := .tuple #[.agg #[.slice A5 n5 c5,.bool k5,.slice A6 n6 c6,.bool k6],.int .i64 0]) (by simp [results,Tryz.results74,go_sem,y0,y1,y2,y3]) rfl ⟨_,rfl,RaV.fin hS5.1.2.1 g1 g2',below_set4 hS5.1.1 (by omega)⟩
set_option maxRecDepth 100000 in
set_option maxHeartbeats 2000000 in
theorem combTimes_none (a1 a2 b1 b2 : List UInt8) (w : World) (h : rdF a1 a2 = none ∨ rdF b1 b2 = none) :
 Calls Tryz.prog 74 #[.agg #[.string ⟨a1.toArray⟩,.string ⟨a2.toArray⟩],.agg #[.string ⟨b1.toArray⟩,.string ⟨b2.toArray⟩],.func (.func 77) #[] #[]] w fun e w' => e = .returned (.tuple #[raNone,.int .i64 20]) ∧ Below w.heap.size w w' := by
 have hb0 : Below w.heap.size w ((((w.alloc (.cells #[.string ⟨a1.toArray⟩,.string ⟨a2.toArray⟩] 24)).alloc (.cells #[.string ⟨b1.toArray⟩,.string ⟨b2.toArray⟩] 24)).alloc (.cells #[.slice none 0 0,.bool false,.slice none 0 0,.bool false] 82)).alloc (.cells #[.string ⟨a1.toArray⟩,.string ⟨a2.toArray⟩,.string ⟨b1.toArray⟩,.string ⟨b2.toArray⟩] 24)) := ((((Below.refl _ _).alloc (Nat.le_refl _) _).alloc (by simp) _).alloc (by simp;omega) _).alloc (by simp;omega) _
 have hB0 : Fr ((((w.alloc (.cells #[.string ⟨a1.toArray⟩,.string ⟨a2.toArray⟩] 24)).alloc (.cells #[.string ⟨b1.toArray⟩,.string ⟨b2.toArray⟩] 24)).alloc (.cells #[.slice none 0 0,.bool false,.slice none 0 0,.bool false] 82)).alloc (.cells #[.string ⟨a1.toArray⟩,.string ⟨a2.toArray⟩,.string ⟨b1.toArray⟩,.string ⟨b2.toArray⟩] 24)) (w.heap.size + 1 + 1) #[.slice none 0 0,.bool false,.slice none 0 0,.bool false] 82 := (Fr.new (by simp)).old
 have hrd := read2_none (w.heap.size + 1 + 1 + 1) a1 a2 b1 b2 ((((w.alloc (.cells #[.string ⟨a1.toArray⟩,.string ⟨a2.toArray⟩] 24)).alloc (.cells #[.string ⟨b1.toArray⟩,.string ⟨b2.toArray⟩] 24)).alloc (.cells #[.slice none 0 0,.bool false,.slice none 0 0,.bool false] 82)).alloc (.cells #[.string ⟨a1.toArray⟩,.string ⟨a2.toArray⟩,.string ⟨b1.toArray⟩,.string ⟨b2.toArray⟩] 24)) h (Fr.new (by simp))
 have H := Lib.hid (And.intro hb0 hB0)
 unfold raNone
 clear h hb0 hB0
 go_enter Tryz.func74,Tryz.ntmps74
 go_wp2_with fail
 refine hrd.mono ?_
 rintro e w1 ⟨rfl,hb1⟩
 have hbw := belowt H.out.1 H.out.1.size hb1
 have hB1 := H.out.2.call hb1
 obtain ⟨y0,y1,y2,y3,y4,y5,y6,y7⟩ := hB1.cells4
 have HB := Lib.hid hbw
 clear hrd hb1 hbw hB1
 go_wp2_with fail
 exact bodyPost_ret (v := .tuple #[.agg #[.slice none 0 0,.bool false,.slice none 0 0,.bool false],.int .i64 20]) (by simp [results,Tryz.results74,go_sem,y0,y1,y2,y3]) rfl ⟨rfl,below_set4 HB.out (by omega)⟩
end Go.Proofs.YtlfgpmnjnpdkdaaGreatDoor
