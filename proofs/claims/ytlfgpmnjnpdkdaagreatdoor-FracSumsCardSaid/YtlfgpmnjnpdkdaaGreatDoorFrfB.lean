/- Contracts: the reference's fractions: In, Turn, Minus, Plus, Right. -/
import Derived.Test.YtlfgpmnjnpdkdaaGreatDoorFrfA
namespace Go.Proofs.YtlfgpmnjnpdkdaaGreatDoor
open Go.RowKit Vd
attribute [local go_sem ↓] Go.wp_at_zero Go.wp_at_succ
abbrev InS (w : World) (l1 l2 : List UInt8) (W : World) : Prop := (Below w.heap.size w W ∧ BoxQ W (w.heap.size + 1)) ∧ W.cell? ⟨w.heap.size,0,none⟩ = some (.string ⟨l1.toArray⟩) ∧ W.cell? ⟨w.heap.size,1,none⟩ = some (.string ⟨l2.toArray⟩)
theorem inS_step {w : World} {l1 l2 : List UInt8} {W W' : World} (h : InS w l1 l2 W) (hb : Below W.heap.size W W') : InS w l1 l2 W' := by
 obtain ⟨⟨hb0,hB⟩,e0,e1⟩ := h
 exact ⟨⟨belowt hb0 hb0.size hb,hB.call hb⟩,keepc hb e0,keepc hb e1⟩
theorem inS_drew {w : World} {l1 l2 : List UInt8} {W : World} (h : InS w l1 l2 W) : InS w l1 l2 W.drew := by
 obtain ⟨⟨hb0,hB⟩,e0,e1⟩ := h
 exact ⟨⟨hb0.drew,hB⟩,e0,e1⟩
theorem inS_store {w : World} {l1 l2 : List UInt8} {W : World} (h : InS w l1 l2 W) (Ax : Option Addr) (nx cx : Nat) (kx : Bool) (Ay : Option Addr) (ny cy : Nat) (ky : Bool) : InS w l1 l2 (sto4 W (w.heap.size + 1) (.bool kx) (.slice Ax nx cx) (.bool ky) (.slice Ay ny cy)) := by
 obtain ⟨⟨hb0,hB⟩,e0,e1⟩ := h
 exact ⟨⟨below_set4 hb0 (by omega),hB.set4 _ _ _ _ _ _ _ _⟩,(cell_set4 (by omega)).trans e0,(cell_set4 (by omega)).trans e1⟩
theorem inS_start (w : World) (l1 l2 : List UInt8) : InS w l1 l2 (((w.alloc (.cells #[.string ⟨l1.toArray⟩,.string ⟨l2.toArray⟩] 24)).alloc (.cells #[.bool false,.slice none 0 0,.bool false,.slice none 0 0] 90))) := by
 have hb : Below w.heap.size w (((w.alloc (.cells #[.string ⟨l1.toArray⟩,.string ⟨l2.toArray⟩] 24)).alloc (.cells #[.bool false,.slice none 0 0,.bool false,.slice none 0 0] 90))) := ((Below.refl _ _).alloc (Nat.le_refl _) _).alloc (by simp) _
 have r0 : Fr ((w.alloc (.cells #[.string ⟨l1.toArray⟩,.string ⟨l2.toArray⟩] 24)).alloc (.cells #[.bool false,.slice none 0 0,.bool false,.slice none 0 0] 90)) (w.heap.size) #[.string ⟨l1.toArray⟩,.string ⟨l2.toArray⟩] 24 := (Fr.new rfl).old
 have r1 : Fr ((w.alloc (.cells #[.string ⟨l1.toArray⟩,.string ⟨l2.toArray⟩] 24)).alloc (.cells #[.bool false,.slice none 0 0,.bool false,.slice none 0 0] 90)) (w.heap.size + 1) #[.bool false,.slice none 0 0,.bool false,.slice none 0 0] 90 := (Fr.new (by simp))
 obtain ⟨a0,a1,-,-⟩ := r0.cells2
 exact ⟨⟨hb,r1.boxQ⟩,a0,a1⟩
set_option maxRecDepth 100000 in
set_option maxHeartbeats 2000000 in
theorem rin_any (l1 l2 : List UInt8) (q : Rat) (w : World) (h : rdF l1 l2 = some q) :
 Calls Tryz.prog 67 #[.agg #[.string ⟨l1.toArray⟩,.string ⟨l2.toArray⟩]] w fun e w' => ∃ v,e = .returned v ∧ RqV w' v q ∧ Below w.heap.size w w' := by
 obtain ⟨r1,r2⟩ := rdF_some h
 have H1 : Hid (∀ W,InS w l1 l2 W → Calls Tryz.prog 62 #[.string ⟨l1.toArray⟩] W fun e w' => ∃ (A : Option Addr) (n c : Nat) (k : Bool),e = .returned (.agg #[.bool k,.slice A n c]) ∧ PlV w' (.agg #[.bool k,.slice A n c]) (q.num) ∧ Below W.heap.size W w' ∧ InS w l1 l2 w') := Lib.hid (fun W hS => (in_any l1 q.num W r1).mono fun e w' ⟨v,he,hv,hb⟩ => by
  obtain ⟨A,n,c,k,rfl⟩ := hv.open
  exact ⟨A,n,c,k,he,hv,hb,inS_step hS hb⟩)
 have H2 : Hid (∀ W,InS w l1 l2 W → Calls Tryz.prog 62 #[.string ⟨l2.toArray⟩] W fun e w' => ∃ (A : Option Addr) (n c : Nat) (k : Bool),e = .returned (.agg #[.bool k,.slice A n c]) ∧ PlV w' (.agg #[.bool k,.slice A n c]) ((q.den : Int)) ∧ Below W.heap.size W w' ∧ InS w l1 l2 w') := Lib.hid (fun W hS => (in_any l2 (q.den : Int) W r2).mono fun e w' ⟨v,he,hv,hb⟩ => by
  obtain ⟨A,n,c,k,rfl⟩ := hv.open
  exact ⟨A,n,c,k,he,hv,hb,inS_step hS hb⟩)
 have hS0 := inS_start w l1 l2
 have hrb := rt_built
 clear h r1 r2
 go_enter Tryz.func67,Tryz.ntmps67
 go_wp2_with fail
 have hS1 := inS_drew hS0
 clear hS0
 go_region_held3 (fun W => (Below w.heap.size w W ∧ BoxQ W (w.heap.size + 1)) ∧ W.cell? ⟨w.heap.size,0,none⟩ = some (.string ⟨l1.toArray⟩) ∧ W.cell? ⟨w.heap.size,1,none⟩ = some (.string ⟨l2.toArray⟩)) (first | with_reducible assumption | exact ⟨⟨hS1.1.1,hS1.1.2⟩,hS1.2⟩ | (refine inS_store ?_ _ _ _ _ _ _ _ _;with_reducible assumption))
  (first
   | (go_at_call 62;with_reducible refine (H1.out _ ?_).mono ?_;with_reducible assumption;rintro e w3 ⟨A3,n3,c3,k3,rfl,hq3,hb3,hS3⟩)
   | (go_at_call 62;with_reducible refine (H2.out _ ?_).mono ?_;with_reducible assumption;rintro e w4 ⟨A4,n4,c4,k4,rfl,hq4,hb4,hS4⟩;(first | have hq3 := hq3.below hb4 | have hq3 := (PlV.old hq3).below hb4);obtain ⟨⟨q0,y0⟩,⟨q1,y1⟩,⟨q2,y2⟩,⟨q3,y3⟩,y4,y5,y6,y7⟩ := hS4.1.2.facts))
 go_wp2_with fail
 exact bodyPost_ret (v := .agg #[.bool k3,.slice A3 n3 c3,.bool k4,.slice A4 n4 c4]) (by simp [results,Tryz.results67,go_sem,y0,y1,y2,y3]) rfl ⟨_,rfl,RqV.fin hS4.1.2 hq3 hq4,below_set4 hS4.1.1 (by omega)⟩
abbrev TuS (w : World) (A1 : Option Addr) (n1 c1 : Nat) (k1 : Bool) (A2 : Option Addr) (n2 c2 : Nat) (k2 : Bool) (W : World) : Prop := (Below w.heap.size w W ∧ BoxQ W (w.heap.size + 1)) ∧ W.cell? ⟨w.heap.size,0,none⟩ = some (.bool k1) ∧ W.cell? ⟨w.heap.size,1,none⟩ = some (.slice A1 n1 c1) ∧ W.cell? ⟨w.heap.size,2,none⟩ = some (.bool k2) ∧ W.cell? ⟨w.heap.size,3,none⟩ = some (.slice A2 n2 c2)
theorem tuS_step {w : World} {A1 : Option Addr} {n1 c1 : Nat} {k1 : Bool} {A2 : Option Addr} {n2 c2 : Nat} {k2 : Bool} {W W' : World} (h : TuS w A1 n1 c1 k1 A2 n2 c2 k2 W) (hb : Below W.heap.size W W') : TuS w A1 n1 c1 k1 A2 n2 c2 k2 W' := by
 obtain ⟨⟨hb0,hB⟩,e0,e1,e2,e3⟩ := h
 exact ⟨⟨belowt hb0 hb0.size hb,hB.call hb⟩,keepc hb e0,keepc hb e1,keepc hb e2,keepc hb e3⟩
theorem tuS_drew {w : World} {A1 : Option Addr} {n1 c1 : Nat} {k1 : Bool} {A2 : Option Addr} {n2 c2 : Nat} {k2 : Bool} {W : World} (h : TuS w A1 n1 c1 k1 A2 n2 c2 k2 W) : TuS w A1 n1 c1 k1 A2 n2 c2 k2 W.drew := by
 obtain ⟨⟨hb0,hB⟩,e0,e1,e2,e3⟩ := h
 exact ⟨⟨hb0.drew,hB⟩,e0,e1,e2,e3⟩
theorem tuS_store {w : World} {A1 : Option Addr} {n1 c1 : Nat} {k1 : Bool} {A2 : Option Addr} {n2 c2 : Nat} {k2 : Bool} {W : World} (h : TuS w A1 n1 c1 k1 A2 n2 c2 k2 W) (Ax : Option Addr) (nx cx : Nat) (kx : Bool) (Ay : Option Addr) (ny cy : Nat) (ky : Bool) : TuS w A1 n1 c1 k1 A2 n2 c2 k2 (sto4 W (w.heap.size + 1) (.bool kx) (.slice Ax nx cx) (.bool ky) (.slice Ay ny cy)) := by
 obtain ⟨⟨hb0,hB⟩,e0,e1,e2,e3⟩ := h
 exact ⟨⟨below_set4 hb0 (by omega),hB.set4 _ _ _ _ _ _ _ _⟩,(cell_set4 (by omega)).trans e0,(cell_set4 (by omega)).trans e1,(cell_set4 (by omega)).trans e2,(cell_set4 (by omega)).trans e3⟩
theorem tuS_start (w : World) (A1 : Option Addr) (n1 c1 : Nat) (k1 : Bool) (A2 : Option Addr) (n2 c2 : Nat) (k2 : Bool) : TuS w A1 n1 c1 k1 A2 n2 c2 k2 (((w.alloc (.cells #[.bool k1,.slice A1 n1 c1,.bool k2,.slice A2 n2 c2] 90)).alloc (.cells #[.bool false,.slice none 0 0,.bool false,.slice none 0 0] 90))) := by
 have hb : Below w.heap.size w (((w.alloc (.cells #[.bool k1,.slice A1 n1 c1,.bool k2,.slice A2 n2 c2] 90)).alloc (.cells #[.bool false,.slice none 0 0,.bool false,.slice none 0 0] 90))) := ((Below.refl _ _).alloc (Nat.le_refl _) _).alloc (by simp) _
 have r0 : Fr ((w.alloc (.cells #[.bool k1,.slice A1 n1 c1,.bool k2,.slice A2 n2 c2] 90)).alloc (.cells #[.bool false,.slice none 0 0,.bool false,.slice none 0 0] 90)) (w.heap.size) #[.bool k1,.slice A1 n1 c1,.bool k2,.slice A2 n2 c2] 90 := (Fr.new rfl).old
 have r1 : Fr ((w.alloc (.cells #[.bool k1,.slice A1 n1 c1,.bool k2,.slice A2 n2 c2] 90)).alloc (.cells #[.bool false,.slice none 0 0,.bool false,.slice none 0 0] 90)) (w.heap.size + 1) #[.bool false,.slice none 0 0,.bool false,.slice none 0 0] 90 := (Fr.new (by simp))
 obtain ⟨a0,a1,a2,a3,-⟩ := r0.cells4
 exact ⟨⟨hb,r1.boxQ⟩,a0,a1,a2,a3⟩
set_option maxRecDepth 100000 in
set_option maxHeartbeats 2000000 in
theorem rqturn_any (v : Value) (x : Rat) (w : World) (h : RqV w v x) :
 Calls Tryz.prog 85 #[v] w fun e w' => ∃ v,e = .returned v ∧ RqV w' v (-x) ∧ Below w.heap.size w w' := by
 obtain ⟨A1,n1,c1,k1,A2,n2,c2,k2,rfl,g1,g2⟩ := RqV.open h
 have H1 : Hid (∀ W,TuS w A1 n1 c1 k1 A2 n2 c2 k2 W → Calls Tryz.prog 112 #[.agg #[.bool k1,.slice A1 n1 c1]] W fun e w' => ∃ (A : Option Addr) (n c : Nat) (k : Bool),e = .returned (.agg #[.bool k,.slice A n c]) ∧ PlV w' (.agg #[.bool k,.slice A n c]) (-x.num) ∧ Below W.heap.size W w' ∧ TuS w A1 n1 c1 k1 A2 n2 c2 k2 w') := Lib.hid (fun W hS => (turn4_any _ x.num W (g1.below hS.1.1)).mono fun e w' ⟨v,he,hv,hb⟩ => by
  obtain ⟨A,n,c,k,rfl⟩ := hv.open
  exact ⟨A,n,c,k,he,hv,hb,tuS_step hS hb⟩)
 have HD : Hid (∀ W,Below w.heap.size w W → PlV W (.agg #[.bool k2,.slice A2 n2 c2]) ((-x).den : Int)) := Lib.hid (fun W hb => g2.below hb)
 have hS0 := tuS_start w A1 n1 c1 k1 A2 n2 c2 k2
 have hrb := rt_built
 clear h g1 g2
 go_enter Tryz.func85,Tryz.ntmps85
 go_wp2_with fail
 have hS1 := tuS_drew hS0
 clear hS0
 go_region_held3 (fun W => (Below w.heap.size w W ∧ BoxQ W (w.heap.size + 1)) ∧ W.cell? ⟨w.heap.size,0,none⟩ = some (.bool k1) ∧ W.cell? ⟨w.heap.size,1,none⟩ = some (.slice A1 n1 c1) ∧ W.cell? ⟨w.heap.size,2,none⟩ = some (.bool k2) ∧ W.cell? ⟨w.heap.size,3,none⟩ = some (.slice A2 n2 c2)) (first | with_reducible assumption | exact ⟨⟨hS1.1.1,hS1.1.2⟩,hS1.2⟩ | (refine tuS_store ?_ _ _ _ _ _ _ _ _;with_reducible assumption))
  (first
   | (go_at_call 112;with_reducible refine (H1.out _ ?_).mono ?_;with_reducible assumption;rintro e w3 ⟨A3,n3,c3,k3,rfl,hq3,hb3,hS3⟩;obtain ⟨⟨q0,y0⟩,⟨q1,y1⟩,⟨q2,y2⟩,⟨q3,y3⟩,y4,y5,y6,y7⟩ := hS3.1.2.facts))
 go_wp2_with fail
 exact bodyPost_ret (v := .agg #[.bool k3,.slice A3 n3 c3,.bool k2,.slice A2 n2 c2]) (by simp [results,Tryz.results85,go_sem,y0,y1,y2,y3]) rfl ⟨_,rfl,RqV.fin hS3.1.2 hq3 (HD.out _ hS3.1.1),below_set4 hS3.1.1 (by omega)⟩
abbrev PqS (w : World) (g5 : Nat) (A5 : Option Addr) (n5 c5 : Nat) (k5 : Bool) (A1 : Option Addr) (n1 c1 : Nat) (k1 : Bool) (A2 : Option Addr) (n2 c2 : Nat) (k2 : Bool) (A3 : Option Addr) (n3 c3 : Nat) (k3 : Bool) (A4 : Option Addr) (n4 c4 : Nat) (k4 : Bool) (W : World) : Prop := (Below w.heap.size w W ∧ BoxQ W (w.heap.size + 1 + 1) ∧ w.heap.size + 1 + 1 < g5) ∧ W.cell? ⟨w.heap.size,0,none⟩ = some (.bool k1) ∧ W.cell? ⟨w.heap.size,1,none⟩ = some (.slice A1 n1 c1) ∧ W.cell? ⟨w.heap.size,2,none⟩ = some (.bool k2) ∧ W.cell? ⟨w.heap.size,3,none⟩ = some (.slice A2 n2 c2) ∧ W.cell? ⟨w.heap.size + 1,0,none⟩ = some (.bool k3) ∧ W.cell? ⟨w.heap.size + 1,1,none⟩ = some (.slice A3 n3 c3) ∧ W.cell? ⟨w.heap.size + 1,2,none⟩ = some (.bool k4) ∧ W.cell? ⟨w.heap.size + 1,3,none⟩ = some (.slice A4 n4 c4) ∧ W.cell? ⟨g5,0,none⟩ = some (.bool k5) ∧ W.cell? ⟨g5,1,none⟩ = some (.slice A5 n5 c5)
theorem pqS_step {w : World} {g5 : Nat} {A5 : Option Addr} {n5 c5 : Nat} {k5 : Bool} {A1 : Option Addr} {n1 c1 : Nat} {k1 : Bool} {A2 : Option Addr} {n2 c2 : Nat} {k2 : Bool} {A3 : Option Addr} {n3 c3 : Nat} {k3 : Bool} {A4 : Option Addr} {n4 c4 : Nat} {k4 : Bool} {W W' : World} (h : PqS w g5 A5 n5 c5 k5 A1 n1 c1 k1 A2 n2 c2 k2 A3 n3 c3 k3 A4 n4 c4 k4 W) (hb : Below W.heap.size W W') : PqS w g5 A5 n5 c5 k5 A1 n1 c1 k1 A2 n2 c2 k2 A3 n3 c3 k3 A4 n4 c4 k4 W' := by
 obtain ⟨⟨hb0,hB,l0⟩,e0,e1,e2,e3,e4,e5,e6,e7,e8,e9⟩ := h
 exact ⟨⟨belowt hb0 hb0.size hb,hB.call hb,l0⟩,keepc hb e0,keepc hb e1,keepc hb e2,keepc hb e3,keepc hb e4,keepc hb e5,keepc hb e6,keepc hb e7,keepc hb e8,keepc hb e9⟩
theorem pqS_drew {w : World} {g5 : Nat} {A5 : Option Addr} {n5 c5 : Nat} {k5 : Bool} {A1 : Option Addr} {n1 c1 : Nat} {k1 : Bool} {A2 : Option Addr} {n2 c2 : Nat} {k2 : Bool} {A3 : Option Addr} {n3 c3 : Nat} {k3 : Bool} {A4 : Option Addr} {n4 c4 : Nat} {k4 : Bool} {W : World} (h : PqS w g5 A5 n5 c5 k5 A1 n1 c1 k1 A2 n2 c2 k2 A3 n3 c3 k3 A4 n4 c4 k4 W) : PqS w g5 A5 n5 c5 k5 A1 n1 c1 k1 A2 n2 c2 k2 A3 n3 c3 k3 A4 n4 c4 k4 W.drew := by
 obtain ⟨⟨hb0,hB,l0⟩,e0,e1,e2,e3,e4,e5,e6,e7,e8,e9⟩ := h
 exact ⟨⟨hb0.drew,hB,l0⟩,e0,e1,e2,e3,e4,e5,e6,e7,e8,e9⟩
theorem pqS_store {w : World} {g5 : Nat} {A5 : Option Addr} {n5 c5 : Nat} {k5 : Bool} {A1 : Option Addr} {n1 c1 : Nat} {k1 : Bool} {A2 : Option Addr} {n2 c2 : Nat} {k2 : Bool} {A3 : Option Addr} {n3 c3 : Nat} {k3 : Bool} {A4 : Option Addr} {n4 c4 : Nat} {k4 : Bool} {W : World} (h : PqS w g5 A5 n5 c5 k5 A1 n1 c1 k1 A2 n2 c2 k2 A3 n3 c3 k3 A4 n4 c4 k4 W) (Ax : Option Addr) (nx cx : Nat) (kx : Bool) (Ay : Option Addr) (ny cy : Nat) (ky : Bool) : PqS w g5 A5 n5 c5 k5 A1 n1 c1 k1 A2 n2 c2 k2 A3 n3 c3 k3 A4 n4 c4 k4 (sto4 W (w.heap.size + 1 + 1) (.bool kx) (.slice Ax nx cx) (.bool ky) (.slice Ay ny cy)) := by
 obtain ⟨⟨hb0,hB,l0⟩,e0,e1,e2,e3,e4,e5,e6,e7,e8,e9⟩ := h
 exact ⟨⟨below_set4 hb0 (by omega),hB.set4 _ _ _ _ _ _ _ _,l0⟩,(cell_set4 (by omega)).trans e0,(cell_set4 (by omega)).trans e1,(cell_set4 (by omega)).trans e2,(cell_set4 (by omega)).trans e3,(cell_set4 (by omega)).trans e4,(cell_set4 (by omega)).trans e5,(cell_set4 (by omega)).trans e6,(cell_set4 (by omega)).trans e7,(cell_set4 (by omega)).trans e8,(cell_set4 (by omega)).trans e9⟩
set_option maxRecDepth 100000 in
set_option maxHeartbeats 4000000 in
theorem rqplus_any (v1 v2 : Value) (x y : Rat) (K L : Nat) (w : World) (h1 : RqV w v1 x) (h2 : RqV w v2 y) (hx : Gz x K) (hy : Gz y L) (hK : K + L + 4 ≤ 900000) :
 Calls Tryz.prog 79 #[v1,v2] w fun e w' => ∃ v,e = .returned v ∧ RqV w' v (x + y) ∧ Below w.heap.size w w' := by
 obtain ⟨A1,n1,c1,k1,A2,n2,c2,k2,rfl,g1,g2⟩ := RqV.open h1
 obtain ⟨A3,n3,c3,k3,A4,n4,c4,k4,rfl,g3,g4⟩ := RqV.open h2
 obtain ⟨V,hV⟩ : ∃ V,V = (((w.alloc (.cells #[.bool k1,.slice A1 n1 c1,.bool k2,.slice A2 n2 c2] 90)).alloc (.cells #[.bool k3,.slice A3 n3 c3,.bool k4,.slice A4 n4 c4] 90)).alloc (.cells #[.bool false,.slice none 0 0,.bool false,.slice none 0 0] 90)) := ⟨_,rfl⟩
 have hb0 : Below w.heap.size w V := by rw [hV];exact (((Below.refl _ _).alloc (Nat.le_refl _) _).alloc (by simp) _).alloc (by simp;omega) _
 have r0 : Fr V (w.heap.size) #[.bool k1,.slice A1 n1 c1,.bool k2,.slice A2 n2 c2] 90 := by rw [hV];exact (Fr.new rfl).old.old
 have r1 : Fr V (w.heap.size + 1) #[.bool k3,.slice A3 n3 c3,.bool k4,.slice A4 n4 c4] 90 := by rw [hV];exact (Fr.new (by simp)).old
 have r2 : Fr V (w.heap.size + 1 + 1) #[.bool false,.slice none 0 0,.bool false,.slice none 0 0] 90 := by rw [hV];exact Fr.new (by simp)
 obtain ⟨a0,a1,a2,a3,-⟩ := r0.cells4
 obtain ⟨b0,b1,b2,b3,-⟩ := r1.cells4
 obtain ⟨d1,hd1⟩ : ∃ d : Int,d = x.num * (y.den : Int) := ⟨_,rfl⟩
 obtain ⟨d2,hd2⟩ : ∃ d : Int,d = y.num * (x.den : Int) := ⟨_,rfl⟩
 obtain ⟨d3,hd3⟩ : ∃ d : Int,d = (x.den : Int) * (y.den : Int) := ⟨_,rfl⟩
 have w1 : wlen B4 d1.natAbs ≤ 900000 := by rw [hd1];have a := hx.1;have b := gz_den hy;have := wl4_mulZ x.num (y.den : Int);omega
 have w2 : wlen B4 d2.natAbs ≤ 900000 := by rw [hd2];have a := hy.1;have b := gz_den hx;have := wl4_mulZ y.num (x.den : Int);omega
 have w3 : wlen B4 d3.natAbs ≤ 1000000 := by rw [hd3];have a := gz_den hx;have b := gz_den hy;have := wl4_mulZ (x.den : Int) (y.den : Int);omega
 have w4 : wlen B4 (d1 + d2).natAbs ≤ 1000000 := by
  refine Nat.le_trans (wlen_mono two_le_B4 (Int.natAbs_add_le d1 d2)) ?_
  have := wlen_add two_le_B4 d1.natAbs d2.natAbs
  omega
 have hne : d3 ≠ 0 := by rw [hd3];exact Int.mul_ne_zero (by have := x.den_pos;omega) (by have := y.den_pos;omega)
 have hsum : Rat.divInt (d1 + d2) d3 = x + y := by rw [hd1,hd2,hd3];exact add_divInt x y
 have hK1 : ∀ W,Below V.heap.size V W → Below V.heap.size V W ∧ W.cell? ⟨w.heap.size,0,none⟩ = some (.bool k1) ∧ W.cell? ⟨w.heap.size,1,none⟩ = some (.slice A1 n1 c1) ∧ W.cell? ⟨w.heap.size,2,none⟩ = some (.bool k2) ∧ W.cell? ⟨w.heap.size,3,none⟩ = some (.slice A2 n2 c2) ∧ W.cell? ⟨w.heap.size + 1,0,none⟩ = some (.bool k3) ∧ W.cell? ⟨w.heap.size + 1,1,none⟩ = some (.slice A3 n3 c3) ∧ W.cell? ⟨w.heap.size + 1,2,none⟩ = some (.bool k4) ∧ W.cell? ⟨w.heap.size + 1,3,none⟩ = some (.slice A4 n4 c4) := fun W hb => ⟨hb,keepc hb a0,keepc hb a1,keepc hb a2,keepc hb a3,keepc hb b0,keepc hb b1,keepc hb b2,keepc hb b3⟩
 have H1 : Hid (∀ W,Below V.heap.size V W ∧ W.cell? ⟨w.heap.size,0,none⟩ = some (.bool k1) ∧ W.cell? ⟨w.heap.size,1,none⟩ = some (.slice A1 n1 c1) ∧ W.cell? ⟨w.heap.size,2,none⟩ = some (.bool k2) ∧ W.cell? ⟨w.heap.size,3,none⟩ = some (.slice A2 n2 c2) ∧ W.cell? ⟨w.heap.size + 1,0,none⟩ = some (.bool k3) ∧ W.cell? ⟨w.heap.size + 1,1,none⟩ = some (.slice A3 n3 c3) ∧ W.cell? ⟨w.heap.size + 1,2,none⟩ = some (.bool k4) ∧ W.cell? ⟨w.heap.size + 1,3,none⟩ = some (.slice A4 n4 c4) → Calls Tryz.prog 119 #[.agg #[.bool k1,.slice A1 n1 c1],.agg #[.bool k4,.slice A4 n4 c4]] W fun e w' => ∃ (A : Option Addr) (n c : Nat) (k : Bool),e = .returned (.agg #[.bool k,.slice A n c]) ∧ PlV w' (.agg #[.bool k,.slice A n c]) (d1) ∧ Below W.heap.size W w' ∧ Below V.heap.size V w' ∧ w'.cell? ⟨w.heap.size,0,none⟩ = some (.bool k1) ∧ w'.cell? ⟨w.heap.size,1,none⟩ = some (.slice A1 n1 c1) ∧ w'.cell? ⟨w.heap.size,2,none⟩ = some (.bool k2) ∧ w'.cell? ⟨w.heap.size,3,none⟩ = some (.slice A2 n2 c2) ∧ w'.cell? ⟨w.heap.size + 1,0,none⟩ = some (.bool k3) ∧ w'.cell? ⟨w.heap.size + 1,1,none⟩ = some (.slice A3 n3 c3) ∧ w'.cell? ⟨w.heap.size + 1,2,none⟩ = some (.bool k4) ∧ w'.cell? ⟨w.heap.size + 1,3,none⟩ = some (.slice A4 n4 c4)) := Lib.hid (fun W hS => (hd1 ▸ times4_any _ _ x.num (y.den : Int) W (g1.below (belowt hb0 hb0.size hS.1)) (g4.below (belowt hb0 hb0.size hS.1)) (Nat.le_trans hx.1 (by omega)) (Nat.le_trans (gz_den hy) (by omega))).mono fun e w' ⟨v,he,hv,hb⟩ => by
  obtain ⟨A,n,c,k,rfl⟩ := hv.open
  exact ⟨A,n,c,k,he,hv,hb,hK1 _ (hS.1.trans (hb.mono hS.1.size))⟩)
 have H2 : Hid (∀ W,Below V.heap.size V W ∧ W.cell? ⟨w.heap.size,0,none⟩ = some (.bool k1) ∧ W.cell? ⟨w.heap.size,1,none⟩ = some (.slice A1 n1 c1) ∧ W.cell? ⟨w.heap.size,2,none⟩ = some (.bool k2) ∧ W.cell? ⟨w.heap.size,3,none⟩ = some (.slice A2 n2 c2) ∧ W.cell? ⟨w.heap.size + 1,0,none⟩ = some (.bool k3) ∧ W.cell? ⟨w.heap.size + 1,1,none⟩ = some (.slice A3 n3 c3) ∧ W.cell? ⟨w.heap.size + 1,2,none⟩ = some (.bool k4) ∧ W.cell? ⟨w.heap.size + 1,3,none⟩ = some (.slice A4 n4 c4) → Calls Tryz.prog 119 #[.agg #[.bool k3,.slice A3 n3 c3],.agg #[.bool k2,.slice A2 n2 c2]] W fun e w' => ∃ (A : Option Addr) (n c : Nat) (k : Bool),e = .returned (.agg #[.bool k,.slice A n c]) ∧ PlV w' (.agg #[.bool k,.slice A n c]) (d2) ∧ Below W.heap.size W w' ∧ Below V.heap.size V w' ∧ w'.cell? ⟨w.heap.size,0,none⟩ = some (.bool k1) ∧ w'.cell? ⟨w.heap.size,1,none⟩ = some (.slice A1 n1 c1) ∧ w'.cell? ⟨w.heap.size,2,none⟩ = some (.bool k2) ∧ w'.cell? ⟨w.heap.size,3,none⟩ = some (.slice A2 n2 c2) ∧ w'.cell? ⟨w.heap.size + 1,0,none⟩ = some (.bool k3) ∧ w'.cell? ⟨w.heap.size + 1,1,none⟩ = some (.slice A3 n3 c3) ∧ w'.cell? ⟨w.heap.size + 1,2,none⟩ = some (.bool k4) ∧ w'.cell? ⟨w.heap.size + 1,3,none⟩ = some (.slice A4 n4 c4)) := Lib.hid (fun W hS => (hd2 ▸ times4_any _ _ y.num (x.den : Int) W (g3.below (belowt hb0 hb0.size hS.1)) (g2.below (belowt hb0 hb0.size hS.1)) (Nat.le_trans hy.1 (by omega)) (Nat.le_trans (gz_den hx) (by omega))).mono fun e w' ⟨v,he,hv,hb⟩ => by
  obtain ⟨A,n,c,k,rfl⟩ := hv.open
  exact ⟨A,n,c,k,he,hv,hb,hK1 _ (hS.1.trans (hb.mono hS.1.size))⟩)
 have H3 : Hid (∀ W u z,PlV W u (d1) → PlV W z (d2) → Below V.heap.size V W ∧ W.cell? ⟨w.heap.size,0,none⟩ = some (.bool k1) ∧ W.cell? ⟨w.heap.size,1,none⟩ = some (.slice A1 n1 c1) ∧ W.cell? ⟨w.heap.size,2,none⟩ = some (.bool k2) ∧ W.cell? ⟨w.heap.size,3,none⟩ = some (.slice A2 n2 c2) ∧ W.cell? ⟨w.heap.size + 1,0,none⟩ = some (.bool k3) ∧ W.cell? ⟨w.heap.size + 1,1,none⟩ = some (.slice A3 n3 c3) ∧ W.cell? ⟨w.heap.size + 1,2,none⟩ = some (.bool k4) ∧ W.cell? ⟨w.heap.size + 1,3,none⟩ = some (.slice A4 n4 c4) → Calls Tryz.prog 124 #[u,z] W fun e w' => ∃ (A : Option Addr) (n c : Nat) (k : Bool),e = .returned (.agg #[.bool k,.slice A n c]) ∧ PlV w' (.agg #[.bool k,.slice A n c]) (d1 + d2) ∧ Below W.heap.size W w' ∧ Below V.heap.size V w' ∧ w'.cell? ⟨w.heap.size,0,none⟩ = some (.bool k1) ∧ w'.cell? ⟨w.heap.size,1,none⟩ = some (.slice A1 n1 c1) ∧ w'.cell? ⟨w.heap.size,2,none⟩ = some (.bool k2) ∧ w'.cell? ⟨w.heap.size,3,none⟩ = some (.slice A2 n2 c2) ∧ w'.cell? ⟨w.heap.size + 1,0,none⟩ = some (.bool k3) ∧ w'.cell? ⟨w.heap.size + 1,1,none⟩ = some (.slice A3 n3 c3) ∧ w'.cell? ⟨w.heap.size + 1,2,none⟩ = some (.bool k4) ∧ w'.cell? ⟨w.heap.size + 1,3,none⟩ = some (.slice A4 n4 c4)) := Lib.hid (fun W u z hu hz hS => (plus4_any u z d1 d2 W hu hz (by omega) (by omega)).mono fun e w' ⟨v,he,hv,hb⟩ => by
  obtain ⟨A,n,c,k,rfl⟩ := hv.open
  exact ⟨A,n,c,k,he,hv,hb,hK1 _ (hS.1.trans (hb.mono hS.1.size))⟩)
 have H4 : Hid (∀ (g5 : Nat) (A5 : Option Addr) (n5 c5 : Nat) (k5 : Bool) W,PqS w g5 A5 n5 c5 k5 A1 n1 c1 k1 A2 n2 c2 k2 A3 n3 c3 k3 A4 n4 c4 k4 W → Calls Tryz.prog 119 #[.agg #[.bool k2,.slice A2 n2 c2],.agg #[.bool k4,.slice A4 n4 c4]] W fun e w' => ∃ (A : Option Addr) (n c : Nat) (k : Bool),e = .returned (.agg #[.bool k,.slice A n c]) ∧ PlV w' (.agg #[.bool k,.slice A n c]) (d3) ∧ Below W.heap.size W w' ∧ PqS w g5 A5 n5 c5 k5 A1 n1 c1 k1 A2 n2 c2 k2 A3 n3 c3 k3 A4 n4 c4 k4 w') := Lib.hid (fun g5 A5 n5 c5 k5 W hS => (hd3 ▸ times4_any _ _ (x.den : Int) (y.den : Int) W (g2.below hS.1.1) (g4.below hS.1.1) (Nat.le_trans (gz_den hx) (by omega)) (Nat.le_trans (gz_den hy) (by omega))).mono fun e w' ⟨v,he,hv,hb⟩ => by
  obtain ⟨A,n,c,k,rfl⟩ := hv.open
  exact ⟨A,n,c,k,he,hv,hb,pqS_step hS hb⟩)
 have H5 : Hid (∀ (g5 : Nat) (A5 : Option Addr) (n5 c5 : Nat) (k5 : Bool) W u z,PlV W u (d1 + d2) → PlV W z d3 → PqS w g5 A5 n5 c5 k5 A1 n1 c1 k1 A2 n2 c2 k2 A3 n3 c3 k3 A4 n4 c4 k4 W → Calls Tryz.prog 61 #[u,z] W fun e w' => ∃ (A : Option Addr) (n c : Nat) (k : Bool) (A' : Option Addr) (n' c' : Nat) (k' : Bool),e = .returned (.agg #[.bool k,.slice A n c,.bool k',.slice A' n' c']) ∧ PlV w' (.agg #[.bool k,.slice A n c]) (x + y).num ∧ PlV w' (.agg #[.bool k',.slice A' n' c']) ((x + y).den : Int) ∧ PqS w g5 A5 n5 c5 k5 A1 n1 c1 k1 A2 n2 c2 k2 A3 n3 c3 k3 A4 n4 c4 k4 w') := Lib.hid (fun g5 A5 n5 c5 k5 W u z hu hz hS => by
  refine (rlow_any u z _ _ W hu hz w4 w3 hne).mono ?_
  rintro e w' ⟨r,he,⟨k,A,n,c,k',A',n',c',rfl,g1,g2⟩,hb⟩
  rw [hsum] at g1 g2
  exact ⟨A,n,c,k,A',n',c',k',he,g1,g2,pqS_step hS hb⟩)
 have H := Lib.hid (And.intro hb0 (And.intro r0 (And.intro r1 r2)))
 clear h1 h2 hx hy hK g1 g2 g3 g4 hd1 hd2 hd3 w1 w2 w3 w4 hne hsum r0 r1 r2 a0 a1 a2 a3 b0 b1 b2 b3
 go_enter Tryz.func79,Tryz.ntmps79
 go_upto_region 1 with fail
 rw [← hV]
 clear hV
 go_cut [5] (fun s5 wx => ∃ (g5 : Nat) (A5 : Option Addr) (n5 c5 : Nat) (k5 : Bool),s5 = .pointer (some ⟨g5,0,none⟩) ∧ V.heap.size ≤ g5 ∧ Fr wx g5 #[.bool k5,.slice A5 n5 c5] 88 ∧ PlV wx (.agg #[.bool k5,.slice A5 n5 c5]) (d1 + d2) ∧ Below V.heap.size V wx)
 case first =>
  go_region_held3 (fun W => Below V.heap.size V W ∧ W.cell? ⟨w.heap.size,0,none⟩ = some (.bool k1) ∧ W.cell? ⟨w.heap.size,1,none⟩ = some (.slice A1 n1 c1) ∧ W.cell? ⟨w.heap.size,2,none⟩ = some (.bool k2) ∧ W.cell? ⟨w.heap.size,3,none⟩ = some (.slice A2 n2 c2) ∧ W.cell? ⟨w.heap.size + 1,0,none⟩ = some (.bool k3) ∧ W.cell? ⟨w.heap.size + 1,1,none⟩ = some (.slice A3 n3 c3) ∧ W.cell? ⟨w.heap.size + 1,2,none⟩ = some (.bool k4) ∧ W.cell? ⟨w.heap.size + 1,3,none⟩ = some (.slice A4 n4 c4))
   (first | with_reducible assumption | (refine hK1 _ ?_;(repeat (first | with_reducible assumption | with_reducible exact Below.refl _ _ | with_reducible refine Below.drew ?_ | with_reducible refine Below.alloc ?_ (by first | omega | (simp;done) | (simp;omega)) _ | with_reducible refine Below.setCell ?_ (by first | (simp;done) | (simp;omega) | omega) _))))
   (first
    | (go_at_call 119;with_reducible refine (H1.out _ ?_).mono ?_;with_reducible assumption;rintro e w11 ⟨A11,n11,c11,k11,rfl,hq11,hb11,hS11⟩;have hB11 := hS11.1;have hs11 := hB11.size;have hz11 := hb11.size;(try simp at hz11);obtain ⟨hk111,hk112⟩ := kept2 hb11;(try (have e1100 := hk111 (V.heap.size) 0 ?se1100;case se1100 => (first | omega | (simp;done) | (simp;omega))));(try (have f1100 := hk112 (V.heap.size) 0 ?sf1100;case sf1100 => (first | omega | (simp;done) | (simp;omega))));(try (have e1101 := hk111 (V.heap.size) 1 ?se1101;case se1101 => (first | omega | (simp;done) | (simp;omega))));(try (have f1101 := hk112 (V.heap.size) 1 ?sf1101;case sf1101 => (first | omega | (simp;done) | (simp;omega))));(try (have c110 : V.heap.size < w11.heap.size := ?sc110;case sc110 => omega));(try (have d110 := Nat.ne_of_lt c110));clear hk111 hk112)
    | (go_at_call 119;with_reducible refine (H2.out _ ?_).mono ?_;with_reducible assumption;rintro e w12 ⟨A12,n12,c12,k12,rfl,hq12,hb12,hS12⟩;(first | have hq11 := hq11.below hb12 | have hq11 := (PlV.old hq11).below hb12);have hB12 := hS12.1;have hs12 := hB12.size;have hz12 := hb12.size;(try simp at hz12);obtain ⟨hk121,hk122⟩ := kept2 hb12;(try (have e1200 := hk121 (V.heap.size) 0 ?se1200;case se1200 => (first | omega | (simp;done) | (simp;omega))));(try (have f1200 := hk122 (V.heap.size) 0 ?sf1200;case sf1200 => (first | omega | (simp;done) | (simp;omega))));(try (have e1201 := hk121 (V.heap.size) 1 ?se1201;case se1201 => (first | omega | (simp;done) | (simp;omega))));(try (have f1201 := hk122 (V.heap.size) 1 ?sf1201;case sf1201 => (first | omega | (simp;done) | (simp;omega))));(try (have c120 : V.heap.size < w12.heap.size := ?sc120;case sc120 => omega));(try (have d120 := Nat.ne_of_lt c120));(try (have e1210 := hk121 (w11.heap.size) 0 ?se1210;case se1210 => (first | omega | (simp;done) | (simp;omega))));(try (have f1210 := hk122 (w11.heap.size) 0 ?sf1210;case sf1210 => (first | omega | (simp;done) | (simp;omega))));(try (have e1211 := hk121 (w11.heap.size) 1 ?se1211;case se1211 => (first | omega | (simp;done) | (simp;omega))));(try (have f1211 := hk122 (w11.heap.size) 1 ?sf1211;case sf1211 => (first | omega | (simp;done) | (simp;omega))));(try (have c121 : w11.heap.size < w12.heap.size := ?sc121;case sc121 => omega));(try (have d121 := Nat.ne_of_lt c121));clear hk121 hk122)
    | (go_at_call 124;with_reducible refine (H3.out _ _ _ ?_ ?_ ?_).mono ?_;(first | with_reducible assumption | (with_reducible refine PlV.old ?_;with_reducible assumption));(first | with_reducible assumption | (with_reducible refine PlV.old ?_;with_reducible assumption));with_reducible assumption;rintro e w13 ⟨A13,n13,c13,k13,rfl,hq13,hb13,hS13⟩;have hB13 := hS13.1;have hs13 := hB13.size;have hz13 := hb13.size;(try simp at hz13);obtain ⟨hk131,hk132⟩ := kept2 hb13;(try (have e1300 := hk131 (V.heap.size) 0 ?se1300;case se1300 => (first | omega | (simp;done) | (simp;omega))));(try (have f1300 := hk132 (V.heap.size) 0 ?sf1300;case sf1300 => (first | omega | (simp;done) | (simp;omega))));(try (have e1301 := hk131 (V.heap.size) 1 ?se1301;case se1301 => (first | omega | (simp;done) | (simp;omega))));(try (have f1301 := hk132 (V.heap.size) 1 ?sf1301;case sf1301 => (first | omega | (simp;done) | (simp;omega))));(try (have c130 : V.heap.size < w13.heap.size := ?sc130;case sc130 => omega));(try (have d130 := Nat.ne_of_lt c130));(try (have e1310 := hk131 (w11.heap.size) 0 ?se1310;case se1310 => (first | omega | (simp;done) | (simp;omega))));(try (have f1310 := hk132 (w11.heap.size) 0 ?sf1310;case sf1310 => (first | omega | (simp;done) | (simp;omega))));(try (have e1311 := hk131 (w11.heap.size) 1 ?se1311;case se1311 => (first | omega | (simp;done) | (simp;omega))));(try (have f1311 := hk132 (w11.heap.size) 1 ?sf1311;case sf1311 => (first | omega | (simp;done) | (simp;omega))));(try (have c131 : w11.heap.size < w13.heap.size := ?sc131;case sc131 => omega));(try (have d131 := Nat.ne_of_lt c131));(try (have e1320 := hk131 (w12.heap.size) 0 ?se1320;case se1320 => (first | omega | (simp;done) | (simp;omega))));(try (have f1320 := hk132 (w12.heap.size) 0 ?sf1320;case sf1320 => (first | omega | (simp;done) | (simp;omega))));(try (have e1321 := hk131 (w12.heap.size) 1 ?se1321;case se1321 => (first | omega | (simp;done) | (simp;omega))));(try (have f1321 := hk132 (w12.heap.size) 1 ?sf1321;case sf1321 => (first | omega | (simp;done) | (simp;omega))));(try (have c132 : w12.heap.size < w13.heap.size := ?sc132;case sc132 => omega));(try (have d132 := Nat.ne_of_lt c132));clear hk131 hk132))
  all_goals
   go_wp2_with fail
   go_meet
   refine ⟨_,A13,n13,c13,k13,rfl,?_,?_,?_,?_⟩
   all_goals (first
    | omega
    | (simp;done)
    | (repeat (first
      | (with_reducible refine Fr.new ?_;focus (first | rfl | (simp;done) | omega | (simp;omega))) | (with_reducible refine Fr.fillP ?_) | (with_reducible refine Fr.old ?_) | (with_reducible refine Fr.drew ?_) | (with_reducible refine Fr.call hb13 ?_) | (with_reducible refine Fr.call hb12 ?_) | (with_reducible refine Fr.call hb11 ?_))
       done)
    | (repeat (first | with_reducible assumption | (with_reducible refine PlV.old ?_) | (with_reducible refine PlV.fillP ?_ ?_) | (with_reducible refine PlV.drewB ?_) | (with_reducible refine Fr.new ?_;focus (first | rfl | (simp;done) | omega | (simp;omega))) | (with_reducible refine Fr.old ?_) | (with_reducible refine Fr.drew ?_) | (with_reducible refine Fr.call hb13 ?_) | (with_reducible refine Fr.call hb12 ?_) | (with_reducible refine Fr.call hb11 ?_))
       done)
    | (repeat (first | with_reducible assumption | with_reducible refine Below.drew ?_ | with_reducible refine Below.alloc ?_ (by first | omega | (simp;done) | (simp;omega)) _ | with_reducible refine Below.setCell ?_ (by first | (simp;done) | (simp;omega) | omega) _)
       done))
 case rest =>
  rename World => wq
  obtain ⟨g5,A5,n5,c5,k5,rfl,l5,F5,p5,hbw⟩ := hcut
  have hS0 : PqS w g5 A5 n5 c5 k5 A1 n1 c1 k1 A2 n2 c2 k2 A3 n3 c3 k3 A4 n4 c4 k4 wq := by
   obtain ⟨a0,a1,a2,a3,-⟩ := (H.out.2.1.call hbw).cells4
   obtain ⟨b0,b1,b2,b3,-⟩ := (H.out.2.2.1.call hbw).cells4
   obtain ⟨e0,e1,-,-⟩ := F5.cells2
   exact ⟨⟨belowt H.out.1 H.out.1.size hbw,(H.out.2.2.2.call hbw).boxQ,Nat.lt_of_lt_of_le H.out.2.2.2.lt l5⟩,a0,a1,a2,a3,b0,b1,b2,b3,e0,e1⟩
  have hq5 := PlV.drewB p5
  have H4' := H4.out g5 A5 n5 c5 k5
  have H5' := H5.out g5 A5 n5 c5 k5
  have G4 := Lib.hid H4'
  have G5 := Lib.hid H5'
  have hrb := rt_built
  clear H1 H2 H3 H4 H5 H4' H5' hK1 F5 p5 hbw l5
  go_wp2_with fail
  have hS1 := pqS_drew hS0
  clear hS0
  go_region_held3 (fun W => (Below w.heap.size w W ∧ BoxQ W (w.heap.size + 1 + 1) ∧ w.heap.size + 1 + 1 < g5) ∧ W.cell? ⟨w.heap.size,0,none⟩ = some (.bool k1) ∧ W.cell? ⟨w.heap.size,1,none⟩ = some (.slice A1 n1 c1) ∧ W.cell? ⟨w.heap.size,2,none⟩ = some (.bool k2) ∧ W.cell? ⟨w.heap.size,3,none⟩ = some (.slice A2 n2 c2) ∧ W.cell? ⟨w.heap.size + 1,0,none⟩ = some (.bool k3) ∧ W.cell? ⟨w.heap.size + 1,1,none⟩ = some (.slice A3 n3 c3) ∧ W.cell? ⟨w.heap.size + 1,2,none⟩ = some (.bool k4) ∧ W.cell? ⟨w.heap.size + 1,3,none⟩ = some (.slice A4 n4 c4) ∧ W.cell? ⟨g5,0,none⟩ = some (.bool k5) ∧ W.cell? ⟨g5,1,none⟩ = some (.slice A5 n5 c5)) (first | with_reducible assumption | exact ⟨⟨hS1.1.1,hS1.1.2.1,hS1.1.2.2⟩,hS1.2⟩ | (refine pqS_store ?_ _ _ _ _ _ _ _ _;with_reducible assumption))
   (first
   | (go_at_call 119;with_reducible refine (G4.out _ ?_).mono ?_;with_reducible assumption;rintro e w14 ⟨A14,n14,c14,k14,rfl,hq14,hb14,hS14⟩;have hq15 := hq5.below hb14)
   | (go_at_call 61;with_reducible refine (G5.out _ _ _ ?_ ?_ ?_).mono ?_;with_reducible assumption;with_reducible assumption;with_reducible assumption;rintro e w16 ⟨A16,n16,c16,k16,A17,n17,c17,k17,rfl,hq16,hq17,hS16⟩;obtain ⟨⟨q0,y0⟩,⟨q1,y1⟩,⟨q2,y2⟩,⟨q3,y3⟩,y4,y5,y6,y7⟩ := hS16.1.2.1.facts))
  go_wp2_with fail
  exact bodyPost_ret (v := .agg #[.bool k16,.slice A16 n16 c16,.bool k17,.slice A17 n17 c17]) (by simp [results,Tryz.results79,go_sem,y0,y1,y2,y3]) rfl ⟨_,rfl,RqV.fin hS16.1.2.1 hq16 hq17,below_set4 hS16.1.1 (by omega)⟩
set_option maxRecDepth 100000 in
set_option maxHeartbeats 2000000 in
theorem rqminus_any (v1 v2 : Value) (x y : Rat) (K L : Nat) (w : World) (h1 : RqV w v1 x) (h2 : RqV w v2 y) (hx : Gz x K) (hy : Gz y L) (hK : K + L + 4 ≤ 900000) :
 Calls Tryz.prog 80 #[v1,v2] w fun e w' => ∃ v,e = .returned v ∧ RqV w' v (x - y) ∧ Below w.heap.size w w' := by
 rw [Rat.sub_eq_add_neg]
 obtain ⟨A1,n1,c1,k1,A2,n2,c2,k2,rfl,-,-⟩ := RqV.open h1
 obtain ⟨A3,n3,c3,k3,A4,n4,c4,k4,rfl,-,-⟩ := RqV.open h2
 have H1 : Hid (∀ W,BqS w A1 n1 c1 k1 A2 n2 c2 k2 A3 n3 c3 k3 A4 n4 c4 k4 W → Calls Tryz.prog 85 #[.agg #[.bool k3,.slice A3 n3 c3,.bool k4,.slice A4 n4 c4]] W fun e w' => ∃ (A : Option Addr) (n c : Nat) (k : Bool) (A' : Option Addr) (n' c' : Nat) (k' : Bool),e = .returned (.agg #[.bool k,.slice A n c,.bool k',.slice A' n' c']) ∧ RqV w' (.agg #[.bool k,.slice A n c,.bool k',.slice A' n' c']) (-y) ∧ Below W.heap.size W w' ∧ BqS w A1 n1 c1 k1 A2 n2 c2 k2 A3 n3 c3 k3 A4 n4 c4 k4 w') := Lib.hid (fun W hS => (rqturn_any _ y W (RqV.below h2 hS.1.1)).mono fun e w' ⟨v,he,hv,hb⟩ => by
  obtain ⟨A,n,c,k,A',n',c',k',rfl,_,_⟩ := RqV.open hv
  exact ⟨A,n,c,k,A',n',c',k',he,hv,hb,bqS_step hS hb⟩)
 have H2 : Hid (∀ W z,RqV W z (-y) → BqS w A1 n1 c1 k1 A2 n2 c2 k2 A3 n3 c3 k3 A4 n4 c4 k4 W → Calls Tryz.prog 79 #[.agg #[.bool k1,.slice A1 n1 c1,.bool k2,.slice A2 n2 c2],z] W fun e w' => ∃ (A : Option Addr) (n c : Nat) (k : Bool) (A' : Option Addr) (n' c' : Nat) (k' : Bool),e = .returned (.agg #[.bool k,.slice A n c,.bool k',.slice A' n' c']) ∧ RqV w' (.agg #[.bool k,.slice A n c,.bool k',.slice A' n' c']) (x + -y) ∧ Below W.heap.size W w' ∧ BqS w A1 n1 c1 k1 A2 n2 c2 k2 A3 n3 c3 k3 A4 n4 c4 k4 w') := Lib.hid (fun W z hz hS => (rqplus_any _ z x (-y) K L W (RqV.below h1 hS.1.1) hz hx hy.neg hK).mono fun e w' ⟨v,he,hv,hb⟩ => by
  obtain ⟨A,n,c,k,A',n',c',k',rfl,_,_⟩ := RqV.open hv
  exact ⟨A,n,c,k,A',n',c',k',he,hv,hb,bqS_step hS hb⟩)
 have hS0 := bqS_start w A1 n1 c1 k1 A2 n2 c2 k2 A3 n3 c3 k3 A4 n4 c4 k4
 have hrb := rt_built
 clear h1 h2 hx hy hK
 go_enter Tryz.func80,Tryz.ntmps80
 go_wp2_with fail
 have hS1 := bqS_drew hS0
 clear hS0
 go_region_held3 (fun W => (Below w.heap.size w W ∧ BoxQ W (w.heap.size + 1 + 1)) ∧ W.cell? ⟨w.heap.size,0,none⟩ = some (.bool k1) ∧ W.cell? ⟨w.heap.size,1,none⟩ = some (.slice A1 n1 c1) ∧ W.cell? ⟨w.heap.size,2,none⟩ = some (.bool k2) ∧ W.cell? ⟨w.heap.size,3,none⟩ = some (.slice A2 n2 c2) ∧ W.cell? ⟨w.heap.size + 1,0,none⟩ = some (.bool k3) ∧ W.cell? ⟨w.heap.size + 1,1,none⟩ = some (.slice A3 n3 c3) ∧ W.cell? ⟨w.heap.size + 1,2,none⟩ = some (.bool k4) ∧ W.cell? ⟨w.heap.size + 1,3,none⟩ = some (.slice A4 n4 c4)) (first | with_reducible assumption | exact ⟨⟨hS1.1.1,hS1.1.2⟩,hS1.2⟩ | (refine bqS_store ?_ _ _ _ _ _ _ _ _;with_reducible assumption))
  (first
   | (go_at_call 85;with_reducible refine (H1.out _ ?_).mono ?_;with_reducible assumption;rintro e w5 ⟨A5,n5,c5,k5,Ax5,nx5,cx5,kx5,rfl,hq5,hb5,hS5⟩)
   | (go_at_call 79;with_reducible refine (H2.out _ _ ?_ ?_).mono ?_;(first | with_reducible assumption | (with_reducible refine PlV.old ?_;with_reducible assumption));with_reducible assumption;rintro e w6 ⟨A6,n6,c6,k6,Ax6,nx6,cx6,kx6,rfl,hq6,hb6,hS6⟩;obtain ⟨⟨q0,y0⟩,⟨q1,y1⟩,⟨q2,y2⟩,⟨q3,y3⟩,y4,y5,y6,y7⟩ := hS6.1.2.facts))
 go_wp2_with fail
 obtain ⟨hp,hp'⟩ := RqV.parts hq6
 exact bodyPost_ret (v := .agg #[.bool k6,.slice A6 n6 c6,.bool kx6,.slice Ax6 nx6 cx6]) (by simp [results,Tryz.results80,go_sem,y0,y1,y2,y3]) rfl ⟨_,rfl,RqV.fin hS6.1.2 hp hp',below_set4 hS6.1.1 (by omega)⟩
end Go.Proofs.YtlfgpmnjnpdkdaaGreatDoor
