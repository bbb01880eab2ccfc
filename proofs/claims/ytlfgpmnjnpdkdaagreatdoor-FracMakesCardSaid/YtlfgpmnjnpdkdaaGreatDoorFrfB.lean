/- Contracts: the reference's fractions: In, Turn, Minus, Plus, Right. -/
import Derived.Test.YtlfgpmnjnpdkdaaGreatDoorFmkX
namespace Go.Proofs.YtlfgpmnjnpdkdaaGreatDoor
open Go.RowKit Vd
attribute [local go_sem ↓] Go.wp_at_zero Go.wp_at_succ
abbrev InS (w : World) (l1 l2 : List UInt8) (W : World) : Prop := (Below w.heap.size w W ∧ BoxQ W (w.heap.size + 1)) ∧ W.cell? ⟨w.heap.size,0,none⟩ = some (.string ⟨l1.toArray⟩) ∧ W.cell? ⟨w.heap.size,1,none⟩ = some (.string ⟨l2.toArray⟩)
theorem inS_step {w : World} {l1 l2 : List UInt8} {W W' : World} (h : InS w l1 l2 W) (hb : Below W.heap.size W W') : InS w l1 l2 W' := by
 obtain ⟨⟨hb0,hB⟩,e0,e1⟩ := h
 exact ⟨⟨belowt hb0 hb0.size hb,hB.call hb⟩,keepc hb e0,keepc hb e1⟩
theorem inS_drew {w : World} {l1 l2 : List UInt8} {W : World} (h : InS w l1 l2 W) : InS w l1 l2 W.drew := by
 obtain ⟨⟨hb0,hB⟩,e0,e1⟩ := h
 exact ⟨⟨hb0.drew,hB⟩,e0,e1⟩
theorem inS_store {w : World} {l1 l2 : List UInt8} {W : World} (h : InS w l1 l2 W) (Ax : Option Addr) (nx cx : Nat) (kx : Bool) (Ay : Option Addr) (ny cy : Nat) (ky : Bool) : InS w l1 l2 (sto4 W (w.heap.size + 1) (.bool kx) (.slice Ax nx cx) (.bool ky) (.slice Ay ny cy)) := by
 obtain ⟨⟨hb0,hB⟩,e0,e1⟩ := h
 exact ⟨⟨below_set4 hb0 (by omega),hB.set4 _ _ _ _ _ _ _ _⟩,(cell_set4 (by omega)).trans e0,(cell_set4 (by omega)).trans e1⟩
theorem inS_start (w : World) (l1 l2 : List UInt8) : InS w l1 l2 (((w.alloc (.cells #[.string ⟨l1.toArray⟩,.string ⟨l2.toArray⟩] 24)).alloc (.cells #[.bool false,.slice none 0 0,.bool false,.slice none 0 0] 90))) := by
 have hb : Below w.heap.size w (((w.alloc (.cells #[.string ⟨l1.toArray⟩,.string ⟨l2.toArray⟩] 24)).alloc (.cells #[.bool false,.slice none 0 0,.bool false,.slice none 0 0] 90))) := ((Below.refl _ _).alloc (Nat.le_refl _) _).alloc (by simp) _
 have r0 : Fr ((w.alloc (.cells #[.string ⟨l1.toArray⟩,.string ⟨l2.toArray⟩] 24)).alloc (.cells #[.bool false,.slice none 0 0,.bool false,.slice none 0 0] 90)) (w.heap.size) #[.string ⟨l1.toArray⟩,.string ⟨l2.toArray⟩] 24 := (Fr.new rfl).old
 have r1 : Fr ((w.alloc (.cells #[.string ⟨l1.toArray⟩,.string ⟨l2.toArray⟩] 24)).alloc (.cells #[.bool false,.slice none 0 0,.bool false,.slice none 0 0] 90)) (w.heap.size + 1) #[.bool false,.slice none 0 0,.bool false,.slice none 0 0] 90 := (Fr.new (by simp))
 obtain ⟨a0,a1,-,-⟩ := r0.cells2
 exact ⟨⟨hb,r1.boxQ⟩,a0,a1⟩
set_option maxRecDepth 100000 in
set_option maxHeartbeats 2000000 in
theorem rin_any (l1 l2 : List UInt8) (q : Rat) (w : World) (h : rdF l1 l2 = some q) :
 Calls Tryz.prog 67 #[.agg #[.string ⟨l1.toArray⟩,.string ⟨l2.toArray⟩]] w fun e w' => ∃ v,e = .returned v ∧ RqV w' v q ∧ Below w.heap.size w w' := by
 obtain ⟨r1,r2⟩ := rdF_some h
 have H1 : Hid (∀ W,InS w l1 l2 W → Calls Tryz.prog 62 #[.string ⟨l1.toArray⟩] W fun e w' => ∃ (A : Option Addr) (n c : Nat) (k : Bool),e = .returned (.agg #[.bool k,.slice A n c]) ∧ PlV w' (.agg #[.bool k,.slice A n c]) (q.num) ∧ Below W.heap.size W w' ∧ InS w l1 l2 w') := Lib.hid (fun W hS => (in_any l1 q.num W r1).mono fun e w' ⟨v,he,hv,hb⟩ => by
  obtain ⟨A,n,c,k,rfl⟩ := hv.open
  exact ⟨A,n,c,k,he,hv,hb,inS_step hS hb⟩)
 have H2 : Hid (∀ W,InS w l1 l2 W → Calls Tryz.prog 62 #[.string ⟨l2.toArray⟩] W fun e w' => ∃ (A : Option Addr) (n c : Nat) (k : Bool),e = .returned (.agg #[.bool k,.slice A n c]) ∧ PlV w' (.agg #[.bool k,.slice A n c]) ((q.den : Int)) ∧ Below W.heap.size W w' ∧ InS w l1 l2 w') := Lib.hid (fun W hS => (in_any l2 (q.den : Int) W r2).mono fun e w' ⟨v,he,hv,hb⟩ => by
  obtain ⟨A,n,c,k,rfl⟩ := hv.open
  exact ⟨A,n,c,k,he,hv,hb,inS_step hS hb⟩)
 have hS0 := inS_start w l1 l2
 have hrb := rt_built
 clear h r1 r2
 go_enter Tryz.func67,Tryz.ntmps67
 go_wp2_with fail
 have hS1 := inS_drew hS0
 clear hS0
 go_region_held3 (fun W => (Below w.heap.size w W ∧ BoxQ W (w.heap.size + 1)) ∧ W.cell? ⟨w.heap.size,0,none⟩ = some (.string ⟨l1.toArray⟩) ∧ W.cell? ⟨w.heap.size,1,none⟩ = some (.string ⟨l2.toArray⟩)) (first | with_reducible assumption | exact ⟨⟨hS1.1.1,hS1.1.2⟩,hS1.2⟩ | (refine inS_store ?_ _ _ _ _ _ _ _ _;with_reducible assumption))
  (first
   | (go_at_call 62;with_reducible refine (H1.out _ ?_).mono ?_;with_reducible assumption;rintro e w3 ⟨A3,n3,c3,k3,rfl,hq3,hb3,hS3⟩)
   | (go_at_call 62;with_reducible refine (H2.out _ ?_).mono ?_;with_reducible assumption;rintro e w4 ⟨A4,n4,c4,k4,rfl,hq4,hb4,hS4⟩;(first | have hq3 := hq3.below hb4 | have hq3 := (PlV.old hq3).below hb4);obtain ⟨⟨q0,y0⟩,⟨q1,y1⟩,⟨q2,y2⟩,⟨q3,y3⟩,y4,y5,y6,y7⟩ := hS4.1.2.facts))
 go_wp2_with fail
 exact bodyPost_ret (v := .agg #[.bool k3,.slice A3 n3 c3,.bool k4,.slice A4 n4 c4]) (by simp [results,Tryz.results67,go_sem,y0,y1,y2,y3]) rfl ⟨_,rfl,RqV.fin hS4.1.2 hq3 hq4,below_set4 hS4.1.1 (by omega)⟩
end Go.Proofs.YtlfgpmnjnpdkdaaGreatDoor
