/- Contracts: sums of lists of fractions. Contracts: sums of lists of fractions: gather, Total, Sum. Contracts: sums of lists of fractions: Total, Sum. -/
import Derived.Test.YtlfgpmnjnpdkdaaGreatDoorFraQ
namespace Go.Proofs.YtlfgpmnjnpdkdaaGreatDoor
open Go.RowKit Vd
attribute [local go_sem ↓] Go.wp_at_zero Go.wp_at_succ
def sumQ : List Rat → Rat
 | [] => 0
 | x :: l => x + sumQ l
theorem sumQ_append (l k : List Rat) : sumQ (l ++ k) = sumQ l + sumQ k := by
 induction l with
 | nil => simp [sumQ,Rat.zero_add]
 | cons x l ih => simp only [List.cons_append,sumQ,ih,Rat.add_assoc]
theorem sumQ_fz {l : List Rat} {K : Nat} (h : ∀ q ∈ l,Fz q K) (hne : l ≠ []) : Fz (sumQ l) (l.length * (K + 1) - 1) := by
 induction l with
 | nil => exact absurd rfl hne
 | cons x l ih =>
   have hx := h x (List.mem_cons_self ..)
   cases l with
   | nil => simp only [sumQ,Rat.add_zero];exact hx.mono (by simp)
   | cons y l =>
     have hl := ih (fun q hq => h q (List.mem_cons_of_mem _ hq)) (by simp)
     have ha := hx.add hl
     rw [show sumQ (x :: y :: l) = x + sumQ (y :: l) from rfl]
     refine ha.mono ?_
     simp only [List.length_cons]
     have : (l.length + 1 + 1) * (K + 1) = (l.length + 1) * (K + 1) + (K + 1) := by rw [Nat.add_mul _ 1];omega
     have h1 : K + 1 ≤ (l.length + 1) * (K + 1) := Nat.le_mul_of_pos_left _ (by omega)
     omega
def segQ (qs : List Rat) (i j : Nat) : Rat := sumQ ((qs.drop i).take (j - i))
theorem segQ_all (qs : List Rat) : segQ qs 0 qs.length = sumQ qs := by unfold segQ;simp
theorem segQ_none (qs : List Rat) (i : Nat) : segQ qs i i = 0 := by unfold segQ;simp [sumQ]
theorem segQ_one {qs : List Rat} {i : Nat} {q : Rat} (h : qs[i]? = some q) : segQ qs i (i + 1) = q := by
 unfold segQ
 have hi : i < qs.length := (List.getElem?_eq_some_iff.1 h).1
 have hq := (List.getElem?_eq_some_iff.1 h).2
 rw [List.drop_eq_getElem_cons hi,hq]
 simp [sumQ,Rat.add_zero]
theorem segQ_add (qs : List Rat) {i m j : Nat} (h1 : i ≤ m) (h2 : m ≤ j) : segQ qs i j = segQ qs i m + segQ qs m j := by
 unfold segQ
 rw [← sumQ_append]
 congr 1
 rw [show j - i = (m - i) + (j - m) by omega,List.take_add,List.drop_drop,show i + (m - i) = m by omega]
theorem segQ_fz {qs : List Rat} {K i j : Nat} (h : ∀ q ∈ qs,Fz q K) (hij : i < j) (hj : j ≤ qs.length) : Fz (segQ qs i j) ((j - i) * (K + 1) - 1) := by
 unfold segQ
 have hl : ((qs.drop i).take (j - i)).length = j - i := by rw [List.length_take,List.length_drop];omega
 have := sumQ_fz (l := (qs.drop i).take (j - i)) (fun q hq => h q (List.mem_of_mem_drop (List.mem_of_mem_take hq))) (fun e => by rw [e] at hl;simp at hl;omega)
 rw [hl] at this
 exact this
theorem mkfn (fn : Fn) (first cap : Array Value) (w : World) : (Instr.makeFunc fn first cap).run Tryz.prog w = .ok (.func fn first cap) w := rfl
set_option maxRecDepth 100000 in
set_option maxHeartbeats 2000000 in
theorem raof_any (n : Int) (w : World) (h0 : -9223372036854775808 ≤ n) (h1 : n ≤ 9223372036854775807) :
    Calls Tryz.prog 137 #[.int .i64 n] w fun e w' => ∃ v,e = .returned v ∧ RaV w' v (n : Rat) ∧ Below w.heap.size w w' := by
 have hb0 : Below w.heap.size w (w.alloc (.cells #[.slice none 0 0,.bool false,.slice none 0 0,.bool false] 82)) := (Below.refl _ _).alloc (Nat.le_refl _) _
 have hB0 : BoxR (w.alloc (.cells #[.slice none 0 0,.bool false,.slice none 0 0,.bool false] 82)) w.heap.size := Fr.boxR (Fr.new rfl)
 have ho := fun W => numOf_any n W h0 h1
 have hq := fun W => numOf_any 1 W (by omega) (by omega)
 have hrb := ra_built
 have H := Lib.hid (And.intro hb0 hB0)
 clear hb0 hB0 h0 h1
 go_enter Tryz.func137,Tryz.ntmps137
 go_wp2_with fail
 refine (ho _).mono ?_
 rintro e w1 ⟨A1,n1,c1,k1,rfl,hv1,hb1⟩
 have HV1 := Lib.hid (And.intro hv1 hb1)
 clear hv1 hb1 ho
 go_wp2_with fail
 refine (hq _).mono ?_
 rintro e w2 ⟨A2,n2,c2,k2,rfl,hv2,hb2⟩
 have hB2 := (H.out.2.call HV1.out.2).call hb2
 have hbw := belowt (belowt H.out.1 H.out.1.size HV1.out.2) (by have := H.out.1.size;have := HV1.out.2.size;omega) hb2
 obtain ⟨⟨q0,y0⟩,⟨q1,y1⟩,⟨q2,y2⟩,⟨q3,y3⟩,y4,y5,y6,y7⟩ := hB2.facts
 have HV2 := Lib.hid (And.intro hv2 (And.intro hb2 (And.intro hB2 hbw)))
 clear hv2 hb2 hB2 hbw hq
 go_wp2_with fail
 exact bodyPost_ret (v := .agg #[.slice A1 n1 c1,.bool k1,.slice A2 n2 c2,.bool k2]) (by simp [results,Tryz.results137,go_sem,y0,y1,y2,y3]) rfl ⟨_,rfl,RaV.fin HV2.out.2.2.1 (by rw [Rat.num_intCast];exact HV1.out.1.below HV2.out.2.1) (by rw [Rat.den_intCast];exact HV2.out.1),below_set4 HV2.out.2.2.2 (Nat.le_refl _)⟩
abbrev GaS (w : World) (bt bg g n c : Nat) (W : World) : Prop := (Below w.heap.size w W ∧ BoxR W (w.heap.size) ∧ bt < w.heap.size ∧ bg < w.heap.size) ∧ W.cell? ⟨bt,0,none⟩ = some (.slice (some ⟨g,0,none⟩) n c) ∧ W.cell? ⟨bg,0,none⟩ = some (.func (.func 136) #[] #[.pointer (some ⟨bt,0,none⟩),.pointer (some ⟨bg,0,none⟩)])
theorem gaS_step {w : World} {bt bg g n c : Nat} {W W' : World} (h : GaS w bt bg g n c W) (hb : Below W.heap.size W W') : GaS w bt bg g n c W' := by
 obtain ⟨⟨hb0,hB,l0,l1⟩,e0,e1⟩ := h
 exact ⟨⟨belowt hb0 hb0.size hb,hB.call hb,l0,l1⟩,keepc hb e0,keepc hb e1⟩
theorem gaS_drew {w : World} {bt bg g n c : Nat} {W : World} (h : GaS w bt bg g n c W) : GaS w bt bg g n c W.drew := by
 obtain ⟨⟨hb0,hB,l0,l1⟩,e0,e1⟩ := h
 exact ⟨⟨hb0.drew,hB,l0,l1⟩,e0,e1⟩
theorem gaS_store {w : World} {bt bg g n c : Nat} {W : World} (h : GaS w bt bg g n c W) (Ax : Option Addr) (nx cx : Nat) (kx : Bool) (Ay : Option Addr) (ny cy : Nat) (ky : Bool) : GaS w bt bg g n c (sto4 W (w.heap.size) (.slice Ax nx cx) (.bool kx) (.slice Ay ny cy) (.bool ky)) := by
 obtain ⟨⟨hb0,hB,l0,l1⟩,e0,e1⟩ := h
 exact ⟨⟨below_set4 hb0 (by omega),hB.set4 _ _ _ _ _ _ _ _,l0,l1⟩,(cell_set4 (by omega)).trans e0,(cell_set4 (by omega)).trans e1⟩
def GaOk (bt bg g n c : Nat) (qs : List Rat) (i j : Nat) : Prop := ∀ w : World,w.cell? ⟨bt,0,none⟩ = some (.slice (some ⟨g,0,none⟩) n c) → w.cell? ⟨bg,0,none⟩ = some (.func (.func 136) #[] #[.pointer (some ⟨bt,0,none⟩),.pointer (some ⟨bg,0,none⟩)]) → RaL w g qs →
    Calls Tryz.prog 136 #[.int .i64 (i : Int),.int .i64 (j : Int),.pointer (some ⟨bt,0,none⟩),.pointer (some ⟨bg,0,none⟩)] w fun e w' => ∃ v,e = .returned v ∧ RaV w' v (segQ qs i j) ∧ Below w.heap.size w w'
set_option maxRecDepth 100000 in
set_option maxHeartbeats 2000000 in
theorem gather0 (bt bg g n c : Nat) (qs : List Rat) (i : Nat) (hi : i ≤ 1000000) : GaOk bt bg g n c qs i i := by
 intro w h1 h2 h3
 have hb0 : Below w.heap.size w (w.alloc (.cells #[.slice none 0 0,.bool false,.slice none 0 0,.bool false] 82)) := (Below.refl _ _).alloc (Nat.le_refl _) _
 have hB0 : BoxR (w.alloc (.cells #[.slice none 0 0,.bool false,.slice none 0 0,.bool false] 82)) w.heap.size := Fr.boxR (Fr.new rfl)
 have ho := fun W => raof_any 0 W (by omega) (by omega)
 have H := Lib.hid (And.intro hb0 hB0)
 have i2 : (0 : Int) ≤ (i : Int) := by omega
 have i3 : (i : Int) ≤ 1000000 := by omega
 clear hb0 hB0 h1 h2 h3 hi
 rw [segQ_none]
 go_enter Tryz.func136,Tryz.ntmps136
 go_wp2_with fail
 refine (ho _).mono ?_
 rintro e w1 ⟨v1,rfl,hv1,hb1⟩
 obtain ⟨A1,n1,c1,k1,A2,n2,c2,k2,rfl,hs1,hs2⟩ := hv1.open
 have hB2 := H.out.2.call hb1
 have hbw := belowt H.out.1 H.out.1.size hb1
 obtain ⟨⟨q0,y0⟩,⟨q1,y1⟩,⟨q2,y2⟩,⟨q3,y3⟩,y4,y5,y6,y7⟩ := hB2.facts
 have HV := Lib.hid (And.intro hs1 (And.intro hs2 (And.intro hB2 hbw)))
 clear hv1 hs1 hs2 hb1 hB2 hbw ho
 go_wp2_with fail
 exact bodyPost_ret (v := .agg #[.slice A1 n1 c1,.bool k1,.slice A2 n2 c2,.bool k2]) (by simp [results,Tryz.results136,go_sem,y0,y1,y2,y3]) rfl ⟨_,rfl,RaV.fin HV.out.2.2.1 HV.out.1 HV.out.2.1,below_set4 HV.out.2.2.2 (Nat.le_refl _)⟩
end Go.Proofs.YtlfgpmnjnpdkdaaGreatDoor
namespace Go.Proofs.YtlfgpmnjnpdkdaaGreatDoor
open Go.RowKit Vd
attribute [local go_sem ↓] Go.wp_at_zero Go.wp_at_succ
set_option maxRecDepth 100000 in
set_option maxHeartbeats 2000000 in
theorem gather1 (bt bg g n c : Nat) (qs : List Rat) (i : Nat) (hn : qs.length = n) (hi : i < n) (hn2 : n ≤ 1000000) : GaOk bt bg g n c qs i (i + 1) := by
 intro w h1 h2 h3
 have hb0 : Below w.heap.size w (w.alloc (.cells #[.slice none 0 0,.bool false,.slice none 0 0,.bool false] 82)) := (Below.refl _ _).alloc (Nat.le_refl _) _
 have hB0 : BoxR (w.alloc (.cells #[.slice none 0 0,.bool false,.slice none 0 0,.bool false] 82)) w.heap.size := Fr.boxR (Fr.new rfl)
 have hq := List.getElem?_eq_getElem (l := qs) (i := i) (by omega)
 obtain ⟨q,hqe⟩ : ∃ q,q = qs[i] := ⟨_,rfl⟩
 rw [← hqe] at hq
 rw [segQ_one hq]
 have h1' := (hb0.cell (World.block_lt_of_cell? w _ h1)).trans h1
 obtain ⟨A1,n1,c1,k1,A2,n2,c2,k2,e0,e1,e2,e3,hv⟩ := (h3.call hb0).at_ hq
 obtain ⟨hs1,hs2⟩ := hv.parts
 have hvw : SgV w (.agg #[.slice A1 n1 c1,.bool k1]) q.num ∧ SgV w (.agg #[.slice A2 n2 c2,.bool k2]) (q.den : Int) := by
  obtain ⟨B1,m1,d1,j1,B2,m2,d2,j2,f0,f1,f2,f3,hw⟩ := h3.at_ hq
  have k0 := (hb0.cell (World.block_lt_of_cell? w _ f0)).trans f0
  have k1' := (hb0.cell (World.block_lt_of_cell? w _ f1)).trans f1
  have k2' := (hb0.cell (World.block_lt_of_cell? w _ f2)).trans f2
  have k3' := (hb0.cell (World.block_lt_of_cell? w _ f3)).trans f3
  rw [e0] at k0
  rw [e1] at k1'
  rw [e2] at k2'
  rw [e3] at k3'
  simp only [Option.some.injEq,Value.slice.injEq,Value.bool.injEq] at k0 k1' k2' k3'
  obtain ⟨rfl,rfl,rfl⟩ := k0
  subst k1'
  obtain ⟨rfl,rfl,rfl⟩ := k2'
  subst k3'
  exact hw.parts
 have H := Lib.hid hvw
 have i0 : (0 : Int) ≤ (i : Int) := by omega
 have i1 : (i : Int) < (n : Int) := by omega
 have i3 : (i : Int) + 1 - (i : Int) = 1 := by omega
 have i4 : (i : Int) ≤ 1000000 := by omega
 obtain ⟨⟨q0,y0⟩,⟨q1,y1⟩,⟨q2,y2⟩,⟨q3,y3⟩,y4,y5,y6,y7⟩ := hB0.facts
 rw [show ((i + 1 : Nat) : Int) = (i : Int) + 1 by omega]
 clear hb0 hB0 hv hs1 hs2 hvw hq hqe hn hi hn2 h1 h2 h3
 go_enter Tryz.func136,Tryz.ntmps136
 go_wp2_with fail
 exact bodyPost_ret (v := .agg #[.slice A1 n1 c1,.bool k1,.slice A2 n2 c2,.bool k2]) (by simp [results,Tryz.results136,go_sem]) rfl ⟨_,rfl,⟨_,_,_,_,_,_,_,_,rfl,H.out.1.old,H.out.2.old⟩,(Below.refl _ _).alloc (Nat.le_refl _) _⟩
theorem half_div (i j : Nat) : ((i : Int) + (j : Int)).tdiv 2 = ((((i + j) / 2 : Nat)) : Int) := by
 rw [← Int.natCast_add,Int.tdiv_eq_ediv_of_nonneg (by omega),Int.natCast_ediv]
 rfl
set_option maxRecDepth 100000 in
set_option maxHeartbeats 4000000 in
theorem gather2 (bt bg g n c : Nat) (qs : List Rat) (K : Nat) (i m j : Nat) (hm : m = (i + j) / 2) (hn : qs.length = n) (hK : ∀ q ∈ qs,Fz q K) (him : i < m) (hmj : m < j) (hj : j ≤ n) (hn2 : n ≤ 1000000) (hnK : n * (K + 1) + 8 ≤ maxW) (c1 : GaOk bt bg g n c qs i m) (c2 : GaOk bt bg g n c qs m j) : GaOk bt bg g n c qs i j := by
 intro w h1 h2 h3
 have f1 := segQ_fz hK him (by omega)
 have f2 := segQ_fz hK hmj (by omega)
 have fb : ((m - i) * (K + 1) - 1) + ((j - m) * (K + 1) - 1) + 8 ≤ maxW := by
  have e : (m - i) * (K + 1) + (j - m) * (K + 1) = (j - i) * (K + 1) := by rw [← Nat.add_mul];congr 1;omega
  have : (j - i) * (K + 1) ≤ n * (K + 1) := Nat.mul_le_mul_right _ (by omega)
  omega
 rw [segQ_add qs (Nat.le_of_lt him) (Nat.le_of_lt hmj)]
 obtain ⟨x,hx⟩ : ∃ x,x = segQ qs i m := ⟨_,rfl⟩
 obtain ⟨y,hy⟩ : ∃ y,y = segQ qs m j := ⟨_,rfl⟩
 rw [← hx] at f1
 rw [← hy] at f2
 rw [← hx,← hy]
 unfold GaOk at c1 c2
 rw [← hx] at c1
 rw [← hy] at c2
 have G1 : Hid (∀ W,GaS w bt bg g n c W → Calls Tryz.prog 136 #[.int .i64 (i : Int),.int .i64 (m : Int),.pointer (some ⟨bt,0,none⟩),.pointer (some ⟨bg,0,none⟩)] W fun e w' => ∃ (Ax : Option Addr) (nx cx : Nat) (kx : Bool) (Ay : Option Addr) (ny cy : Nat) (ky : Bool),e = .returned (.agg #[.slice Ax nx cx,.bool kx,.slice Ay ny cy,.bool ky]) ∧ RaV w' (.agg #[.slice Ax nx cx,.bool kx,.slice Ay ny cy,.bool ky]) x ∧ Below W.heap.size W w' ∧ GaS w bt bg g n c w') := Lib.hid (fun W hS => by
  refine (c1 W hS.2.1 hS.2.2 (h3.call hS.1.1)).mono ?_
  rintro e w' ⟨v,he,hv,hb⟩
  obtain ⟨Ax,nx,cx,kx,Ay,ny,cy,ky,rfl,_,_⟩ := hv.open
  exact ⟨Ax,nx,cx,kx,Ay,ny,cy,ky,he,hv,hb,gaS_step hS hb⟩)
 have G2 : Hid (∀ W,GaS w bt bg g n c W → Calls Tryz.prog 136 #[.int .i64 (m : Int),.int .i64 (j : Int),.pointer (some ⟨bt,0,none⟩),.pointer (some ⟨bg,0,none⟩)] W fun e w' => ∃ (Ax : Option Addr) (nx cx : Nat) (kx : Bool) (Ay : Option Addr) (ny cy : Nat) (ky : Bool),e = .returned (.agg #[.slice Ax nx cx,.bool kx,.slice Ay ny cy,.bool ky]) ∧ RaV w' (.agg #[.slice Ax nx cx,.bool kx,.slice Ay ny cy,.bool ky]) y ∧ Below W.heap.size W w' ∧ GaS w bt bg g n c w') := Lib.hid (fun W hS => by
  refine (c2 W hS.2.1 hS.2.2 (h3.call hS.1.1)).mono ?_
  rintro e w' ⟨v,he,hv,hb⟩
  obtain ⟨Ax,nx,cx,kx,Ay,ny,cy,ky,rfl,_,_⟩ := hv.open
  exact ⟨Ax,nx,cx,kx,Ay,ny,cy,ky,he,hv,hb,gaS_step hS hb⟩)
 have GP : Hid (∀ W u v,RaV W u x → RaV W v y → GaS w bt bg g n c W → Calls Tryz.prog 75 #[u,v] W fun e w' => ∃ (Ax : Option Addr) (nx cx : Nat) (kx : Bool) (Ay : Option Addr) (ny cy : Nat) (ky : Bool),e = .returned (.agg #[.slice Ax nx cx,.bool kx,.slice Ay ny cy,.bool ky]) ∧ RaV w' (.agg #[.slice Ax nx cx,.bool kx,.slice Ay ny cy,.bool ky]) (x + y) ∧ Below W.heap.size W w' ∧ GaS w bt bg g n c w') := Lib.hid (fun W u v hu hv hS => by
  refine (raplus_any u v x y _ _ W hu hv f1 f2 fb).mono ?_
  rintro e w' ⟨v,he,hv,hb⟩
  obtain ⟨Ax,nx,cx,kx,Ay,ny,cy,ky,rfl,_,_⟩ := hv.open
  exact ⟨Ax,nx,cx,kx,Ay,ny,cy,ky,he,hv,hb,gaS_step hS hb⟩)
 have hS0 : GaS w bt bg g n c (w.alloc (.cells #[.slice none 0 0,.bool false,.slice none 0 0,.bool false] 82)) := by
  have hb0 : Below w.heap.size w (w.alloc (.cells #[.slice none 0 0,.bool false,.slice none 0 0,.bool false] 82)) := (Below.refl _ _).alloc (Nat.le_refl _) _
  exact ⟨⟨hb0,Fr.boxR (Fr.new rfl),World.block_lt_of_cell? w _ h1,World.block_lt_of_cell? w _ h2⟩,(hb0.cell (World.block_lt_of_cell? w _ h1)).trans h1,(hb0.cell (World.block_lt_of_cell? w _ h2)).trans h2⟩
 obtain ⟨M,hM⟩ : ∃ M : Int,M = (m : Int) := ⟨_,rfl⟩
 have hq : ((i : Int) + (j : Int)).tdiv 2 = M := by rw [half_div,hM,hm]
 rw [← hM] at G1 G2
 have i0 : (0 : Int) ≤ (i : Int) := by omega
 have i1 : (j : Int) ≤ 1000000 := by omega
 have i2 : ¬ (j : Int) - (i : Int) = 0 := by omega
 have i3 : ¬ (j : Int) - (i : Int) = 1 := by omega
 have i4 : (i : Int) ≤ 1000000 := by omega
 have i5 : (0 : Int) ≤ (j : Int) := by omega
 have i6 : (0 : Int) ≤ M ∧ M ≤ 1000000 := by omega
 clear c1 c2 f1 f2 fb hx hy hM hm hn hK him hmj hj hn2 hnK h1 h2 h3
 go_enter Tryz.func136,Tryz.ntmps136
 go_wp2_with fail
 have hS1 := gaS_drew hS0
 clear hS0
 go_region_held3 (fun W => (Below w.heap.size w W ∧ BoxR W (w.heap.size) ∧ bt < w.heap.size ∧ bg < w.heap.size) ∧ W.cell? ⟨bt,0,none⟩ = some (.slice (some ⟨g,0,none⟩) n c) ∧ W.cell? ⟨bg,0,none⟩ = some (.func (.func 136) #[] #[.pointer (some ⟨bt,0,none⟩),.pointer (some ⟨bg,0,none⟩)])) (first | with_reducible assumption | (refine gaS_store ?_ _ _ _ _ _ _ _ _;with_reducible assumption))
  (first
   | (go_at_call 136;with_reducible refine (G1.out _ ?_).mono ?_;with_reducible assumption;rintro e w5 ⟨A5,n5,c5,k5,A6,n6,c6,k6,rfl,hq5,hb5,hS5⟩)
   | (go_at_call 136;with_reducible refine (G2.out _ ?_).mono ?_;with_reducible assumption;rintro e w7 ⟨A7,n7,c7,k7,A8,n8,c8,k8,rfl,hq7,hb7,hS7⟩;have hq5c := hq5.below hb7)
   | (go_at_call 75;with_reducible refine (GP.out _ _ _ ?_ ?_ ?_).mono ?_;with_reducible assumption;with_reducible assumption;with_reducible assumption;rintro e w9 ⟨A9,n9,c9,k9,Aa,na,ca,ka,rfl,hq9,hb9,hS9⟩;obtain ⟨⟨q0,y0⟩,⟨q1,y1⟩,⟨q2,y2⟩,⟨q3,y3⟩,y4,y5,y6,y7⟩ := hS9.1.2.1.facts))
 go_wp2_with fail
 exact bodyPost_ret (v := .agg #[.slice A9 n9 c9,.bool k9,.slice Aa na ca,.bool ka]) (by simp [results,Tryz.results136,go_sem,y0,y1,y2,y3]) rfl ⟨_,rfl,RaV.fin hS9.1.2.1 hq9.parts.1 hq9.parts.2,below_set4 hS9.1.1 (Nat.le_refl _)⟩
theorem gather_any (bt bg g n c : Nat) (qs : List Rat) (K : Nat) (hn : qs.length = n) (hK : ∀ q ∈ qs,Fz q K) (hn2 : n ≤ 1000000) (hnK : n * (K + 1) + 8 ≤ maxW) :
    ∀ (k i j : Nat),j - i ≤ k → i ≤ j → j ≤ n → GaOk bt bg g n c qs i j := by
 intro k
 induction k with
 | zero =>
   intro i j h1 h2 h3
   obtain rfl : i = j := by omega
   exact gather0 bt bg g n c qs i (by omega)
 | succ k ih =>
   intro i j h1 h2 h3
   rcases (show i = j ∨ j = i + 1 ∨ i + 2 ≤ j by omega) with rfl | rfl | h
   · exact gather0 bt bg g n c qs i (by omega)
   · exact gather1 bt bg g n c qs i hn (by omega) hn2
   · exact gather2 bt bg g n c qs K i ((i + j) / 2) j rfl hn hK (by omega) (by omega) h3 hn2 hnK (ih _ _ (by omega) (by omega) (by omega)) (ih _ _ (by omega) (by omega) h3)
end Go.Proofs.YtlfgpmnjnpdkdaaGreatDoor
namespace Go.Proofs.YtlfgpmnjnpdkdaaGreatDoor
open Go.RowKit Vd
attribute [local go_sem ↓] Go.wp_at_zero Go.wp_at_succ
set_option maxRecDepth 100000 in
set_option maxHeartbeats 2000000 in
theorem total_any (g n c : Nat) (qs : List Rat) (K : Nat) (w : World) (hn : qs.length = n) (hK : ∀ q ∈ qs,Fz q K) (hn2 : n ≤ 1000000) (hnK : n * (K + 1) + 8 ≤ maxW) (h3 : RaL w g qs) :
    Calls Tryz.prog 104 #[.slice (some ⟨g,0,none⟩) n c] w fun e w' => ∃ v,e = .returned v ∧ RaV w' v (sumQ qs) ∧ Below w.heap.size w w' := by
 obtain ⟨W0,hW0⟩ : ∃ W0,W0 = ((w.alloc (.cells #[.slice (some ⟨g,0,none⟩) n c] 108)).alloc (.cells #[.slice none 0 0,.bool false,.slice none 0 0,.bool false] 82)).alloc (.cells #[.func (.func 136) #[] #[.pointer (some ⟨w.heap.size,0,none⟩),.pointer (some ⟨w.heap.size + 1 + 1,0,none⟩)]] 167) := ⟨_,rfl⟩
 have hbW : Below w.heap.size w W0 := by rw [hW0];exact (((Below.refl _ _).alloc (Nat.le_refl _) _).alloc (by simp) _).alloc (by simp;omega) _
 have hE0 : Fr W0 w.heap.size #[.slice (some ⟨g,0,none⟩) n c] 108 := by rw [hW0];exact (Fr.new rfl).old.old
 have hE1 : BoxR W0 (w.heap.size + 1) := by rw [hW0];exact (Fr.boxR (Fr.new (by simp))).old
 have hE2 : Fr W0 (w.heap.size + 1 + 1) #[.func (.func 136) #[] #[.pointer (some ⟨w.heap.size,0,none⟩),.pointer (some ⟨w.heap.size + 1 + 1,0,none⟩)]] 167 := by rw [hW0];exact Fr.new (by simp)
 have hga := gather_any w.heap.size (w.heap.size + 1 + 1) g n c qs K hn hK hn2 hnK n 0 n (by omega) (by omega) (by omega) W0 (hE0.cell 0) (hE2.cell 0) (h3.call hbW)
 rw [show segQ qs 0 n = sumQ qs by rw [← hn];exact segQ_all qs] at hga
 rw [hW0] at hga
 have hmf := mkfn
 have H := Lib.hid (And.intro hbW hE1)
 clear hbW hE0 hE1 hE2 h3 hn hK hn2 hnK
 go_enter Tryz.func104,Tryz.ntmps104
 go_wp2_with fail
 refine hga.mono ?_
 rw [← hW0]
 rintro e w1 ⟨v1,rfl,hv1,hb1⟩
 obtain ⟨A1,n1,c1,k1,A2,n2,c2,k2,rfl,hs1,hs2⟩ := hv1.open
 have hB2 := H.out.2.call hb1
 have hbw := belowt H.out.1 H.out.1.size hb1
 obtain ⟨⟨q0,y0⟩,⟨q1,y1⟩,⟨q2,y2⟩,⟨q3,y3⟩,y4,y5,y6,y7⟩ := hB2.facts
 have HV := Lib.hid (And.intro hs1 (And.intro hs2 (And.intro hB2 hbw)))
 clear hv1 hs1 hs2 hb1 hB2 hbw hga hW0
 go_wp2_with fail
 exact bodyPost_ret (v := .agg #[.slice A1 n1 c1,.bool k1,.slice A2 n2 c2,.bool k2]) (by simp [results,Tryz.results104,go_sem,y0,y1,y2,y3]) rfl ⟨_,rfl,RaV.fin HV.out.2.2.1 HV.out.1 HV.out.2.1,below_set4 HV.out.2.2.2 (by omega)⟩
theorem sumQ_fz2 {l : List Rat} {K n : Nat} (h : ∀ q ∈ l,Fz q K) (hl : l.length = n) : Fz (sumQ l) (n * (K + 1) + 1) := by
 by_cases h0 : l = []
 · subst h0
   exact ⟨Nat.le_trans (Nat.le_of_eq ((wlen_eq_zero two_le_B).2 rfl)) (Nat.zero_le _),Nat.le_trans (wlen_le_one two_le_B (by decide)) (by omega)⟩
 · have := sumQ_fz h h0
   rw [hl] at this
   exact this.mono (by omega)
set_option maxRecDepth 100000 in
set_option maxHeartbeats 4000000 in
theorem freadAll_nil (w : World) :
    Calls Tryz.prog 71 #[.slice none 0 0] w fun e w' => ∃ g2 : Nat,e = .returned (.tuple #[.slice (some ⟨g2,0,none⟩) 0 0,.int .i64 0]) ∧ RaL w' g2 [] ∧ Below w.heap.size w w' := by
 have hmk : ∀ W : World,(Instr.makeSlice 108 (.int .i64 0) (.int .i64 0)).run Tryz.prog W = .ok (.slice (some ⟨W.heap.size,0,none⟩) 0 0) (W.alloc (.cells (flat []).toArray 82)) := fun W => mkRa 0 (by omega) W
 go_enter Tryz.func71,Tryz.ntmps71
 go_wp2_with fail
 go_loopg [14] 0 (fun r iv W => r = 0 ∧ iv = .int .i64 0 ∧ Below w.heap.size w W ∧ Fr W w.heap.size (flat []).toArray 82)
 case atStart => exact ⟨rfl,rfl,(Below.refl _ _).alloc (Nat.le_refl _) _,Fr.new rfl⟩
 case round =>
  obtain ⟨rfl,rfl,hb,hG⟩ := hrel
  have HZ := Lib.hid (And.intro hb hG)
  clear hb hG
  go_wp2_with fail
  go_ret2
  exact ⟨w.heap.size,rfl,⟨[],HZ.out.2,rfl,fun i q h => by simp at h⟩,HZ.out.1⟩
set_option maxRecDepth 100000 in
set_option maxHeartbeats 2000000 in
theorem fsum_some (g n c : Nat) (ls : List (List UInt8 × List UInt8)) (qs : List Rat) (w : World) (hF : Fr w g (flat2 ls).toArray 24) (hl : ls.length = n) (hql : qs.length = n) (hq : ∀ (i : Nat) (p : List UInt8 × List UInt8) (q : Rat),ls[i]? = some p → qs[i]? = some q → rdF p.1 p.2 = some q) (hn : n ≤ 300) :
    Calls Tryz.prog 51 #[.slice (some ⟨g,0,none⟩) n c] w fun e w' => e = .returned (outF (sumQ qs)) ∧ Below w.heap.size w w' := by
 have hfq : ∀ q ∈ qs,Fz q 32 := by
  intro q hmem
  obtain ⟨i,hi,hqi⟩ := List.mem_iff_getElem.1 hmem
  have h1 := List.getElem?_eq_getElem (l := qs) (i := i) hi
  rw [hqi] at h1
  have h2 := List.getElem?_eq_getElem (l := ls) (i := i) (by omega)
  exact rdF_fz (hq i _ q h2 h1)
 have hb0 : Below w.heap.size w (w.alloc (.cells #[.string ⟨#[]⟩,.string ⟨#[]⟩] 24)) := (Below.refl _ _).alloc (Nat.le_refl _) _
 have hB0 : BoxF (w.alloc (.cells #[.string ⟨#[]⟩,.string ⟨#[]⟩] 24)) w.heap.size := Fr.boxF (Fr.new rfl)
 have hrd := freadAll_some g n c ls qs (w.alloc (.cells #[.string ⟨#[]⟩,.string ⟨#[]⟩] 24)) (hF.call hb0) hl hql hq (by omega)
 obtain ⟨s,t,k,hsk⟩ := outF_open (sumQ qs)
 rw [hsk]
 have hfz : Fz (sumQ qs) 1000000 := (sumQ_fz2 hfq hql).mono (by omega)
 have H := Lib.hid (And.intro hb0 (And.intro hB0 (And.intro hsk hfz)))
 have hn3 : ¬ 300 < (n : Int) := by omega
 have HQ := Lib.hid (And.intro hfq (And.intro hql hn))
 clear hF hl hql hq hn hfq hb0 hB0 hsk hfz
 go_enter Tryz.func51,Tryz.ntmps51
 go_wp2_with fail
 refine hrd.mono ?_
 rintro e w1 ⟨g2,rfl,hL,hb1⟩
 have hto := total_any g2 n n qs 32 w1 HQ.out.2.1 HQ.out.1 (by have := HQ.out.2.2;omega) (by have := HQ.out.2.2;unfold maxW;omega) hL
 have HB := Lib.hid hb1
 clear hrd hL hb1
 go_wp2_with fail
 refine hto.mono ?_
 rintro e w2 ⟨v,rfl,hv,hb2⟩
 have hw := fwrite_any v _ w2 hv H.out.2.2.2
 rw [H.out.2.2.1] at hw
 obtain ⟨A1,n1,c1,k1,A2,n2,c2,k2,rfl,_,_⟩ := hv.open
 have HB2 := Lib.hid hb2
 clear hv hb2 hto
 go_wp2_with fail
 refine hw.mono ?_
 rintro e w3 ⟨rfl,hb3⟩
 have hB3 := ((H.out.2.1.call HB.out).call HB2.out).call hb3
 have hbw1 := belowt H.out.1 H.out.1.size HB.out
 have hbw2 := belowt hbw1 hbw1.size HB2.out
 have hbw := belowt hbw2 hbw2.size hb3
 obtain ⟨⟨q0,y0⟩,⟨q1,y1⟩,y2,y3⟩ := hB3.facts
 have HZ := Lib.hid hbw
 clear hB3 hbw1 hbw2 hbw hb3 hw
 go_wp2_with fail
 exact bodyPost_ret (v := .tuple #[.agg #[.string s,.string t],.int .i64 k]) (by simp [results,Tryz.results51,go_sem,y0,y1]) rfl ⟨rfl,(HZ.out.setCell (Nat.le_refl _) _).setCell (Nat.le_refl _) _⟩
set_option maxRecDepth 100000 in
set_option maxHeartbeats 2000000 in
theorem fsum_nil (w : World) :
    Calls Tryz.prog 51 #[.slice none 0 0] w fun e w' => e = .returned (outF (sumQ [])) ∧ Below w.heap.size w w' := by
 have hb0 : Below w.heap.size w (w.alloc (.cells #[.string ⟨#[]⟩,.string ⟨#[]⟩] 24)) := (Below.refl _ _).alloc (Nat.le_refl _) _
 have hB0 : BoxF (w.alloc (.cells #[.string ⟨#[]⟩,.string ⟨#[]⟩] 24)) w.heap.size := Fr.boxF (Fr.new rfl)
 have hrd := freadAll_nil (w.alloc (.cells #[.string ⟨#[]⟩,.string ⟨#[]⟩] 24))
 obtain ⟨s,t,k,hsk⟩ := outF_open (sumQ [])
 rw [hsk]
 have hfz : Fz (sumQ []) 1000000 := (sumQ_fz2 (K := 32) (n := 0) (fun q h => by simp at h) rfl).mono (by omega)
 have H := Lib.hid (And.intro hb0 (And.intro hB0 (And.intro hsk hfz)))
 clear hb0 hB0 hsk hfz
 go_enter Tryz.func51,Tryz.ntmps51
 go_wp2_with fail
 refine hrd.mono ?_
 rintro e w1 ⟨g2,rfl,hL,hb1⟩
 have hto := total_any g2 0 0 [] 32 w1 rfl (fun q h => by simp at h) (by omega) (by unfold maxW;omega) hL
 have HB := Lib.hid hb1
 clear hrd hL hb1
 go_wp2_with fail
 refine hto.mono ?_
 rintro e w2 ⟨v,rfl,hv,hb2⟩
 have hw := fwrite_any v _ w2 hv H.out.2.2.2
 rw [H.out.2.2.1] at hw
 obtain ⟨A1,n1,c1,k1,A2,n2,c2,k2,rfl,_,_⟩ := hv.open
 have HB2 := Lib.hid hb2
 clear hv hb2 hto
 go_wp2_with fail
 refine hw.mono ?_
 rintro e w3 ⟨rfl,hb3⟩
 have hB3 := ((H.out.2.1.call HB.out).call HB2.out).call hb3
 have hbw1 := belowt H.out.1 H.out.1.size HB.out
 have hbw2 := belowt hbw1 hbw1.size HB2.out
 have hbw := belowt hbw2 hbw2.size hb3
 obtain ⟨⟨q0,y0⟩,⟨q1,y1⟩,y2,y3⟩ := hB3.facts
 have HZ := Lib.hid hbw
 clear hB3 hbw1 hbw2 hbw hb3 hw
 go_wp2_with fail
 exact bodyPost_ret (v := .tuple #[.agg #[.string s,.string t],.int .i64 k]) (by simp [results,Tryz.results51,go_sem,y0,y1]) rfl ⟨rfl,(HZ.out.setCell (Nat.le_refl _) _).setCell (Nat.le_refl _) _⟩
end Go.Proofs.YtlfgpmnjnpdkdaaGreatDoor
