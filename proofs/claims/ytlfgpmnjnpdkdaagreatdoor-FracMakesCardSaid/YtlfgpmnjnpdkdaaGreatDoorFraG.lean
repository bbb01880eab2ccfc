/- Contracts: package frac: differences of fractions; a fraction read and written. -/
import Derived.Test.YtlfgpmnjnpdkdaaGreatDoorFraF
namespace Go.Proofs.YtlfgpmnjnpdkdaaGreatDoor
open Go.RowKit Vd
attribute [local go_sem ↓] Go.wp_at_zero Go.wp_at_succ
theorem Fz.neg {x : Rat} {K : Nat} (h : Fz x K) : Fz (-x) K := ⟨by rw [show (-x).num = -x.num from rfl,Int.natAbs_neg];exact h.1,h.2⟩
set_option maxRecDepth 100000 in
set_option maxHeartbeats 2000000 in
theorem raminus_any (v1 v2 : Value) (x y : Rat) (K L : Nat) (w : World) (h1 : RaV w v1 x) (h2 : RaV w v2 y) (hx : Fz x K) (hy : Fz y L) (hK : K + L + 8 ≤ maxW) :
 Calls Tryz.prog 76 #[v1,v2] w fun e w' => ∃ v,e = .returned v ∧ RaV w' v (x - y) ∧ Below w.heap.size w w' := by
 obtain ⟨A1,n1,c1,k1,A2,n2,c2,k2,rfl,hv1,hv2⟩ := h1.open
 obtain ⟨A3,n3,c3,k3,A4,n4,c4,k4,rfl,hv3,hv4⟩ := h2.open
 have HN : Hid (∀ W,BiS w A1 n1 c1 k1 A2 n2 c2 k2 A3 n3 c3 k3 A4 n4 c4 k4 W → Calls Tryz.prog 84 #[.agg #[.slice A3 n3 c3,.bool k3,.slice A4 n4 c4,.bool k4]] W fun e w' => ∃ (A : Option Addr) (n c : Nat) (k : Bool) (A' : Option Addr) (n' c' : Nat) (k' : Bool),e = .returned (.agg #[.slice A n c,.bool k,.slice A' n' c',.bool k']) ∧ RaV w' (.agg #[.slice A n c,.bool k,.slice A' n' c',.bool k']) (-y) ∧ BiS w A1 n1 c1 k1 A2 n2 c2 k2 A3 n3 c3 k3 A4 n4 c4 k4 w') := Lib.hid (fun W hS => by
  refine (raneg_any _ y W (h2.below hS.1.1)).mono ?_
  rintro e w' ⟨v,he,hv,hb⟩
  obtain ⟨A,n,c,k,A',n',c',k',rfl,_,_⟩ := hv.open
  exact ⟨A,n,c,k,A',n',c',k',he,hv,biS_step hS hb⟩)
 have HP : Hid (∀ W v,RaV W v (-y) → BiS w A1 n1 c1 k1 A2 n2 c2 k2 A3 n3 c3 k3 A4 n4 c4 k4 W → Calls Tryz.prog 75 #[.agg #[.slice A1 n1 c1,.bool k1,.slice A2 n2 c2,.bool k2],v] W fun e w' => ∃ (A : Option Addr) (n c : Nat) (k : Bool) (A' : Option Addr) (n' c' : Nat) (k' : Bool),e = .returned (.agg #[.slice A n c,.bool k,.slice A' n' c',.bool k']) ∧ SgV w' (.agg #[.slice A n c,.bool k]) (x - y).num ∧ SgV w' (.agg #[.slice A' n' c',.bool k']) ((x - y).den : Int) ∧ BiS w A1 n1 c1 k1 A2 n2 c2 k2 A3 n3 c3 k3 A4 n4 c4 k4 w') := Lib.hid (fun W v hv hS => by
  refine (raplus_any _ v x (-y) K L W (h1.below hS.1.1) hv hx hy.neg hK).mono ?_
  rintro e w' ⟨r,he,⟨A,n,c,k,A',n',c',k',rfl,g1,g2⟩,hb⟩
  rw [subQ_eq] at g1 g2
  exact ⟨A,n,c,k,A',n',c',k',he,g1,g2,biS_step hS hb⟩)
 have hS0 := biS_start w A1 n1 c1 k1 A2 n2 c2 k2 A3 n3 c3 k3 A4 n4 c4 k4
 clear h1 h2 hx hy hK hv1 hv2 hv3 hv4
 go_enter Tryz.func76,Tryz.ntmps76
 go_wp2_with fail
 have hS1 := biS_drew hS0
 clear hS0
 go_region_held3 (fun W => (Below w.heap.size w W ∧ BoxR W (w.heap.size + 1 + 1)) ∧ W.cell? ⟨w.heap.size,0,none⟩ = some (.slice A1 n1 c1) ∧ W.cell? ⟨w.heap.size,1,none⟩ = some (.bool k1) ∧ W.cell? ⟨w.heap.size,2,none⟩ = some (.slice A2 n2 c2) ∧ W.cell? ⟨w.heap.size,3,none⟩ = some (.bool k2) ∧ W.cell? ⟨w.heap.size + 1,0,none⟩ = some (.slice A3 n3 c3) ∧ W.cell? ⟨w.heap.size + 1,1,none⟩ = some (.bool k3) ∧ W.cell? ⟨w.heap.size + 1,2,none⟩ = some (.slice A4 n4 c4) ∧ W.cell? ⟨w.heap.size + 1,3,none⟩ = some (.bool k4)) (first | with_reducible assumption | exact ⟨⟨hS1.1.1,hS1.1.2⟩,hS1.2⟩ | (refine biS_store ?_ _ _ _ _ _ _ _ _;with_reducible assumption))
  (first
   | (go_at_call 84;with_reducible refine (HN.out _ ?_).mono ?_;with_reducible assumption;rintro e w5 ⟨A5,n5,c5,k5,A6,n6,c6,k6,rfl,hr5,hS5⟩)
   | (go_at_call 75;with_reducible refine (HP.out _ _ ?_ ?_).mono ?_;with_reducible assumption;with_reducible assumption;rintro e w7 ⟨A7,n7,c7,k7,A8,n8,c8,k8,rfl,hq7,hq8,hS7⟩;obtain ⟨⟨q0,y0⟩,⟨q1,y1⟩,⟨q2,y2⟩,⟨q3,y3⟩,y4,y5,y6,y7⟩ := hS7.1.2.facts))
 go_wp2_with fail
 exact bodyPost_ret (v := .agg #[.slice A7 n7 c7,.bool k7,.slice A8 n8 c8,.bool k8]) (by simp [results,Tryz.results76,go_sem,y0,y1,y2,y3]) rfl ⟨_,rfl,RaV.fin hS7.1.2 hq7 hq8,below_set4 hS7.1.1 (by omega)⟩
set_option maxRecDepth 100000 in
set_option maxHeartbeats 1000000 in
theorem fwriteW_any (v : Value) (z : Int) (w : World) (hv : SgV w v z) (hb : wlen B64 z.natAbs ≤ 1000000) :
 Calls Tryz.prog 94 #[v] w fun e w' => e = .returned (outV z) ∧ Below w.heap.size w w' := by
 obtain ⟨A,n,c,k,rfl⟩ := hv.open
 have ht := fun W (hb2 : Below w.heap.size w W) => text_any _ z 600 W (hv.below hb2) hb (by omega) (by omega)
 rw [show ((600 : Nat) : Int) = 600 from rfl] at ht
 have hbW : Below w.heap.size w (w.alloc (.cells #[.slice A n c,.bool k] 80)) := (Below.refl _ _).alloc (Nat.le_refl _) _
 have ht := ht _ hbW
 by_cases hs : small z
 · have HE : Hid (outV z = .tuple #[.string ⟨(wr z).toArray⟩,.int .i64 0]) := Lib.hid (by unfold outV;rw [if_pos hs])
   rw [show textV z 600 = .tuple #[.string ⟨(wr z).toArray⟩,.bool true] by unfold textV;rw [if_pos ((small_iff z).1 hs)]] at ht
   clear hs hv hb
   go_enter Tryz.func94,Tryz.ntmps94
   go_wp2_with fail
   refine ht.mono ?_
   rintro e w1 ⟨rfl,hb1⟩
   go_wp2_with fail
   go_ret2
   exact ⟨by rw [HE.out];rfl,hbW.trans (hb1.mono hbW.size)⟩
 · have HE : Hid (outV z = .tuple #[.string ⟨#[]⟩,.int .i64 6]) := Lib.hid (by unfold outV;rw [if_neg hs])
   rw [show textV z 600 = .tuple #[.string ⟨#[]⟩,.bool false] by unfold textV;rw [if_neg (fun h => hs ((small_iff z).2 h))]] at ht
   clear hs hv hb
   go_enter Tryz.func94,Tryz.ntmps94
   go_wp2_with fail
   refine ht.mono ?_
   rintro e w1 ⟨rfl,hb1⟩
   go_wp2_with fail
   go_ret2
   exact ⟨by rw [HE.out];rfl,hbW.trans (hb1.mono hbW.size)⟩
theorem textV_tuple (z : Int) : (small z ∧ textV z 600 = .tuple #[.string ⟨(wr z).toArray⟩,.bool true]) ∨ (¬ small z ∧ textV z 600 = .tuple #[.string ⟨#[]⟩,.bool false]) := by
 by_cases h : small z
 · exact Or.inl ⟨h,by unfold textV;rw [if_pos ((small_iff z).1 h)]⟩
 · exact Or.inr ⟨h,by unfold textV;rw [if_neg (fun k => h ((small_iff z).2 k))]⟩
def outB (q : Rat) : Value := if smallF q then .tuple #[frV q,.bool true] else .tuple #[frNone,.bool false]
set_option maxRecDepth 100000 in
set_option maxHeartbeats 2000000 in
theorem rafrac_any (v : Value) (x : Rat) (w : World) (h1 : RaV w v x) (hx : Fz x 1000000) :
    Calls Tryz.prog 105 #[v] w fun e w' => e = .returned (outB x) ∧ Below w.heap.size w w' := by
 obtain ⟨A1,n1,c1,k1,A2,n2,c2,k2,rfl,hv1,hv2⟩ := h1.open
 obtain ⟨W0,hW0⟩ : ∃ W0,W0 = (w.alloc (.cells #[.slice A1 n1 c1,.bool k1,.slice A2 n2 c2,.bool k2] 82)).alloc (.cells #[.string ⟨#[]⟩,.string ⟨#[]⟩] 24) := ⟨_,rfl⟩
 have hbW : Below w.heap.size w W0 := by rw [hW0];exact ((Below.refl _ _).alloc (Nat.le_refl _) _).alloc (by simp) _
 have hE0 : Fr W0 w.heap.size #[.slice A1 n1 c1,.bool k1,.slice A2 n2 c2,.bool k2] 82 := by rw [hW0];exact (Fr.new rfl).old
 have hE1 : Fr W0 (w.heap.size + 1) #[.string ⟨#[]⟩,.string ⟨#[]⟩] 24 := by rw [hW0];exact Fr.new (by simp)
 have hc1 := text_any _ x.num 600 W0 (hv1.below hbW) hx.1 (by omega) (by omega)
 have hc2 := fun W (hb : Below W0.heap.size W0 W) => text_any _ (x.den : Int) 600 W ((hv2.below hbW).below hb) (fz_den hx) (by omega) (by omega)
 rw [show ((600 : Nat) : Int) = 600 from rfl] at hc1
 rw [show ((600 : Nat) : Int) = 600 from rfl] at hc2
 have hf0 := fr_built0
 have hf1 := fr_built
 rcases textV_tuple x.num with ⟨hs1,e1⟩ | ⟨hs1,e1⟩ <;> rcases textV_tuple (x.den : Int) with ⟨hs2,e2⟩ | ⟨hs2,e2⟩
 · rw [e1] at hc1
   simp only [e2] at hc2
   have HO : Hid (outB x = .tuple #[frV x,.bool true]) := Lib.hid (by unfold outB;rw [if_pos ⟨hs1,hs2⟩])
   obtain ⟨s1,hs1'⟩ : ∃ s,s = wr x.num := ⟨_,rfl⟩
   obtain ⟨s2,hs2'⟩ : ∃ s,s = wr (x.den : Int) := ⟨_,rfl⟩
   simp only [← hs1'] at hc1
   simp only [← hs2'] at hc2
   have HB := Lib.hid (And.intro hbW (And.intro hE0 (And.intro hE1 (And.intro hs1' hs2'))))
   rw [hW0] at hc1
   clear h1 hv1 hv2 hx hbW hE0 hE1 hs1 hs2 e1 e2 hs1' hs2'
   go_enter Tryz.func105,Tryz.ntmps105
   go_wp2_with fail
   refine hc1.mono ?_
   rw [← hW0]
   rintro e w1 ⟨rfl,hb1⟩
   have hc2' := hc2 w1 hb1
   obtain ⟨a0,a1,a2,a3,-⟩ := (HB.out.2.1.call hb1).cells4
   have HB1 := Lib.hid hb1
   clear hc1 hc2 hb1 hW0
   go_wp2_with fail
   refine hc2'.mono ?_
   rintro e w2 ⟨rfl,hb2⟩
   have hF := (HB.out.2.2.1.call HB1.out).call hb2
   obtain ⟨p0,p1,z0,z1⟩ := hF.cells2
   have hbel := belowt (belowt HB.out.1 HB.out.1.size HB1.out) (by have := HB.out.1.size;have := HB1.out.size;omega) hb2
   clear hc2' a0 a1 a2 a3 hb2
   go_wp2_with fail
   exact bodyPost_ret (v := .tuple #[.agg #[.string ⟨s1.toArray⟩,.string ⟨s2.toArray⟩],.bool true]) (by simp [results,Tryz.results105,go_sem,p0,p1]) rfl ⟨by rw [HO.out];unfold frV;rw [HB.out.2.2.2.1,HB.out.2.2.2.2],(hbel.setCell (by simp) _).setCell (by simp) _⟩
 · rw [e1] at hc1
   simp only [e2] at hc2
   have HO : Hid (outB x = .tuple #[frNone,.bool false]) := Lib.hid (by unfold outB;rw [if_neg (fun h => hs2 h.2)])
   obtain ⟨s1,hs1'⟩ : ∃ s,s = wr x.num := ⟨_,rfl⟩
   obtain ⟨s2,hs2'⟩ : ∃ s,s = ([] : List UInt8) := ⟨_,rfl⟩
   simp only [← hs1'] at hc1
   have HB := Lib.hid (And.intro hbW (And.intro hE0 (And.intro hE1 (And.intro hs1' hs2'))))
   rw [hW0] at hc1
   clear h1 hv1 hv2 hx hbW hE0 hE1 hs1 hs2 e1 e2 hs1' hs2'
   go_enter Tryz.func105,Tryz.ntmps105
   go_wp2_with fail
   refine hc1.mono ?_
   rw [← hW0]
   rintro e w1 ⟨rfl,hb1⟩
   have hc2' := hc2 w1 hb1
   obtain ⟨a0,a1,a2,a3,-⟩ := (HB.out.2.1.call hb1).cells4
   have HB1 := Lib.hid hb1
   clear hc1 hc2 hb1 hW0
   go_wp2_with fail
   refine hc2'.mono ?_
   rintro e w2 ⟨rfl,hb2⟩
   have hF := (HB.out.2.2.1.call HB1.out).call hb2
   obtain ⟨p0,p1,z0,z1⟩ := hF.cells2
   have hbel := belowt (belowt HB.out.1 HB.out.1.size HB1.out) (by have := HB.out.1.size;have := HB1.out.size;omega) hb2
   clear hc2' a0 a1 a2 a3 hb2
   go_wp2_with fail
   exact bodyPost_ret (v := .tuple #[.agg #[.string ⟨#[]⟩,.string ⟨#[]⟩],.bool false]) (by simp [results,Tryz.results105,go_sem,p0,p1]) rfl ⟨by rw [HO.out];rfl,(hbel.setCell (by simp) _).setCell (by simp) _⟩
 · rw [e1] at hc1
   simp only [e2] at hc2
   have HO : Hid (outB x = .tuple #[frNone,.bool false]) := Lib.hid (by unfold outB;rw [if_neg (fun h => hs1 h.1)])
   obtain ⟨s1,hs1'⟩ : ∃ s,s = ([] : List UInt8) := ⟨_,rfl⟩
   obtain ⟨s2,hs2'⟩ : ∃ s,s = wr (x.den : Int) := ⟨_,rfl⟩
   simp only [← hs2'] at hc2
   have HB := Lib.hid (And.intro hbW (And.intro hE0 (And.intro hE1 (And.intro hs1' hs2'))))
   rw [hW0] at hc1
   clear h1 hv1 hv2 hx hbW hE0 hE1 hs1 hs2 e1 e2 hs1' hs2'
   go_enter Tryz.func105,Tryz.ntmps105
   go_wp2_with fail
   refine hc1.mono ?_
   rw [← hW0]
   rintro e w1 ⟨rfl,hb1⟩
   have hc2' := hc2 w1 hb1
   obtain ⟨a0,a1,a2,a3,-⟩ := (HB.out.2.1.call hb1).cells4
   have HB1 := Lib.hid hb1
   clear hc1 hc2 hb1 hW0
   go_wp2_with fail
   refine hc2'.mono ?_
   rintro e w2 ⟨rfl,hb2⟩
   have hF := (HB.out.2.2.1.call HB1.out).call hb2
   obtain ⟨p0,p1,z0,z1⟩ := hF.cells2
   have hbel := belowt (belowt HB.out.1 HB.out.1.size HB1.out) (by have := HB.out.1.size;have := HB1.out.size;omega) hb2
   clear hc2' a0 a1 a2 a3 hb2
   go_wp2_with fail
   exact bodyPost_ret (v := .tuple #[.agg #[.string ⟨#[]⟩,.string ⟨#[]⟩],.bool false]) (by simp [results,Tryz.results105,go_sem,p0,p1]) rfl ⟨by rw [HO.out];rfl,(hbel.setCell (by simp) _).setCell (by simp) _⟩
 · rw [e1] at hc1
   simp only [e2] at hc2
   have HO : Hid (outB x = .tuple #[frNone,.bool false]) := Lib.hid (by unfold outB;rw [if_neg (fun h => hs1 h.1)])
   obtain ⟨s1,hs1'⟩ : ∃ s,s = ([] : List UInt8) := ⟨_,rfl⟩
   obtain ⟨s2,hs2'⟩ : ∃ s,s = ([] : List UInt8) := ⟨_,rfl⟩
   have HB := Lib.hid (And.intro hbW (And.intro hE0 (And.intro hE1 (And.intro hs1' hs2'))))
   rw [hW0] at hc1
   clear h1 hv1 hv2 hx hbW hE0 hE1 hs1 hs2 e1 e2 hs1' hs2'
   go_enter Tryz.func105,Tryz.ntmps105
   go_wp2_with fail
   refine hc1.mono ?_
   rw [← hW0]
   rintro e w1 ⟨rfl,hb1⟩
   have hc2' := hc2 w1 hb1
   obtain ⟨a0,a1,a2,a3,-⟩ := (HB.out.2.1.call hb1).cells4
   have HB1 := Lib.hid hb1
   clear hc1 hc2 hb1 hW0
   go_wp2_with fail
   refine hc2'.mono ?_
   rintro e w2 ⟨rfl,hb2⟩
   have hF := (HB.out.2.2.1.call HB1.out).call hb2
   obtain ⟨p0,p1,z0,z1⟩ := hF.cells2
   have hbel := belowt (belowt HB.out.1 HB.out.1.size HB1.out) (by have := HB.out.1.size;have := HB1.out.size;omega) hb2
   clear hc2' a0 a1 a2 a3 hb2
   go_wp2_with fail
   exact bodyPost_ret (v := .tuple #[.agg #[.string ⟨#[]⟩,.string ⟨#[]⟩],.bool false]) (by simp [results,Tryz.results105,go_sem,p0,p1]) rfl ⟨by rw [HO.out];rfl,(hbel.setCell (by simp) _).setCell (by simp) _⟩
set_option maxRecDepth 100000 in
set_option maxHeartbeats 2000000 in
theorem fwrite_any (v : Value) (x : Rat) (w : World) (h1 : RaV w v x) (hx : Fz x 1000000) :
    Calls Tryz.prog 52 #[v] w fun e w' => e = .returned (outF x) ∧ Below w.heap.size w w' := by
 obtain ⟨A1,n1,c1,k1,A2,n2,c2,k2,rfl,hv1,hv2⟩ := h1.open
 obtain ⟨W0,hW0⟩ : ∃ W0,W0 = (w.alloc (.cells #[.slice A1 n1 c1,.bool k1,.slice A2 n2 c2,.bool k2] 82)).alloc (.cells #[.string ⟨#[]⟩,.string ⟨#[]⟩] 24) := ⟨_,rfl⟩
 have hbW : Below w.heap.size w W0 := by rw [hW0];exact ((Below.refl _ _).alloc (Nat.le_refl _) _).alloc (by simp) _
 have hE1 : Fr W0 (w.heap.size + 1) #[.string ⟨#[]⟩,.string ⟨#[]⟩] 24 := by rw [hW0];exact Fr.new (by simp)
 have hc := rafrac_any _ x W0 (h1.below hbW) hx
 have hf0 := fr_built0
 have HB := Lib.hid (And.intro hbW hE1)
 rw [hW0] at hc
 by_cases hs : smallF x
 · have HO : Hid (outF x = .tuple #[frV x,.int .i64 0]) := Lib.hid (by unfold outF;rw [if_pos hs])
   rw [show outB x = .tuple #[frV x,.bool true] by unfold outB;rw [if_pos hs]] at hc
   unfold frV at hc
   obtain ⟨s1,hs1⟩ : ∃ s,s = wr x.num := ⟨_,rfl⟩
   obtain ⟨s2,hs2⟩ : ∃ s,s = wr (x.den : Int) := ⟨_,rfl⟩
   simp only [← hs1,← hs2] at hc
   have HS := Lib.hid (And.intro hs1 hs2)
   clear h1 hv1 hv2 hx hbW hE1 hs hs1 hs2
   go_enter Tryz.func52,Tryz.ntmps52
   go_wp2_with fail
   refine hc.mono ?_
   rw [← hW0]
   rintro e w1 ⟨rfl,hb1⟩
   have hF := HB.out.2.call hb1
   obtain ⟨p0,p1,z0,z1⟩ := hF.cells2a
   have hbel := belowt HB.out.1 HB.out.1.size hb1
   have HB1 := Lib.hid hbel
   clear hc hb1 hW0 hF hbel
   go_wp2_with fail
   exact bodyPost_ret (v := .tuple #[.agg #[.string ⟨s1.toArray⟩,.string ⟨s2.toArray⟩],.int .i64 0]) (by simp [results,Tryz.results52,go_sem,p0,p1]) rfl ⟨by rw [HO.out];unfold frV;rw [HS.out.1,HS.out.2],((HB1.out.alloc HB1.out.size _).setCell (by simp) _).setCell (by simp) _⟩
 · have HO : Hid (outF x = .tuple #[frNone,.int .i64 6]) := Lib.hid (by unfold outF;rw [if_neg hs])
   rw [show outB x = .tuple #[frNone,.bool false] by unfold outB;rw [if_neg hs]] at hc
   unfold frNone at hc
   clear h1 hv1 hv2 hx hbW hE1 hs
   go_enter Tryz.func52,Tryz.ntmps52
   go_wp2_with fail
   refine hc.mono ?_
   rw [← hW0]
   rintro e w1 ⟨rfl,hb1⟩
   have hF := HB.out.2.call hb1
   obtain ⟨p0,p1,z0,z1⟩ := hF.cells2a
   have hbel := belowt HB.out.1 HB.out.1.size hb1
   have HB1 := Lib.hid hbel
   clear hc hb1 hW0 hF hbel
   go_wp2_with fail
   exact bodyPost_ret (v := .tuple #[.agg #[.string ⟨#[]⟩,.string ⟨#[]⟩],.int .i64 6]) (by simp [results,Tryz.results52,go_sem,p0,p1]) rfl ⟨by rw [HO.out];rfl,((HB1.out.alloc HB1.out.size _).setCell (by simp) _).setCell (by simp) _⟩
end Go.Proofs.YtlfgpmnjnpdkdaaGreatDoor
namespace Go.Proofs.YtlfgpmnjnpdkdaaGreatDoor
open Go.RowKit Vd
attribute [local go_sem ↓] Go.wp_at_zero Go.wp_at_succ
theorem wlen_1 : wlen B64 1 ≤ maxW := Nat.le_trans (wlen_le_one two_le_B (by decide)) (by unfold maxW;omega)
def raNone : Value := .agg #[.slice none 0 0,.bool false,.slice none 0 0,.bool false]
set_option maxRecDepth 100000 in
set_option maxHeartbeats 2000000 in
theorem rread_none1 (ln ld : List UInt8) (w : World) (h1 : rd ln = none) :
    Calls Tryz.prog 120 #[.agg #[.string ⟨ln.toArray⟩,.string ⟨ld.toArray⟩]] w fun e w' => e = .returned (.tuple #[raNone,.bool false]) ∧ Below w.heap.size w w' := by
 obtain ⟨W0,hW0⟩ : ∃ W0,W0 = (w.alloc (.cells #[.string ⟨ln.toArray⟩,.string ⟨ld.toArray⟩] 24)).alloc (.cells #[.slice none 0 0,.bool false,.slice none 0 0,.bool false] 82) := ⟨_,rfl⟩
 have hbW : Below w.heap.size w W0 := by rw [hW0];exact ((Below.refl _ _).alloc (Nat.le_refl _) _).alloc (by simp) _
 have hE0 : Fr W0 w.heap.size #[.string ⟨ln.toArray⟩,.string ⟨ld.toArray⟩] 24 := by rw [hW0];exact (Fr.new rfl).old
 have hE1 : BoxR W0 (w.heap.size + 1) := by rw [hW0];exact Fr.boxR (Fr.new (by simp))
 have hrb := ra_built
 have hrb0 := ra_built0
 have hr1 := read600_none ln W0 h1
 rw [hW0] at hr1
 have hr2 : ∀ W,Calls Tryz.prog 111 #[.string ⟨ld.toArray⟩,.int .i64 600] W fun e w' => ∃ (A : Option Addr) (n c : Nat) (k ok : Bool),e = .returned (.tuple #[.agg #[.slice A n c,.bool k],.bool ok]) ∧ Below W.heap.size W w' := fun W => by
  cases h : rd ld with
  | none => exact (read600_none ld W h).mono fun e w' ⟨A,n,c,k,he,hb⟩ => ⟨A,n,c,k,false,he,hb⟩
  | some z => exact (read600_some ld z W h).mono fun e w' ⟨A,n,c,k,he,_,hb⟩ => ⟨A,n,c,k,true,he,hb⟩
 have HB := Lib.hid (And.intro hbW (And.intro hE0 hE1))
 clear h1 hbW hE0 hE1
 unfold raNone
 go_enter Tryz.func120,Tryz.ntmps120
 go_wp2_with fail
 refine hr1.mono ?_
 rw [← hW0]
 rintro e w1 ⟨A1,n1,c1,k1,rfl,hb1⟩
 have hF1 := HB.out.2.1.call hb1
 obtain ⟨a0,a1,-,-⟩ := hF1.cells2a
 have HB1 := Lib.hid hb1
 clear hr1 hb1 hF1 hW0
 go_wp2_with fail
 refine (hr2 _).mono ?_
 rintro e w2 ⟨A2,n2,c2,k2,ok,rfl,hb2⟩
 have hba : Below w1.heap.size w1 w2 := ((Below.refl _ _).alloc (Nat.le_refl _) _).trans (hb2.mono (by simp))
 have hF4 : Fr w2 w1.heap.size #[.slice A1 n1 c1,.bool k1] 80 := (Fr.new rfl).call hb2
 have hB2 := (HB.out.2.2.call HB1.out).call hba
 have hbw := belowt (belowt HB.out.1 HB.out.1.size HB1.out) (by have := HB.out.1.size;have := (HB1.out).size;omega) hba
 have hB3 := hB2.old (u := .cells #[.slice A2 n2 c2,.bool k2] 80)
 obtain ⟨⟨q0,y0⟩,⟨q1,y1⟩,⟨q2,y2⟩,⟨q3,y3⟩,y4,y5,y6,y7⟩ := hB3.facts
 have hbz := hbw.alloc hbw.size (.cells #[.slice A2 n2 c2,.bool k2] 80)
 have hF4a := hF4.old (u := .cells #[.slice A2 n2 c2,.bool k2] 80)
 obtain ⟨u0,u1,-,-⟩ := hF4a.cells2
 clear hb2 hba hF4 hB2 hB3 hbw hF4a a0 a1
 go_wp2_with fail
 exact bodyPost_ret (v := .tuple #[.agg #[.slice none 0 0,.bool false,.slice none 0 0,.bool false],.bool false]) (by simp [results,Tryz.results120,go_sem,y0,y1,y2,y3]) rfl ⟨rfl,below_set4 hbz (by omega)⟩
set_option maxRecDepth 100000 in
set_option maxHeartbeats 2000000 in
theorem rread_none2 (ln ld : List UInt8) (n : Int) (w : World) (h1 : rd ln = some n) (h2 : rd ld = none) :
    Calls Tryz.prog 120 #[.agg #[.string ⟨ln.toArray⟩,.string ⟨ld.toArray⟩]] w fun e w' => e = .returned (.tuple #[raNone,.bool false]) ∧ Below w.heap.size w w' := by
 obtain ⟨W0,hW0⟩ : ∃ W0,W0 = (w.alloc (.cells #[.string ⟨ln.toArray⟩,.string ⟨ld.toArray⟩] 24)).alloc (.cells #[.slice none 0 0,.bool false,.slice none 0 0,.bool false] 82) := ⟨_,rfl⟩
 have hbW : Below w.heap.size w W0 := by rw [hW0];exact ((Below.refl _ _).alloc (Nat.le_refl _) _).alloc (by simp) _
 have hE0 : Fr W0 w.heap.size #[.string ⟨ln.toArray⟩,.string ⟨ld.toArray⟩] 24 := by rw [hW0];exact (Fr.new rfl).old
 have hE1 : BoxR W0 (w.heap.size + 1) := by rw [hW0];exact Fr.boxR (Fr.new (by simp))
 have hrb := ra_built
 have hrb0 := ra_built0
 have hr1 := read600_some ln n W0 h1
 rw [hW0] at hr1
 have hr2 := fun W => read600_none ld W h2
 have HB := Lib.hid (And.intro hbW (And.intro hE0 hE1))
 clear h1 h2 hbW hE0 hE1
 unfold raNone
 go_enter Tryz.func120,Tryz.ntmps120
 go_wp2_with fail
 refine hr1.mono ?_
 rw [← hW0]
 rintro e w1 ⟨A1,n1,c1,k1,rfl,hv1,hb1⟩
 have hF1 := HB.out.2.1.call hb1
 obtain ⟨a0,a1,-,-⟩ := hF1.cells2a
 have HB1 := Lib.hid (And.intro hb1 hv1)
 clear hr1 hb1 hv1 hF1 hW0
 go_wp2_with fail
 refine (hr2 _).mono ?_
 rintro e w2 ⟨A2,n2,c2,k2,rfl,hb2⟩
 have hba : Below w1.heap.size w1 w2 := ((Below.refl _ _).alloc (Nat.le_refl _) _).trans (hb2.mono (by simp))
 have hF4 : Fr w2 w1.heap.size #[.slice A1 n1 c1,.bool k1] 80 := (Fr.new rfl).call hb2
 have hB2 := (HB.out.2.2.call HB1.out.1).call hba
 have hbw := belowt (belowt HB.out.1 HB.out.1.size HB1.out.1) (by have := HB.out.1.size;have := (HB1.out.1).size;omega) hba
 have hB3 := hB2.old (u := .cells #[.slice A2 n2 c2,.bool k2] 80)
 obtain ⟨⟨q0,y0⟩,⟨q1,y1⟩,⟨q2,y2⟩,⟨q3,y3⟩,y4,y5,y6,y7⟩ := hB3.facts
 have hbz := hbw.alloc hbw.size (.cells #[.slice A2 n2 c2,.bool k2] 80)
 have hF4a := hF4.old (u := .cells #[.slice A2 n2 c2,.bool k2] 80)
 obtain ⟨u0,u1,-,-⟩ := hF4a.cells2
 clear hb2 hba hF4 hB2 hB3 hbw hF4a a0 a1
 go_wp2_with fail
 exact bodyPost_ret (v := .tuple #[.agg #[.slice none 0 0,.bool false,.slice none 0 0,.bool false],.bool false]) (by simp [results,Tryz.results120,go_sem,y0,y1,y2,y3]) rfl ⟨rfl,below_set4 hbz (by omega)⟩
set_option maxRecDepth 100000 in
set_option maxHeartbeats 2000000 in
theorem rread_none3 (ln ld : List UInt8) (n d : Int) (w : World) (h1 : rd ln = some n) (h2 : rd ld = some d) (hd : ¬ 0 < d) :
    Calls Tryz.prog 120 #[.agg #[.string ⟨ln.toArray⟩,.string ⟨ld.toArray⟩]] w fun e w' => e = .returned (.tuple #[raNone,.bool false]) ∧ Below w.heap.size w w' := by
 obtain ⟨W0,hW0⟩ : ∃ W0,W0 = (w.alloc (.cells #[.string ⟨ln.toArray⟩,.string ⟨ld.toArray⟩] 24)).alloc (.cells #[.slice none 0 0,.bool false,.slice none 0 0,.bool false] 82) := ⟨_,rfl⟩
 have hbW : Below w.heap.size w W0 := by rw [hW0];exact ((Below.refl _ _).alloc (Nat.le_refl _) _).alloc (by simp) _
 have hE0 : Fr W0 w.heap.size #[.string ⟨ln.toArray⟩,.string ⟨ld.toArray⟩] 24 := by rw [hW0];exact (Fr.new rfl).old
 have hE1 : BoxR W0 (w.heap.size + 1) := by rw [hW0];exact Fr.boxR (Fr.new (by simp))
 have hrb := ra_built
 have hrb0 := ra_built0
 have hr1 := read600_some ln n W0 h1
 rw [hW0] at hr1
 have hr2 := fun W => read600_some ld d W h2
 obtain ⟨sg,hsgE⟩ : ∃ s,s = signZ d := ⟨_,rfl⟩
 have hsgl : sg < 1 := by rw [hsgE];unfold signZ;split <;> (try split) <;> omega
 have HSG := Lib.hid hsgE
 have HB := Lib.hid (And.intro hbW (And.intro hE0 hE1))
 clear h1 h2 hbW hE0 hE1 hd hsgE
 unfold raNone
 go_enter Tryz.func120,Tryz.ntmps120
 go_wp2_with fail
 refine hr1.mono ?_
 rw [← hW0]
 rintro e w1 ⟨A1,n1,c1,k1,rfl,hv1,hb1⟩
 have hF1 := HB.out.2.1.call hb1
 obtain ⟨a0,a1,-,-⟩ := hF1.cells2a
 have HB1 := Lib.hid (And.intro hb1 hv1)
 clear hr1 hb1 hv1 hF1 hW0
 go_wp2_with fail
 refine (hr2 _).mono ?_
 rintro e w2 ⟨A2,n2,c2,k2,rfl,hv2,hb2⟩
 have hba : Below w1.heap.size w1 w2 := ((Below.refl _ _).alloc (Nat.le_refl _) _).trans (hb2.mono (by simp))
 have hF4 : Fr w2 w1.heap.size #[.slice A1 n1 c1,.bool k1] 80 := (Fr.new rfl).call hb2
 have hB2 := (HB.out.2.2.call HB1.out.1).call hba
 have hbw := belowt (belowt HB.out.1 HB.out.1.size HB1.out.1) (by have := HB.out.1.size;have := (HB1.out.1).size;omega) hba
 have hv2a := hv2.old (u := .cells #[.slice A2 n2 c2,.bool k2] 80)
 have hsg := sign_any _ d _ hv2a
 rw [← HSG.out] at hsg
 have hF6 : Fr (w2.alloc (.cells #[.slice A2 n2 c2,.bool k2] 80)) w2.heap.size #[.slice A2 n2 c2,.bool k2] 80 := Fr.new rfl
 have HC := Lib.hid (And.intro hba (And.intro (hF4.old (u := .cells #[.slice A2 n2 c2,.bool k2] 80)) (And.intro (hB2.old (u := .cells #[.slice A2 n2 c2,.bool k2] 80)) (And.intro (hbw.alloc hbw.size (.cells #[.slice A2 n2 c2,.bool k2] 80)) (And.intro hF6 (And.intro hv2a (And.intro hb2 (And.intro hbw.size hF4.lt))))))))
 clear hb2 hv2 hba hF4 hB2 hbw hF6 a0 a1 hv2a hr2
 go_wp2_with fail
 refine hsg.mono ?_
 rintro e w3 ⟨rfl,hb3⟩
 obtain ⟨hba,hF4,hB2,hbw,hF6,hv2a,hb2,hsz,hlt4⟩ := HC.out
 have hB3 := hB2.call hb3
 obtain ⟨⟨q0,y0⟩,⟨q1,y1⟩,⟨q2,y2⟩,⟨q3,y3⟩,y4,y5,y6,y7⟩ := hB3.facts
 have hbz := belowt hbw hbw.size hb3
 clear hba hF4 hB2 hbw hF6 hv2a hb2 hB3 hb3 hsg
 go_wp2_with fail
 exact bodyPost_ret (v := .tuple #[.agg #[.slice none 0 0,.bool false,.slice none 0 0,.bool false],.bool false]) (by simp [results,Tryz.results120,go_sem,y0,y1,y2,y3]) rfl ⟨rfl,below_set4 hbz (by omega)⟩
set_option maxRecDepth 100000 in
set_option maxHeartbeats 2000000 in
theorem rread_none4 (ln ld : List UInt8) (n d : Int) (w : World) (h1 : rd ln = some n) (h2 : rd ld = some d) (hd : 0 < d) (hg : Nat.gcd n.natAbs d.natAbs ≠ 1) :
    Calls Tryz.prog 120 #[.agg #[.string ⟨ln.toArray⟩,.string ⟨ld.toArray⟩]] w fun e w' => e = .returned (.tuple #[raNone,.bool false]) ∧ Below w.heap.size w w' := by
 obtain ⟨W0,hW0⟩ : ∃ W0,W0 = (w.alloc (.cells #[.string ⟨ln.toArray⟩,.string ⟨ld.toArray⟩] 24)).alloc (.cells #[.slice none 0 0,.bool false,.slice none 0 0,.bool false] 82) := ⟨_,rfl⟩
 have hbW : Below w.heap.size w W0 := by rw [hW0];exact ((Below.refl _ _).alloc (Nat.le_refl _) _).alloc (by simp) _
 have hE0 : Fr W0 w.heap.size #[.string ⟨ln.toArray⟩,.string ⟨ld.toArray⟩] 24 := by rw [hW0];exact (Fr.new rfl).old
 have hE1 : BoxR W0 (w.heap.size + 1) := by rw [hW0];exact Fr.boxR (Fr.new (by simp))
 have hrb := ra_built
 have hrb0 := ra_built0
 have hr1 := read600_some ln n W0 h1
 rw [hW0] at hr1
 have hr2 := fun W => read600_some ld d W h2
 have hsgE : signZ d = 1 := by unfold signZ;rw [if_neg (by omega),if_neg (by omega)]
 have HSG := Lib.hid hsgE
 have HR := Lib.hid (And.intro h1 h2)
 obtain ⟨G,hG⟩ : ∃ G : Int,G = ((Nat.gcd n.natAbs d.natAbs : Nat) : Int) := ⟨_,rfl⟩
 have hGw : wlen B64 ((Nat.gcd n.natAbs d.natAbs : Nat) : Int).natAbs ≤ maxW := by
  rw [Int.natAbs_natCast]
  exact Nat.le_trans (wlen_mono two_le_B (Nat.gcd_le_right _ (by omega))) (Nat.le_trans (rd_wlen h2) (by unfold maxW;omega))
 obtain ⟨o,hoE⟩ : ∃ o : Int,o = cmpZ ((Nat.gcd n.natAbs d.natAbs : Nat) : Int) 1 := ⟨_,rfl⟩
 have hon : ¬ o = 0 := by rw [hoE];unfold cmpZ;split <;> (try split) <;> omega
 have hob : (o != 0) = true := by rw [bne_iff_ne];exact hon
 have HO := Lib.hid (And.intro hoE hGw)
 have HB := Lib.hid (And.intro hbW (And.intro hE0 hE1))
 clear h1 h2 hbW hE0 hE1 hd hsgE hg hG hGw hoE
 unfold raNone
 go_enter Tryz.func120,Tryz.ntmps120
 go_wp2_with fail
 refine hr1.mono ?_
 rw [← hW0]
 rintro e w1 ⟨A1,n1,c1,k1,rfl,hv1,hb1⟩
 have hF1 := HB.out.2.1.call hb1
 obtain ⟨a0,a1,-,-⟩ := hF1.cells2a
 have HB1 := Lib.hid (And.intro hb1 hv1)
 clear hr1 hb1 hv1 hF1 hW0
 go_wp2_with fail
 refine (hr2 _).mono ?_
 rintro e w2 ⟨A2,n2,c2,k2,rfl,hv2,hb2⟩
 have hba : Below w1.heap.size w1 w2 := ((Below.refl _ _).alloc (Nat.le_refl _) _).trans (hb2.mono (by simp))
 have hF4 : Fr w2 w1.heap.size #[.slice A1 n1 c1,.bool k1] 80 := (Fr.new rfl).call hb2
 have hB2 := (HB.out.2.2.call HB1.out.1).call hba
 have hbw := belowt (belowt HB.out.1 HB.out.1.size HB1.out.1) (by have := HB.out.1.size;have := (HB1.out.1).size;omega) hba
 have hv2a := hv2.old (u := .cells #[.slice A2 n2 c2,.bool k2] 80)
 have hsg := sign_any _ d _ hv2a
 rw [HSG.out] at hsg
 have hF6 : Fr (w2.alloc (.cells #[.slice A2 n2 c2,.bool k2] 80)) w2.heap.size #[.slice A2 n2 c2,.bool k2] 80 := Fr.new rfl
 have HC := Lib.hid (And.intro hba (And.intro (hF4.old (u := .cells #[.slice A2 n2 c2,.bool k2] 80)) (And.intro (hB2.old (u := .cells #[.slice A2 n2 c2,.bool k2] 80)) (And.intro (hbw.alloc hbw.size (.cells #[.slice A2 n2 c2,.bool k2] 80)) (And.intro hF6 (And.intro hv2a (And.intro hb2 (And.intro hbw.size hF4.lt))))))))
 clear hb2 hv2 hba hF4 hB2 hbw hF6 a0 a1 hv2a hr2
 go_wp2_with fail
 refine hsg.mono ?_
 rintro e w3 ⟨rfl,hb3⟩
 obtain ⟨hba,hF4,hB2,hbw,hF6,hv2a,hb2,hsz,hlt4⟩ := HC.out
 have hF43 := hF4.call hb3
 have hF63 := hF6.call hb3
 obtain ⟨u0,u1,-,-⟩ := hF43.cells2
 obtain ⟨u2,u3,-,-⟩ := hF63.cells2
 have hb13 : Below w1.heap.size w1 w3 := (hba.alloc hba.size _).trans (hb3.mono (by have := hba.size;simp;omega))
 have hdv := divisor_any _ _ n d w3 (HB1.out.2.below hb13) (hv2a.below hb3) (Nat.le_trans (Nat.add_le_add_right (rd_wlen HR.out.1) 1) (by unfold maxW;omega)) (Nat.le_trans (Nat.add_le_add_right (rd_wlen HR.out.2) 1) (by unfold maxW;omega))
 have hB3 := hB2.call hb3
 have hbz := belowt hbw hbw.size hb3
 have HD := Lib.hid (And.intro hF43 (And.intro hF63 (And.intro hB3 (And.intro hbz (And.intro (HB1.out.2.below hb13) (hv2a.below hb3))))))
 clear hba hF4 hB2 hbw hF6 hv2a hb2 hb3 hsg hF43 hF63 hb13 hB3 hbz HC
 go_wp2_with fail
 refine hdv.mono ?_
 rintro e w4 ⟨dv,rfl,hdv4,hb4⟩
 obtain ⟨A4,n4,c4,k4,rfl⟩ := hdv4.open
 have hof := numOf_any 1 w4 (by omega) (by omega)
 have HE := Lib.hid (And.intro hdv4 hb4)
 clear hdv hdv4 hb4 u0 u1 u2 u3
 go_wp2_with fail
 refine hof.mono ?_
 rintro e w5 ⟨A5,n5,c5,k5,rfl,hv5,hb5⟩
 have hor := orderZ_any _ _ _ _ w5 (HE.out.1.below hb5) hv5 HO.out.2 wlen_1
 rw [← HO.out.1] at hor
 have HG := Lib.hid hb5
 clear hof hb5 hv5
 go_wp2_with fail
 refine hor.mono ?_
 rintro e w6 ⟨rfl,hb6⟩
 obtain ⟨hF43,hF63,hB3,hbz,hn3,hd3⟩ := HD.out
 have hb36 : Below w3.heap.size w3 w6 := belowt (belowt HE.out.2 HE.out.2.size HG.out) (by have := HE.out.2.size;have := HG.out.size;omega) hb6
 have hB6 := hB3.call hb36
 obtain ⟨⟨q0,y0⟩,⟨q1,y1⟩,⟨q2,y2⟩,⟨q3,y3⟩,y4,y5,y6,y7⟩ := hB6.facts
 have hbe := belowt hbz hbz.size hb36
 clear hF43 hF63 hB3 hbz hn3 hd3 hb36 hB6 hb6 hor
 go_wp2_with fail
 exact bodyPost_ret (v := .tuple #[.agg #[.slice none 0 0,.bool false,.slice none 0 0,.bool false],.bool false]) (by simp [results,Tryz.results120,go_sem,y0,y1,y2,y3]) rfl ⟨rfl,below_set4 hbe (by omega)⟩
set_option maxRecDepth 100000 in
set_option maxHeartbeats 2000000 in
theorem rread_some (ln ld : List UInt8) (q : Rat) (w : World) (h : rdF ln ld = some q) :
    Calls Tryz.prog 120 #[.agg #[.string ⟨ln.toArray⟩,.string ⟨ld.toArray⟩]] w fun e w' => ∃ v,e = .returned (.tuple #[v,.bool true]) ∧ RaV w' v q ∧ Below w.heap.size w w' := by
 obtain ⟨h1,h2⟩ := rdF_some h
 obtain ⟨hd,hg⟩ := rat_coprime q
 obtain ⟨n,hn⟩ : ∃ n,n = q.num := ⟨_,rfl⟩
 obtain ⟨d,hdE⟩ : ∃ d : Int,d = (q.den : Int) := ⟨_,rfl⟩
 rw [← hn] at h1 hg
 rw [← hdE] at h2 hd hg
 obtain ⟨W0,hW0⟩ : ∃ W0,W0 = (w.alloc (.cells #[.string ⟨ln.toArray⟩,.string ⟨ld.toArray⟩] 24)).alloc (.cells #[.slice none 0 0,.bool false,.slice none 0 0,.bool false] 82) := ⟨_,rfl⟩
 have hbW : Below w.heap.size w W0 := by rw [hW0];exact ((Below.refl _ _).alloc (Nat.le_refl _) _).alloc (by simp) _
 have hE0 : Fr W0 w.heap.size #[.string ⟨ln.toArray⟩,.string ⟨ld.toArray⟩] 24 := by rw [hW0];exact (Fr.new rfl).old
 have hE1 : BoxR W0 (w.heap.size + 1) := by rw [hW0];exact Fr.boxR (Fr.new (by simp))
 have hrb := ra_built
 have hrb0 := ra_built0
 have hr1 := read600_some ln n W0 h1
 rw [hW0] at hr1
 have hr2 := fun W => read600_some ld d W h2
 have hsgE : signZ d = 1 := by unfold signZ;rw [if_neg (by omega),if_neg (by omega)]
 have HSG := Lib.hid hsgE
 have HR := Lib.hid (And.intro h1 h2)
 have hGw : wlen B64 ((Nat.gcd n.natAbs d.natAbs : Nat) : Int).natAbs ≤ maxW := by
  rw [Int.natAbs_natCast,hg];exact wlen_1
 have hoE : cmpZ ((Nat.gcd n.natAbs d.natAbs : Nat) : Int) 1 = 0 := by rw [hg];decide
 have HO := Lib.hid (And.intro hoE hGw)
 have HN := Lib.hid (And.intro hn hdE)
 have HB := Lib.hid (And.intro hbW (And.intro hE0 hE1))
 clear h h1 h2 hbW hE0 hE1 hd hsgE hg hGw hoE hn hdE
 go_enter Tryz.func120,Tryz.ntmps120
 go_wp2_with fail
 refine hr1.mono ?_
 rw [← hW0]
 rintro e w1 ⟨A1,n1,c1,k1,rfl,hv1,hb1⟩
 have hF1 := HB.out.2.1.call hb1
 obtain ⟨a0,a1,-,-⟩ := hF1.cells2a
 have HB1 := Lib.hid (And.intro hb1 hv1)
 clear hr1 hb1 hv1 hF1 hW0
 go_wp2_with fail
 refine (hr2 _).mono ?_
 rintro e w2 ⟨A2,n2,c2,k2,rfl,hv2,hb2⟩
 have hba : Below w1.heap.size w1 w2 := ((Below.refl _ _).alloc (Nat.le_refl _) _).trans (hb2.mono (by simp))
 have hF4 : Fr w2 w1.heap.size #[.slice A1 n1 c1,.bool k1] 80 := (Fr.new rfl).call hb2
 have hB2 := (HB.out.2.2.call HB1.out.1).call hba
 have hbw := belowt (belowt HB.out.1 HB.out.1.size HB1.out.1) (by have := HB.out.1.size;have := (HB1.out.1).size;omega) hba
 have hv2a := hv2.old (u := .cells #[.slice A2 n2 c2,.bool k2] 80)
 have hsg := sign_any _ d _ hv2a
 rw [HSG.out] at hsg
 have hF6 : Fr (w2.alloc (.cells #[.slice A2 n2 c2,.bool k2] 80)) w2.heap.size #[.slice A2 n2 c2,.bool k2] 80 := Fr.new rfl
 have HC := Lib.hid (And.intro hba (And.intro (hF4.old (u := .cells #[.slice A2 n2 c2,.bool k2] 80)) (And.intro (hB2.old (u := .cells #[.slice A2 n2 c2,.bool k2] 80)) (And.intro (hbw.alloc hbw.size (.cells #[.slice A2 n2 c2,.bool k2] 80)) (And.intro hF6 (And.intro hv2a (And.intro hb2 (And.intro hbw.size hF4.lt))))))))
 clear hb2 hv2 hba hF4 hB2 hbw hF6 a0 a1 hv2a hr2
 go_wp2_with fail
 refine hsg.mono ?_
 rintro e w3 ⟨rfl,hb3⟩
 obtain ⟨hba,hF4,hB2,hbw,hF6,hv2a,hb2,hsz,hlt4⟩ := HC.out
 have hF43 := hF4.call hb3
 have hF63 := hF6.call hb3
 obtain ⟨u0,u1,-,-⟩ := hF43.cells2
 obtain ⟨u2,u3,-,-⟩ := hF63.cells2
 have hb13 : Below w1.heap.size w1 w3 := (hba.alloc hba.size _).trans (hb3.mono (by have := hba.size;simp;omega))
 have hdv := divisor_any _ _ n d w3 (HB1.out.2.below hb13) (hv2a.below hb3) (Nat.le_trans (Nat.add_le_add_right (rd_wlen HR.out.1) 1) (by unfold maxW;omega)) (Nat.le_trans (Nat.add_le_add_right (rd_wlen HR.out.2) 1) (by unfold maxW;omega))
 have hB3 := hB2.call hb3
 have hbz := belowt hbw hbw.size hb3
 have HD := Lib.hid (And.intro hF43 (And.intro hF63 (And.intro hB3 (And.intro hbz (And.intro (HB1.out.2.below hb13) (hv2a.below hb3))))))
 clear hba hF4 hB2 hbw hF6 hv2a hb2 hb3 hsg hF43 hF63 hb13 hB3 hbz HC
 go_wp2_with fail
 refine hdv.mono ?_
 rintro e w4 ⟨dv,rfl,hdv4,hb4⟩
 obtain ⟨A4,n4,c4,k4,rfl⟩ := hdv4.open
 have hof := numOf_any 1 w4 (by omega) (by omega)
 have HE := Lib.hid (And.intro hdv4 hb4)
 clear hdv hdv4 hb4 u0 u1 u2 u3
 go_wp2_with fail
 refine hof.mono ?_
 rintro e w5 ⟨A5,n5,c5,k5,rfl,hv5,hb5⟩
 have hor := orderZ_any _ _ _ _ w5 (HE.out.1.below hb5) hv5 HO.out.2 wlen_1
 rw [HO.out.1] at hor
 have HG := Lib.hid hb5
 clear hof hb5 hv5
 go_wp2_with fail
 refine hor.mono ?_
 rintro e w6 ⟨rfl,hb6⟩
 obtain ⟨hF43,hF63,hB3,hbz,hn3,hd3⟩ := HD.out
 have hb36 : Below w3.heap.size w3 w6 := belowt (belowt HE.out.2 HE.out.2.size HG.out) (by have := HE.out.2.size;have := HG.out.size;omega) hb6
 have hB6 := hB3.call hb36
 obtain ⟨⟨q0,y0⟩,⟨q1,y1⟩,⟨q2,y2⟩,⟨q3,y3⟩,y4,y5,y6,y7⟩ := hB6.facts
 have hbe := belowt hbz hbz.size hb36
 have hF46 := hF43.call hb36
 have hF66 := hF63.call hb36
 obtain ⟨u0,u1,-,-⟩ := hF46.cells2
 obtain ⟨u2,u3,-,-⟩ := hF66.cells2
 have hn6 := hn3.below hb36
 have hd6 := hd3.below hb36
 rw [HN.out.1] at hn6
 rw [HN.out.2] at hd6
 have HZ := Lib.hid (And.intro hB6 (And.intro hn6 (And.intro hd6 hbe)))
 clear hF43 hF63 hB3 hbz hn3 hd3 hb36 hB6 hb6 hor hF46 hF66 hn6 hd6 hbe
 go_wp2_with fail
 obtain ⟨hB6,hn6,hd6,hbe⟩ := HZ.out
 exact bodyPost_ret (v := .tuple #[.agg #[.slice A1 n1 c1,.bool k1,.slice A2 n2 c2,.bool k2],.bool true]) (by simp [results,Tryz.results120,go_sem,y0,y1,y2,y3]) rfl ⟨_,rfl,RaV.fin hB6 hn6 hd6,below_set4 hbe (by omega)⟩
theorem rread_none (ln ld : List UInt8) (w : World) (h : rdF ln ld = none) :
    Calls Tryz.prog 120 #[.agg #[.string ⟨ln.toArray⟩,.string ⟨ld.toArray⟩]] w fun e w' => e = .returned (.tuple #[raNone,.bool false]) ∧ Below w.heap.size w w' := by
 rcases rdF_none h with h1 | h2 | ⟨n,d,h1,h2,hc⟩
 · exact rread_none1 ln ld w h1
 · cases h1 : rd ln with
   | none => exact rread_none1 ln ld w h1
   | some n => exact rread_none2 ln ld n w h1 h2
 · by_cases hd : 0 < d
   · exact rread_none4 ln ld n d w h1 h2 hd (fun hg => hc ⟨hd,hg⟩)
   · exact rread_none3 ln ld n d w h1 h2 hd
set_option maxRecDepth 100000 in
set_option maxHeartbeats 2000000 in
theorem fread_some (ln ld : List UInt8) (q : Rat) (w : World) (h : rdF ln ld = some q) :
    Calls Tryz.prog 68 #[.agg #[.string ⟨ln.toArray⟩,.string ⟨ld.toArray⟩]] w fun e w' => ∃ v,e = .returned (.tuple #[v,.int .i64 0]) ∧ RaV w' v q ∧ Below w.heap.size w w' := by
 obtain ⟨W0,hW0⟩ : ∃ W0,W0 = (w.alloc (.cells #[.string ⟨ln.toArray⟩,.string ⟨ld.toArray⟩] 24)).alloc (.cells #[.slice none 0 0,.bool false,.slice none 0 0,.bool false] 82) := ⟨_,rfl⟩
 have hbW : Below w.heap.size w W0 := by rw [hW0];exact ((Below.refl _ _).alloc (Nat.le_refl _) _).alloc (by simp) _
 have hE1 : BoxR W0 (w.heap.size + 1) := by rw [hW0];exact Fr.boxR (Fr.new (by simp))
 have hr := rread_some ln ld q W0 h
 rw [hW0] at hr
 have hrb0 := ra_built0
 have HB := Lib.hid (And.intro hbW hE1)
 clear h hbW hE1
 go_enter Tryz.func68,Tryz.ntmps68
 go_wp2_with fail
 refine hr.mono ?_
 rw [← hW0]
 rintro e w1 ⟨v,rfl,hv,hb1⟩
 obtain ⟨A1,n1,c1,k1,A2,n2,c2,k2,rfl,hv1,hv2⟩ := hv.open
 have hB1 := HB.out.2.call hb1
 have hbw := belowt HB.out.1 HB.out.1.size hb1
 obtain ⟨_,_,_,_,_,_,_,_,hF⟩ := hB1
 obtain ⟨y0,y1,y2,y3,y4,y5,y6,y7⟩ := hF.cells4a
 have HC := Lib.hid (And.intro hF (And.intro hbw (And.intro hv1 hv2)))
 clear hr hW0 hv hv1 hv2 hb1 hF hbw
 go_wp2_with fail
 obtain ⟨hF,hbw,hv1,hv2⟩ := HC.out
 exact bodyPost_ret (v := .tuple #[.agg #[.slice A1 n1 c1,.bool k1,.slice A2 n2 c2,.bool k2],.int .i64 0]) (by simp [results,Tryz.results68,go_sem,y0,y1,y2,y3]) rfl ⟨_,rfl,RaV.fin hF.old.boxR hv1.old hv2.old,below_set4 (hbw.alloc hbw.size _) (by omega)⟩
set_option maxRecDepth 100000 in
set_option maxHeartbeats 2000000 in
theorem fread_none (ln ld : List UInt8) (w : World) (h : rdF ln ld = none) :
    Calls Tryz.prog 68 #[.agg #[.string ⟨ln.toArray⟩,.string ⟨ld.toArray⟩]] w fun e w' => e = .returned (.tuple #[raNone,.int .i64 20]) ∧ Below w.heap.size w w' := by
 obtain ⟨W0,hW0⟩ : ∃ W0,W0 = (w.alloc (.cells #[.string ⟨ln.toArray⟩,.string ⟨ld.toArray⟩] 24)).alloc (.cells #[.slice none 0 0,.bool false,.slice none 0 0,.bool false] 82) := ⟨_,rfl⟩
 have hbW : Below w.heap.size w W0 := by rw [hW0];exact ((Below.refl _ _).alloc (Nat.le_refl _) _).alloc (by simp) _
 have hE1 : BoxR W0 (w.heap.size + 1) := by rw [hW0];exact Fr.boxR (Fr.new (by simp))
 have hr := rread_none ln ld W0 h
 rw [hW0] at hr
 have hrb0 := ra_built0
 have HB := Lib.hid (And.intro hbW hE1)
 clear h hbW hE1
 unfold raNone at hr ⊢
 go_enter Tryz.func68,Tryz.ntmps68
 go_wp2_with fail
 refine hr.mono ?_
 rw [← hW0]
 rintro e w1 ⟨rfl,hb1⟩
 have hB1 := HB.out.2.call hb1
 have hbw := belowt HB.out.1 HB.out.1.size hb1
 obtain ⟨_,_,_,_,_,_,_,_,hF⟩ := hB1
 obtain ⟨y0,y1,y2,y3,y4,y5,y6,y7⟩ := hF.cells4a
 have HC := Lib.hid hbw
 clear hr hW0 hb1 hF hbw
 go_wp2_with fail
 exact bodyPost_ret (v := .tuple #[.agg #[.slice none 0 0,.bool false,.slice none 0 0,.bool false],.int .i64 20]) (by simp [results,Tryz.results68,go_sem,y0,y1,y2,y3]) rfl ⟨rfl,below_set4 (HC.out.alloc HC.out.size _) (by omega)⟩
end Go.Proofs.YtlfgpmnjnpdkdaaGreatDoor
