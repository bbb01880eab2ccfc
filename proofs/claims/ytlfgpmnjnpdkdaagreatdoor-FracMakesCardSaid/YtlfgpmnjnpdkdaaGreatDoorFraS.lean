/- Contracts: the reference's fractions: Out. Contracts: the reference's fractions: Lowest over what is -/
import Derived.Test.YtlfgpmnjnpdkdaaGreatDoorFraQ
import Derived.Test.YtlfgpmnjnpdkdaaGreatDoorRefG
import Derived.Test.YtlfgpmnjnpdkdaaGreatDoorRefN
namespace Go.Proofs.YtlfgpmnjnpdkdaaGreatDoor
open Go.RowKit Vd
attribute [local go_sem ↓] Go.wp_at_zero Go.wp_at_succ
def RtV (w : World) (v : Value) (x y : Int) : Prop := ∃ (k1 : Bool) (A1 : Option Addr) (n1 c1 : Nat) (k2 : Bool) (A2 : Option Addr) (n2 c2 : Nat),v = .agg #[.bool k1,.slice A1 n1 c1,.bool k2,.slice A2 n2 c2] ∧ PlV w (.agg #[.bool k1,.slice A1 n1 c1]) x ∧ PlV w (.agg #[.bool k2,.slice A2 n2 c2]) y
theorem RtV.below {w w' : World} {v : Value} {x y : Int} (h : RtV w v x y) (hb : Below w.heap.size w w') : RtV w' v x y := by
 obtain ⟨k1,A1,n1,c1,k2,A2,n2,c2,e,g1,g2⟩ := h
 exact ⟨k1,A1,n1,c1,k2,A2,n2,c2,e,g1.below hb,g2.below hb⟩
theorem outV_two (z : Int) : ∃ (s : ByteArray) (c : Int),outV z = .tuple #[.string s,.int .i64 c] ∧ ((small z ∧ s = ⟨(wr z).toArray⟩ ∧ c = 0) ∨ (¬ small z ∧ c = 6)) := by
 unfold outV
 by_cases h : small z
 · rw [if_pos h];exact ⟨_,_,rfl,.inl ⟨h,rfl,rfl⟩⟩
 · rw [if_neg h];exact ⟨_,_,rfl,.inr ⟨h,rfl⟩⟩
set_option maxRecDepth 100000 in
set_option maxHeartbeats 2000000 in
theorem rout_any (v : Value) (q : Rat) (w : World) (h : RtV w v q.num (q.den : Int)) (hx : wlen B4 q.num.natAbs ≤ 1000000) (hy : wlen B4 q.den ≤ 1000000) :
    Calls Tryz.prog 55 #[v] w fun e w' => e = .returned (outF q) ∧ Below w.heap.size w w' := by
 obtain ⟨k1,A1,n1,c1,k2,A2,n2,c2,rfl,g1,g2⟩ := h
 have hb0 : Below w.heap.size w ((w.alloc (.cells #[.bool k1,.slice A1 n1 c1,.bool k2,.slice A2 n2 c2] 90)).alloc (.cells #[.string ⟨#[]⟩,.string ⟨#[]⟩] 24)) := ((Below.refl _ _).alloc (Nat.le_refl _) _).alloc (by simp) _
 have hR0 : Fr ((w.alloc (.cells #[.bool k1,.slice A1 n1 c1,.bool k2,.slice A2 n2 c2] 90)).alloc (.cells #[.string ⟨#[]⟩,.string ⟨#[]⟩] 24)) w.heap.size #[.bool k1,.slice A1 n1 c1,.bool k2,.slice A2 n2 c2] 90 := (Fr.new rfl).old
 have hB0 : Fr ((w.alloc (.cells #[.bool k1,.slice A1 n1 c1,.bool k2,.slice A2 n2 c2] 90)).alloc (.cells #[.string ⟨#[]⟩,.string ⟨#[]⟩] 24)) (w.heap.size + 1) #[.string ⟨#[]⟩,.string ⟨#[]⟩] 24 := Fr.new (by simp)
 have O1 := fun W => fun hb : Below w.heap.size w W => out4_any _ _ W (g1.below hb) hx
 have O2 := fun W => fun hb : Below w.heap.size w W => out4_any _ _ W (g2.below hb) (by rw [Int.natAbs_natCast];exact hy)
 obtain ⟨s,k,hs,hsk⟩ := outV_two q.num
 obtain ⟨t,l,ht,htl⟩ := outV_two (q.den : Int)
 rw [hs] at O1
 rw [ht] at O2
 rcases hsk with ⟨h1,rfl,rfl⟩ | ⟨h1,rfl⟩
 · rcases htl with ⟨h2,rfl,rfl⟩ | ⟨h2,rfl⟩
   · rw [show outF q = .tuple #[.agg #[.string ⟨(wr q.num).toArray⟩,.string ⟨(wr (q.den : Int)).toArray⟩],.int .i64 0] from by unfold outF;rw [if_pos (show smallF q from ⟨h1,h2⟩)];rfl]
     clear h1 h2
     have HO1 := Lib.hid O1
     have HO2 := Lib.hid O2
     have H := Lib.hid (And.intro hb0 (And.intro hR0 hB0))
     clear O1 O2 hs ht hb0 hR0 hB0 g1 g2 hx hy
     obtain ⟨e0,e1,e2,e3,-⟩ := H.out.2.1.cells4
     have hf0 := fr_built0
     go_enter Tryz.func55,Tryz.ntmps55
     go_wp2_with fail
     refine (HO1.out _ H.out.1).mono ?_
     rintro e w1 ⟨rfl,hb1⟩
     have HB1 : Hid (Below w.heap.size w w1) := Lib.hid (belowt H.out.1 H.out.1.size hb1)
     have HR1 := Lib.hid (And.intro (H.out.2.1.call hb1) (H.out.2.2.call hb1))
     clear e0 e1 e2 e3 hb1
     obtain ⟨e0,e1,e2,e3,-⟩ := HR1.out.1.cells4
     go_wp2_with fail
     refine (HO2.out _ HB1.out).mono ?_
     rintro e w2 ⟨rfl,hb2⟩
     have HB2 : Hid (Below w.heap.size w w2) := Lib.hid (belowt HB1.out HB1.out.size hb2)
     obtain ⟨y0,y1,y2,y3⟩ := (HR1.out.2.call hb2).cells2
     clear e0 e1 e2 e3 hb2
     go_wp2_with fail
     exact bodyPost_ret (v := .tuple #[.agg #[.string ⟨(wr q.num).toArray⟩,.string ⟨(wr (q.den : Int)).toArray⟩],.int .i64 0]) (by simp [results,Tryz.results55,go_sem,y0,y1]) rfl ⟨rfl,(HB2.out.setCell (by simp) _).setCell (by simp) _⟩
   · rw [show outF q = noF 6 from by unfold outF;rw [if_neg (show ¬ smallF q from fun e => h2 e.2)];rfl]
     clear h1 h2
     have HO1 := Lib.hid O1
     have HO2 := Lib.hid O2
     have H := Lib.hid (And.intro hb0 (And.intro hR0 hB0))
     clear O1 O2 hs ht hb0 hR0 hB0 g1 g2 hx hy
     obtain ⟨e0,e1,e2,e3,-⟩ := H.out.2.1.cells4
     have hf0 := fr_built0
     go_enter Tryz.func55,Tryz.ntmps55
     go_wp2_with fail
     refine (HO1.out _ H.out.1).mono ?_
     rintro e w1 ⟨rfl,hb1⟩
     have HB1 : Hid (Below w.heap.size w w1) := Lib.hid (belowt H.out.1 H.out.1.size hb1)
     have HR1 := Lib.hid (And.intro (H.out.2.1.call hb1) (H.out.2.2.call hb1))
     clear e0 e1 e2 e3 hb1
     obtain ⟨e0,e1,e2,e3,-⟩ := HR1.out.1.cells4
     go_wp2_with fail
     refine (HO2.out _ HB1.out).mono ?_
     rintro e w2 ⟨rfl,hb2⟩
     have HB2 : Hid (Below w.heap.size w w2) := Lib.hid (belowt HB1.out HB1.out.size hb2)
     obtain ⟨y0,y1,y2,y3⟩ := (HR1.out.2.call hb2).cells2
     clear e0 e1 e2 e3 hb2
     go_wp2_with fail
     exact bodyPost_ret (v := noF 6) (by simp [results,Tryz.results55,go_sem,y0,y1]) rfl ⟨rfl,(HB2.out.setCell (by simp) _).setCell (by simp) _⟩
 · rw [show outF q = noF 6 from by unfold outF;rw [if_neg (show ¬ smallF q from fun e => h1 e.1)];rfl]
   clear h1 htl
   have HO1 := Lib.hid O1
   have HO2 := Lib.hid O2
   have H := Lib.hid (And.intro hb0 (And.intro hR0 hB0))
   clear O1 O2 hs ht hb0 hR0 hB0 g1 g2 hx hy
   obtain ⟨e0,e1,e2,e3,-⟩ := H.out.2.1.cells4
   have hf0 := fr_built0
   go_enter Tryz.func55,Tryz.ntmps55
   go_wp2_with fail
   refine (HO1.out _ H.out.1).mono ?_
   rintro e w1 ⟨rfl,hb1⟩
   have HB1 : Hid (Below w.heap.size w w1) := Lib.hid (belowt H.out.1 H.out.1.size hb1)
   have HR1 := Lib.hid (And.intro (H.out.2.1.call hb1) (H.out.2.2.call hb1))
   clear e0 e1 e2 e3 hb1
   obtain ⟨e0,e1,e2,e3,-⟩ := HR1.out.1.cells4
   go_wp2_with fail
   refine (HO2.out _ HB1.out).mono ?_
   rintro e w2 ⟨rfl,hb2⟩
   have HB2 : Hid (Below w.heap.size w w2) := Lib.hid (belowt HB1.out HB1.out.size hb2)
   obtain ⟨y0,y1,y2,y3⟩ := (HR1.out.2.call hb2).cells2
   clear e0 e1 e2 e3 hb2
   go_wp2_with fail
   exact bodyPost_ret (v := noF 6) (by simp [results,Tryz.results55,go_sem,y0,y1]) rfl ⟨rfl,(HB2.out.setCell (by simp) _).setCell (by simp) _⟩
end Go.Proofs.YtlfgpmnjnpdkdaaGreatDoor
namespace Go.Proofs.YtlfgpmnjnpdkdaaGreatDoor
open Go.RowKit Vd
attribute [local go_sem ↓] Go.wp_at_zero Go.wp_at_succ
def notNum : Value → Bool
 | .int _ _ => false
 | _ => true
theorem notI8 {v : Value} (h : notNum v = true) (x : Nat) : v ≠ I8 x := by
 intro e;subst e;simp [notNum,I8] at h
theorem DigV.beside {W : World} {b o : Nat} {vs : Array Value} {t : TypeId} {m : Value} {n : Nat} {u : Value} (h : Fr W b vs t) (hn : vs.toList.all notNum = true) (hm : DigV W m n) : DigV (W.setCell ⟨b,o,none⟩ u) m n := by
 obtain ⟨A,c,e,h1,h2,h3⟩ := hm
 refine ⟨A,c,e,h1,h2,h3.far (p := ⟨b,o,none⟩) ?_ u⟩
 intro g o' e hpos eg
 obtain ⟨g2,o2,e2,_,hc⟩ := h3.2 hpos
 rw [e] at e2
 injection e2 with e2
 injection e2 with e2 e3
 subst e2
 have hc0 := hc 0 hpos
 have eg' : g = b := eg
 subst eg'
 rw [h.cell] at hc0
 have hmem : I8 (nth (ws B4 n) 0) ∈ vs.toList := by
  rw [← Array.getElem?_toList] at hc0
  exact List.mem_of_getElem? hc0
 exact notI8 (List.all_eq_true.1 hn _ hmem) _ rfl
theorem PlV.beside {W : World} {b o : Nat} {vs : Array Value} {t : TypeId} {v : Value} {z : Int} {u : Value} (h : Fr W b vs t) (hn : vs.toList.all notNum = true) (hv : PlV W v z) : PlV (W.setCell ⟨b,o,none⟩ u) v z := by
 obtain ⟨m,e,hm⟩ := hv
 exact ⟨m,e,hm.beside h hn⟩
theorem PlV.set4 {W : World} {b : Nat} {x0 x1 x2 x3 u0 u1 u2 u3 : Value} {t : TypeId} {v : Value} {z : Int} (h : Fr W b #[x0,x1,x2,x3] t) (h0 : notNum x0 = true) (h1 : notNum x1 = true) (h2 : notNum x2 = true) (h3 : notNum x3 = true) (k0 : notNum u0 = true) (k1 : notNum u1 = true) (k2 : notNum u2 = true) (hv : PlV W v z) :
    PlV ((((W.setCell ⟨b,0,none⟩ u0).setCell ⟨b,1,none⟩ u1).setCell ⟨b,2,none⟩ u2).setCell ⟨b,3,none⟩ u3) v z :=
 (((hv.beside h (by simp [h0,h1,h2,h3])).beside (vs := #[u0,x1,x2,x3]) (t := t) h.set (by simp [h1,h2,h3,k0])).beside (vs := #[u0,u1,x2,x3]) (t := t) (Fr.set (o := 1) (Fr.set (o := 0) h)) (by simp [h2,h3,k0,k1])).beside (vs := #[u0,u1,u2,x3]) (t := t) (Fr.set (o := 2) (Fr.set (o := 1) (Fr.set (o := 0) h))) (by simp [h3,k0,k1,k2])
theorem PlV.old {W : World} {v : Value} {z : Int} {u : Obj} (hv : PlV W v z) : PlV (W.alloc u) v z := hv.below ((Below.refl _ _).alloc (Nat.le_refl _) u)
theorem rt_built (A : Option Addr) (n c : Nat) (k : Bool) (A' : Option Addr) (n' c' : Nat) (k' : Bool) (W : World) : (Instr.build 90 #[(0,.agg #[.bool k,.slice A n c]),(1,.agg #[.bool k',.slice A' n' c'])]).run Tryz.prog W = .ok (.agg #[.bool k,.slice A n c,.bool k',.slice A' n' c']) W :=
 run_build W _ _ _ (by kernel_rfl)
set_option maxRecDepth 100000 in
set_option maxHeartbeats 2000000 in
theorem rlow_pos (v1 v2 : Value) (x y : Int) (w : World) (h1 : PlV w v1 x) (h2 : PlV w v2 y) (b1 : wlen B4 x.natAbs ≤ 1000000) (b2 : wlen B4 y.natAbs ≤ 1000000) (hy : 0 < y) :
    Calls Tryz.prog 61 #[v1,v2] w fun e w' => ∃ v,e = .returned v ∧ RtV w' v (x / ((Nat.gcd x.natAbs y.natAbs : Nat) : Int)) (y / ((Nat.gcd x.natAbs y.natAbs : Nat) : Int)) ∧ Below w.heap.size w w' := by
 obtain ⟨A1,n1,c1,k1,rfl⟩ := h1.open
 obtain ⟨A2,n2,c2,k2,rfl⟩ := h2.open
 obtain rfl : k2 = false := by
  obtain ⟨m,e,_⟩ := h2
  simp only [Value.agg.injEq,Array.mk.injEq,List.cons.injEq,Value.bool.injEq] at e
  rw [e.1,decide_eq_false_iff_not];omega
 obtain ⟨d,hd⟩ : ∃ d : Int,d = ((Nat.gcd x.natAbs y.natAbs : Nat) : Int) := ⟨_,rfl⟩
 have hd0 : d ≠ 0 := by
  rw [hd];intro e
  have : Nat.gcd x.natAbs y.natAbs = 0 := by omega
  have := (Nat.gcd_eq_zero_iff.1 this).2
  omega
 have bd : wlen B4 d.natAbs ≤ 1000000 := by
  rw [hd,Int.natAbs_natCast]
  refine Nat.le_trans (wlen_mono two_le_B4 (Nat.gcd_le_right _ (by omega))) b2
 have G := fun W (hb : Below w.heap.size w W) => divisor4_any _ _ x y W (h1.below hb) (h2.below hb) b1 b2
 rw [← hd] at G ⊢
 have P1 := fun W v (hv : PlV W v d) (hb : Below w.heap.size w W) => partsZ_any _ v x d W (h1.below hb) hv b1 bd hd0
 have P2 := fun W v (hv : PlV W v d) (hb : Below w.heap.size w W) => partsZ_any _ v y d W (h2.below hb) hv b2 bd hd0
 have HG := Lib.hid G
 have HP1 := Lib.hid P1
 have HP2 := Lib.hid P2
 have hb0 : Below w.heap.size w (((w.alloc (.cells #[.bool k1,.slice A1 n1 c1] 88)).alloc (.cells #[.bool false,.slice A2 n2 c2] 88)).alloc (.cells #[.bool false,.slice none 0 0,.bool false,.slice none 0 0] 90)) := (((Below.refl _ _).alloc (Nat.le_refl _) _).alloc (by simp) _).alloc (by simp;omega) _
 have F1 : Fr (((w.alloc (.cells #[.bool k1,.slice A1 n1 c1] 88)).alloc (.cells #[.bool false,.slice A2 n2 c2] 88)).alloc (.cells #[.bool false,.slice none 0 0,.bool false,.slice none 0 0] 90)) w.heap.size #[.bool k1,.slice A1 n1 c1] 88 := (Fr.new rfl).old.old
 have F2 : Fr (((w.alloc (.cells #[.bool k1,.slice A1 n1 c1] 88)).alloc (.cells #[.bool false,.slice A2 n2 c2] 88)).alloc (.cells #[.bool false,.slice none 0 0,.bool false,.slice none 0 0] 90)) (w.heap.size + 1) #[.bool false,.slice A2 n2 c2] 88 := (Fr.new (by simp)).old
 have F3 : Fr (((w.alloc (.cells #[.bool k1,.slice A1 n1 c1] 88)).alloc (.cells #[.bool false,.slice A2 n2 c2] 88)).alloc (.cells #[.bool false,.slice none 0 0,.bool false,.slice none 0 0] 90)) (w.heap.size + 1 + 1) #[.bool false,.slice none 0 0,.bool false,.slice none 0 0] 90 := Fr.new (by simp)
 obtain ⟨e0,e1,-,-⟩ := F1.cells2
 obtain ⟨e2,e3,-,-⟩ := F2.cells2
 have H := Lib.hid (And.intro hb0 (And.intro F1 (And.intro F2 F3)))
 have hrb := rt_built
 clear G P1 P2 h1 h2 b1 b2 bd hy hd hd0 hb0 F1 F2 F3
 go_enter Tryz.func61,Tryz.ntmps61
 go_wp2_with fail
 refine (HG.out _ H.out.1).mono ?_
 rintro e w1 ⟨v,rfl,hg,hb1⟩
 obtain ⟨Ag,ng,cg,kg,rfl⟩ := hg.open
 clear e0 e1 e2 e3
 have hbw1 := belowt H.out.1 H.out.1.size hb1
 have hF1 := H.out.2.1.call hb1
 have hF2 := H.out.2.2.1.call hb1
 have hF3 := H.out.2.2.2.call hb1
 obtain ⟨e0,e1,-,-⟩ := hF1.cells2a
 obtain ⟨e2,e3,-,-⟩ := hF2.cells2a
 have hFg : Fr (w1.alloc (.cells #[.bool kg,.slice Ag ng cg] 88)) w1.heap.size #[.bool kg,.slice Ag ng cg] 88 := Fr.new rfl
 obtain ⟨e4,e5,-,-⟩ := hFg.cells2
 have HC := Lib.hid (And.intro (hbw1.alloc hbw1.size (.cells #[.bool kg,.slice Ag ng cg] 88)) (And.intro (hF1.old (u := .cells #[.bool kg,.slice Ag ng cg] 88)) (And.intro (hF2.old (u := .cells #[.bool kg,.slice Ag ng cg] 88)) (And.intro (hF3.old (u := .cells #[.bool kg,.slice Ag ng cg] 88)) (And.intro hFg (hg.old (u := .cells #[.bool kg,.slice Ag ng cg] 88)))))))
 clear hg hb1 hbw1 hF1 hF2 hF3 hFg
 go_wp2_with fail
 refine (HP1.out _ _ HC.out.2.2.2.2.2 HC.out.1).mono ?_
 rintro e w2 ⟨va,vb,rfl,ha,hb,hb2⟩
 obtain ⟨Aa,na,ca,ka,rfl⟩ := ha.open
 obtain ⟨Ab,nb,cb,kb,rfl⟩ := hb.open
 clear e0 e1 e2 e3 e4 e5
 have hbw2 := belowt HC.out.1 HC.out.1.size hb2
 have hF2 := HC.out.2.2.1.call hb2
 have hF3 := HC.out.2.2.2.1.call hb2
 have hFg := HC.out.2.2.2.2.1.call hb2
 have hg2 := HC.out.2.2.2.2.2.below hb2
 obtain ⟨e2,e3,-,-⟩ := hF2.cells2b
 obtain ⟨e4,e5,-,-⟩ := hFg.cells2b
 have hFa : Fr ((w2.alloc (.cells #[.bool ka,.slice Aa na ca] 88)).alloc (.cells #[.bool kb,.slice Ab nb cb] 88)) w2.heap.size #[.bool ka,.slice Aa na ca] 88 := (Fr.new rfl).old
 have hbb : Below w2.heap.size w2 ((w2.alloc (.cells #[.bool ka,.slice Aa na ca] 88)).alloc (.cells #[.bool kb,.slice Ab nb cb] 88)) := ((Below.refl _ _).alloc (Nat.le_refl _) _).alloc (by simp) _
 have HE := Lib.hid (And.intro (belowt hbw2 hbw2.size hbb) (And.intro (hF3.call hbb) (And.intro (hg2.below hbb) (And.intro hFa (ha.below hbb)))))
 clear ha hb hb2 hbw2 hF2 hF3 hFg hg2 hFa hbb HC H HG
 go_wp2_with fail
 refine (HP2.out _ _ HE.out.2.2.1 HE.out.1).mono ?_
 rintro e w3 ⟨vx,vy,rfl,hx,hy,hb3⟩
 obtain ⟨Ax,nx,cx,kx,rfl⟩ := hx.open
 obtain ⟨Ay,ny,cy,ky,rfl⟩ := hy.open
 clear e2 e3 e4 e5
 have hbw3 := belowt HE.out.1 HE.out.1.size hb3
 have hF3 := HE.out.2.1.call hb3
 have hFa := HE.out.2.2.2.1.call hb3
 have ha := HE.out.2.2.2.2.below hb3
 obtain ⟨e2,e3,-,-⟩ := hFa.cells2b
 have hFx : Fr ((w3.alloc (.cells #[.bool kx,.slice Ax nx cx] 88)).alloc (.cells #[.bool ky,.slice Ay ny cy] 88)) w3.heap.size #[.bool kx,.slice Ax nx cx] 88 := (Fr.new rfl).old
 obtain ⟨e4,e5,-,-⟩ := hFx.cells2
 have hbb : Below w3.heap.size w3 ((w3.alloc (.cells #[.bool kx,.slice Ax nx cx] 88)).alloc (.cells #[.bool ky,.slice Ay ny cy] 88)) := ((Below.refl _ _).alloc (Nat.le_refl _) _).alloc (by simp) _
 have hR := hF3.call hbb
 obtain ⟨y0,y1,y2,y3,z0,z1,z2,z3⟩ := hR.cells4
 have HZ := Lib.hid (And.intro (belowt hbw3 hbw3.size hbb) (And.intro hR (And.intro (ha.below hbb) (hx.below hbb))))
 clear hx hy hb3 hbw3 hF3 hFa ha hFx hbb hR HE HP1 HP2
 go_wp2_with fail
 exact bodyPost_ret (v := .agg #[.bool ka,.slice Aa na ca,.bool kx,.slice Ax nx cx]) (by simp [results,Tryz.results61,go_sem,y0,y1,y2,y3]) rfl ⟨_,rfl,⟨ka,Aa,na,ca,kx,Ax,nx,cx,rfl,PlV.set4 HZ.out.2.1 rfl rfl rfl rfl rfl rfl rfl HZ.out.2.2.1,PlV.set4 HZ.out.2.1 rfl rfl rfl rfl rfl rfl rfl HZ.out.2.2.2⟩,below_set4 HZ.out.1 (by omega)⟩
end Go.Proofs.YtlfgpmnjnpdkdaaGreatDoor
namespace Go.Proofs.YtlfgpmnjnpdkdaaGreatDoor
open Go.RowKit Vd
attribute [local go_sem ↓] Go.wp_at_zero Go.wp_at_succ
theorem wlen_i64 {n : Int} (h0 : -9223372036854775808 ≤ n) (h1 : n ≤ 9223372036854775807) : wlen B4 n.natAbs ≤ 1000000 := by
 refine Nat.le_trans ((wlen_le_iff (b := B4) two_le_B4 n.natAbs 5).2 ?_) (by omega)
 have : B4 ^ 5 = 100000000000000000000 := by decide
 omega
set_option maxRecDepth 100000 in
set_option maxHeartbeats 2000000 in
theorem rquick_pos (n d : Int) (w : World) (hn0 : -9223372036854775808 ≤ n) (hn1 : n ≤ 9223372036854775807) (hd0 : 0 < d) (hd1 : d ≤ 9223372036854775807) :
    Calls Tryz.prog 56 #[.int .i64 n,.int .i64 d] w fun e w' => ∃ v,e = .returned v ∧ RtV w' v (Rat.divInt n d).num ((Rat.divInt n d).den : Int) ∧ Below w.heap.size w w' := by
 have hdp := div_parts n d (by omega) _ rfl
 rw [if_neg (by omega)] at hdp
 have I1 := fun W => integerZ_any n W hn0 hn1
 have I2 := fun W => integerZ_any d W (by omega) hd1
 have L := fun W u v (hu : PlV W u n) (hv : PlV W v d) => rlow_pos u v n d W hu hv (wlen_i64 hn0 hn1) (wlen_i64 (by omega) hd1) hd0
 rw [← hdp.2.1,← hdp.2.2] at L
 have HL := Lib.hid L
 have hb0 : Below w.heap.size w (w.alloc (.cells #[.bool false,.slice none 0 0,.bool false,.slice none 0 0] 90)) := (Below.refl _ _).alloc (Nat.le_refl _) _
 have hF0 : Fr (w.alloc (.cells #[.bool false,.slice none 0 0,.bool false,.slice none 0 0] 90)) w.heap.size #[.bool false,.slice none 0 0,.bool false,.slice none 0 0] 90 := Fr.new rfl
 have H := Lib.hid (And.intro hb0 hF0)
 clear L hb0 hF0 hdp hn0 hn1 hd0 hd1
 go_enter Tryz.func56,Tryz.ntmps56
 go_wp2_with fail
 refine (I1 _).mono ?_
 rintro e w1 ⟨va,rfl,ha,hb1⟩
 obtain ⟨A1,n1,c1,k1,rfl⟩ := ha.open
 have HA := Lib.hid (And.intro (belowt H.out.1 H.out.1.size hb1) (And.intro (H.out.2.call hb1) ha))
 clear ha hb1
 go_wp2_with fail
 refine (I2 _).mono ?_
 rintro e w2 ⟨vb,rfl,hb,hb2⟩
 obtain ⟨A2,n2,c2,k2,rfl⟩ := hb.open
 have HB := Lib.hid (And.intro (belowt HA.out.1 HA.out.1.size hb2) (And.intro (HA.out.2.1.call hb2) (And.intro (HA.out.2.2.below hb2) hb)))
 clear hb hb2 I1 I2
 go_wp2_with fail
 refine (HL.out _ _ _ HB.out.2.2.1 HB.out.2.2.2).mono ?_
 rintro e w3 ⟨v,rfl,⟨ka,Aa,na,ca,kx,Ax,nx,cx,rfl,ga,gx⟩,hb3⟩
 have hR := HB.out.2.1.call hb3
 obtain ⟨y0,y1,y2,y3,z0,z1,z2,z3⟩ := hR.cells4
 have HZ := Lib.hid (And.intro (belowt HB.out.1 HB.out.1.size hb3) (And.intro hR (And.intro ga gx)))
 clear hb3 hR ga gx
 go_wp2_with fail
 exact bodyPost_ret (v := .agg #[.bool ka,.slice Aa na ca,.bool kx,.slice Ax nx cx]) (by simp [results,Tryz.results56,go_sem,y0,y1,y2,y3]) rfl ⟨_,rfl,⟨ka,Aa,na,ca,kx,Ax,nx,cx,rfl,PlV.set4 HZ.out.2.1 rfl rfl rfl rfl rfl rfl rfl HZ.out.2.2.1,PlV.set4 HZ.out.2.1 rfl rfl rfl rfl rfl rfl rfl HZ.out.2.2.2⟩,below_set4 HZ.out.1 (by omega)⟩
end Go.Proofs.YtlfgpmnjnpdkdaaGreatDoor
namespace Go.Proofs.YtlfgpmnjnpdkdaaGreatDoor
open Go.RowKit Vd
attribute [local go_sem ↓] Go.wp_at_zero Go.wp_at_succ
set_option maxRecDepth 100000 in
set_option maxHeartbeats 2000000 in
theorem dsmall_any (b : Bool) (A0 : Option Addr) (n0 c0 z0 : Nat) (xs : List Nat) (w : World) (hx : Sl w U16 A0 n0 xs) (ox : Ok 65536 xs) (hn : n0 ≤ 9223372036854775807) :
    Calls Tryz.prog 72 #[.agg #[.bool b,.slice A0 n0 c0,.int .u16 (z0 : Int)]] w fun e w' => ∃ k : Int,e = .returned (.int .i64 k) ∧ -1000000 < k ∧ k < 1000000 ∧ Below w.heap.size w w' := by
 obtain ⟨W,hW⟩ : ∃ W,W = w.alloc (.cells #[.bool b,.slice A0 n0 c0,.int .u16 (z0 : Int)] 28) := ⟨_,rfl⟩
 have hba : Below w.heap.size w W := by rw [hW];exact (Below.refl _ _).alloc (Nat.le_refl _) _
 have hF : Fr W w.heap.size #[.bool b,.slice A0 n0 c0,.int .u16 (z0 : Int)] 28 := by rw [hW];exact Fr.new rfl
 have f0 : W.cell? ⟨w.heap.size,0,none⟩ = some (.bool b) := hF.cell 0
 have f1 : W.cell? ⟨w.heap.size,1,none⟩ = some (.slice A0 n0 c0) := hF.cell 1
 have hx2 := hx.below hba
 go_enter Tryz.func72,Tryz.ntmps72
 go_wp2_with fail
 rw [← hW]
 clear hW hF hx
 go_loopg [3,4] (2 - 0) (fun r sv iv V' => ∃ (i V : Nat),r = 2 - i ∧ sv = .int .i64 (V : Int) ∧ iv = .int .i64 (i : Int) ∧ i ≤ 2 ∧ i ≤ n0 ∧ V < 1000 ^ i ∧ V' = W)
 case atStart => exact ⟨0,0,rfl,rfl,rfl,Nat.zero_le _,Nat.zero_le _,by decide,rfl⟩
 case round =>
  obtain ⟨i,V,rfl,rfl,rfl,hi,hi2,hV,rfl⟩ := hrel
  have hV6 : V < 1000000 := Nat.lt_of_lt_of_le hV (Nat.le_trans (Nat.pow_le_pow_right (by omega) hi) (by decide))
  by_cases ha : i < n0
  · by_cases hb : i < 2
    · have hia : (i : Int) < (n0 : Int) := by omega
      have hib : (i : Int) < 2 := by omega
      have hi0 : (0 : Int) ≤ (i : Int) := by omega
      obtain ⟨ge,oe,rfl,hge,hce⟩ := hx2.at_ (by omega)
      have hcx := hce i ha
      unfold U16 at hcx
      have hxl := ox.get (by omega) i
      obtain ⟨x,hxx⟩ : ∃ x,x = nth xs i := ⟨_,rfl⟩
      rw [← hxx] at hcx hxl
      obtain ⟨G,hG⟩ : ∃ G,G = x % 1000 := ⟨_,rfl⟩
      have e1 : IntKind.i64.wrap ((x : Int).tmod 1000) = (G : Int) := by rw [Int.tmod_eq_emod_of_nonneg (by omega),IntKind.wrap_i64];omega
      have e2 : IntKind.u16.wrap ((x : Int).tmod 1000) = (G : Int) := by rw [Int.tmod_eq_emod_of_nonneg (by omega),IntKind.wrap_u16];omega
      have hV3 : V < 1000 := by
       have : i ≤ 1 := by omega
       exact Nat.lt_of_lt_of_le hV (Nat.le_trans (Nat.pow_le_pow_right (by omega) this) (by decide))
      have e3 : IntKind.i64.wrap ((V : Int) * 1000) = ((V * 1000 : Nat) : Int) := by rw [IntKind.wrap_i64];omega
      have e4 : IntKind.i64.wrap (((V * 1000 : Nat) : Int) + (G : Int)) = ((V * 1000 + G : Nat) : Int) := by rw [IntKind.wrap_i64];omega
      have e5 : IntKind.i64.wrap (G : Int) = (G : Int) := by rw [IntKind.wrap_i64];omega
      have e6 : IntKind.i64.wrap ((i : Int) + 1) = ((i + 1 : Nat) : Int) := by rw [IntKind.wrap_i64];omega
      have hstep : V * 1000 + G < 1000 ^ (i + 1) := by rw [Nat.pow_succ];omega
      have HK := Lib.hid (And.intro hstep (And.intro ha (And.intro hb hG)))
      clear hV hV6 hstep hxx hG hxl hce hx2 hi ha hb
      go_wp2_with fail
      go_roundg (2 - (i + 1))
      case measure => have := HK.out.2.2.1;omega
      case rel => exact ⟨i + 1,V * 1000 + x % 1000,rfl,by go_num,by go_num,by have := HK.out.2.2.1;omega,by have := HK.out.2.1;omega,by have h := HK.out.1;rw [HK.out.2.2.2] at h;exact h,rfl⟩
    · have hib : ¬ (i : Int) < 2 := by omega
      have hia : (i : Int) < (n0 : Int) := by omega
      cases b
      · go_wp2_with fail
        refine bodyPost_ret (v := .int .i64 (V : Int)) (by simp [results,Tryz.results72,go_sem]) rfl ⟨_,rfl,by omega,by omega,hba⟩
      · have ew : IntKind.i64.wrap (-(V : Int)) = -(V : Int) := by rw [IntKind.wrap_i64];omega
        go_wp2_with fail
        refine bodyPost_ret (v := .int .i64 (-(V : Int))) (by simp [results,Tryz.results72,go_sem]) rfl ⟨_,rfl,by omega,by omega,hba⟩
  · have hia : ¬ (i : Int) < (n0 : Int) := by omega
    cases b
    · go_wp2_with fail
      refine bodyPost_ret (v := .int .i64 (V : Int)) (by simp [results,Tryz.results72,go_sem]) rfl ⟨_,rfl,by omega,by omega,hba⟩
    · have ew : IntKind.i64.wrap (-(V : Int)) = -(V : Int) := by rw [IntKind.wrap_i64];omega
      go_wp2_with fail
      refine bodyPost_ret (v := .int .i64 (-(V : Int))) (by simp [results,Tryz.results72,go_sem]) rfl ⟨_,rfl,by omega,by omega,hba⟩
end Go.Proofs.YtlfgpmnjnpdkdaaGreatDoor
