/- Contracts: the reference's fractions: Lowest over what is negative. -/
import Derived.Test.YtlfgpmnjnpdkdaaGreatDoorFraS
import Derived.Deep.DeepCutAuto
namespace Go.Proofs.YtlfgpmnjnpdkdaaGreatDoor
open Go.RowKit Vd
attribute [local go_sem ↓] Go.wp_at_zero Go.wp_at_succ
theorem PlV.set2 {W : World} {b : Nat} {k : Bool} {A : Option Addr} {n c : Nat} {t : TypeId} {u0 u1 v : Value} {z : Int} (h : Fr W b #[.bool k,.slice A n c] t) (h0 : notNum u0 = true) (hv : PlV W v z) : PlV ((W.setCell ⟨b,0,none⟩ u0).setCell ⟨b,1,none⟩ u1) v z :=
 (hv.beside h rfl).beside (vs := #[u0,.slice A n c]) (t := t) h.set (by simp only [List.all_cons,List.all_nil,Bool.and_true,h0];rfl)
theorem PlV.two {W : World} {b b' : Nat} {k k' : Bool} {A A' : Option Addr} {n c n' c' : Nat} {t t' : TypeId} {p p' : Bool} {u u' : Value} {v : Value} {z : Int} (hne : b' ≠ b) (h : Fr W b #[.bool k,.slice A n c] t) (h' : Fr W b' #[.bool k',.slice A' n' c'] t') (hv : PlV W v z) :
 PlV ((((W.setCell ⟨b,0,none⟩ (.bool p)).setCell ⟨b,1,none⟩ u).setCell ⟨b',0,none⟩ (.bool p')).setCell ⟨b',1,none⟩ u') v z :=
 PlV.set2 (Fr.far hne (Fr.far hne h')) rfl (PlV.set2 h rfl hv)
set_option maxRecDepth 100000 in
set_option maxHeartbeats 4000000 in
theorem rlow_neg (v1 v2 : Value) (x y : Int) (w : World) (h1 : PlV w v1 x) (h2 : PlV w v2 y) (b1 : wlen B4 x.natAbs ≤ 1000000) (b2 : wlen B4 y.natAbs ≤ 1000000) (hy : y < 0) :
 Calls Tryz.prog 61 #[v1,v2] w fun e w' => ∃ v,e = .returned v ∧ RtV w' v ((-x) / ((Nat.gcd x.natAbs y.natAbs : Nat) : Int)) ((-y) / ((Nat.gcd x.natAbs y.natAbs : Nat) : Int)) ∧ Below w.heap.size w w' := by
 obtain ⟨A1,n1,c1,k1,rfl⟩ := h1.open
 obtain ⟨A2,n2,c2,k2,rfl⟩ := h2.open
 obtain rfl : k2 = true := by
  obtain ⟨m,e,_⟩ := h2
  simp only [Value.agg.injEq,Array.mk.injEq,List.cons.injEq,Value.bool.injEq] at e
  rw [e.1,decide_eq_true_iff];omega
 obtain ⟨d,hd⟩ : ∃ d : Int,d = ((Nat.gcd x.natAbs y.natAbs : Nat) : Int) := ⟨_,rfl⟩
 have hd0 : d ≠ 0 := by
  rw [hd];intro e
  have : Nat.gcd x.natAbs y.natAbs = 0 := by omega
  have := (Nat.gcd_eq_zero_iff.1 this).2
  omega
 have bd : wlen B4 d.natAbs ≤ 1000000 := by
  rw [hd,Int.natAbs_natCast]
  refine Nat.le_trans (wlen_mono two_le_B4 (Nat.gcd_le_right _ (by omega))) b2
 have G := fun W u v (hu : PlV W u (-x)) (hv : PlV W v (-y)) => divisor4_any u v (-x) (-y) W hu hv (by rw [Int.natAbs_neg];exact b1) (by rw [Int.natAbs_neg];exact b2)
 rw [Int.natAbs_neg,Int.natAbs_neg,← hd] at G
 rw [← hd]
 have P1 := fun W u v (hu : PlV W u (-x)) (hv : PlV W v d) => partsZ_any u v (-x) d W hu hv (by rw [Int.natAbs_neg];exact b1) bd hd0
 have P2 := fun W u v (hu : PlV W u (-y)) (hv : PlV W v d) => partsZ_any u v (-y) d W hu hv (by rw [Int.natAbs_neg];exact b2) bd hd0
 have T1 : Hid (∀ W,Below w.heap.size w W → Calls Tryz.prog 112 #[.agg #[.bool k1,.slice A1 n1 c1]] W fun e w' => ∃ (A : Option Addr) (n c : Nat) (k : Bool),e = .returned (.agg #[.bool k,.slice A n c]) ∧ PlV w' (.agg #[.bool k,.slice A n c]) (-x) ∧ Below W.heap.size W w' ∧ Below w.heap.size w w') := Lib.hid (fun W hS => (turn4_any _ x W (h1.below hS)).mono fun e w' ⟨v,he,hv,hb⟩ => by
  obtain ⟨A,n,c,k,rfl⟩ := hv.open
  exact ⟨A,n,c,k,he,hv,hb,belowt hS hS.size hb⟩)
 have T2 : Hid (∀ W,Below w.heap.size w W → Calls Tryz.prog 112 #[.agg #[.bool true,.slice A2 n2 c2]] W fun e w' => ∃ (A : Option Addr) (n c : Nat) (k : Bool),e = .returned (.agg #[.bool k,.slice A n c]) ∧ PlV w' (.agg #[.bool k,.slice A n c]) (-y) ∧ Below W.heap.size W w' ∧ Below w.heap.size w w') := Lib.hid (fun W hS => (turn4_any _ y W (h2.below hS)).mono fun e w' ⟨v,he,hv,hb⟩ => by
  obtain ⟨A,n,c,k,rfl⟩ := hv.open
  exact ⟨A,n,c,k,he,hv,hb,belowt hS hS.size hb⟩)
 have HG := Lib.hid G
 have HP1 := Lib.hid P1
 have HP2 := Lib.hid P2
 obtain ⟨V,hV⟩ : ∃ V,V = (((w.alloc (.cells #[.bool k1,.slice A1 n1 c1] 88)).alloc (.cells #[.bool true,.slice A2 n2 c2] 88)).alloc (.cells #[.bool false,.slice none 0 0,.bool false,.slice none 0 0] 90)) := ⟨_,rfl⟩
 have hb0 : Below w.heap.size w V := by rw [hV];exact (((Below.refl _ _).alloc (Nat.le_refl _) _).alloc (by simp) _).alloc (by simp;omega) _
 have F1 : Fr V w.heap.size #[.bool k1,.slice A1 n1 c1] 88 := by rw [hV];exact (Fr.new rfl).old.old
 have F2 : Fr V (w.heap.size + 1) #[.bool true,.slice A2 n2 c2] 88 := by rw [hV];exact (Fr.new (by simp)).old
 have F3 : Fr V (w.heap.size + 1 + 1) #[.bool false,.slice none 0 0,.bool false,.slice none 0 0] 90 := by rw [hV];exact Fr.new (by simp)
 have hlt : w.heap.size + 1 + 1 < V.heap.size := F3.lt
 have hrb := rt_built
 have H := Lib.hid (And.intro hb0 (And.intro F1 (And.intro F2 F3)))
 obtain ⟨e0,e1,z0,z1⟩ := F1.cells2
 obtain ⟨e2,e3,z2,z3⟩ := F2.cells2
 rw [hV] at e0 e1 e2 e3 z0 z1 z2 z3
 clear G P1 P2 h1 h2 b1 b2 bd hy hd hd0 F1 F2 F3 hb0
 go_enter Tryz.func61,Tryz.ntmps61
 go_upto_region 2 with fail
 rw [← hV] at e0 e1 e2 e3 z0 z1 z2 z3 ⊢
 clear hV
 have hK2 : ∀ W,Below w.heap.size w W → Below w.heap.size w W := fun W h => h
 have hb0 := H.out.1
 go_cut [] (fun wx => ∃ (A : Option Addr) (n c : Nat) (k : Bool) (A' : Option Addr) (n' c' : Nat) (k' : Bool),Fr wx w.heap.size #[.bool k,.slice A n c] 88 ∧ Fr wx (w.heap.size + 1) #[.bool k',.slice A' n' c'] 88 ∧ Fr wx (w.heap.size + 1 + 1) #[.bool false,.slice none 0 0,.bool false,.slice none 0 0] 90 ∧ PlV wx (.agg #[.bool k,.slice A n c]) (-x) ∧ PlV wx (.agg #[.bool k',.slice A' n' c']) (-y) ∧ Below w.heap.size w wx)
 case first =>
  go_region_with
   (first
   | (go_at_call 112;with_reducible refine (T1.out _ ?_).mono ?_;(repeat (first | with_reducible assumption | with_reducible refine Below.drew ?_));rintro e w8 ⟨A8,n8,c8,k8,rfl,hv8,hb8,hS8⟩;have hs8 := hS8.size;have hz8 := hb8.size;(try simp at hz8);obtain ⟨hk81,hk82⟩ := kept2 hb8;(try (have e800 := hk81 (w.heap.size) 0 ?se800;case se800 => (first | omega | (simp;done) | (simp;omega))));(try (have f800 := hk82 (w.heap.size) 0 ?sf800;case sf800 => (first | omega | (simp;done) | (simp;omega))));(try (have e801 := hk81 (w.heap.size) 1 ?se801;case se801 => (first | omega | (simp;done) | (simp;omega))));(try (have f801 := hk82 (w.heap.size) 1 ?sf801;case sf801 => (first | omega | (simp;done) | (simp;omega))));(try (have c80 : w.heap.size < w8.heap.size := ?sc80;case sc80 => omega));(try (have d80 := Nat.ne_of_lt c80));(try (have e810 := hk81 (w.heap.size + 1) 0 ?se810;case se810 => (first | omega | (simp;done) | (simp;omega))));(try (have f810 := hk82 (w.heap.size + 1) 0 ?sf810;case sf810 => (first | omega | (simp;done) | (simp;omega))));(try (have e811 := hk81 (w.heap.size + 1) 1 ?se811;case se811 => (first | omega | (simp;done) | (simp;omega))));(try (have f811 := hk82 (w.heap.size + 1) 1 ?sf811;case sf811 => (first | omega | (simp;done) | (simp;omega))));(try (have c81 : w.heap.size + 1 < w8.heap.size := ?sc81;case sc81 => omega));(try (have d81 := Nat.ne_of_lt c81));clear hk81 hk82)
   | (go_at_call 112;with_reducible refine (T2.out _ ?_).mono ?_;(repeat (first | with_reducible assumption | with_reducible refine Below.drew ?_));rintro e w9 ⟨A9,n9,c9,k9,rfl,hv9,hb9,hS9⟩;have hs9 := hS9.size;have hz9 := hb9.size;(try simp at hz9);obtain ⟨hk91,hk92⟩ := kept2 hb9;(try (have e900 := hk91 (w.heap.size) 0 ?se900;case se900 => (first | omega | (simp;done) | (simp;omega))));(try (have f900 := hk92 (w.heap.size) 0 ?sf900;case sf900 => (first | omega | (simp;done) | (simp;omega))));(try (have e901 := hk91 (w.heap.size) 1 ?se901;case se901 => (first | omega | (simp;done) | (simp;omega))));(try (have f901 := hk92 (w.heap.size) 1 ?sf901;case sf901 => (first | omega | (simp;done) | (simp;omega))));(try (have c90 : w.heap.size < w9.heap.size := ?sc90;case sc90 => omega));(try (have d90 := Nat.ne_of_lt c90));(try (have e910 := hk91 (w.heap.size + 1) 0 ?se910;case se910 => (first | omega | (simp;done) | (simp;omega))));(try (have f910 := hk92 (w.heap.size + 1) 0 ?sf910;case sf910 => (first | omega | (simp;done) | (simp;omega))));(try (have e911 := hk91 (w.heap.size + 1) 1 ?se911;case se911 => (first | omega | (simp;done) | (simp;omega))));(try (have f911 := hk92 (w.heap.size + 1) 1 ?sf911;case sf911 => (first | omega | (simp;done) | (simp;omega))));(try (have c91 : w.heap.size + 1 < w9.heap.size := ?sc91;case sc91 => omega));(try (have d91 := Nat.ne_of_lt c91));clear hk91 hk92))
  all_goals
   go_wp2_with fail
   go_meet
   obtain ⟨hbV,F1,F2,F3⟩ := H.out
   first
    | (have X1 : Fr w9 w.heap.size #[.bool k1,.slice A1 n1 c1] 88 := by (repeat (first | with_reducible assumption | with_reducible refine Fr.call hb9 ?_ | with_reducible refine Fr.call hb8 ?_ | with_reducible refine Fr.drew ?_))
       have X2 : Fr w9 (w.heap.size + 1) #[.bool true,.slice A2 n2 c2] 88 := by (repeat (first | with_reducible assumption | with_reducible refine Fr.call hb9 ?_ | with_reducible refine Fr.call hb8 ?_ | with_reducible refine Fr.drew ?_))
       have X3 : Fr w9 (w.heap.size + 1 + 1) #[.bool false,.slice none 0 0,.bool false,.slice none 0 0] 90 := by (repeat (first | with_reducible assumption | with_reducible refine Fr.call hb9 ?_ | with_reducible refine Fr.call hb8 ?_ | with_reducible refine Fr.drew ?_))
       have Q1 : PlV w9 (.agg #[.bool k8,.slice A8 n8 c8]) (-x) := hv8.below hb9
       have Q2 : PlV w9 (.agg #[.bool k9,.slice A9 n9 c9]) (-y) := hv9
       exact ⟨A8,n8,c8,k8,A9,n9,c9,k9,Fr.far (by omega) (Fr.far (by omega) (Fr.set2 X1)),Fr.set2 (Fr.far (by omega) (Fr.far (by omega) (X2))),Fr.far (by omega) (Fr.far (by omega) (Fr.far (by omega) (Fr.far (by omega) (X3)))),PlV.two (by omega) X1 X2 Q1,PlV.two (by omega) X1 X2 Q2,(((hS9.setCell (by simp) _).setCell (by simp) _).setCell (by simp) _).setCell (by simp) _⟩)
    | (have X1 : Fr w9 w.heap.size #[.bool k1,.slice A1 n1 c1] 88 := by (repeat (first | with_reducible assumption | with_reducible refine Fr.call hb9 ?_ | with_reducible refine Fr.call hb8 ?_ | with_reducible refine Fr.drew ?_))
       have X2 : Fr w9 (w.heap.size + 1) #[.bool true,.slice A2 n2 c2] 88 := by (repeat (first | with_reducible assumption | with_reducible refine Fr.call hb9 ?_ | with_reducible refine Fr.call hb8 ?_ | with_reducible refine Fr.drew ?_))
       have X3 : Fr w9 (w.heap.size + 1 + 1) #[.bool false,.slice none 0 0,.bool false,.slice none 0 0] 90 := by (repeat (first | with_reducible assumption | with_reducible refine Fr.call hb9 ?_ | with_reducible refine Fr.call hb8 ?_ | with_reducible refine Fr.drew ?_))
       have Q1 : PlV w9 (.agg #[.bool k8,.slice A8 n8 c8]) (-x) := hv8.below hb9
       have Q2 : PlV w9 (.agg #[.bool k9,.slice A9 n9 c9]) (-y) := hv9
       exact ⟨A8,n8,c8,k8,A9,n9,c9,k9,Fr.set2 (Fr.far (by omega) (Fr.far (by omega) (X1))),Fr.far (by omega) (Fr.far (by omega) (Fr.set2 X2)),Fr.far (by omega) (Fr.far (by omega) (Fr.far (by omega) (Fr.far (by omega) (X3)))),PlV.two (by omega) X2 X1 Q1,PlV.two (by omega) X2 X1 Q2,(((hS9.setCell (by simp) _).setCell (by simp) _).setCell (by simp) _).setCell (by simp) _⟩)
    | (have X1 : Fr w8 w.heap.size #[.bool k1,.slice A1 n1 c1] 88 := by (repeat (first | with_reducible assumption | with_reducible refine Fr.call hb9 ?_ | with_reducible refine Fr.call hb8 ?_ | with_reducible refine Fr.drew ?_))
       have X2 : Fr w8 (w.heap.size + 1) #[.bool true,.slice A2 n2 c2] 88 := by (repeat (first | with_reducible assumption | with_reducible refine Fr.call hb9 ?_ | with_reducible refine Fr.call hb8 ?_ | with_reducible refine Fr.drew ?_))
       have X3 : Fr w8 (w.heap.size + 1 + 1) #[.bool false,.slice none 0 0,.bool false,.slice none 0 0] 90 := by (repeat (first | with_reducible assumption | with_reducible refine Fr.call hb9 ?_ | with_reducible refine Fr.call hb8 ?_ | with_reducible refine Fr.drew ?_))
       have Q1 : PlV w8 (.agg #[.bool k8,.slice A8 n8 c8]) (-x) := hv8
       have Q2 : PlV w8 (.agg #[.bool k9,.slice A9 n9 c9]) (-y) := hv9.below hb8
       exact ⟨A8,n8,c8,k8,A9,n9,c9,k9,Fr.far (by omega) (Fr.far (by omega) (Fr.set2 X1)),Fr.set2 (Fr.far (by omega) (Fr.far (by omega) (X2))),Fr.far (by omega) (Fr.far (by omega) (Fr.far (by omega) (Fr.far (by omega) (X3)))),PlV.two (by omega) X1 X2 Q1,PlV.two (by omega) X1 X2 Q2,(((hS8.setCell (by simp) _).setCell (by simp) _).setCell (by simp) _).setCell (by simp) _⟩)
    | (have X1 : Fr w8 w.heap.size #[.bool k1,.slice A1 n1 c1] 88 := by (repeat (first | with_reducible assumption | with_reducible refine Fr.call hb9 ?_ | with_reducible refine Fr.call hb8 ?_ | with_reducible refine Fr.drew ?_))
       have X2 : Fr w8 (w.heap.size + 1) #[.bool true,.slice A2 n2 c2] 88 := by (repeat (first | with_reducible assumption | with_reducible refine Fr.call hb9 ?_ | with_reducible refine Fr.call hb8 ?_ | with_reducible refine Fr.drew ?_))
       have X3 : Fr w8 (w.heap.size + 1 + 1) #[.bool false,.slice none 0 0,.bool false,.slice none 0 0] 90 := by (repeat (first | with_reducible assumption | with_reducible refine Fr.call hb9 ?_ | with_reducible refine Fr.call hb8 ?_ | with_reducible refine Fr.drew ?_))
       have Q1 : PlV w8 (.agg #[.bool k8,.slice A8 n8 c8]) (-x) := hv8
       have Q2 : PlV w8 (.agg #[.bool k9,.slice A9 n9 c9]) (-y) := hv9.below hb8
       exact ⟨A8,n8,c8,k8,A9,n9,c9,k9,Fr.set2 (Fr.far (by omega) (Fr.far (by omega) (X1))),Fr.far (by omega) (Fr.far (by omega) (Fr.set2 X2)),Fr.far (by omega) (Fr.far (by omega) (Fr.far (by omega) (Fr.far (by omega) (X3)))),PlV.two (by omega) X2 X1 Q1,PlV.two (by omega) X2 X1 Q2,(((hS8.setCell (by simp) _).setCell (by simp) _).setCell (by simp) _).setCell (by simp) _⟩)
 case rest =>
  obtain ⟨A3,n3,c3,k3,A4,n4,c4,k4,F1,F2,F3,q1,q2,hbw⟩ := hcut
  clear e0 e1 e2 e3 z0 z1 z2 z3 H hb0 hK2 T1 T2 hlt
  obtain ⟨e0,e1,-,-⟩ := F1.cells2
  obtain ⟨e2,e3,-,-⟩ := F2.cells2
  have H := Lib.hid (And.intro hbw (And.intro F1 (And.intro F2 (And.intro F3 (And.intro q1 q2)))))
  clear F1 F2 F3 q1 q2 hbw
  go_wp2_with fail
  refine (HG.out _ _ _ H.out.2.2.2.2.1 H.out.2.2.2.2.2).mono ?_
  rintro e w1 ⟨v,rfl,hg,hb1⟩
  obtain ⟨Ag,ng,cg,kg,rfl⟩ := hg.open
  clear e0 e1 e2 e3
  have hbw1 := belowt H.out.1 H.out.1.size hb1
  have hF1 := H.out.2.1.call hb1
  have hF2 := H.out.2.2.1.call hb1
  have hF3 := H.out.2.2.2.1.call hb1
  have hq1 := H.out.2.2.2.2.1.below hb1
  have hq2 := H.out.2.2.2.2.2.below hb1
  obtain ⟨e0,e1,-,-⟩ := hF1.cells2a
  obtain ⟨e2,e3,-,-⟩ := hF2.cells2a
  have hFg : Fr (w1.alloc (.cells #[.bool kg,.slice Ag ng cg] 88)) w1.heap.size #[.bool kg,.slice Ag ng cg] 88 := Fr.new rfl
  obtain ⟨e4,e5,-,-⟩ := hFg.cells2
  have HC := Lib.hid (And.intro (hbw1.alloc hbw1.size (.cells #[.bool kg,.slice Ag ng cg] 88)) (And.intro (hF1.old (u := .cells #[.bool kg,.slice Ag ng cg] 88)) (And.intro (hF2.old (u := .cells #[.bool kg,.slice Ag ng cg] 88)) (And.intro (hF3.old (u := .cells #[.bool kg,.slice Ag ng cg] 88)) (And.intro hFg (And.intro (hg.old (u := .cells #[.bool kg,.slice Ag ng cg] 88)) (And.intro (hq1.old (u := .cells #[.bool kg,.slice Ag ng cg] 88)) (hq2.old (u := .cells #[.bool kg,.slice Ag ng cg] 88)))))))))
  clear hg hb1 hbw1 hF1 hF2 hF3 hFg hq1 hq2
  go_wp2_with fail
  refine (HP1.out _ _ _ HC.out.2.2.2.2.2.2.1 HC.out.2.2.2.2.2.1).mono ?_
  rintro e w2 ⟨va,vb,rfl,ha,hb,hb2⟩
  obtain ⟨Aa,na,ca,ka,rfl⟩ := ha.open
  obtain ⟨Ab,nb,cb,kb,rfl⟩ := hb.open
  clear e0 e1 e2 e3 e4 e5
  have hbw2 := belowt HC.out.1 HC.out.1.size hb2
  have hF2 := HC.out.2.2.1.call hb2
  have hF3 := HC.out.2.2.2.1.call hb2
  have hFg := HC.out.2.2.2.2.1.call hb2
  have hg2 := HC.out.2.2.2.2.2.1.below hb2
  have hq2 := HC.out.2.2.2.2.2.2.2.below hb2
  obtain ⟨e2,e3,-,-⟩ := hF2.cells2b
  obtain ⟨e4,e5,-,-⟩ := hFg.cells2b
  have hFa : Fr ((w2.alloc (.cells #[.bool ka,.slice Aa na ca] 88)).alloc (.cells #[.bool kb,.slice Ab nb cb] 88)) w2.heap.size #[.bool ka,.slice Aa na ca] 88 := (Fr.new rfl).old
  have hbb : Below w2.heap.size w2 ((w2.alloc (.cells #[.bool ka,.slice Aa na ca] 88)).alloc (.cells #[.bool kb,.slice Ab nb cb] 88)) := ((Below.refl _ _).alloc (Nat.le_refl _) _).alloc (by simp) _
  have HE := Lib.hid (And.intro (belowt hbw2 hbw2.size hbb) (And.intro (hF3.call hbb) (And.intro (hg2.below hbb) (And.intro hFa (And.intro (ha.below hbb) (hq2.below hbb))))))
  clear ha hb hq2 hb2 hbw2 hF2 hF3 hFg hg2 hFa hbb HC H HG
  go_wp2_with fail
  refine (HP2.out _ _ _ HE.out.2.2.2.2.2 HE.out.2.2.1).mono ?_
  rintro e w3 ⟨vx,vy,rfl,hx,hy,hb3⟩
  obtain ⟨Ax,nx,cx,kx,rfl⟩ := hx.open
  obtain ⟨Ay,ny,cy,ky,rfl⟩ := hy.open
  clear e2 e3 e4 e5
  have hbw3 := belowt HE.out.1 HE.out.1.size hb3
  have hF3 := HE.out.2.1.call hb3
  have hFa := HE.out.2.2.2.1.call hb3
  have ha := HE.out.2.2.2.2.1.below hb3
  obtain ⟨e2,e3,-,-⟩ := hFa.cells2b
  have hFx : Fr ((w3.alloc (.cells #[.bool kx,.slice Ax nx cx] 88)).alloc (.cells #[.bool ky,.slice Ay ny cy] 88)) w3.heap.size #[.bool kx,.slice Ax nx cx] 88 := (Fr.new rfl).old
  obtain ⟨e4,e5,-,-⟩ := hFx.cells2
  have hbb : Below w3.heap.size w3 ((w3.alloc (.cells #[.bool kx,.slice Ax nx cx] 88)).alloc (.cells #[.bool ky,.slice Ay ny cy] 88)) := ((Below.refl _ _).alloc (Nat.le_refl _) _).alloc (by simp) _
  have hR := hF3.call hbb
  obtain ⟨y0,y1,y2,y3,z0,z1,z2,z3⟩ := hR.cells4
  have HZ := Lib.hid (And.intro (belowt hbw3 hbw3.size hbb) (And.intro hR (And.intro (ha.below hbb) (hx.below hbb))))
  clear hx hy hb3 hbw3 hF3 hFa ha hFx hbb hR HE HP1 HP2
  go_wp2_with fail
  exact bodyPost_ret (v := .agg #[.bool ka,.slice Aa na ca,.bool kx,.slice Ax nx cx]) (by simp [results,Tryz.results61,go_sem,y0,y1,y2,y3]) rfl ⟨_,rfl,⟨ka,Aa,na,ca,kx,Ax,nx,cx,rfl,PlV.set4 HZ.out.2.1 rfl rfl rfl rfl rfl rfl rfl HZ.out.2.2.1,PlV.set4 HZ.out.2.1 rfl rfl rfl rfl rfl rfl rfl HZ.out.2.2.2⟩,below_set4 HZ.out.1 (by omega)⟩
end Go.Proofs.YtlfgpmnjnpdkdaaGreatDoor
