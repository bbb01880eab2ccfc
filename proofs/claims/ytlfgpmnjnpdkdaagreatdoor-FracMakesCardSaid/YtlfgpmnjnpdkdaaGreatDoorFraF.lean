/- Contracts: package frac: sums and differences of fractions. -/
import Derived.Test.YtlfgpmnjnpdkdaaGreatDoorFraD
import Derived.Deep.DeepCutAuto
namespace Go.Proofs.YtlfgpmnjnpdkdaaGreatDoor
open Go.RowKit Vd
attribute [local go_sem ↓] Go.wp_at_zero Go.wp_at_succ
def BoxV (W : World) (g : Nat) (z : Int) : Prop := ∃ (A : Option Addr) (n c : Nat) (k : Bool),Fr W g #[.slice A n c,.bool k] 80 ∧ SgV W (.agg #[.slice A n c,.bool k]) z
theorem BoxV.call {W W' : World} {g : Nat} {z : Int} (h : BoxV W g z) (hb : Below W.heap.size W W') : BoxV W' g z := by
 obtain ⟨A,n,c,k,h,hp⟩ := h
 exact ⟨A,n,c,k,h.call hb,hp.below hb⟩
theorem BoxV.lt {W : World} {g : Nat} {z : Int} (h : BoxV W g z) : g < W.heap.size := by
 obtain ⟨A,n,c,k,h,hp⟩ := h;exact h.lt
theorem boxV_full {V : World} {g : Nat} {A : Option Addr} {n c : Nat} {k : Bool} {z : Int} (h : g = V.heap.size) (hp : SgV V (.agg #[.slice A n c,.bool k]) z) : BoxV (V.alloc (.cells #[.slice A n c,.bool k] 80)) g z := ⟨A,n,c,k,Fr.new h,hp.old⟩
theorem boxV_old {V : World} {g : Nat} {z : Int} {o : Obj} (h : BoxV V g z) : BoxV (V.alloc o) g z := h.call ((Below.refl _ _).alloc (Nat.le_refl _) o)
theorem boxV_drew {V : World} {g : Nat} {z : Int} (h : BoxV V g z) : BoxV V.drew g z := h.call (Below.refl _ _).drew
theorem boxV_set {V : World} {g : Nat} {A : Option Addr} {n c : Nat} {k : Bool} {z : Int} (h : BoxT V g) (hp : SgV V (.agg #[.slice A n c,.bool k]) z) : BoxV ((V.setCell ⟨g,0,none⟩ (.slice A n c)).setCell ⟨g,1,none⟩ (.bool k)) g z := by
 have hs := h.sg A n c k hp
 obtain ⟨_,_,_,_,h⟩ := h
 exact ⟨A,n,c,k,h.set2,hs⟩
theorem boxV_far {V : World} {g h : Nat} {z : Int} {A : Option Addr} {n c : Nat} {k : Bool} (hz : BoxV V g z) (hh : BoxT V h) (hne : g ≠ h) : BoxV ((V.setCell ⟨h,0,none⟩ (.slice A n c)).setCell ⟨h,1,none⟩ (.bool k)) g z := by
 obtain ⟨A',n',c',k',hf,hp⟩ := hz
 exact ⟨A',n',c',k',Fr.far hne (Fr.far hne hf),hh.sg A n c k hp⟩
theorem boxT_full {V : World} {g : Nat} {A : Option Addr} {n c : Nat} {k : Bool} (h : g = V.heap.size) : BoxT (V.alloc (.cells #[.slice A n c,.bool k] 80)) g := (Fr.new h).boxT
theorem boxT_old {V : World} {g : Nat} {o : Obj} (h : BoxT V g) : BoxT (V.alloc o) g := h.old
theorem boxT_drew {V : World} {g : Nat} (h : BoxT V g) : BoxT V.drew g := h.call (Below.refl _ _).drew
theorem boxT_call {V V' : World} {g : Nat} (hb : Below V.heap.size V V') (h : BoxT V g) : BoxT V' g := h.call hb
theorem boxT_far {V : World} {g h : Nat} {u v : Value} (hz : BoxT V g) (hne : g ≠ h) : BoxT ((V.setCell ⟨h,0,none⟩ u).setCell ⟨h,1,none⟩ v) g := by
 obtain ⟨_,_,_,_,hf⟩ := hz;exact (Fr.far hne (Fr.far hne hf)).boxT
theorem sgv_old {V : World} {v : Value} {z : Int} {o : Obj} (h : SgV V v z) : SgV (V.alloc o) v z := h.old
theorem sgv_set {V : World} {g : Nat} {x : Value} {z : Int} {A : Option Addr} {n c : Nat} {k : Bool} (h : BoxT V g) (hp : SgV V x z) : SgV ((V.setCell ⟨g,0,none⟩ (.slice A n c)).setCell ⟨g,1,none⟩ (.bool k)) x z := h.sg A n c k hp
theorem sgv_call {V V' : World} {v : Value} {z : Int} (hb : Below V.heap.size V V') (h : SgV V v z) : SgV V' v z := h.below hb
theorem kept2 {V V' : World} (h : Below V.heap.size V V') : (∀ g o,g < V.heap.size → V'.cell? ⟨g,o,none⟩ = V.cell? ⟨g,o,none⟩) ∧ (∀ g o,g < V.heap.size → V'.frozen? ⟨g,o,none⟩ = V.frozen? ⟨g,o,none⟩) :=
 ⟨fun g o hg => h.cell (p := ⟨g,o,none⟩) hg,fun g o hg => h.frozen (p := ⟨g,o,none⟩) hg⟩
theorem natAbs_ediv_le {a b : Int} (h : b ∣ a) : (a / b).natAbs ≤ a.natAbs := by
 rw [Int.natAbs_ediv_of_dvd h];exact Nat.div_le_self _ _
theorem wlen_ediv {a b : Int} (h : b ∣ a) : wlen B64 (a / b).natAbs ≤ wlen B64 a.natAbs := wlen_mono two_le_B (natAbs_ediv_le h)
theorem gcd_dvdl (a b : Int) : ((Nat.gcd a.natAbs b.natAbs : Nat) : Int) ∣ a := by rw [← Int.dvd_natAbs,Int.ofNat_dvd];exact Nat.gcd_dvd_left _ _
theorem gcd_dvdr (a b : Int) : ((Nat.gcd a.natAbs b.natAbs : Nat) : Int) ∣ b := by rw [← Int.dvd_natAbs,Int.ofNat_dvd];exact Nat.gcd_dvd_right _ _
theorem wlen_dvd {a b : Int} (h : a ∣ b) (hb : b ≠ 0) : wlen B64 a.natAbs ≤ wlen B64 b.natAbs := by
 refine wlen_mono two_le_B (Nat.le_of_dvd (by omega) ?_)
 exact Int.natAbs_dvd_natAbs.2 h
abbrev PbS (w V : World) (g5 : Nat) (A2 : Option Addr) (n2 c2 : Nat) (k2 : Bool) (A4 : Option Addr) (n4 c4 : Nat) (k4 : Bool) (A5 : Option Addr) (n5 c5 : Nat) (k5 : Bool) (W : World) : Prop := (Below V.heap.size V W) ∧ W.cell? ⟨w.heap.size,2,none⟩ = some (.slice A2 n2 c2) ∧ W.cell? ⟨w.heap.size,3,none⟩ = some (.bool k2) ∧ W.cell? ⟨w.heap.size + 1,2,none⟩ = some (.slice A4 n4 c4) ∧ W.cell? ⟨w.heap.size + 1,3,none⟩ = some (.bool k4) ∧ W.cell? ⟨g5,0,none⟩ = some (.slice A5 n5 c5) ∧ W.cell? ⟨g5,1,none⟩ = some (.bool k5)
theorem pbS_step {w V : World} {g5 : Nat} {A2 : Option Addr} {n2 c2 : Nat} {k2 : Bool} {A4 : Option Addr} {n4 c4 : Nat} {k4 : Bool} {A5 : Option Addr} {n5 c5 : Nat} {k5 : Bool} {W W' : World} (h : PbS w V g5 A2 n2 c2 k2 A4 n4 c4 k4 A5 n5 c5 k5 W) (hb : Below W.heap.size W W') : PbS w V g5 A2 n2 c2 k2 A4 n4 c4 k4 A5 n5 c5 k5 W' := by
 obtain ⟨hb0,e0,e1,e2,e3,e4,e5⟩ := h
 exact ⟨belowt hb0 hb0.size hb,keepc hb e0,keepc hb e1,keepc hb e2,keepc hb e3,keepc hb e4,keepc hb e5⟩
abbrev PcS (w V : World) (g6 g7 : Nat) (A1 : Option Addr) (n1 c1 : Nat) (k1 : Bool) (A3 : Option Addr) (n3 c3 : Nat) (k3 : Bool) (A6 : Option Addr) (n6 c6 : Nat) (k6 : Bool) (A7 : Option Addr) (n7 c7 : Nat) (k7 : Bool) (W : World) : Prop := (Below V.heap.size V W) ∧ W.cell? ⟨w.heap.size,0,none⟩ = some (.slice A1 n1 c1) ∧ W.cell? ⟨w.heap.size,1,none⟩ = some (.bool k1) ∧ W.cell? ⟨g7,0,none⟩ = some (.slice A7 n7 c7) ∧ W.cell? ⟨g7,1,none⟩ = some (.bool k7) ∧ W.cell? ⟨w.heap.size + 1,0,none⟩ = some (.slice A3 n3 c3) ∧ W.cell? ⟨w.heap.size + 1,1,none⟩ = some (.bool k3) ∧ W.cell? ⟨g6,0,none⟩ = some (.slice A6 n6 c6) ∧ W.cell? ⟨g6,1,none⟩ = some (.bool k6)
theorem pcS_step {w V : World} {g6 g7 : Nat} {A1 : Option Addr} {n1 c1 : Nat} {k1 : Bool} {A3 : Option Addr} {n3 c3 : Nat} {k3 : Bool} {A6 : Option Addr} {n6 c6 : Nat} {k6 : Bool} {A7 : Option Addr} {n7 c7 : Nat} {k7 : Bool} {W W' : World} (h : PcS w V g6 g7 A1 n1 c1 k1 A3 n3 c3 k3 A6 n6 c6 k6 A7 n7 c7 k7 W) (hb : Below W.heap.size W W') : PcS w V g6 g7 A1 n1 c1 k1 A3 n3 c3 k3 A6 n6 c6 k6 A7 n7 c7 k7 W' := by
 obtain ⟨hb0,e0,e1,e2,e3,e4,e5,e6,e7⟩ := h
 exact ⟨belowt hb0 hb0.size hb,keepc hb e0,keepc hb e1,keepc hb e2,keepc hb e3,keepc hb e4,keepc hb e5,keepc hb e6,keepc hb e7⟩
abbrev PdS (w : World) (g8 g9 g6 : Nat) (t d m : Int) (A4 : Option Addr) (n4 c4 : Nat) (k4 : Bool) (A8 : Option Addr) (n8 c8 : Nat) (k8 : Bool) (A9 : Option Addr) (n9 c9 : Nat) (k9 : Bool) (A6 : Option Addr) (n6 c6 : Nat) (k6 : Bool) (W : World) : Prop := (Below w.heap.size w W ∧ BoxR W (w.heap.size + 1 + 1) ∧ SgV W (.agg #[.slice A8 n8 c8,.bool k8]) t ∧ SgV W (.agg #[.slice A9 n9 c9,.bool k9]) d ∧ SgV W (.agg #[.slice A6 n6 c6,.bool k6]) m ∧ w.heap.size + 1 + 1 < g8 ∧ w.heap.size + 1 + 1 < g9 ∧ w.heap.size + 1 + 1 < g6) ∧ W.cell? ⟨g8,0,none⟩ = some (.slice A8 n8 c8) ∧ W.cell? ⟨g8,1,none⟩ = some (.bool k8) ∧ W.cell? ⟨g9,0,none⟩ = some (.slice A9 n9 c9) ∧ W.cell? ⟨g9,1,none⟩ = some (.bool k9) ∧ W.cell? ⟨g6,0,none⟩ = some (.slice A6 n6 c6) ∧ W.cell? ⟨g6,1,none⟩ = some (.bool k6) ∧ W.cell? ⟨w.heap.size + 1,2,none⟩ = some (.slice A4 n4 c4) ∧ W.cell? ⟨w.heap.size + 1,3,none⟩ = some (.bool k4)
theorem pdS_step {w : World} {g8 g9 g6 : Nat} {t d m : Int} {A4 : Option Addr} {n4 c4 : Nat} {k4 : Bool} {A8 : Option Addr} {n8 c8 : Nat} {k8 : Bool} {A9 : Option Addr} {n9 c9 : Nat} {k9 : Bool} {A6 : Option Addr} {n6 c6 : Nat} {k6 : Bool} {W W' : World} (h : PdS w g8 g9 g6 t d m A4 n4 c4 k4 A8 n8 c8 k8 A9 n9 c9 k9 A6 n6 c6 k6 W) (hb : Below W.heap.size W W') : PdS w g8 g9 g6 t d m A4 n4 c4 k4 A8 n8 c8 k8 A9 n9 c9 k9 A6 n6 c6 k6 W' := by
 obtain ⟨⟨hb0,hB,g0,g1,g2,l0,l1,l2⟩,e0,e1,e2,e3,e4,e5,e6,e7⟩ := h
 exact ⟨⟨belowt hb0 hb0.size hb,hB.call hb,g0.below hb,g1.below hb,g2.below hb,l0,l1,l2⟩,keepc hb e0,keepc hb e1,keepc hb e2,keepc hb e3,keepc hb e4,keepc hb e5,keepc hb e6,keepc hb e7⟩
theorem pdS_store {w : World} {g8 g9 g6 : Nat} {t d m : Int} {A4 : Option Addr} {n4 c4 : Nat} {k4 : Bool} {A8 : Option Addr} {n8 c8 : Nat} {k8 : Bool} {A9 : Option Addr} {n9 c9 : Nat} {k9 : Bool} {A6 : Option Addr} {n6 c6 : Nat} {k6 : Bool} {W : World} (h : PdS w g8 g9 g6 t d m A4 n4 c4 k4 A8 n8 c8 k8 A9 n9 c9 k9 A6 n6 c6 k6 W) (Ax : Option Addr) (nx cx : Nat) (kx : Bool) (Ay : Option Addr) (ny cy : Nat) (ky : Bool) : PdS w g8 g9 g6 t d m A4 n4 c4 k4 A8 n8 c8 k8 A9 n9 c9 k9 A6 n6 c6 k6 (sto4 W (w.heap.size + 1 + 1) (.slice Ax nx cx) (.bool kx) (.slice Ay ny cy) (.bool ky)) := by
 obtain ⟨⟨hb0,hB,g0,g1,g2,l0,l1,l2⟩,e0,e1,e2,e3,e4,e5,e6,e7⟩ := h
 exact ⟨⟨below_set4 hb0 (by omega),hB.set4 _ _ _ _ _ _ _ _,hB.sg _ _ _ _ _ _ _ _ g0,hB.sg _ _ _ _ _ _ _ _ g1,hB.sg _ _ _ _ _ _ _ _ g2,l0,l1,l2⟩,(cell_set4 (by omega)).trans e0,(cell_set4 (by omega)).trans e1,(cell_set4 (by omega)).trans e2,(cell_set4 (by omega)).trans e3,(cell_set4 (by omega)).trans e4,(cell_set4 (by omega)).trans e5,(cell_set4 (by omega)).trans e6,(cell_set4 (by omega)).trans e7⟩
set_option maxRecDepth 100000 in
set_option maxHeartbeats 8000000 in
theorem raplus_any (v1 v2 : Value) (x y : Rat) (K L : Nat) (w : World) (h1 : RaV w v1 x) (h2 : RaV w v2 y) (hx : Fz x K) (hy : Fz y L) (hK : K + L + 8 ≤ maxW) :
    Calls Tryz.prog 75 #[v1,v2] w fun e w' => ∃ v,e = .returned v ∧ RaV w' v (x + y) ∧ Below w.heap.size w w' := by
 obtain ⟨A1,n1,c1,k1,A2,n2,c2,k2,rfl,hv1,hv2⟩ := h1.open
 obtain ⟨A3,n3,c3,k3,A4,n4,c4,k4,rfl,hv3,hv4⟩ := h2.open
 obtain ⟨s,hs⟩ : ∃ s : Int,s = ((Nat.gcd (x.den : Int).natAbs (y.den : Int).natAbs : Nat) : Int) := ⟨_,rfl⟩
 obtain ⟨m,hm⟩ : ∃ m : Int,m = (x.den : Int) / s := ⟨_,rfl⟩
 obtain ⟨o,ho⟩ : ∃ o : Int,o = (y.den : Int) / s := ⟨_,rfl⟩
 obtain ⟨t,ht⟩ : ∃ t : Int,t = x.num * o + y.num * m := ⟨_,rfl⟩
 obtain ⟨d,hd⟩ : ∃ d : Int,d = ((Nat.gcd t.natAbs s.natAbs : Nat) : Int) := ⟨_,rfl⟩
 obtain ⟨hs0,hd0,hN,hD⟩ := add_parts x y s m o t d hs hm ho ht hd
 have dx : s ∣ (x.den : Int) := by rw [hs];exact gcd_dvdl _ _
 have dy : s ∣ (y.den : Int) := by rw [hs];exact gcd_dvdr _ _
 have ds : d ∣ s := by rw [hd];exact gcd_dvdr _ _
 have wx : wlen B64 ((x.den : Int)).natAbs ≤ K := fz_den hx
 have wy : wlen B64 ((y.den : Int)).natAbs ≤ L := fz_den hy
 have ws : wlen B64 s.natAbs ≤ K := Nat.le_trans (wlen_dvd dx (by have := x.den_pos;omega)) wx
 have wm : wlen B64 m.natAbs ≤ K := by rw [hm];exact Nat.le_trans (wlen_ediv dx) wx
 have wo : wlen B64 o.natAbs ≤ L := by rw [ho];exact Nat.le_trans (wlen_ediv dy) wy
 have w1o : wlen B64 (x.num * o).natAbs ≤ K + L := Nat.le_trans (wlen_mulZ _ _) (by have := hx.1;omega)
 have w2o : wlen B64 (y.num * m).natAbs ≤ K + L := Nat.le_trans (wlen_mulZ _ _) (by have := hy.1;omega)
 have wt : wlen B64 t.natAbs ≤ K + L + 1 := by rw [ht];exact Nat.le_trans (wlen_addZ _ _) (by omega)
 have wd : wlen B64 d.natAbs ≤ K := Nat.le_trans (wlen_dvd ds hs0) ws
 have wq : wlen B64 ((y.den : Int) / d).natAbs ≤ L := Nat.le_trans (wlen_ediv (Int.dvd_trans ds dy)) wy
 have wxn := hx.1
 have wyn := hy.1
 have hS0 := biS_start w A1 n1 c1 k1 A2 n2 c2 k2 A3 n3 c3 k3 A4 n4 c4 k4
 have hoD := divisor_any _ _ _ _ _ (hv2.below hS0.1.1) (hv4.below hS0.1.1) (Nat.le_trans (Nat.add_le_add_right wx 1) (by omega)) (Nat.le_trans (Nat.add_le_add_right wy 1) (by omega))
 rw [← hs] at hoD
 have HW := Lib.hid (And.intro hK (And.intro wx (And.intro wy (And.intro ws (And.intro wm (And.intro wo (And.intro w1o (And.intro w2o (And.intro wt (And.intro wd (And.intro wq (And.intro wxn wyn))))))))))))
 have HV := Lib.hid (And.intro hv1 (And.intro hv2 (And.intro hv3 hv4)))
 have HE := Lib.hid (And.intro hs0 (And.intro hd0 (And.intro hN (And.intro hD (And.intro hm (And.intro ho (And.intro ht hd)))))))
 clear h1 h2 hx hy hK hs0 hd0 hN hD dx dy ds wx wy ws wm wo w1o w2o wt wd wq wxn wyn hv1 hv2 hv3 hv4 hs hm ho ht hd
 go_enter Tryz.func75,Tryz.ntmps75
 go_upto_region 2 with (go_at_call 106;refine hoD.mono ?_;rintro e w1 ⟨dv,rfl,hdv,hb1⟩;obtain ⟨A5,n5,c5,k5,rfl⟩ := hdv.open)
 have hS1 := biS_step hS0 hb1
 obtain ⟨V,hV⟩ : ∃ V,V = w1.alloc (.cells #[.slice A5 n5 c5,.bool k5] 80) := ⟨_,rfl⟩
 have hbV1 : Below w1.heap.size w1 V := by rw [hV];exact (Below.refl _ _).alloc (Nat.le_refl _) _
 have hS2 := biS_step hS1 hbV1
 have hF5 : Fr V w1.heap.size #[.slice A5 n5 c5,.bool k5] 80 := by rw [hV];exact Fr.new rfl
 have hl5 : w.heap.size + 1 + 1 < w1.heap.size := hS1.1.2.lt
 have hd5 := hdv.below hbV1
 rw [← hV]
 obtain ⟨g5,hg5⟩ : ∃ g,g = w1.heap.size := ⟨_,rfl⟩
 rw [← hg5] at hF5 hl5 ⊢
 clear hV hbV1 hS1 hS0 hb1 hdv hoD hg5
 have hK2 : ∀ W,Below V.heap.size V W → PbS w V g5 A2 n2 c2 k2 A4 n4 c4 k4 A5 n5 c5 k5 W := fun W hb => ⟨hb,keepc hb hS2.2.2.2.1,keepc hb hS2.2.2.2.2.1,keepc hb hS2.2.2.2.2.2.2.2.1,keepc hb hS2.2.2.2.2.2.2.2.2,keepc hb hF5.cells2.1,keepc hb hF5.cells2.2.1⟩
 have HP1 : Hid (∀ W,PbS w V g5 A2 n2 c2 k2 A4 n4 c4 k4 A5 n5 c5 k5 W → Calls Tryz.prog 108 #[.agg #[.slice A2 n2 c2,.bool k2],.agg #[.slice A5 n5 c5,.bool k5]] W fun e w' => ∃ (A : Option Addr) (n c : Nat) (k : Bool),e = .returned (.agg #[.slice A n c,.bool k]) ∧ SgV w' (.agg #[.slice A n c,.bool k]) (m) ∧ Below W.heap.size W w' ∧ PbS w V g5 A2 n2 c2 k2 A4 n4 c4 k4 A5 n5 c5 k5 w') := Lib.hid (fun W hS => by
  have hp := part_any _ _ (x.den : Int) s W (HV.out.2.1.below (hS2.1.1.trans (hS.1.mono hS2.1.1.size))) (hd5.below hS.1) (Nat.le_trans (Nat.add_le_add_right HW.out.2.1 2) (by have := HW.out.1;omega)) (Nat.le_trans (Nat.add_le_add_right HW.out.2.2.2.1 2) (by have := HW.out.1;omega)) HE.out.1
  rw [← HE.out.2.2.2.2.1] at hp
  refine (hp).mono ?_
  rintro e w' ⟨A,n,c,k,he,hv,hb⟩
  exact ⟨A,n,c,k,he,hv,hb,pbS_step hS hb⟩)
 have HP2 : Hid (∀ W,PbS w V g5 A2 n2 c2 k2 A4 n4 c4 k4 A5 n5 c5 k5 W → Calls Tryz.prog 108 #[.agg #[.slice A4 n4 c4,.bool k4],.agg #[.slice A5 n5 c5,.bool k5]] W fun e w' => ∃ (A : Option Addr) (n c : Nat) (k : Bool),e = .returned (.agg #[.slice A n c,.bool k]) ∧ SgV w' (.agg #[.slice A n c,.bool k]) (o) ∧ Below W.heap.size W w' ∧ PbS w V g5 A2 n2 c2 k2 A4 n4 c4 k4 A5 n5 c5 k5 w') := Lib.hid (fun W hS => by
  have hp := part_any _ _ (y.den : Int) s W (HV.out.2.2.2.below (hS2.1.1.trans (hS.1.mono hS2.1.1.size))) (hd5.below hS.1) (Nat.le_trans (Nat.add_le_add_right HW.out.2.2.1 2) (by have := HW.out.1;omega)) (Nat.le_trans (Nat.add_le_add_right HW.out.2.2.2.1 2) (by have := HW.out.1;omega)) HE.out.1
  rw [← HE.out.2.2.2.2.2.1] at hp
  refine (hp).mono ?_
  rintro e w' ⟨A,n,c,k,he,hv,hb⟩
  exact ⟨A,n,c,k,he,hv,hb,pbS_step hS hb⟩)
 have HS2 := Lib.hid (And.intro hS2 (And.intro hF5 (And.intro hl5 hd5)))
 clear hS2 hF5 hl5 hd5
 go_cut [6,7] (fun s6 s7 wx => ∃ g6 g7 : Nat,s6 = .pointer (some ⟨g6,0,none⟩) ∧ s7 = .pointer (some ⟨g7,0,none⟩) ∧ BoxV wx g6 m ∧ BoxV wx g7 o ∧ Below V.heap.size V wx ∧ V.heap.size ≤ g6 ∧ V.heap.size ≤ g7)
 case first =>
  go_region_held3 (fun W => (Below V.heap.size V W) ∧ W.cell? ⟨w.heap.size,2,none⟩ = some (.slice A2 n2 c2) ∧ W.cell? ⟨w.heap.size,3,none⟩ = some (.bool k2) ∧ W.cell? ⟨w.heap.size + 1,2,none⟩ = some (.slice A4 n4 c4) ∧ W.cell? ⟨w.heap.size + 1,3,none⟩ = some (.bool k4) ∧ W.cell? ⟨g5,0,none⟩ = some (.slice A5 n5 c5) ∧ W.cell? ⟨g5,1,none⟩ = some (.bool k5))
   (first | with_reducible assumption | (refine hK2 _ ?_;(repeat (first | with_reducible assumption | with_reducible exact Below.refl _ _ | with_reducible refine Below.drew ?_ | with_reducible refine Below.alloc ?_ (by first | omega | (simp;done) | (simp;omega)) _ | with_reducible refine Below.setCell ?_ (by first | (simp;done) | (simp;omega) | omega) _))))
   (first
   | (go_at_call 108;with_reducible refine (HP1.out _ ?_).mono ?_;with_reducible assumption;rintro e w6 ⟨A6,n6,c6,k6,rfl,hq6,hb6,hS6⟩;have hB6 := hS6.1;have hs6 := hB6.size;have hz6 := hb6.size;(try simp at hz6);obtain ⟨hk61,hk62⟩ := kept2 hb6;(try (have e600 := hk61 (V.heap.size) 0 ?se600;case se600 => (first | omega | (simp;done) | (simp;omega))));(try (have f600 := hk62 (V.heap.size) 0 ?sf600;case sf600 => (first | omega | (simp;done) | (simp;omega))));(try (have e601 := hk61 (V.heap.size) 1 ?se601;case se601 => (first | omega | (simp;done) | (simp;omega))));(try (have f601 := hk62 (V.heap.size) 1 ?sf601;case sf601 => (first | omega | (simp;done) | (simp;omega))));(try (have c60 : V.heap.size < w6.heap.size := ?sc60;case sc60 => omega));(try (have d60 := Nat.ne_of_lt c60));(try (have e610 := hk61 (V.heap.size + 1) 0 ?se610;case se610 => (first | omega | (simp;done) | (simp;omega))));(try (have f610 := hk62 (V.heap.size + 1) 0 ?sf610;case sf610 => (first | omega | (simp;done) | (simp;omega))));(try (have e611 := hk61 (V.heap.size + 1) 1 ?se611;case se611 => (first | omega | (simp;done) | (simp;omega))));(try (have f611 := hk62 (V.heap.size + 1) 1 ?sf611;case sf611 => (first | omega | (simp;done) | (simp;omega))));(try (have c61 : V.heap.size + 1 < w6.heap.size := ?sc61;case sc61 => omega));(try (have d61 := Nat.ne_of_lt c61));clear hk61 hk62)
   | (go_at_call 108;with_reducible refine (HP2.out _ ?_).mono ?_;with_reducible assumption;rintro e w7 ⟨A7,n7,c7,k7,rfl,hq7,hb7,hS7⟩;have hB7 := hS7.1;have hs7 := hB7.size;have hz7 := hb7.size;(try simp at hz7);obtain ⟨hk71,hk72⟩ := kept2 hb7;(try (have e700 := hk71 (V.heap.size) 0 ?se700;case se700 => (first | omega | (simp;done) | (simp;omega))));(try (have f700 := hk72 (V.heap.size) 0 ?sf700;case sf700 => (first | omega | (simp;done) | (simp;omega))));(try (have e701 := hk71 (V.heap.size) 1 ?se701;case se701 => (first | omega | (simp;done) | (simp;omega))));(try (have f701 := hk72 (V.heap.size) 1 ?sf701;case sf701 => (first | omega | (simp;done) | (simp;omega))));(try (have c70 : V.heap.size < w7.heap.size := ?sc70;case sc70 => omega));(try (have d70 := Nat.ne_of_lt c70));(try (have e710 := hk71 (V.heap.size + 1) 0 ?se710;case se710 => (first | omega | (simp;done) | (simp;omega))));(try (have f710 := hk72 (V.heap.size + 1) 0 ?sf710;case sf710 => (first | omega | (simp;done) | (simp;omega))));(try (have e711 := hk71 (V.heap.size + 1) 1 ?se711;case se711 => (first | omega | (simp;done) | (simp;omega))));(try (have f711 := hk72 (V.heap.size + 1) 1 ?sf711;case sf711 => (first | omega | (simp;done) | (simp;omega))));(try (have c71 : V.heap.size + 1 < w7.heap.size := ?sc71;case sc71 => omega));(try (have d71 := Nat.ne_of_lt c71));(try (have e720 := hk71 (w6.heap.size) 0 ?se720;case se720 => (first | omega | (simp;done) | (simp;omega))));(try (have f720 := hk72 (w6.heap.size) 0 ?sf720;case sf720 => (first | omega | (simp;done) | (simp;omega))));(try (have e721 := hk71 (w6.heap.size) 1 ?se721;case se721 => (first | omega | (simp;done) | (simp;omega))));(try (have f721 := hk72 (w6.heap.size) 1 ?sf721;case sf721 => (first | omega | (simp;done) | (simp;omega))));(try (have c72 : w6.heap.size < w7.heap.size := ?sc72;case sc72 => omega));(try (have d72 := Nat.ne_of_lt c72));(try (have e730 := hk71 (w6.heap.size + 1) 0 ?se730;case se730 => (first | omega | (simp;done) | (simp;omega))));(try (have f730 := hk72 (w6.heap.size + 1) 0 ?sf730;case sf730 => (first | omega | (simp;done) | (simp;omega))));(try (have e731 := hk71 (w6.heap.size + 1) 1 ?se731;case se731 => (first | omega | (simp;done) | (simp;omega))));(try (have f731 := hk72 (w6.heap.size + 1) 1 ?sf731;case sf731 => (first | omega | (simp;done) | (simp;omega))));(try (have c73 : w6.heap.size + 1 < w7.heap.size := ?sc73;case sc73 => omega));(try (have d73 := Nat.ne_of_lt c73));clear hk71 hk72))
  all_goals
   go_wp2_with fail
   go_meet
   refine ⟨_,_,rfl,rfl,?_,?_,?_,?_,?_⟩
   all_goals (first
    | (repeat (first
      | with_reducible exact hq6 | with_reducible exact hq7
      | (with_reducible refine boxV_full ?_ ?_;focus (first | rfl | (simp;done))) | (with_reducible refine boxV_set ?_ ?_) | (with_reducible refine boxV_old ?_) | (with_reducible refine boxV_far ?_ ?_ ?_) | (with_reducible refine boxV_drew ?_)
      | (with_reducible refine boxT_full ?_;focus (first | omega | rfl | (simp;done) | (simp;omega))) | (with_reducible refine boxT_old ?_) | (with_reducible refine boxT_drew ?_) | (with_reducible refine boxT_far ?_ ?_) | (with_reducible refine boxT_call hb7 ?_) | (with_reducible refine boxT_call hb6 ?_)
      | (with_reducible refine sgv_old ?_) | (with_reducible refine sgv_set ?_ ?_) | (with_reducible refine sgv_call hb7 ?_) | (with_reducible refine sgv_call hb6 ?_)
      | focus (first | omega | rfl | (simp;done) | (simp;omega)))
       done)
    | (repeat (first | with_reducible assumption | with_reducible refine Below.drew ?_ | with_reducible refine Below.alloc ?_ (by first | omega | (simp;done) | (simp;omega)) _ | with_reducible refine Below.setCell ?_ (by first | (simp;done) | (simp;omega) | omega) _)
       done)
    | omega | (simp;omega))
 case rest =>
  obtain ⟨g6,g7,rfl,rfl,⟨A6,n6,c6,k6,hF6,hv6⟩,⟨A7,n7,c7,k7,hF7,hv7⟩,hbc,hl6,hl7⟩ := hcut
  obtain ⟨hS2,hF5,hl5,hd5⟩ := HS2.out
  have lw : w.heap.size + 1 + 1 < V.heap.size := hS2.1.2.lt
  have hS3 := biS_step hS2 hbc
  have hG5 := hF5.call hbc
  have hd6 := hd5.below hbc
  obtain ⟨V2,hV2⟩ : ∃ V2,V2 = wc := ⟨_,rfl⟩
  subst hV2
  have hK3 : ∀ W,Below V2.heap.size V2 W → PcS w V2 g6 g7 A1 n1 c1 k1 A3 n3 c3 k3 A6 n6 c6 k6 A7 n7 c7 k7 W := fun W hb => ⟨hb,keepc hb hS3.2.1,keepc hb hS3.2.2.1,keepc hb hF7.cells2.1,keepc hb hF7.cells2.2.1,keepc hb hS3.2.2.2.2.2.1,keepc hb hS3.2.2.2.2.2.2.1,keepc hb hF6.cells2.1,keepc hb hF6.cells2.2.1⟩
  have HT1 : Hid (∀ W,PcS w V2 g6 g7 A1 n1 c1 k1 A3 n3 c3 k3 A6 n6 c6 k6 A7 n7 c7 k7 W → Calls Tryz.prog 121 #[.agg #[.slice A1 n1 c1,.bool k1],.agg #[.slice A7 n7 c7,.bool k7]] W fun e w' => ∃ (A : Option Addr) (n c : Nat) (k : Bool),e = .returned (.agg #[.slice A n c,.bool k]) ∧ SgV w' (.agg #[.slice A n c,.bool k]) (x.num * o) ∧ Below W.heap.size W w' ∧ PcS w V2 g6 g7 A1 n1 c1 k1 A3 n3 c3 k3 A6 n6 c6 k6 A7 n7 c7 k7 w') := Lib.hid (fun W hS => by
   refine (times_any _ _ x.num o W (HV.out.1.below (hS3.1.1.trans (hS.1.mono hS3.1.1.size))) (hv7.below hS.1) (Nat.le_trans HW.out.2.2.2.2.2.2.2.2.2.2.2.1 (by have := HW.out.1;omega)) (Nat.le_trans HW.out.2.2.2.2.2.1 (by have := HW.out.1;omega))).mono ?_
   rintro e w' ⟨v,he,hv,hb⟩
   obtain ⟨A,n,c,k,rfl⟩ := hv.open
   exact ⟨A,n,c,k,he,hv,hb,pcS_step hS hb⟩)
  have HT2 : Hid (∀ W,PcS w V2 g6 g7 A1 n1 c1 k1 A3 n3 c3 k3 A6 n6 c6 k6 A7 n7 c7 k7 W → Calls Tryz.prog 121 #[.agg #[.slice A3 n3 c3,.bool k3],.agg #[.slice A6 n6 c6,.bool k6]] W fun e w' => ∃ (A : Option Addr) (n c : Nat) (k : Bool),e = .returned (.agg #[.slice A n c,.bool k]) ∧ SgV w' (.agg #[.slice A n c,.bool k]) (y.num * m) ∧ Below W.heap.size W w' ∧ PcS w V2 g6 g7 A1 n1 c1 k1 A3 n3 c3 k3 A6 n6 c6 k6 A7 n7 c7 k7 w') := Lib.hid (fun W hS => by
   refine (times_any _ _ y.num m W (HV.out.2.2.1.below (hS3.1.1.trans (hS.1.mono hS3.1.1.size))) (hv6.below hS.1) (Nat.le_trans HW.out.2.2.2.2.2.2.2.2.2.2.2.2 (by have := HW.out.1;omega)) (Nat.le_trans HW.out.2.2.2.2.1 (by have := HW.out.1;omega))).mono ?_
   rintro e w' ⟨v,he,hv,hb⟩
   obtain ⟨A,n,c,k,rfl⟩ := hv.open
   exact ⟨A,n,c,k,he,hv,hb,pcS_step hS hb⟩)
  have HT3 : Hid (∀ W u v,SgV W u (x.num * o) → SgV W v (y.num * m) → PcS w V2 g6 g7 A1 n1 c1 k1 A3 n3 c3 k3 A6 n6 c6 k6 A7 n7 c7 k7 W → Calls Tryz.prog 123 #[u,v] W fun e w' => ∃ (A : Option Addr) (n c : Nat) (k : Bool),e = .returned (.agg #[.slice A n c,.bool k]) ∧ SgV w' (.agg #[.slice A n c,.bool k]) t ∧ Below W.heap.size W w' ∧ PcS w V2 g6 g7 A1 n1 c1 k1 A3 n3 c3 k3 A6 n6 c6 k6 A7 n7 c7 k7 w') := Lib.hid (fun W u v hu hv hS => by
   have hp := plus_any u v _ _ W hu hv (Nat.le_trans HW.out.2.2.2.2.2.2.1 (by have := HW.out.1;omega)) (Nat.le_trans HW.out.2.2.2.2.2.2.2.1 (by have := HW.out.1;omega))
   rw [← HE.out.2.2.2.2.2.2.1] at hp
   refine hp.mono ?_
   rintro e w' ⟨v,he,hv,hb⟩
   obtain ⟨A,n,c,k,rfl⟩ := hv.open
   exact ⟨A,n,c,k,he,hv,hb,pcS_step hS hb⟩)
  have HS3 := Lib.hid (And.intro hS3 (And.intro hG5 (And.intro hl5 (And.intro hd6 (And.intro hF6 (And.intro hv6 (And.intro (show w.heap.size + 1 + 1 < g6 by omega) lw)))))))
  clear hS2 hF5 hl5 hd5 hS3 hG5 hd6 hF6 hv6 hF7 hv7 hbc hl6 hl7 lw HS2 hK2 HP1 HP2
  go_upto_region 3 with fail
  go_cut [8] (fun s8 wx => ∃ g8 : Nat,s8 = .pointer (some ⟨g8,0,none⟩) ∧ BoxV wx g8 t ∧ Below V2.heap.size V2 wx ∧ V2.heap.size ≤ g8)
  case first =>
   go_region_held3 (fun W => (Below V2.heap.size V2 W) ∧ W.cell? ⟨w.heap.size,0,none⟩ = some (.slice A1 n1 c1) ∧ W.cell? ⟨w.heap.size,1,none⟩ = some (.bool k1) ∧ W.cell? ⟨g7,0,none⟩ = some (.slice A7 n7 c7) ∧ W.cell? ⟨g7,1,none⟩ = some (.bool k7) ∧ W.cell? ⟨w.heap.size + 1,0,none⟩ = some (.slice A3 n3 c3) ∧ W.cell? ⟨w.heap.size + 1,1,none⟩ = some (.bool k3) ∧ W.cell? ⟨g6,0,none⟩ = some (.slice A6 n6 c6) ∧ W.cell? ⟨g6,1,none⟩ = some (.bool k6))
    (first | with_reducible assumption | (refine hK3 _ ?_;(repeat (first | with_reducible assumption | with_reducible exact Below.refl _ _ | with_reducible refine Below.drew ?_ | with_reducible refine Below.alloc ?_ (by first | omega | (simp;done) | (simp;omega)) _ | with_reducible refine Below.setCell ?_ (by first | (simp;done) | (simp;omega) | omega) _))))
     (first
   | (go_at_call 121;with_reducible refine (HT1.out _ ?_).mono ?_;with_reducible assumption;rintro e w81 ⟨A81,n81,c81,k81,rfl,hq81,hb81,hS81⟩;have hB81 := hS81.1;have hs81 := hB81.size;have hz81 := hb81.size;(try simp at hz81);obtain ⟨hk811,hk812⟩ := kept2 hb81;(try (have e8100 := hk811 (V2.heap.size) 0 ?se8100;case se8100 => (first | omega | (simp;done) | (simp;omega))));(try (have f8100 := hk812 (V2.heap.size) 0 ?sf8100;case sf8100 => (first | omega | (simp;done) | (simp;omega))));(try (have e8101 := hk811 (V2.heap.size) 1 ?se8101;case se8101 => (first | omega | (simp;done) | (simp;omega))));(try (have f8101 := hk812 (V2.heap.size) 1 ?sf8101;case sf8101 => (first | omega | (simp;done) | (simp;omega))));(try (have c810 : V2.heap.size < w81.heap.size := ?sc810;case sc810 => omega));(try (have d810 := Nat.ne_of_lt c810));clear hk811 hk812)
   | (go_at_call 121;with_reducible refine (HT2.out _ ?_).mono ?_;with_reducible assumption;rintro e w82 ⟨A82,n82,c82,k82,rfl,hq82,hb82,hS82⟩;have hB82 := hS82.1;have hs82 := hB82.size;have hz82 := hb82.size;(try simp at hz82);obtain ⟨hk821,hk822⟩ := kept2 hb82;(try (have e8200 := hk821 (V2.heap.size) 0 ?se8200;case se8200 => (first | omega | (simp;done) | (simp;omega))));(try (have f8200 := hk822 (V2.heap.size) 0 ?sf8200;case sf8200 => (first | omega | (simp;done) | (simp;omega))));(try (have e8201 := hk821 (V2.heap.size) 1 ?se8201;case se8201 => (first | omega | (simp;done) | (simp;omega))));(try (have f8201 := hk822 (V2.heap.size) 1 ?sf8201;case sf8201 => (first | omega | (simp;done) | (simp;omega))));(try (have c820 : V2.heap.size < w82.heap.size := ?sc820;case sc820 => omega));(try (have d820 := Nat.ne_of_lt c820));(try (have e8210 := hk821 (w81.heap.size) 0 ?se8210;case se8210 => (first | omega | (simp;done) | (simp;omega))));(try (have f8210 := hk822 (w81.heap.size) 0 ?sf8210;case sf8210 => (first | omega | (simp;done) | (simp;omega))));(try (have e8211 := hk821 (w81.heap.size) 1 ?se8211;case se8211 => (first | omega | (simp;done) | (simp;omega))));(try (have f8211 := hk822 (w81.heap.size) 1 ?sf8211;case sf8211 => (first | omega | (simp;done) | (simp;omega))));(try (have c821 : w81.heap.size < w82.heap.size := ?sc821;case sc821 => omega));(try (have d821 := Nat.ne_of_lt c821));clear hk821 hk822;(first | have hq81c := hq81.below hb82 | have hq81c := hq81.old.below hb82))
   | (go_at_call 123;with_reducible refine (HT3.out _ _ _ ?_ ?_ ?_).mono ?_;(first | with_reducible exact hq81c | with_reducible exact hq81c.old);(first | with_reducible exact hq82 | with_reducible exact hq82.old);with_reducible assumption;rintro e w83 ⟨A83,n83,c83,k83,rfl,hq83,hb83,hS83⟩;have hB83 := hS83.1;have hs83 := hB83.size;have hz83 := hb83.size;(try simp at hz83);obtain ⟨hk831,hk832⟩ := kept2 hb83;(try (have e8300 := hk831 (V2.heap.size) 0 ?se8300;case se8300 => (first | omega | (simp;done) | (simp;omega))));(try (have f8300 := hk832 (V2.heap.size) 0 ?sf8300;case sf8300 => (first | omega | (simp;done) | (simp;omega))));(try (have e8301 := hk831 (V2.heap.size) 1 ?se8301;case se8301 => (first | omega | (simp;done) | (simp;omega))));(try (have f8301 := hk832 (V2.heap.size) 1 ?sf8301;case sf8301 => (first | omega | (simp;done) | (simp;omega))));(try (have c830 : V2.heap.size < w83.heap.size := ?sc830;case sc830 => omega));(try (have d830 := Nat.ne_of_lt c830));(try (have e8310 := hk831 (w81.heap.size) 0 ?se8310;case se8310 => (first | omega | (simp;done) | (simp;omega))));(try (have f8310 := hk832 (w81.heap.size) 0 ?sf8310;case sf8310 => (first | omega | (simp;done) | (simp;omega))));(try (have e8311 := hk831 (w81.heap.size) 1 ?se8311;case se8311 => (first | omega | (simp;done) | (simp;omega))));(try (have f8311 := hk832 (w81.heap.size) 1 ?sf8311;case sf8311 => (first | omega | (simp;done) | (simp;omega))));(try (have c831 : w81.heap.size < w83.heap.size := ?sc831;case sc831 => omega));(try (have d831 := Nat.ne_of_lt c831));(try (have e8320 := hk831 (w82.heap.size) 0 ?se8320;case se8320 => (first | omega | (simp;done) | (simp;omega))));(try (have f8320 := hk832 (w82.heap.size) 0 ?sf8320;case sf8320 => (first | omega | (simp;done) | (simp;omega))));(try (have e8321 := hk831 (w82.heap.size) 1 ?se8321;case se8321 => (first | omega | (simp;done) | (simp;omega))));(try (have f8321 := hk832 (w82.heap.size) 1 ?sf8321;case sf8321 => (first | omega | (simp;done) | (simp;omega))));(try (have c832 : w82.heap.size < w83.heap.size := ?sc832;case sc832 => omega));(try (have d832 := Nat.ne_of_lt c832));clear hk831 hk832))
   all_goals
     go_wp2_with fail
     go_meet
     refine ⟨_,rfl,?_,?_,?_⟩
     all_goals (first
      | (repeat (first
      | with_reducible exact hq83
      | (with_reducible refine boxV_full ?_ ?_;focus (first | rfl | (simp;done))) | (with_reducible refine boxV_set ?_ ?_) | (with_reducible refine boxV_old ?_) | (with_reducible refine boxV_far ?_ ?_ ?_) | (with_reducible refine boxV_drew ?_)
      | (with_reducible refine boxT_full ?_;focus (first | omega | rfl | (simp;done) | (simp;omega))) | (with_reducible refine boxT_old ?_) | (with_reducible refine boxT_drew ?_) | (with_reducible refine boxT_far ?_ ?_) | (with_reducible refine boxT_call hb83 ?_) | (with_reducible refine boxT_call hb82 ?_) | (with_reducible refine boxT_call hb81 ?_)
      | (with_reducible refine sgv_old ?_) | (with_reducible refine sgv_set ?_ ?_) | (with_reducible refine sgv_call hb83 ?_) | (with_reducible refine sgv_call hb82 ?_) | (with_reducible refine sgv_call hb81 ?_)
      | focus (first | omega | rfl | (simp;done) | (simp;omega)))
         done)
      | (repeat (first | with_reducible assumption | with_reducible refine Below.drew ?_ | with_reducible refine Below.alloc ?_ (by first | omega | (simp;done) | (simp;omega)) _ | with_reducible refine Below.setCell ?_ (by first | (simp;done) | (simp;omega) | omega) _)
         done)
      | omega | (simp;omega))
  case rest =>
   obtain ⟨g8,rfl,⟨A8,n8,c8,k8,hF8,hv8⟩,hbc,hl8⟩ := hcut
   obtain ⟨hS3,hG5,hl5,hd6,hF6,hv6,hl6,lw⟩ := HS3.out
   have lw2 : w.heap.size + 1 + 1 < V2.heap.size := hS3.1.2.lt
   have hS4 := biS_step hS3 hbc
   have hH5 := hG5.call hbc
   have hH6 := hF6.call hbc
   have hv6b := hv6.below hbc
   obtain ⟨V3,hV3⟩ : ∃ V3,V3 = wc := ⟨_,rfl⟩
   subst hV3
   have hoE := divisor_any _ _ _ _ V3 hv8 (hd6.below hbc) (Nat.le_trans (Nat.add_le_add_right HW.out.2.2.2.2.2.2.2.2.1 1) (by have := HW.out.1;omega)) (Nat.le_trans (Nat.add_le_add_right HW.out.2.2.2.1 1) (by have := HW.out.1;omega))
   rw [← HE.out.2.2.2.2.2.2.2] at hoE
   obtain ⟨p50,p51,-,-⟩ := hH5.cells2
   obtain ⟨p80,p81,-,-⟩ := hF8.cells2
   have HS4 := Lib.hid (And.intro hS4 (And.intro hF8 (And.intro hv8 (And.intro hH6 (And.intro hv6b (And.intro hl6 (show w.heap.size + 1 + 1 < g8 by omega)))))))
   clear hS3 hG5 hl5 hd6 hF6 hv6 hl6 lw lw2 hS4 hH5 hH6 hv6b hF8 hv8 hbc hl8 HS3 HT1 HT2 HT3 hK3
   go_upto_region 5 with (go_at_call 106;refine hoE.mono ?_;rintro e w9 ⟨dv,rfl,hdv,hb9⟩;obtain ⟨A9,n9,c9,k9,rfl⟩ := hdv.open)
   obtain ⟨hS4,hF8,hv8,hH6,hv6,hl6,hl8⟩ := HS4.out
   have hS5 := biS_step hS4 hb9
   have hS1 : PdS w g8 w9.heap.size g6 t d m A4 n4 c4 k4 A8 n8 c8 k8 A9 n9 c9 k9 A6 n6 c6 k6 (w9.alloc (.cells #[.slice A9 n9 c9,.bool k9] 80)).drew := by
    have hba : Below w9.heap.size w9 (w9.alloc (.cells #[.slice A9 n9 c9,.bool k9] 80)) := (Below.refl _ _).alloc (Nat.le_refl _) _
    have hS6 := biS_step hS5 hba
    have r8 := (hF8.call hb9).call hba
    have r6 := (hH6.call hb9).call hba
    have r9 : Fr (w9.alloc (.cells #[.slice A9 n9 c9,.bool k9] 80)) w9.heap.size #[.slice A9 n9 c9,.bool k9] 80 := Fr.new rfl
    exact ⟨⟨hS6.1.1.drew,hS6.1.2,(hv8.below hb9).old,hdv.old,(hv6.below hb9).old,hl8,hS5.1.2.lt,hl6⟩,r8.cells2.1,r8.cells2.2.1,r9.cells2.1,r9.cells2.2.1,r6.cells2.1,r6.cells2.2.1,hS6.2.2.2.2.2.2.2.1,hS6.2.2.2.2.2.2.2.2⟩
   have hrb := ra_built
   have HQ1 : Hid (∀ W,PdS w g8 w9.heap.size g6 t d m A4 n4 c4 k4 A8 n8 c8 k8 A9 n9 c9 k9 A6 n6 c6 k6 W → Calls Tryz.prog 108 #[.agg #[.slice A8 n8 c8,.bool k8],.agg #[.slice A9 n9 c9,.bool k9]] W fun e w' => ∃ (A : Option Addr) (n c : Nat) (k : Bool),e = .returned (.agg #[.slice A n c,.bool k]) ∧ SgV w' (.agg #[.slice A n c,.bool k]) (t / d) ∧ Below W.heap.size W w' ∧ PdS w g8 w9.heap.size g6 t d m A4 n4 c4 k4 A8 n8 c8 k8 A9 n9 c9 k9 A6 n6 c6 k6 w') := Lib.hid (fun W hS => by
    refine (part_any _ _ t d W hS.1.2.2.1 hS.1.2.2.2.1 (Nat.le_trans (Nat.add_le_add_right HW.out.2.2.2.2.2.2.2.2.1 2) (by have := HW.out.1;omega)) (Nat.le_trans (Nat.add_le_add_right HW.out.2.2.2.2.2.2.2.2.2.1 2) (by have := HW.out.1;omega)) HE.out.2.1).mono ?_
    rintro e w' ⟨A,n,c,k,he,hv,hb⟩
    exact ⟨A,n,c,k,he,hv,hb,pdS_step hS hb⟩)
   have HQ2 : Hid (∀ W,PdS w g8 w9.heap.size g6 t d m A4 n4 c4 k4 A8 n8 c8 k8 A9 n9 c9 k9 A6 n6 c6 k6 W → Calls Tryz.prog 108 #[.agg #[.slice A4 n4 c4,.bool k4],.agg #[.slice A9 n9 c9,.bool k9]] W fun e w' => ∃ (A : Option Addr) (n c : Nat) (k : Bool),e = .returned (.agg #[.slice A n c,.bool k]) ∧ SgV w' (.agg #[.slice A n c,.bool k]) ((y.den : Int) / d) ∧ Below W.heap.size W w' ∧ PdS w g8 w9.heap.size g6 t d m A4 n4 c4 k4 A8 n8 c8 k8 A9 n9 c9 k9 A6 n6 c6 k6 w') := Lib.hid (fun W hS => by
    refine (part_any _ _ (y.den : Int) d W (HV.out.2.2.2.below hS.1.1) hS.1.2.2.2.1 (Nat.le_trans (Nat.add_le_add_right HW.out.2.2.1 2) (by have := HW.out.1;omega)) (Nat.le_trans (Nat.add_le_add_right HW.out.2.2.2.2.2.2.2.2.2.1 2) (by have := HW.out.1;omega)) HE.out.2.1).mono ?_
    rintro e w' ⟨A,n,c,k,he,hv,hb⟩
    exact ⟨A,n,c,k,he,hv,hb,pdS_step hS hb⟩)
   have HQ3 : Hid (∀ W v,SgV W v ((y.den : Int) / d) → PdS w g8 w9.heap.size g6 t d m A4 n4 c4 k4 A8 n8 c8 k8 A9 n9 c9 k9 A6 n6 c6 k6 W → Calls Tryz.prog 121 #[.agg #[.slice A6 n6 c6,.bool k6],v] W fun e w' => ∃ (A : Option Addr) (n c : Nat) (k : Bool),e = .returned (.agg #[.slice A n c,.bool k]) ∧ SgV w' (.agg #[.slice A n c,.bool k]) (m * ((y.den : Int) / d)) ∧ Below W.heap.size W w' ∧ PdS w g8 w9.heap.size g6 t d m A4 n4 c4 k4 A8 n8 c8 k8 A9 n9 c9 k9 A6 n6 c6 k6 w') := Lib.hid (fun W v hv hS => by
    refine (times_any _ v m _ W hS.1.2.2.2.2.1 hv (Nat.le_trans HW.out.2.2.2.2.1 (by have := HW.out.1;omega)) (Nat.le_trans HW.out.2.2.2.2.2.2.2.2.2.2.1 (by have := HW.out.1;omega))).mono ?_
    rintro e w' ⟨v,he,hv,hb⟩
    obtain ⟨A,n,c,k,rfl⟩ := hv.open
    exact ⟨A,n,c,k,he,hv,hb,pdS_step hS hb⟩)
   clear hS4 hF8 hv8 hH6 hv6 hl6 hl8 hS5 hdv hb9 HS4 hoE p50 p51 p80 p81
   go_wp2_with fail
   go_region_held3 (fun W => (Below w.heap.size w W ∧ BoxR W (w.heap.size + 1 + 1) ∧ SgV W (.agg #[.slice A8 n8 c8,.bool k8]) t ∧ SgV W (.agg #[.slice A9 n9 c9,.bool k9]) d ∧ SgV W (.agg #[.slice A6 n6 c6,.bool k6]) m ∧ w.heap.size + 1 + 1 < g8 ∧ w.heap.size + 1 + 1 < w9.heap.size ∧ w.heap.size + 1 + 1 < g6) ∧ W.cell? ⟨g8,0,none⟩ = some (.slice A8 n8 c8) ∧ W.cell? ⟨g8,1,none⟩ = some (.bool k8) ∧ W.cell? ⟨w9.heap.size,0,none⟩ = some (.slice A9 n9 c9) ∧ W.cell? ⟨w9.heap.size,1,none⟩ = some (.bool k9) ∧ W.cell? ⟨g6,0,none⟩ = some (.slice A6 n6 c6) ∧ W.cell? ⟨g6,1,none⟩ = some (.bool k6) ∧ W.cell? ⟨w.heap.size + 1,2,none⟩ = some (.slice A4 n4 c4) ∧ W.cell? ⟨w.heap.size + 1,3,none⟩ = some (.bool k4)) (first | with_reducible assumption | exact ⟨⟨hS1.1.1,hS1.1.2⟩,hS1.2⟩ | (refine pdS_store ?_ _ _ _ _ _ _ _ _;with_reducible assumption))
    (first
     | (go_at_call 108;with_reducible refine (HQ1.out _ ?_).mono ?_;with_reducible assumption;rintro e wa ⟨Aa,na,ca,ka,rfl,hqa,hba,hSa⟩)
     | (go_at_call 108;with_reducible refine (HQ2.out _ ?_).mono ?_;with_reducible assumption;rintro e wb ⟨Ab,nb,cb,kb,rfl,hqb,hbb,hSb⟩)
     | (go_at_call 121;with_reducible refine (HQ3.out _ _ ?_ ?_).mono ?_;with_reducible assumption;with_reducible assumption;rintro e wd ⟨Ad,nd,cd,kd,rfl,hqd,hbd,hSd⟩;obtain ⟨⟨q0,y0⟩,⟨q1,y1⟩,⟨q2,y2⟩,⟨q3,y3⟩,y4,y5,y6,y7⟩ := hSd.1.2.1.facts))
   go_wp2_with fail
   have hqa2 := (hqa.below hbb).below hbd
   exact bodyPost_ret (v := .agg #[.slice Aa na ca,.bool ka,.slice Ad nd cd,.bool kd]) (by simp [results,Tryz.results75,go_sem,y0,y1,y2,y3]) rfl ⟨_,rfl,RaV.fin hSd.1.2.1 (by rw [HE.out.2.2.1];exact hqa2) (by rw [HE.out.2.2.2.1];exact hqd),below_set4 hSd.1.1 (by omega)⟩
end Go.Proofs.YtlfgpmnjnpdkdaaGreatDoor
