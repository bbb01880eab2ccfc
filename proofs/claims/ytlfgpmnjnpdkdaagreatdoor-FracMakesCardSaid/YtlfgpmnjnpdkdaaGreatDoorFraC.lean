/- Contracts: package frac: part, lowest. -/
import Derived.Test.YtlfgpmnjnpdkdaaGreatDoorFraA
import Derived.Deep.RegionHeld3
import Derived.Deep.DrawnRows
namespace Go.Proofs.YtlfgpmnjnpdkdaaGreatDoor
open Go.RowKit Vd
attribute [local go_sem ↓] Go.wp_at_zero Go.wp_at_succ
set_option maxRecDepth 100000 in
set_option maxHeartbeats 1000000 in
theorem part_any (v1 v2 : Value) (x y : Int) (w : World) (h1 : SgV w v1 x) (h2 : SgV w v2 y) (b1 : wlen B64 x.natAbs + 2 ≤ maxW) (b2 : wlen B64 y.natAbs + 2 ≤ maxW) (hy : y ≠ 0) :
 Calls Tryz.prog 108 #[v1,v2] w fun e w' => ∃ (A : Option Addr) (n c : Nat) (k : Bool),e = .returned (.agg #[.slice A n c,.bool k]) ∧ SgV w' (.agg #[.slice A n c,.bool k]) (x / y) ∧ Below w.heap.size w w' := by
 obtain ⟨A1,n1,c1,k1,rfl⟩ := h1.open
 obtain ⟨A2,n2,c2,k2,rfl⟩ := h2.open
 obtain ⟨W0,hW0⟩ : ∃ W0,W0 = ((w.alloc (.cells #[.slice A1 n1 c1,.bool k1] 80)).alloc (.cells #[.slice A2 n2 c2,.bool k2] 80)).alloc (.cells #[.slice none 0 0,.bool false] 80) := ⟨_,rfl⟩
 have hbW : Below w.heap.size w W0 := by rw [hW0];exact (((Below.refl _ _).alloc (Nat.le_refl _) _).alloc (by simp) _).alloc (by simp;omega) _
 have hF0 : Fr W0 (w.heap.size + 1 + 1) #[.slice none 0 0,.bool false] 80 := by rw [hW0];exact Fr.new (by simp)
 have ho := over_any _ _ x y W0 (h1.below hbW) (h2.below hbW) b1 b2 hy
 rw [hW0] at ho
 have HB := Lib.hid hbW
 clear h1 h2 b1 b2 hy hbW
 go_enter Tryz.func108,Tryz.ntmps108
 go_wp2_with fail
 refine ho.mono ?_
 rw [← hW0]
 rintro e w1 ⟨x1,x2,rfl,hv1,hv2,hb⟩
 obtain ⟨A,n,c,k,rfl⟩ := hv1.open
 obtain ⟨A',n',c',k',rfl⟩ := hv2.open
 have hF1 := hF0.call hb
 obtain ⟨c0,c1,z0,z1⟩ := hF1.cells2b
 have HV := Lib.hid (And.intro hv1 (And.intro hb hF1))
 clear hv1 hv2 hb ho hF0 hW0 hF1
 go_wp2_with fail
 obtain ⟨hv1,hb,hF1⟩ := HV.out
 have hb1 := HB.out.trans (hb.mono HB.out.size)
 exact bodyPost_ret (v := .agg #[.slice A n c,.bool k]) (by simp [results,Tryz.results108,go_sem,c0,c1]) rfl ⟨A,n,c,k,rfl,SgV.set2 hF1.old.old rfl rfl rfl hv1.old.old,(((hb1.alloc hb1.size _).alloc (by simp;have := hb1.size;omega) _).setCell (by simp;omega) _).setCell (by simp;omega) _⟩
theorem SgV.neg {w : World} {A : Option Addr} {n c : Nat} {k : Bool} {z : Int} (h : SgV w (.agg #[.slice A n c,.bool k]) z) : k = decide (z < 0) := by
 obtain ⟨m,e,_⟩ := h
 simp at e
 exact e.2
theorem keepc {W W' : World} {p : Addr} {v : Value} (hb : Below W.heap.size W W') (h : W.cell? p = some v) : W'.cell? p = some v := (hb.cell (World.block_lt_of_cell? W _ h)).trans h
theorem belowt {B : Nat} {a w w' : World} (h : Below B a w) (hB : B ≤ w.heap.size) (hb : Below w.heap.size w w') : Below B a w' := h.trans (hb.mono hB)
abbrev sto2 (W : World) (b : Nat) (u0 u1 : Value) : World := (W.setCell ⟨b,0,none⟩ u0).setCell ⟨b,1,none⟩ u1
abbrev sto4 (W : World) (b : Nat) (u0 u1 u2 u3 : Value) : World := (((W.setCell ⟨b,0,none⟩ u0).setCell ⟨b,1,none⟩ u1).setCell ⟨b,2,none⟩ u2).setCell ⟨b,3,none⟩ u3
theorem below_set2 {B : Nat} {w V : World} {b : Nat} {u0 u1 : Value} (h : Below B w V) (hb : B ≤ b) : Below B w (sto2 V b u0 u1) := (h.setCell (p := ⟨b,0,none⟩) hb _).setCell (p := ⟨b,1,none⟩) hb _
theorem below_set4 {B : Nat} {w V : World} {b : Nat} {u0 u1 u2 u3 : Value} (h : Below B w V) (hb : B ≤ b) : Below B w (sto4 V b u0 u1 u2 u3) :=
 (((h.setCell (p := ⟨b,0,none⟩) hb _).setCell (p := ⟨b,1,none⟩) hb _).setCell (p := ⟨b,2,none⟩) hb _).setCell (p := ⟨b,3,none⟩) hb _
theorem cell_set2 {W : World} {b : Nat} {u0 u1 : Value} {g o : Nat} (h : g ≠ b) : (sto2 W b u0 u1).cell? ⟨g,o,none⟩ = W.cell? ⟨g,o,none⟩ := by
 have hn : ∀ o',(⟨g,o,none⟩ : Addr) ≠ ⟨b,o',none⟩ := fun o' e => h (by injection e)
 unfold sto2
 rw [World.cell?_setCell_other _ _ _ _ (fun e => hn _ e.symm),World.cell?_setCell_other _ _ _ _ (fun e => hn _ e.symm)]
theorem cell_set4 {W : World} {b : Nat} {u0 u1 u2 u3 : Value} {g o : Nat} (h : g ≠ b) : (sto4 W b u0 u1 u2 u3).cell? ⟨g,o,none⟩ = W.cell? ⟨g,o,none⟩ := by
 have hn : ∀ o',(⟨g,o,none⟩ : Addr) ≠ ⟨b,o',none⟩ := fun o' e => h (by injection e)
 unfold sto4
 rw [World.cell?_setCell_other _ _ _ _ (fun e => hn _ e.symm),World.cell?_setCell_other _ _ _ _ (fun e => hn _ e.symm),World.cell?_setCell_other _ _ _ _ (fun e => hn _ e.symm),World.cell?_setCell_other _ _ _ _ (fun e => hn _ e.symm)]
def BoxR (W : World) (b : Nat) : Prop := ∃ (A : Option Addr) (n c : Nat) (k : Bool) (A' : Option Addr) (n' c' : Nat) (k' : Bool),Fr W b #[.slice A n c,.bool k,.slice A' n' c',.bool k'] 82
def BoxT (W : World) (b : Nat) : Prop := ∃ (A : Option Addr) (n c : Nat) (k : Bool),Fr W b #[.slice A n c,.bool k] 80
theorem Fr.boxR {W : World} {b : Nat} {A : Option Addr} {n c : Nat} {k : Bool} {A' : Option Addr} {n' c' : Nat} {k' : Bool} (h : Fr W b #[.slice A n c,.bool k,.slice A' n' c',.bool k'] 82) : BoxR W b := ⟨_,_,_,_,_,_,_,_,h⟩
theorem Fr.boxT {W : World} {b : Nat} {A : Option Addr} {n c : Nat} {k : Bool} (h : Fr W b #[.slice A n c,.bool k] 80) : BoxT W b := ⟨_,_,_,_,h⟩
theorem BoxR.lt {W : World} {b : Nat} (h : BoxR W b) : b < W.heap.size := by obtain ⟨_,_,_,_,_,_,_,_,h⟩ := h;exact h.lt
theorem BoxT.lt {W : World} {b : Nat} (h : BoxT W b) : b < W.heap.size := by obtain ⟨_,_,_,_,h⟩ := h;exact h.lt
theorem BoxR.call {W W' : World} {b : Nat} (h : BoxR W b) (hb : Below W.heap.size W W') : BoxR W' b := by obtain ⟨_,_,_,_,_,_,_,_,h⟩ := h;exact (h.call hb).boxR
theorem BoxT.call {W W' : World} {b : Nat} (h : BoxT W b) (hb : Below W.heap.size W W') : BoxT W' b := by obtain ⟨_,_,_,_,h⟩ := h;exact (h.call hb).boxT
theorem BoxR.old {W : World} {b : Nat} {u : Obj} (h : BoxR W b) : BoxR (W.alloc u) b := h.call ((Below.refl _ _).alloc (Nat.le_refl _) u)
theorem BoxT.old {W : World} {b : Nat} {u : Obj} (h : BoxT W b) : BoxT (W.alloc u) b := h.call ((Below.refl _ _).alloc (Nat.le_refl _) u)
theorem BoxR.set4 {W : World} {b : Nat} (h : BoxR W b) (A : Option Addr) (n c : Nat) (k : Bool) (A' : Option Addr) (n' c' : Nat) (k' : Bool) : BoxR (sto4 W b (.slice A n c) (.bool k) (.slice A' n' c') (.bool k')) b := by
 obtain ⟨_,_,_,_,_,_,_,_,h⟩ := h;exact (Fr.set4 h).boxR
theorem BoxT.set2 {W : World} {b : Nat} (h : BoxT W b) (A : Option Addr) (n c : Nat) (k : Bool) : BoxT (sto2 W b (.slice A n c) (.bool k)) b := by
 obtain ⟨_,_,_,_,h⟩ := h;exact (Fr.set2 h).boxT
theorem BoxR.sg {W : World} {b : Nat} (h : BoxR W b) (A : Option Addr) (n c : Nat) (k : Bool) (A' : Option Addr) (n' c' : Nat) (k' : Bool) {v : Value} {z : Int} (hv : SgV W v z) : SgV (sto4 W b (.slice A n c) (.bool k) (.slice A' n' c') (.bool k')) v z := by
 obtain ⟨_,_,_,_,_,_,_,_,h⟩ := h;exact SgV.set4 h rfl rfl rfl rfl rfl rfl rfl hv
theorem BoxT.sg {W : World} {b : Nat} (h : BoxT W b) (A : Option Addr) (n c : Nat) (k : Bool) {v : Value} {z : Int} (hv : SgV W v z) : SgV (sto2 W b (.slice A n c) (.bool k)) v z := by
 obtain ⟨_,_,_,_,h⟩ := h;exact SgV.set2 h rfl rfl rfl hv
theorem BoxR.facts {W : World} {b : Nat} (h : BoxR W b) : (∃ u,W.cell? ⟨b,0,none⟩ = some u) ∧ (∃ u,W.cell? ⟨b,1,none⟩ = some u) ∧ (∃ u,W.cell? ⟨b,2,none⟩ = some u) ∧ (∃ u,W.cell? ⟨b,3,none⟩ = some u) ∧ W.frozen? ⟨b,0,none⟩ = false ∧ W.frozen? ⟨b,1,none⟩ = false ∧ W.frozen? ⟨b,2,none⟩ = false ∧ W.frozen? ⟨b,3,none⟩ = false := by
 obtain ⟨_,_,_,_,_,_,_,_,h⟩ := h
 obtain ⟨a,b,c,d,e,f,g,i⟩ := h.cells4
 exact ⟨⟨_,a⟩,⟨_,b⟩,⟨_,c⟩,⟨_,d⟩,e,f,g,i⟩
theorem BoxT.facts {W : World} {b : Nat} (h : BoxT W b) : (∃ u,W.cell? ⟨b,0,none⟩ = some u) ∧ (∃ u,W.cell? ⟨b,1,none⟩ = some u) ∧ W.frozen? ⟨b,0,none⟩ = false ∧ W.frozen? ⟨b,1,none⟩ = false := by
 obtain ⟨_,_,_,_,h⟩ := h
 obtain ⟨a,b,c,d⟩ := h.cells2
 exact ⟨⟨_,a⟩,⟨_,b⟩,c,d⟩
theorem RaV.fin {V : World} {b : Nat} {q : Rat} {A1 : Option Addr} {n1 c1 : Nat} {k1 : Bool} {A2 : Option Addr} {n2 c2 : Nat} {k2 : Bool} (hF : BoxR V b) (h1 : SgV V (.agg #[.slice A1 n1 c1,.bool k1]) q.num) (h2 : SgV V (.agg #[.slice A2 n2 c2,.bool k2]) (q.den : Int)) :
 RaV (sto4 V b (.slice A1 n1 c1) (.bool k1) (.slice A2 n2 c2) (.bool k2)) (.agg #[.slice A1 n1 c1,.bool k1,.slice A2 n2 c2,.bool k2]) q :=
 ⟨A1,n1,c1,k1,A2,n2,c2,k2,rfl,hF.sg _ _ _ _ _ _ _ _ h1,hF.sg _ _ _ _ _ _ _ _ h2⟩
abbrev LoS (w w1 : World) (g : Int) (A1 : Option Addr) (n1 c1 : Nat) (k1 : Bool) (A2 : Option Addr) (n2 c2 : Nat) (k2 : Bool) (Ag : Option Addr) (ng cg : Nat) (kg : Bool) (W : World) : Prop := (Below w.heap.size w W ∧ BoxR W (w.heap.size + 1 + 1) ∧ SgV W (.agg #[.slice Ag ng cg,.bool kg]) g ∧ w.heap.size + 1 + 1 < w1.heap.size) ∧ W.cell? ⟨w.heap.size,0,none⟩ = some (.slice A1 n1 c1) ∧ W.cell? ⟨w.heap.size,1,none⟩ = some (.bool k1) ∧ W.cell? ⟨w.heap.size + 1,0,none⟩ = some (.slice A2 n2 c2) ∧ W.cell? ⟨w.heap.size + 1,1,none⟩ = some (.bool k2) ∧ W.cell? ⟨w1.heap.size,0,none⟩ = some (.slice Ag ng cg) ∧ W.cell? ⟨w1.heap.size,1,none⟩ = some (.bool kg)
theorem loS_step {w w1 : World} {g : Int} {A1 : Option Addr} {n1 c1 : Nat} {k1 : Bool} {A2 : Option Addr} {n2 c2 : Nat} {k2 : Bool} {Ag : Option Addr} {ng cg : Nat} {kg : Bool} {W W' : World} (h : LoS w w1 g A1 n1 c1 k1 A2 n2 c2 k2 Ag ng cg kg W) (hb : Below W.heap.size W W') : LoS w w1 g A1 n1 c1 k1 A2 n2 c2 k2 Ag ng cg kg W' := by
 obtain ⟨⟨hb0,hB,g0,l0⟩,e0,e1,e2,e3,e4,e5⟩ := h
 exact ⟨⟨belowt hb0 hb0.size hb,hB.call hb,g0.below hb,l0⟩,keepc hb e0,keepc hb e1,keepc hb e2,keepc hb e3,keepc hb e4,keepc hb e5⟩
theorem loS_drew {w w1 : World} {g : Int} {A1 : Option Addr} {n1 c1 : Nat} {k1 : Bool} {A2 : Option Addr} {n2 c2 : Nat} {k2 : Bool} {Ag : Option Addr} {ng cg : Nat} {kg : Bool} {W : World} (h : LoS w w1 g A1 n1 c1 k1 A2 n2 c2 k2 Ag ng cg kg W) : LoS w w1 g A1 n1 c1 k1 A2 n2 c2 k2 Ag ng cg kg W.drew := by
 obtain ⟨⟨hb0,hB,g0,l0⟩,e0,e1,e2,e3,e4,e5⟩ := h
 exact ⟨⟨hb0.drew,hB,g0,l0⟩,e0,e1,e2,e3,e4,e5⟩
theorem loS_store {w w1 : World} {g : Int} {A1 : Option Addr} {n1 c1 : Nat} {k1 : Bool} {A2 : Option Addr} {n2 c2 : Nat} {k2 : Bool} {Ag : Option Addr} {ng cg : Nat} {kg : Bool} {W : World} (h : LoS w w1 g A1 n1 c1 k1 A2 n2 c2 k2 Ag ng cg kg W) (Ax : Option Addr) (nx cx : Nat) (kx : Bool) (Ay : Option Addr) (ny cy : Nat) (ky : Bool) : LoS w w1 g A1 n1 c1 k1 A2 n2 c2 k2 Ag ng cg kg (sto4 W (w.heap.size + 1 + 1) (.slice Ax nx cx) (.bool kx) (.slice Ay ny cy) (.bool ky)) := by
 obtain ⟨⟨hb0,hB,g0,l0⟩,e0,e1,e2,e3,e4,e5⟩ := h
 exact ⟨⟨below_set4 hb0 (by omega),hB.set4 _ _ _ _ _ _ _ _,hB.sg _ _ _ _ _ _ _ _ g0,l0⟩,(cell_set4 (by omega)).trans e0,(cell_set4 (by omega)).trans e1,(cell_set4 (by omega)).trans e2,(cell_set4 (by omega)).trans e3,(cell_set4 (by omega)).trans e4,(cell_set4 (by omega)).trans e5⟩
set_option maxRecDepth 100000 in
set_option maxHeartbeats 2000000 in
theorem lowest_any (v1 v2 : Value) (x y : Int) (w : World) (h1 : SgV w v1 x) (h2 : SgV w v2 y) (b1 : wlen B64 x.natAbs + 2 ≤ maxW) (b2 : wlen B64 y.natAbs + 2 ≤ maxW) (hy : y ≠ 0) :
 Calls Tryz.prog 53 #[v1,v2] w fun e w' => ∃ v,e = .returned v ∧ RaV w' v (Rat.divInt x y) ∧ Below w.heap.size w w' := by
 obtain ⟨A1,n1,c1,k1,rfl⟩ := h1.open
 obtain ⟨A2,n2,c2,k2,rfl⟩ := h2.open
 have hk2 := Lib.hid h2.neg
 obtain ⟨g,hg⟩ : ∃ g : Int,g = if y < 0 then -((Nat.gcd x.natAbs y.natAbs : Nat) : Int) else ((Nat.gcd x.natAbs y.natAbs : Nat) : Int) := ⟨_,rfl⟩
 obtain ⟨hg0,hp,hq⟩ := div_parts x y hy g hg
 have hgy : g.natAbs ≤ y.natAbs := by
  have := Nat.gcd_le_right x.natAbs (show 0 < y.natAbs by omega)
  rw [hg];split <;> omega
 have hgw : wlen B64 g.natAbs + 2 ≤ maxW := Nat.le_trans (Nat.add_le_add_right (wlen_mono two_le_B hgy) 2) b2
 obtain ⟨W0,hW0⟩ : ∃ W0,W0 = ((w.alloc (.cells #[.slice A1 n1 c1,.bool k1] 80)).alloc (.cells #[.slice A2 n2 c2,.bool k2] 80)).alloc (.cells #[.slice none 0 0,.bool false,.slice none 0 0,.bool false] 82) := ⟨_,rfl⟩
 have hbW : Below w.heap.size w W0 := by rw [hW0];exact (((Below.refl _ _).alloc (Nat.le_refl _) _).alloc (by simp) _).alloc (by simp;omega) _
 have hE0 : Fr W0 w.heap.size #[.slice A1 n1 c1,.bool k1] 80 := by rw [hW0];exact (Fr.new rfl).old.old
 have hE1 : Fr W0 (w.heap.size + 1) #[.slice A2 n2 c2,.bool k2] 80 := by rw [hW0];exact (Fr.new (by simp)).old
 have hE2 : Fr W0 (w.heap.size + 1 + 1) #[.slice none 0 0,.bool false,.slice none 0 0,.bool false] 82 := by rw [hW0];exact Fr.new (by simp)
 have ho := divisor_any _ _ x y W0 (h1.below hbW) (h2.below hbW) (by omega) (by omega)
 rw [hW0] at ho
 have HB := Lib.hid (And.intro hbW (And.intro hE0 (And.intro hE1 (And.intro hE2 (And.intro h1 (And.intro h2 (And.intro hg0 (And.intro hp (And.intro hq (And.intro b1 (And.intro b2 (And.intro hgw hg))))))))))))
 clear h1 h2 b1 b2 hbW hE0 hE1 hE2 hg0 hp hq hgw hg hgy
 go_enter Tryz.func53,Tryz.ntmps53
 go_wp2_with fail
 refine ho.mono ?_
 rw [← hW0]
 rintro e w1 ⟨dv,rfl,hdv,hb1⟩
 obtain ⟨Ad,nd,cd,kd,rfl⟩ := hdv.open
 obtain ⟨hbW,hE0,hE1,hE2,h1,h2,hg0,hp,hq,b1,b2,hgw,hg⟩ := HB.out
 have hbw1 : Below w.heap.size w w1 := belowt hbW hbW.size hb1
 have hG0 := hE0.call hb1
 have hG1 := hE1.call hb1
 have hG2 := hE2.call hb1
 obtain ⟨f0,f1,f2,f3⟩ := hG0.cells2a
 obtain ⟨d0,d1,d2,d3⟩ := hG1.cells2a
 have hSt : ∀ (Ag : Option Addr) (ng cg : Nat) (kg : Bool) (W : World),LoS w w1 g A1 n1 c1 k1 A2 n2 c2 k2 Ag ng cg kg W → (Calls Tryz.prog 108 #[.agg #[.slice A1 n1 c1,.bool k1],.agg #[.slice Ag ng cg,.bool kg]] W fun e w' => ∃ (A : Option Addr) (n c : Nat) (k : Bool),e = .returned (.agg #[.slice A n c,.bool k]) ∧ SgV w' (.agg #[.slice A n c,.bool k]) (Rat.divInt x y).num ∧ Below W.heap.size W w' ∧ LoS w w1 g A1 n1 c1 k1 A2 n2 c2 k2 Ag ng cg kg w') := fun Ag ng cg kg W hS => by
  have hbw : Below w.heap.size w W := hS.1.1
  refine (part_any _ _ x g W (h1.below hbw) hS.1.2.2.1 b1 hgw hg0).mono ?_
  rintro e w' ⟨A,n,c,k,he,hv,hb⟩
  exact ⟨A,n,c,k,he,by rw [hp];exact hv,hb,loS_step hS hb⟩
 have hSu : ∀ (Ag : Option Addr) (ng cg : Nat) (kg : Bool) (W : World),LoS w w1 g A1 n1 c1 k1 A2 n2 c2 k2 Ag ng cg kg W → (Calls Tryz.prog 108 #[.agg #[.slice A2 n2 c2,.bool k2],.agg #[.slice Ag ng cg,.bool kg]] W fun e w' => ∃ (A : Option Addr) (n c : Nat) (k : Bool),e = .returned (.agg #[.slice A n c,.bool k]) ∧ SgV w' (.agg #[.slice A n c,.bool k]) ((Rat.divInt x y).den : Int) ∧ Below W.heap.size W w' ∧ LoS w w1 g A1 n1 c1 k1 A2 n2 c2 k2 Ag ng cg kg w') := fun Ag ng cg kg W hS => by
  have hbw : Below w.heap.size w W := hS.1.1
  refine (part_any _ _ y g W (h2.below hbw) hS.1.2.2.1 b2 hgw hg0).mono ?_
  rintro e w' ⟨A,n,c,k,he,hv,hb⟩
  exact ⟨A,n,c,k,he,by rw [hq];exact hv,hb,loS_step hS hb⟩
 have HSt := Lib.hid hSt
 have HSu := Lib.hid hSu
 have hrb := ra_built
 have HG := Lib.hid (And.intro hbw1 (And.intro hG0 (And.intro hG1 (And.intro hG2 (And.intro hdv hg)))))
 have hyk := hk2
 clear hSt hSu hbW hE0 hE1 hE2 h1 h2 hg0 hp hq b1 b2 hgw hg hb1 hbw1 hG0 hG1 hG2 hdv HB ho hW0 hk2
 by_cases hy0 : y < 0
 · obtain rfl : k2 = true := by rw [hyk.out];simpa using hy0
   have hn1 := negative_any (.agg #[.slice Ad nd cd,.bool kd]) _ _ (HG.out.2.2.2.2.1.old (u := .cells #[.slice Ad nd cd,.bool kd] 80))
   have hF5 : Fr (w1.alloc (.cells #[.slice Ad nd cd,.bool kd] 80)) w1.heap.size #[.slice Ad nd cd,.bool kd] 80 := Fr.new rfl
   have HY := Lib.hid hy0
   clear hyk hy0
   go_wp2_with fail
   refine hn1.mono ?_
   rintro e w2 ⟨nv,rfl,hnv,hb2⟩
   obtain ⟨Ag,ng,cg,kg,rfl⟩ := hnv.open
   obtain ⟨hbw1,hG0,hG1,hG2,hdv,hg⟩ := HG.out
   have hH5 := hF5.call hb2
   obtain ⟨u0,u1,z0,z1⟩ := hH5.cells2
   have hH0 := hG0.old.call hb2
   have hH1 := hG1.old.call hb2
   have hH2 := hG2.old.call hb2
   have hbe : Below w1.heap.size w1 w2 := ((Below.refl _ _).alloc (Nat.le_refl _) _).trans (hb2.mono (by simp))
   have hlt0 := hG0.lt
   have hlt1 := hG1.lt
   have hlt2 := hG2.lt
   have hS0 : LoS w w1 g A1 n1 c1 k1 A2 n2 c2 true Ag ng cg kg ((w2.setCell ⟨w1.heap.size,0,none⟩ (.slice Ag ng cg)).setCell ⟨w1.heap.size,1,none⟩ (.bool kg)) := by
    have r0 : Fr ((w2.setCell ⟨w1.heap.size,0,none⟩ (.slice Ag ng cg)).setCell ⟨w1.heap.size,1,none⟩ (.bool kg)) w.heap.size #[.slice A1 n1 c1,.bool k1] 80 := Fr.far (by omega) (Fr.far (by omega) hH0)
    have r1 : Fr ((w2.setCell ⟨w1.heap.size,0,none⟩ (.slice Ag ng cg)).setCell ⟨w1.heap.size,1,none⟩ (.bool kg)) (w.heap.size + 1) #[.slice A2 n2 c2,.bool true] 80 := Fr.far (by omega) (Fr.far (by omega) hH1)
    have r2 : Fr ((w2.setCell ⟨w1.heap.size,0,none⟩ (.slice Ag ng cg)).setCell ⟨w1.heap.size,1,none⟩ (.bool kg)) (w.heap.size + 1 + 1) #[.slice none 0 0,.bool false,.slice none 0 0,.bool false] 82 := Fr.far (by omega) (Fr.far (by omega) hH2)
    have r5 := hH5.set2 (u' := .slice Ag ng cg) (v' := .bool kg)
    refine ⟨⟨((hbw1.trans (hbe.mono hbw1.size)).setCell (by simp;omega) _).setCell (by simp;omega) _,r2.boxR,?_,hlt2⟩,r0.cells2.1,r0.cells2.2.1,r1.cells2.1,r1.cells2.2.1,r5.cells2.1,r5.cells2.2.1⟩
    rw [hg,if_pos HY.out]
    exact SgV.set2 hH5 rfl rfl rfl hnv
   have HK := Lib.hid (And.intro hbw1 hlt2)
   clear hn1 hF5 hnv hb2 hdv hg hbw1 hG0 hG1 hG2 hH0 hH1 hH2 hbe hlt0 hlt1 hlt2 HG hH5 f0 f1 f2 f3 d0 d1 d2 d3
   go_wp2_with fail
   have hS1 : LoS w w1 g A1 n1 c1 k1 A2 n2 c2 true Ag ng cg kg ((w2.setCell ⟨w1.heap.size,0,none⟩ (.slice Ag ng cg)).setCell ⟨w1.heap.size,1,none⟩ (.bool kg)).drew := loS_drew hS0
   clear u0 u1 z0 z1 hS0
   go_region_held3 (fun W => (Below w.heap.size w W ∧ BoxR W (w.heap.size + 1 + 1) ∧ SgV W (.agg #[.slice Ag ng cg,.bool kg]) g ∧ w.heap.size + 1 + 1 < w1.heap.size) ∧ W.cell? ⟨w.heap.size,0,none⟩ = some (.slice A1 n1 c1) ∧ W.cell? ⟨w.heap.size,1,none⟩ = some (.bool k1) ∧ W.cell? ⟨w.heap.size + 1,0,none⟩ = some (.slice A2 n2 c2) ∧ W.cell? ⟨w.heap.size + 1,1,none⟩ = some (.bool true) ∧ W.cell? ⟨w1.heap.size,0,none⟩ = some (.slice Ag ng cg) ∧ W.cell? ⟨w1.heap.size,1,none⟩ = some (.bool kg)) (first | with_reducible assumption | exact ⟨⟨hS1.1.1,hS1.1.2⟩,hS1.2⟩ | (refine loS_store ?_ _ _ _ _ _ _ _ _;with_reducible assumption))
    (first
     | (go_at_call 108;with_reducible refine (HSt.out _ _ _ _ _ ?_).mono ?_;with_reducible assumption;rintro e w3 ⟨A3,n3,c3,k3,rfl,hq3,hb3,hS3⟩;obtain ⟨⟨q0,y0⟩,⟨q1,y1⟩,⟨q2,y2⟩,⟨q3,y3⟩,y4,y5,y6,y7⟩ := hS3.1.2.1.facts)
     | (go_at_call 108;with_reducible refine (HSu.out _ _ _ _ _ ?_).mono ?_;with_reducible assumption;rintro e w4 ⟨A4,n4,c4,k4,rfl,hq4,hb4,hS4⟩;obtain ⟨⟨q0,y0⟩,⟨q1,y1⟩,⟨q2,y2⟩,⟨q3,y3⟩,y4,y5,y6,y7⟩ := hS4.1.2.1.facts))
   all_goals
    go_wp2_with fail
    exact bodyPost_ret (v := .agg #[.slice A3 n3 c3,.bool k3,.slice A4 n4 c4,.bool k4]) (by simp [results,Tryz.results53,go_sem,y0,y1,y2,y3]) rfl ⟨_,rfl,RaV.fin hS4.1.2.1 (hq3.below hb4) hq4,below_set4 hS4.1.1 (by omega)⟩
 · obtain rfl : k2 = false := by rw [hyk.out];simpa using hy0
   obtain ⟨hbw1,hG0,hG1,hG2,hdv,hg⟩ := HG.out
   rw [if_neg hy0] at hg
   have hS1 : LoS w w1 g A1 n1 c1 k1 A2 n2 c2 false Ad nd cd kd (w1.alloc (.cells #[.slice Ad nd cd,.bool kd] 80)).drew := by
    have r5 : Fr (w1.alloc (.cells #[.slice Ad nd cd,.bool kd] 80)) w1.heap.size #[.slice Ad nd cd,.bool kd] 80 := Fr.new rfl
    refine ⟨⟨(hbw1.alloc hbw1.size _).drew,hG2.old.boxR,?_,hG2.lt⟩,f0 _,f1 _,d0 _,d1 _,r5.cells2.1,r5.cells2.2.1⟩
    rw [hg];exact hdv.old
   have HK := Lib.hid (And.intro hbw1 hG2.lt)
   obtain ⟨Ag,hAg⟩ : ∃ A,A = Ad := ⟨_,rfl⟩
   obtain ⟨ng,hng⟩ : ∃ A,A = nd := ⟨_,rfl⟩
   obtain ⟨cg,hcg⟩ : ∃ A,A = cd := ⟨_,rfl⟩
   obtain ⟨kg,hkg⟩ : ∃ A,A = kd := ⟨_,rfl⟩
   subst hAg hng hcg hkg
   clear hyk hy0 hdv hg hbw1 hG0 hG1 hG2 HG
   go_wp2_with fail
   go_region_held3 (fun W => (Below w.heap.size w W ∧ BoxR W (w.heap.size + 1 + 1) ∧ SgV W (.agg #[.slice Ag ng cg,.bool kg]) g ∧ w.heap.size + 1 + 1 < w1.heap.size) ∧ W.cell? ⟨w.heap.size,0,none⟩ = some (.slice A1 n1 c1) ∧ W.cell? ⟨w.heap.size,1,none⟩ = some (.bool k1) ∧ W.cell? ⟨w.heap.size + 1,0,none⟩ = some (.slice A2 n2 c2) ∧ W.cell? ⟨w.heap.size + 1,1,none⟩ = some (.bool false) ∧ W.cell? ⟨w1.heap.size,0,none⟩ = some (.slice Ag ng cg) ∧ W.cell? ⟨w1.heap.size,1,none⟩ = some (.bool kg)) (first | with_reducible assumption | exact ⟨⟨hS1.1.1,hS1.1.2⟩,hS1.2⟩ | (refine loS_store ?_ _ _ _ _ _ _ _ _;with_reducible assumption))
    (first
     | (go_at_call 108;with_reducible refine (HSt.out _ _ _ _ _ ?_).mono ?_;with_reducible assumption;rintro e w3 ⟨A3,n3,c3,k3,rfl,hq3,hb3,hS3⟩;obtain ⟨⟨q0,y0⟩,⟨q1,y1⟩,⟨q2,y2⟩,⟨q3,y3⟩,y4,y5,y6,y7⟩ := hS3.1.2.1.facts)
     | (go_at_call 108;with_reducible refine (HSu.out _ _ _ _ _ ?_).mono ?_;with_reducible assumption;rintro e w4 ⟨A4,n4,c4,k4,rfl,hq4,hb4,hS4⟩;obtain ⟨⟨q0,y0⟩,⟨q1,y1⟩,⟨q2,y2⟩,⟨q3,y3⟩,y4,y5,y6,y7⟩ := hS4.1.2.1.facts))
   all_goals
    go_wp2_with fail
    exact bodyPost_ret (v := .agg #[.slice A3 n3 c3,.bool k3,.slice A4 n4 c4,.bool k4]) (by simp [results,Tryz.results53,go_sem,y0,y1,y2,y3]) rfl ⟨_,rfl,RaV.fin hS4.1.2.1 (hq3.below hb4) hq4,below_set4 hS4.1.1 (by omega)⟩
end Go.Proofs.YtlfgpmnjnpdkdaaGreatDoor
