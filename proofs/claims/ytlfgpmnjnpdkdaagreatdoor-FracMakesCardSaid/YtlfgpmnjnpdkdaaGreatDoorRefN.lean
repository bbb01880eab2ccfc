/- Contracts of the reference: Parts, Divisor. Contracts of the reference: what is said of texts. Contracts of the reference: Div. -/
import Derived.Test.YtlfgpmnjnpdkdaaGreatDoorRefH
import Derived.Deep.DeepCutAuto
import Derived.Laws.Tables
import Derived.Test.YtlfgpmnjnpdkdaaGreatDoorRefG
import Derived.Test.YtlfgpmnjnpdkdaaGreatDoorWhoA
namespace Go.Proofs.YtlfgpmnjnpdkdaaGreatDoor
open Go.RowKit Vd
attribute [local go_sem ↓] Go.wp_at_zero Go.wp_at_succ
def BoxZ (W : World) (g : Nat) (z : Int) : Prop := ∃ (A : Option Addr) (n c : Nat) (k : Bool),W.heap[g]? = some (.cells #[.bool k,.slice A n c] 88 (0,0)) ∧ PlV W (.agg #[.bool k,.slice A n c]) z
theorem BoxZ.box {W : World} {g : Nat} {z : Int} (h : BoxZ W g z) : BoxP W g := by
 obtain ⟨A,n,c,k,h,_⟩ := h
 exact ⟨A,n,c,k,h⟩
theorem BoxZ.below {W W' : World} {g : Nat} {z : Int} (h : BoxZ W g z) (hb : Below W.heap.size W W') : BoxZ W' g z := by
 have hl := h.box.lt
 obtain ⟨A,n,c,k,h,hp⟩ := h
 exact ⟨A,n,c,k,(hb.block g hl).trans h,hp.below hb⟩
theorem BoxP.now {W : World} {g : Nat} (h : BoxP W g) {A : Option Addr} {n c : Nat} {k : Bool} {z : Int} (hp : PlV W (.agg #[.bool k,.slice A n c]) z) : BoxZ ((W.setCell ⟨g,0,none⟩ (.bool k)).setCell ⟨g,1,none⟩ (.slice A n c)) g z := by
 refine ⟨A,n,c,k,?_,hp.sets h _ _⟩
 obtain ⟨A',n',c',k',h⟩ := h
 simp [World.setCell,Array.getElem?_modify,h]
theorem BoxZ.other {W : World} {g h : Nat} {z : Int} (hz : BoxZ W g z) (hh : BoxP W h) (hne : g ≠ h) (u v : Value) : BoxZ ((W.setCell ⟨h,0,none⟩ u).setCell ⟨h,1,none⟩ v) g z := by
 obtain ⟨A,n,c,k,e,hp⟩ := hz
 exact ⟨A,n,c,k,(Below.heap_setCell _ ⟨h,1,none⟩ v g hne).trans ((Below.heap_setCell _ ⟨h,0,none⟩ u g hne).trans e),hp.sets hh u v⟩
theorem BoxP.other {W : World} {g h : Nat} (hz : BoxP W g) (hne : g ≠ h) (u v : Value) : BoxP ((W.setCell ⟨h,0,none⟩ u).setCell ⟨h,1,none⟩ v) g :=
 (hz.far (p := ⟨h,0,none⟩) hne u).far (p := ⟨h,1,none⟩) hne v
theorem BoxZ.cells {W : World} {g : Nat} {z : Int} (h : BoxZ W g z) : ∃ (A : Option Addr) (n c : Nat) (k : Bool),W.cell? ⟨g,0,none⟩ = some (.bool k) ∧ W.cell? ⟨g,1,none⟩ = some (.slice A n c) ∧ PlV W (.agg #[.bool k,.slice A n c]) z := by
 obtain ⟨A,n,c,k,h,hp⟩ := h
 exact ⟨A,n,c,k,by rw [cell_of_row W g 0 _ _ (0,0) h];rfl,by rw [cell_of_row W g 1 _ _ (0,0) h];rfl,hp⟩
theorem boxP_new {V : World} {g : Nat} (h : g = V.heap.size) : BoxP (V.alloc (.cells #[.bool false,.slice none 0 0] 88)) g := by rw [h];exact BoxP.alloc V none 0 0 false
theorem boxP_full {V : World} {g : Nat} {A : Option Addr} {n c : Nat} {k : Bool} (h : g = V.heap.size) : BoxP (V.alloc (.cells #[.bool k,.slice A n c] 88)) g := by rw [h];exact BoxP.alloc V A n c k
theorem boxZ_full {V : World} {g : Nat} {A : Option Addr} {n c : Nat} {k : Bool} {z : Int} (h : g = V.heap.size) (hp : PlV V (.agg #[.bool k,.slice A n c]) z) : BoxZ (V.alloc (.cells #[.bool k,.slice A n c] 88)) g z := by
 rw [h]
 exact ⟨A,n,c,k,heap_alloc_new V _,hp.below ((Below.refl _ _).alloc (Nat.le_refl _) _)⟩
theorem boxZ_old {V : World} {g : Nat} {z : Int} {o : Obj} (h : BoxZ V g z) : BoxZ (V.alloc o) g z := h.below ((Below.refl _ _).alloc (Nat.le_refl _) o)
theorem boxZ_set {V : World} {g : Nat} {A : Option Addr} {n c : Nat} {k : Bool} {z : Int} (h : BoxP V g) (hp : PlV V (.agg #[.bool k,.slice A n c]) z) : BoxZ ((V.setCell ⟨g,0,none⟩ (.bool k)).setCell ⟨g,1,none⟩ (.slice A n c)) g z := h.now hp
theorem boxZ_far {V : World} {g h : Nat} {z : Int} {u v : Value} (hz : BoxZ V g z) (hh : BoxP V h) (hne : g ≠ h) : BoxZ ((V.setCell ⟨h,0,none⟩ u).setCell ⟨h,1,none⟩ v) g z := hz.other hh hne u v
theorem boxP_far {V : World} {g h : Nat} {u v : Value} (hz : BoxP V g) (hne : g ≠ h) : BoxP ((V.setCell ⟨h,0,none⟩ u).setCell ⟨h,1,none⟩ v) g := hz.other hne u v
theorem plv_set {V : World} {g : Nat} {x : Value} {z : Int} {u v : Value} (hp : PlV V x z) (h : BoxP V g) : PlV ((V.setCell ⟨g,0,none⟩ u).setCell ⟨g,1,none⟩ v) x z := hp.sets h u v
theorem boxP_drew {V : World} {g : Nat} (h : BoxP V g) : BoxP V.drew g := h
theorem boxP_old {V : World} {g : Nat} {o : Obj} (h : BoxP V g) : BoxP (V.alloc o) g := h.below ((Below.refl _ _).alloc (Nat.le_refl _) o) h.lt
theorem boxP_call {V V' : World} {g : Nat} (hb : Below V.heap.size V V') (h : BoxP V g) : BoxP V' g := h.below hb h.lt
theorem plv_old {V : World} {v : Value} {z : Int} {o : Obj} (h : PlV V v z) : PlV (V.alloc o) v z := h.below ((Below.refl _ _).alloc (Nat.le_refl _) o)
theorem plv_call {V V' : World} {v : Value} {z : Int} (hb : Below V.heap.size V V') (h : PlV V v z) : PlV V' v z := h.below hb
theorem kept_old {V V' : World} (h : Below V.heap.size V V') : (∀ g o,g < V.heap.size → V'.cell? ⟨g,o,none⟩ = V.cell? ⟨g,o,none⟩) ∧ (∀ g o,g < V.heap.size → V'.frozen? ⟨g,o,none⟩ = V.frozen? ⟨g,o,none⟩) ∧
 (∀ g,g < V.heap.size → ¬ g = V'.heap.size) ∧ (∀ g,g < V.heap.size → ¬ V'.heap.size = g) ∧ ∀ g,g < V.heap.size → g < V'.heap.size :=
 ⟨fun g o hg => h.cell (p := ⟨g,o,none⟩) hg,fun g o hg => h.frozen (p := ⟨g,o,none⟩) hg,fun g hg e => by have := h.size;omega,fun g hg e => by have := h.size;omega,fun g hg => Nat.lt_of_lt_of_le hg h.size⟩
structure PaW (w : World) (k1 k2 : Bool) (m2 : Value) (w1 : World) : Prop where
 a0 : w1.cell? ⟨w.heap.size,0,none⟩ = some (.bool k1)
 b0 : w1.cell? ⟨w.heap.size + 1,0,none⟩ = some (.bool k2)
 b1 : w1.cell? ⟨w.heap.size + 1,1,none⟩ = some m2
 r1 : BoxP w1 (w.heap.size + 1 + 1)
 r2 : BoxP w1 (w.heap.size + 1 + 1 + 1)
 bel : Below w.heap.size w w1
theorem PaW.lt {w w1 : World} {k1 k2 : Bool} {m2 : Value} (h : PaW w k1 k2 m2 w1) : w.heap.size + 3 < w1.heap.size := h.r2.lt
theorem PaW.below {w w1 W : World} {k1 k2 : Bool} {m2 : Value} (h : PaW w k1 k2 m2 w1) (hb : Below w1.heap.size w1 W) : PaW w k1 k2 m2 W := by
 have hl := h.lt
 refine ⟨?_,?_,?_,h.r1.below hb h.r1.lt,h.r2.below hb h.r2.lt,h.bel.trans (hb.mono h.bel.size)⟩
 · rw [hb.cell (p := ⟨w.heap.size,0,none⟩) (by show w.heap.size < _;omega)];exact h.a0
 · rw [hb.cell (p := ⟨w.heap.size + 1,0,none⟩) (by show w.heap.size + 1 < _;omega)];exact h.b0
 · rw [hb.cell (p := ⟨w.heap.size + 1,1,none⟩) (by show w.heap.size + 1 < _;omega)];exact h.b1
theorem PaW.start (w : World) (m1 m2 : Value) (k1 k2 : Bool) : PaW w k1 k2 m2 ((((w.alloc (.cells #[.bool k1,m1] 88)).alloc (.cells #[.bool k2,m2] 88)).alloc (.cells #[.bool false,.slice none 0 0] 88)).alloc (.cells #[.bool false,.slice none 0 0] 88)) := by
 refine ⟨?_,?_,?_,boxP_old (boxP_new (by simp)),boxP_new (by simp),((((Below.refl _ _).alloc (Nat.le_refl _) _).alloc (by simp) _).alloc (by simp;omega) _).alloc (by simp;omega) _⟩ <;> simp [go_sem]
structure PaX (w : World) (k1 k2 : Bool) (m2 : Value) (gx gy : Nat) (zx zy : Int) (W : World) : Prop where
 bx : BoxZ W gx zx
 vy : BoxZ W gy zy
 ne : gx ≠ gy
 pw : PaW w k1 k2 m2 W
 ox : w.heap.size + 3 < gx
 oy : w.heap.size + 3 < gy
theorem PaW.sets {w W : World} {k1 k2 : Bool} {m2 : Value} (h : PaW w k1 k2 m2 W) {g : Nat} (hg : w.heap.size + 3 < g) (u v : Value) : PaW w k1 k2 m2 ((W.setCell ⟨g,0,none⟩ u).setCell ⟨g,1,none⟩ v) := by
 have hc : ∀ b o,b < w.heap.size + 4 → ((W.setCell ⟨g,0,none⟩ u).setCell ⟨g,1,none⟩ v).cell? ⟨b,o,none⟩ = W.cell? ⟨b,o,none⟩ := fun b o hb => by
  rw [World.cell?_setCell_other _ _ _ _ (by intro e;injection e with e;omega),World.cell?_setCell_other _ _ _ _ (by intro e;injection e with e;omega)]
 refine ⟨?_,?_,?_,h.r1.other (by omega) _ _,h.r2.other (by omega) _ _,(h.bel.setCell (p := ⟨g,0,none⟩) (by show w.heap.size ≤ g;omega) u).setCell (p := ⟨g,1,none⟩) (by show w.heap.size ≤ g;omega) v⟩
 · rw [hc _ _ (by omega)];exact h.a0
 · rw [hc _ _ (by omega)];exact h.b0
 · rw [hc _ _ (by omega)];exact h.b1
theorem PaX.setY {w W W2 : World} {k1 k2 : Bool} {m2 : Value} {gx gy : Nat} {zx zy z : Int} {A : Option Addr} {n c : Nat} {k : Bool} (h : PaX w k1 k2 m2 gx gy zx zy W) (hb : Below W.heap.size W W2) (hp : PlV W2 (.agg #[.bool k,.slice A n c]) z) :
 PaX w k1 k2 m2 gx gy zx z ((W2.setCell ⟨gy,0,none⟩ (.bool k)).setCell ⟨gy,1,none⟩ (.slice A n c)) := by
 have hy := (h.vy.below hb).box
 exact ⟨(h.bx.below hb).other hy h.ne _ _,hy.now hp,h.ne,(h.pw.below hb).sets h.oy _ _,h.ox,h.oy⟩
theorem PaX.setX {w W W2 : World} {k1 k2 : Bool} {m2 : Value} {gx gy : Nat} {zx zy z : Int} {A : Option Addr} {n c : Nat} {k : Bool} (h : PaX w k1 k2 m2 gx gy zx zy W) (hb : Below W.heap.size W W2) (hp : PlV W2 (.agg #[.bool k,.slice A n c]) z) :
 PaX w k1 k2 m2 gx gy z zy ((W2.setCell ⟨gx,0,none⟩ (.bool k)).setCell ⟨gx,1,none⟩ (.slice A n c)) := by
 have hx := (h.bx.below hb).box
 exact ⟨hx.now hp,(h.vy.below hb).other hx (Ne.symm h.ne) _ _,h.ne,(h.pw.below hb).sets h.ox _ _,h.ox,h.oy⟩
theorem paw_old {w V : World} {k1 k2 : Bool} {m2 : Value} {o : Obj} (h : PaW w k1 k2 m2 V) : PaW w k1 k2 m2 (V.alloc o) := h.below ((Below.refl _ _).alloc (Nat.le_refl _) o)
theorem paw_set {w V : World} {k1 k2 : Bool} {m2 : Value} {g : Nat} {u v : Value} (h : PaW w k1 k2 m2 V) (hg : w.heap.size + 3 < g) : PaW w k1 k2 m2 ((V.setCell ⟨g,0,none⟩ u).setCell ⟨g,1,none⟩ v) := h.sets hg u v
abbrev PaS (w w1 : World) (k1 k2 : Bool) (W : World) : Prop :=
 Below w1.heap.size w1 W ∧ W.cell? ⟨w.heap.size,0,none⟩ = some (.bool k1) ∧ W.cell? ⟨w.heap.size + 1,0,none⟩ = some (.bool k2)
theorem PaW.s {w w1 W : World} {k1 k2 : Bool} {m2 : Value} (h : PaW w k1 k2 m2 w1) (hb : Below w1.heap.size w1 W) : PaS w w1 k1 k2 W := ⟨hb,(h.below hb).a0,(h.below hb).b0⟩
theorem built_plain (A : Option Addr) (n c : Nat) (W : World) : (Instr.build 88 #[(1,.slice A n c)]).run Tryz.prog W = .ok (.agg #[.bool false,.slice A n c]) W :=
 run_build W _ _ _ (by kernel_rfl)
theorem agg_neg {W : World} {A : Option Addr} {n c : Nat} {k : Bool} {z : Int} (h : PlV W (.agg #[.bool k,.slice A n c]) z) : k = decide (z < 0) := (order4z_cells h).1
theorem int_one (W : World) : Calls Tryz.prog 88 #[.int .i64 1] W fun e w' => ∃ (A : Option Addr) (n c : Nat) (k : Bool),e = .returned (.agg #[.bool k,.slice A n c]) ∧ PlV w' (.agg #[.bool k,.slice A n c]) 1 ∧ Below W.heap.size W w' := by
 refine (integer_any 1 W (by omega)).mono ?_
 rintro e w' ⟨v,he,hp,hb⟩
 obtain ⟨A,n,c,k,rfl⟩ := hp.open
 exact ⟨A,n,c,k,he,hp,hb⟩
theorem plus4_agg (v1 v2 : Value) (x y : Int) (w : World) (h1 : PlV w v1 x) (h2 : PlV w v2 y) (b1 : wlen B4 x.natAbs ≤ 1000000000) (b2 : wlen B4 y.natAbs ≤ 1000000000) :
 Calls Tryz.prog 124 #[v1,v2] w fun e w' => ∃ (A : Option Addr) (n c : Nat) (k : Bool),e = .returned (.agg #[.bool k,.slice A n c]) ∧ PlV w' (.agg #[.bool k,.slice A n c]) (x + y) ∧ Below w.heap.size w w' := by
 refine (plus4_any v1 v2 x y w h1 h2 b1 b2).mono ?_
 rintro e w' ⟨v,he,hp,hb⟩
 obtain ⟨A,n,c,k,rfl⟩ := hp.open
 exact ⟨A,n,c,k,he,hp,hb⟩
theorem wlen4_one : wlen B4 (1 : Int).natAbs ≤ 1000000000 := by
 have : wlen B4 (1 : Int).natAbs ≤ 1 := wlen_le_one two_le_B4 (by decide)
 omega
set_option maxRecDepth 100000 in
set_option maxHeartbeats 8000000 in
theorem partsZ_core (m1 m2 : Value) (k1 k2 : Bool) (a b : Nat) (w : World) (h1 : DigV w m1 a) (h2 : DigV w m2 b) (b1 : wlen B4 a ≤ 1000000) (b2 : wlen B4 b ≤ 1000000) (hb : 0 < b) (zx zy : Int) (hzx : sgn (a / b) (!k1 == k2) = zx) (hzy : sgn (a % b) k1 = zy) (X Y : Int) (hXY : X = (if zy < 0 then (if k2 = true then zx + 1 else zx - 1) else zx) ∧ Y = (if zy < 0 then zy + (b : Int) else zy)) :
 Calls Tryz.prog 114 #[.agg #[.bool k1,m1],.agg #[.bool k2,m2]] w fun e w' => ∃ vx vy,e = .returned (.tuple #[vx,vy]) ∧ PlV w' vx X ∧ PlV w' vy Y ∧ Below w.heap.size w w' := by
 obtain ⟨A2,n2,c2,rfl⟩ : ∃ A n c,m2 = .slice A n c := by
  obtain ⟨A2,c2,e,_⟩ := h2
  exact ⟨A2,_,c2,e⟩
 have hP0 := PaW.start w m1 (.slice A2 n2 c2) k1 k2
 have hpa := parts4_any m1 (.slice A2 n2 c2) a b _ (h1.below hP0.bel) (h2.below hP0.bel) b1 b2 hb
 have HZ := Lib.hid (And.intro hzx (And.intro hzy (And.intro h2 (And.intro b1 b2))))
 have HP0 := Lib.hid hP0
 have HXY := Lib.hid hXY
 clear hXY
 clear h1 h2 b1 b2 hb hzx hzy hP0
 go_enter Tryz.func114,Tryz.ntmps114
 go_upto_region 2 with (go_at_call 142;refine hpa.mono ?_;rintro e w1 ⟨A,n,c,A',n',c',rfl,hd,hd',hb1⟩)
 have hP1 := HP0.out.below hb1
 have hlt := hP1.lt
 have hMD : Hid (∀ W v z bb,(v = .slice A n c ∧ bb = (!k1 == k2) ∧ z = zx ∨ v = .slice A' n' c' ∧ bb = k1 ∧ z = zy) → PaS w w1 k1 k2 W → Calls Tryz.prog 115 #[.bool bb,v] W fun e w' => ∃ (A : Option Addr) (n c : Nat) (k : Bool),e = .returned (.agg #[.bool k,.slice A n c]) ∧ PlV w' (.agg #[.bool k,.slice A n c]) z ∧ Below W.heap.size W w' ∧ PaS w w1 k1 k2 w' ∧ w1.heap.size ≤ W.heap.size ∧ W.heap.size ≤ w'.heap.size) := Lib.hid (fun W v z bb hv hS => by
  have key : ∀ nn,DigV w1 v nn → sgn nn bb = z → Calls Tryz.prog 115 #[.bool bb,v] W fun e w' => ∃ (A : Option Addr) (n c : Nat) (k : Bool),e = .returned (.agg #[.bool k,.slice A n c]) ∧ PlV w' (.agg #[.bool k,.slice A n c]) z ∧ Below W.heap.size W w' ∧ PaS w w1 k1 k2 w' ∧ w1.heap.size ≤ W.heap.size ∧ W.heap.size ≤ w'.heap.size := fun nn hn hz =>
   (made4_any bb v nn W (hn.below hS.1).l).mono fun e w' ⟨A,n,c,k,he,hp,hb⟩ => ⟨A,n,c,k,he,by rw [← hz];exact hp,hb,hP1.s (hS.1.trans (hb.mono hS.1.size)),hS.1.size,hb.size⟩
  rcases hv with ⟨rfl,rfl,rfl⟩ | ⟨rfl,rfl,rfl⟩
  · exact key _ hd HZ.out.1
  · exact key _ hd' HZ.out.2.1)
 have HP1 := Lib.hid hP1
 clear hd hd' hb1 hpa hP1
 go_cut [8,9] (fun s8 s9 wx => ∃ gx gy : Nat,s8 = .pointer (some ⟨gx,0,none⟩) ∧ s9 = .pointer (some ⟨gy,0,none⟩) ∧ PaX w k1 k2 (.slice A2 n2 c2) gx gy zx zy wx)
 case first =>
  go_region_held3 (fun W => Below w1.heap.size w1 W ∧ W.cell? ⟨w.heap.size,0,none⟩ = some (.bool k1) ∧ W.cell? ⟨w.heap.size + 1,0,none⟩ = some (.bool k2))
   (first | with_reducible assumption | (refine HP1.out.s ?_;(repeat (first | with_reducible assumption | with_reducible exact Below.refl _ _ | with_reducible refine Below.drew ?_ | with_reducible refine Below.alloc ?_ (by first | omega | (simp;done) | (simp;omega)) _ | with_reducible refine Below.setCell ?_ (by first | (simp;done) | (simp;omega)) _))))
   (first
    | (go_at_call 115;with_reducible refine (hMD.out _ _ _ _ (Or.inl ⟨rfl,rfl,rfl⟩) ?_).mono ?_;with_reducible assumption;rintro e w2 ⟨Ax,nx,cx,kx,rfl,hpx,hbx,hSx,hzx1,hzx2⟩;have hBx := hSx.1;obtain ⟨hkx1,hkx2,hkx3,hkx4,hkx5⟩ := kept_old hbx;try simp at hzx1;try simp at hzx2;try (have ej00 := hkx1 (w1.heap.size) 0 ?_;rotate_left;focus (first | omega | (simp;done) | (simp;omega)));try (have fx00 := hkx2 (w1.heap.size) 0 ?_;rotate_left;focus (first | omega | (simp;done) | (simp;omega)));try (have ej01 := hkx1 (w1.heap.size) 1 ?_;rotate_left;focus (first | omega | (simp;done) | (simp;omega)));try (have fx01 := hkx2 (w1.heap.size) 1 ?_;rotate_left;focus (first | omega | (simp;done) | (simp;omega)));try (have cx0 : w1.heap.size < w2.heap.size := ?_;rotate_left;focus omega);try (have dx0 := Nat.ne_of_lt cx0);try (have ej10 := hkx1 (w1.heap.size + 1) 0 ?_;rotate_left;focus (first | omega | (simp;done) | (simp;omega)));try (have fx10 := hkx2 (w1.heap.size + 1) 0 ?_;rotate_left;focus (first | omega | (simp;done) | (simp;omega)));try (have ej11 := hkx1 (w1.heap.size + 1) 1 ?_;rotate_left;focus (first | omega | (simp;done) | (simp;omega)));try (have fx11 := hkx2 (w1.heap.size + 1) 1 ?_;rotate_left;focus (first | omega | (simp;done) | (simp;omega)));try (have cx1 : w1.heap.size + 1 < w2.heap.size := ?_;rotate_left;focus omega);try (have dx1 := Nat.ne_of_lt cx1);clear hkx1 hkx2 hkx3 hkx4 hkx5)
    | (go_at_call 115;with_reducible refine (hMD.out _ _ _ _ (Or.inr ⟨rfl,rfl,rfl⟩) ?_).mono ?_;with_reducible assumption;rintro e w3 ⟨Ay,ny,cy,ky,rfl,hpy,hby,hSy,hzy1,hzy2⟩;have hBy := hSy.1;obtain ⟨hky1,hky2,hky3,hky4,hky5⟩ := kept_old hby;try simp at hzy1;try simp at hzy2;try (have ey00 := hky1 (w1.heap.size) 0 ?_;rotate_left;focus (first | omega | (simp;done) | (simp;omega)));try (have fy00 := hky2 (w1.heap.size) 0 ?_;rotate_left;focus (first | omega | (simp;done) | (simp;omega)));try (have ey01 := hky1 (w1.heap.size) 1 ?_;rotate_left;focus (first | omega | (simp;done) | (simp;omega)));try (have fy01 := hky2 (w1.heap.size) 1 ?_;rotate_left;focus (first | omega | (simp;done) | (simp;omega)));try (have cy0 : w1.heap.size < w3.heap.size := ?_;rotate_left;focus omega);try (have dy0 := Nat.ne_of_lt cy0);try (have ey10 := hky1 (w1.heap.size + 1) 0 ?_;rotate_left;focus (first | omega | (simp;done) | (simp;omega)));try (have fy10 := hky2 (w1.heap.size + 1) 0 ?_;rotate_left;focus (first | omega | (simp;done) | (simp;omega)));try (have ey11 := hky1 (w1.heap.size + 1) 1 ?_;rotate_left;focus (first | omega | (simp;done) | (simp;omega)));try (have fy11 := hky2 (w1.heap.size + 1) 1 ?_;rotate_left;focus (first | omega | (simp;done) | (simp;omega)));try (have cy1 : w1.heap.size + 1 < w3.heap.size := ?_;rotate_left;focus omega);try (have dy1 := Nat.ne_of_lt cy1);try (have ey20 := hky1 (w2.heap.size) 0 ?_;rotate_left;focus (first | omega | (simp;done) | (simp;omega)));try (have fy20 := hky2 (w2.heap.size) 0 ?_;rotate_left;focus (first | omega | (simp;done) | (simp;omega)));try (have ey21 := hky1 (w2.heap.size) 1 ?_;rotate_left;focus (first | omega | (simp;done) | (simp;omega)));try (have fy21 := hky2 (w2.heap.size) 1 ?_;rotate_left;focus (first | omega | (simp;done) | (simp;omega)));try (have cy2 : w2.heap.size < w3.heap.size := ?_;rotate_left;focus omega);try (have dy2 := Nat.ne_of_lt cy2);try (have ey30 := hky1 (w2.heap.size + 1) 0 ?_;rotate_left;focus (first | omega | (simp;done) | (simp;omega)));try (have fy30 := hky2 (w2.heap.size + 1) 0 ?_;rotate_left;focus (first | omega | (simp;done) | (simp;omega)));try (have ey31 := hky1 (w2.heap.size + 1) 1 ?_;rotate_left;focus (first | omega | (simp;done) | (simp;omega)));try (have fy31 := hky2 (w2.heap.size + 1) 1 ?_;rotate_left;focus (first | omega | (simp;done) | (simp;omega)));try (have cy3 : w2.heap.size + 1 < w3.heap.size := ?_;rotate_left;focus omega);try (have dy3 := Nat.ne_of_lt cy3);clear hky1 hky2 hky3 hky4 hky5))
  all_goals
   go_wp2_with fail
   go_meet
   refine ⟨_,_,rfl,rfl,⟨?_,?_,?_,?_,?_,?_⟩⟩
   case refine_1 => all_goals (repeat (first
    | with_reducible exact hpx | with_reducible exact hpy
    | (with_reducible refine boxZ_full ?_ ?_;focus (first | rfl | (simp;done))) | (with_reducible refine boxZ_set ?_ ?_) | (with_reducible refine boxZ_old ?_) | (with_reducible refine boxZ_far ?_ ?_ ?_)
    | (with_reducible refine boxP_full ?_;focus (first | omega | rfl | (simp;done) | (simp;omega))) | (with_reducible refine boxP_old ?_) | (with_reducible refine boxP_drew ?_) | (with_reducible refine boxP_far ?_ ?_) | (with_reducible refine boxP_call hby ?_) | (with_reducible refine boxP_call hbx ?_)
    | (with_reducible refine plv_old ?_) | (with_reducible refine plv_set ?_ ?_) | (with_reducible refine plv_call hby ?_)
    | focus (first | omega | rfl | (simp;done) | (simp;omega))))
   case refine_2 => all_goals (repeat (first
    | with_reducible exact hpx | with_reducible exact hpy
    | (with_reducible refine boxZ_full ?_ ?_;focus (first | rfl | (simp;done))) | (with_reducible refine boxZ_set ?_ ?_) | (with_reducible refine boxZ_old ?_) | (with_reducible refine boxZ_far ?_ ?_ ?_)
    | (with_reducible refine boxP_full ?_;focus (first | omega | rfl | (simp;done) | (simp;omega))) | (with_reducible refine boxP_old ?_) | (with_reducible refine boxP_drew ?_) | (with_reducible refine boxP_far ?_ ?_) | (with_reducible refine boxP_call hby ?_) | (with_reducible refine boxP_call hbx ?_)
    | (with_reducible refine plv_old ?_) | (with_reducible refine plv_set ?_ ?_) | (with_reducible refine plv_call hby ?_)
    | focus (first | omega | rfl | (simp;done) | (simp;omega))))
   case refine_3 => first | omega | (simp;omega)
   case refine_4 => repeat (first | (with_reducible refine paw_old ?_) | (with_reducible refine paw_set ?_ ?_) | omega | (simp;omega) | (refine HP1.out.below ?_;repeat (first | with_reducible assumption | with_reducible exact Below.refl _ _)))
   case refine_5 => first | omega | (simp;omega)
   case refine_6 => first | omega | (simp;omega)
 case rest =>
  obtain ⟨gx,gy,rfl,rfl,hX⟩ := hcut
  have HB4 : Hid (wlen B4 zx.natAbs ≤ 1000000000 ∧ wlen B4 zy.natAbs ≤ 1000000000 ∧ DigV w (.slice A2 n2 c2) b ∧ wlen B4 b ≤ 1000000000) := Lib.hid (by
   obtain ⟨e1,e2,e3,e4,e5⟩ := HZ.out
   refine ⟨?_,?_,e3,by omega⟩
   · rw [← e1,sgn_abs];exact Nat.le_trans (wlen_mono two_le_B4 (Nat.div_le_self a b)) (by omega)
   · rw [← e2,sgn_abs];exact Nat.le_trans (wlen_mono two_le_B4 (Nat.mod_le a b)) (by omega))
  clear HZ HP1 hMD hlt
  obtain ⟨Ay,ny,cy,ky,hy0,hy1,hpy⟩ := hX.vy.cells
  have HK := Lib.hid (agg_neg hpy)
  go_upto_if 30 with fail
  go_cut [8] (fun s8 wx => s8 = .pointer (some ⟨gx,0,none⟩) ∧ PaX w k1 k2 (.slice A2 n2 c2) gx gy X Y wx)
  case first =>
   by_cases hz : zy < 0
   · obtain rfl : ky = true := by rw [HK.out];simpa using hz
     have hpl := plus4_agg (.agg #[.bool true,.slice Ay ny cy]) (.agg #[.bool false,.slice A2 n2 c2]) zy (b : Int) wc hpy ⟨.slice A2 n2 c2,by rw [show decide ((b : Int) < 0) = false by simp],by rw [Int.natAbs_natCast];exact HB4.out.2.2.1.below hX.pw.bel⟩ HB4.out.2.1 (by rw [Int.natAbs_natCast];exact HB4.out.2.2.2)
     have hm1 := hX.pw.b1
     have hbd := built_plain A2 n2 c2
     have hk0 := hX.pw.b0
     have hfy := hX.vy.box.facts
     have HX := Lib.hid hX
     have HE := Lib.hid hz
     clear hX hpy hz
     obtain ⟨_,_,hf0,hf1⟩ := hfy
     go_upto_region 5 with (go_at_call 124;refine hpl.mono ?_;rintro e w5 ⟨A5,n5,c5,k5,rfl,hp5,hb5⟩;obtain ⟨⟨q0,hq0⟩,⟨q1,hq1⟩,hg0,hg1⟩ := (HX.out.vy.below hb5).box.facts;have hX2 := HX.out.setY hb5 hp5)
     clear hf0 hf1 hg0 hg1 hq0 hq1 hy0 hy1 hm1 hk0 hpl hbd hp5
     generalize (w5.setCell ⟨gy,0,none⟩ (.bool k5)).setCell ⟨gy,1,none⟩ (.slice A5 n5 c5) = w6 at *
     have hk0 := hX2.pw.b0
     obtain ⟨Ax,nx,cx,kx,hx0,hx1,hpx⟩ := hX2.bx.cells
     have hlx := hX2.bx.box.lt
     obtain ⟨_,_,hfx0,hfx1⟩ := hX2.bx.box.facts
     have HX2 := Lib.hid hX2
     have HPX := Lib.hid hpx
     clear hX2 hpx
     cases k2
     · go_wp2_with fail
       go_region_with
        (first
         | (go_at_call 88;refine (int_one _).mono ?_;rintro e w7 ⟨A7,n7,c7,k7,rfl,hp7,hb7⟩;have hz0 := hb7.cell (p := ⟨gx,0,none⟩) hlx;have hz1 := hb7.cell (p := ⟨gx,1,none⟩) hlx;have hb9 : Below w6.heap.size w6 w7 := ((Below.refl _ _).drew).trans hb7)
         | (go_at_call 143;refine (minus4_any _ _ zx 1 _ ?_ ?_ HB4.out.1 wlen4_one).mono ?_;exact HPX.out.below hb9;exact hp7;rintro e w8 ⟨A8,n8,c8,k8,rfl,hp8,hb8⟩;obtain ⟨⟨q0,hq0⟩,⟨q1,hq1⟩,hg0,hg1⟩ := ((HX2.out.bx.below hb9).below hb8).box.facts))
       all_goals
        have hX3 := HX2.out.setX (hb9.trans (hb8.mono hb9.size)) hp8
        have HX3 := Lib.hid (show PaX w k1 false (.slice A2 n2 c2) gx gy X Y _ by rw [HXY.out.1,HXY.out.2,if_pos HE.out,if_pos HE.out];exact hX3)
        clear hX3
        go_wp2_with fail
        go_meet
        case rel => exact ⟨rfl,HX3.out⟩
     · go_wp2_with fail
       go_region_with
        (first
         | (go_at_call 88;refine (int_one _).mono ?_;rintro e w7 ⟨A7,n7,c7,k7,rfl,hp7,hb7⟩;have hz0 := hb7.cell (p := ⟨gx,0,none⟩) hlx;have hz1 := hb7.cell (p := ⟨gx,1,none⟩) hlx;have hb9 : Below w6.heap.size w6 w7 := ((Below.refl _ _).drew).trans hb7)
         | (go_at_call 124;refine (plus4_agg _ _ zx 1 _ ?_ ?_ HB4.out.1 wlen4_one).mono ?_;exact HPX.out.below hb9;exact hp7;rintro e w8 ⟨A8,n8,c8,k8,rfl,hp8,hb8⟩;obtain ⟨⟨q0,hq0⟩,⟨q1,hq1⟩,hg0,hg1⟩ := ((HX2.out.bx.below hb9).below hb8).box.facts))
       all_goals
        have hX3 := HX2.out.setX (hb9.trans (hb8.mono hb9.size)) hp8
        have HX3 := Lib.hid (show PaX w k1 true (.slice A2 n2 c2) gx gy X Y _ by rw [HXY.out.1,HXY.out.2,if_pos HE.out,if_pos HE.out];exact hX3)
        clear hX3
        go_wp2_with fail
        go_meet
        case rel => exact ⟨rfl,HX3.out⟩
   · obtain rfl : ky = false := by rw [HK.out];simpa using hz
     have HX := Lib.hid (show PaX w k1 k2 (.slice A2 n2 c2) gx gy X Y wc by rw [HXY.out.1,HXY.out.2,if_neg hz,if_neg hz];exact hX)
     clear hX hz hpy
     go_wp2_with fail
     go_meet
     case rel => exact ⟨rfl,HX.out⟩
  case rest =>
   obtain ⟨rfl,hX⟩ := hcut
   obtain ⟨Ax,nx,cx,kx,hx0,hx1,hpx⟩ := hX.bx.cells
   obtain ⟨Az,nz,cz,kz,hz0,hz1,hpz⟩ := hX.vy.cells
   obtain ⟨⟨q0,hq0⟩,⟨q1,hq1⟩,hf0,hf1⟩ := hX.pw.r1.facts
   obtain ⟨⟨q2,hq2⟩,⟨q3,hq3⟩,hf2,hf3⟩ := hX.pw.r2.facts
   have hgx := hX.ox
   have hgy := hX.oy
   have HF := Lib.hid (And.intro hX (And.intro hpx hpz))
   clear hX hpx hpz HB4 HP0 HK hy0 hy1 HXY
   go_wp2_with fail
   go_region
   go_wp2_with fail
   exact bodyPost_ret (v := .tuple #[.agg #[.bool kx,.slice Ax nx cx],.agg #[.bool kz,.slice Az nz cz]]) (by simp [results,Tryz.results114,go_sem,hq0,hq1,hq2,hq3]) rfl ⟨_,_,rfl,by
    have h2 := HF.out.1.pw.r2.other (h := w.heap.size + 1 + 1) (by omega) (.bool kx) (.slice Ax nx cx)
    exact (HF.out.2.1.sets HF.out.1.pw.r1 _ _).sets h2 _ _,by
    have h2 := HF.out.1.pw.r2.other (h := w.heap.size + 1 + 1) (by omega) (.bool kx) (.slice Ax nx cx)
    exact (HF.out.2.2.sets HF.out.1.pw.r1 _ _).sets h2 _ _,((((HF.out.1.pw.bel.setCell (by simp;omega) _).setCell (by simp;omega) _).setCell (by simp;omega) _).setCell (by simp;omega) _).drew⟩
theorem parts_key {x y Q R : Int} (hy : y ≠ 0) (h1 : x = y * Q + R) (h2 : 0 ≤ R) (h3 : R < (y.natAbs : Int)) : Q = x / y ∧ R = x % y := by
 have e1 : x / y = Q := by
  rw [h1,Int.add_comm,Int.add_mul_ediv_left _ _ hy]
  have : R / y = 0 := by
   rcases (show y < 0 ∨ 0 < y by omega) with h | h
   · have := Int.ediv_eq_zero_of_lt h2 (show R < -y by omega)
     rw [Int.ediv_neg] at this;omega
   · exact Int.ediv_eq_zero_of_lt h2 (by omega)
  omega
 have e2 := Int.mul_ediv_add_emod x y
 rw [e1] at e2
 exact ⟨e1.symm,by omega⟩
theorem parts_int (x y : Int) (hy : y ≠ 0) (zx zy : Int) (hzx : zx = sgn (x.natAbs / y.natAbs) (!decide (x < 0) == decide (y < 0))) (hzy : zy = sgn (x.natAbs % y.natAbs) (decide (x < 0))) :
 x / y = (if zy < 0 then (if decide (y < 0) = true then zx + 1 else zx - 1) else zx) ∧ x % y = (if zy < 0 then zy + (y.natAbs : Int) else zy) := by
 obtain ⟨a,ha⟩ : ∃ a,a = x.natAbs := ⟨_,rfl⟩
 obtain ⟨b,hb⟩ : ∃ b,b = y.natAbs := ⟨_,rfl⟩
 have hb0 : 0 < b := by omega
 have hdm := Nat.div_add_mod a b
 have hml := Nat.mod_lt a hb0
 rw [← ha,← hb] at hzx hzy
 rw [← hb]
 obtain ⟨q,hq⟩ : ∃ q,q = a / b := ⟨_,rfl⟩
 obtain ⟨r,hr⟩ : ∃ r,r = a % b := ⟨_,rfl⟩
 rw [← hq,← hr] at hdm
 rw [← hq] at hzx
 rw [← hr] at hzy
 rw [← hr] at hml
 have hdI : (b : Int) * (q : Int) + (r : Int) = (a : Int) := by rw [← hdm];simp
 unfold sgn at hzx hzy
 by_cases h1 : x < 0
 · have hx : x = -(a : Int) := by omega
   by_cases h2 : y < 0
   · have hyy : y = -(b : Int) := by omega
     simp [h1,h2] at hzx hzy
     by_cases h0 : zy < 0
     · rw [if_pos h0,if_pos h0,if_pos (by simpa using h2)]
       have := parts_key (x := x) (y := y) (Q := zx + 1) (R := zy + (b : Int)) hy (by rw [hx,hyy,hzx,hzy,← hdI];grind) (by omega) (by omega)
       exact ⟨this.1.symm,this.2.symm⟩
     · rw [if_neg h0,if_neg h0]
       have := parts_key (x := x) (y := y) (Q := zx) (R := zy) hy (by rw [hx,hyy,hzx,hzy,← hdI];grind) (by omega) (by omega)
       exact ⟨this.1.symm,this.2.symm⟩
   · have hyy : y = (b : Int) := by omega
     simp [h1,h2] at hzx hzy
     by_cases h0 : zy < 0
     · rw [if_pos h0,if_pos h0,if_neg (by simpa using h2)]
       have := parts_key (x := x) (y := y) (Q := zx - 1) (R := zy + (b : Int)) hy (by rw [hx,hyy,hzx,hzy,← hdI];grind) (by omega) (by omega)
       exact ⟨this.1.symm,this.2.symm⟩
     · rw [if_neg h0,if_neg h0]
       have := parts_key (x := x) (y := y) (Q := zx) (R := zy) hy (by rw [hx,hyy,hzx,hzy,← hdI];grind) (by omega) (by omega)
       exact ⟨this.1.symm,this.2.symm⟩
 · have hx : x = (a : Int) := by omega
   by_cases h2 : y < 0
   · have hyy : y = -(b : Int) := by omega
     simp [h1,h2] at hzx hzy
     have h0 : ¬ zy < 0 := by omega
     rw [if_neg h0,if_neg h0]
     have := parts_key (x := x) (y := y) (Q := zx) (R := zy) hy (by rw [hx,hyy,hzx,hzy,← hdI];grind) (by omega) (by omega)
     exact ⟨this.1.symm,this.2.symm⟩
   · have hyy : y = (b : Int) := by omega
     simp [h1,h2] at hzx hzy
     have h0 : ¬ zy < 0 := by omega
     rw [if_neg h0,if_neg h0]
     have := parts_key (x := x) (y := y) (Q := zx) (R := zy) hy (by rw [hx,hyy,hzx,hzy,← hdI]) (by omega) (by omega)
     exact ⟨this.1.symm,this.2.symm⟩
theorem partsZ_any (v1 v2 : Value) (x y : Int) (w : World) (h1 : PlV w v1 x) (h2 : PlV w v2 y) (b1 : wlen B4 x.natAbs ≤ 1000000) (b2 : wlen B4 y.natAbs ≤ 1000000) (hy : y ≠ 0) :
 Calls Tryz.prog 114 #[v1,v2] w fun e w' => ∃ vx vy,e = .returned (.tuple #[vx,vy]) ∧ PlV w' vx (x / y) ∧ PlV w' vy (x % y) ∧ Below w.heap.size w w' := by
 obtain ⟨m1,rfl,hm1⟩ := h1
 obtain ⟨m2,rfl,hm2⟩ := h2
 exact partsZ_core m1 m2 _ _ _ _ w hm1 hm2 b1 b2 (by omega) _ _ rfl rfl _ _ (parts_int x y hy _ _ rfl rfl)
set_option maxRecDepth 100000 in
set_option maxHeartbeats 2000000 in
theorem divisor4_any (v1 v2 : Value) (x y : Int) (w : World) (h1 : PlV w v1 x) (h2 : PlV w v2 y) (b1 : wlen B4 x.natAbs ≤ 1000000) (b2 : wlen B4 y.natAbs ≤ 1000000) :
 Calls Tryz.prog 113 #[v1,v2] w fun e w' => ∃ v,e = .returned v ∧ PlV w' v ((Nat.gcd x.natAbs y.natAbs : Nat) : Int) ∧ Below w.heap.size w w' := by
 obtain ⟨m1,rfl,hm1⟩ := h1
 obtain ⟨m2,rfl,hm2⟩ := h2
 obtain ⟨k1,hk1⟩ : ∃ k,k = decide (x < 0) := ⟨_,rfl⟩
 obtain ⟨k2,hk2⟩ : ∃ k,k = decide (y < 0) := ⟨_,rfl⟩
 rw [← hk1,← hk2]
 have hS0 := plb_start w m1 m2 k1 k2
 have hq := fun q => plb_drewN hS0 q
 have HQ := Lib.hid (fun q => And.intro (hm1.below (hq q).1.2) (And.intro (hm2.below (hq q).1.2) (hq q).1))
 have HB := Lib.hid (And.intro b1 b2)
 obtain ⟨_,hc1,hc2,hc3,hc4⟩ := hS0
 clear hm1 hm2 b1 b2 hq hk1 hk2
 go_enter Tryz.func113,Tryz.ntmps113
 go_wp2_with fail
 go_quiet (fail)
 clear hc1 hc2 hc3 hc4
 go_wp2_with fail
 go_loopg [5,6] y.natAbs (fun r xv yv W => ∃ X Y : Nat,Y = r ∧ DigV W xv X ∧ DigV W yv Y ∧ Nat.gcd X Y = Nat.gcd x.natAbs y.natAbs ∧ wlen B4 X ≤ 1000000 ∧ wlen B4 Y ≤ 1000000 ∧ BoxP W (w.heap.size + 1 + 1) ∧ Below w.heap.size w W)
 case atStart => exact ⟨_,_,rfl,(HQ.out _).1,(HQ.out _).2.1,rfl,HB.out.1,HB.out.2,(HQ.out _).2.2.1,(HQ.out _).2.2.2⟩
 case round =>
  obtain ⟨X,Y,rfl,hX,hY,hg,hx9,hy9,hbx,hbel⟩ := hrel
  have hp := parts4_any _ _ X Y wr hX hY hx9 hy9
  obtain ⟨A1,c1,rfl,hl1,hm1,s1⟩ := hX
  obtain ⟨A2,c2,rfl,hl2,hm2,s2⟩ := hY
  have hDX : DigV wr (.slice A1 (wlen B4 X) c1) X := ⟨A1,c1,rfl,hl1,hm1,s1⟩
  have hDY : DigV wr (.slice A2 (wlen B4 Y) c2) Y := ⟨A2,c2,rfl,hl2,hm2,s2⟩
  have hw0 := wlen_eq_zero (b := B4) two_le_B4 (n := Y)
  obtain ⟨LX,hLX⟩ : ∃ L,L = wlen B4 X := ⟨_,rfl⟩
  obtain ⟨LY,hLY⟩ : ∃ L,L = wlen B4 Y := ⟨_,rfl⟩
  rw [← hLY] at hw0
  rw [← hLX,← hLY] at hp ⊢
  rw [← hLX] at hDX
  rw [← hLY] at hDY
  by_cases h0 : Y = 0
  · have hz : LY = 0 := hw0.2 h0
    subst hz
    rw [h0,Nat.gcd_zero_right] at hg
    have hbd := built_plain A1 LX c1
    obtain ⟨⟨q0,hc0⟩,⟨q1,hc1⟩,hf0,hf1⟩ := hbx.facts
    have HH := Lib.hid (And.intro hg (And.intro hDX (And.intro hbx hbel)))
    clear hp hl1 hm1 s1 hl2 hm2 s2 hDX hDY hw0 hLX hLY h0 hg hx9 hy9 hbx hbel
    go_wp2_with fail
    exact bodyPost_ret (v := .agg #[.bool false,.slice A1 LX c1]) (by simp [results,Tryz.results113,go_sem,hc0,hc1]) rfl ⟨_,rfl,by
     rw [← HH.out.1]
     exact PlV.sets ⟨_,by rw [show decide ((X : Int) < 0) = false by simp],by rw [Int.natAbs_natCast];exact HH.out.2.1⟩ HH.out.2.2.1 _ _,(HH.out.2.2.2.setCell (by simp;omega) _).setCell (by simp;omega) _⟩
  · have hz : 0 < LY := Nat.pos_of_ne_zero fun e => h0 (hw0.1 e)
    have hzI : (0 : Int) < (LY : Int) := by omega
    have hp := hp (Nat.pos_of_ne_zero h0)
    have HH := Lib.hid (And.intro hg (And.intro hDY (And.intro hbx (And.intro hbel (And.intro hx9 (And.intro hy9 h0))))))
    clear hl1 hm1 s1 hl2 hm2 s2 hDX hDY hw0 hLX hLY h0 hg hx9 hy9 hbx hbel hz
    go_wp2_with fail
    refine hp.mono ?_
    rintro e w2 ⟨A3,n3,c3,A4,n4,c4,rfl,_,hd4,hb4⟩
    have HD := Lib.hid (And.intro hd4 hb4)
    clear hp hd4 hb4
    go_wp2_with fail
    obtain ⟨hg,hDY,hbx,hbel,hx9,hy9,h0⟩ := HH.out
    go_roundg (X % Y)
    case measure => exact Nat.mod_lt _ (Nat.pos_of_ne_zero h0)
    case rel => exact ⟨Y,X % Y,rfl,hDY.below HD.out.2,HD.out.1,by rw [Nat.gcd_comm,← Nat.gcd_rec,Nat.gcd_comm];exact hg,hy9,Nat.le_trans (wlen_mono two_le_B4 (Nat.mod_le X Y)) hx9,hbx.below HD.out.2 hbx.lt,hbel.trans (HD.out.2.mono hbel.size)⟩
end Go.Proofs.YtlfgpmnjnpdkdaaGreatDoor
namespace Go.Proofs.YtlfgpmnjnpdkdaaGreatDoor
open Go.RowKit Vd
attribute [local go_sem ↓] Go.wp_at_zero Go.wp_at_succ
theorem rd_okB {l : List UInt8} {z : Int} (h : rd l = some z) : okB l = true := by unfold okB;rw [h];rfl
theorem rd_noB {l : List UInt8} (h : rd l = none) : okB l = false := by unfold okB;rw [h];rfl
theorem rd_len {l : List UInt8} {z : Int} (h : rd l = some z) : l.length ≤ 1000000 := by
 have h1 := (rd_parts h).2.2.1
 unfold cutm at h1
 split at h1
 · rw [List.length_tail] at h1;omega
 · simp at h1;omega
theorem w4_one {z : Int} (h : z.natAbs < 10 ^ 600) : wlen B4 z.natAbs ≤ 600 := by
 rw [show (600 : Nat) = 4 * 150 from rfl] at h
 exact Nat.le_trans (lt_wlen4 h) (by omega)
theorem PlV.abs {W : World} {A : Option Addr} {n c : Nat} {k : Bool} {z : Int} (h : PlV W (.agg #[.bool k,.slice A n c]) z) : PlV W (.agg #[.bool false,.slice A n c]) (z.natAbs : Int) := by
 obtain ⟨m,e,hm⟩ := h
 simp at e
 refine ⟨.slice A n c,by rw [show decide ((z.natAbs : Int) < 0) = false by simp],?_⟩
 rw [Int.natAbs_natCast,e.2]
 exact hm
end Go.Proofs.YtlfgpmnjnpdkdaaGreatDoor
namespace Go.Proofs.YtlfgpmnjnpdkdaaGreatDoor
open Go.RowKit Vd
attribute [local go_sem ↓] Go.wp_at_zero Go.wp_at_succ
end Go.Proofs.YtlfgpmnjnpdkdaaGreatDoor
