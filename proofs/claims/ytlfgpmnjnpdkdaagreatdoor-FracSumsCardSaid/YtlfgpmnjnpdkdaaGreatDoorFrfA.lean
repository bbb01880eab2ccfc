/- Contracts: the reference's fractions: their products, quotients and order. -/
import Derived.Test.YtlfgpmnjnpdkdaaGreatDoorFrdC
namespace Go.Proofs.YtlfgpmnjnpdkdaaGreatDoor
open Go.RowKit Vd
attribute [local go_sem ↓] Go.wp_at_zero Go.wp_at_succ
def Gz (q : Rat) (K : Nat) : Prop := wlen B4 q.num.natAbs ≤ K ∧ wlen B4 q.den ≤ K
theorem Gz.mono {q : Rat} {K L : Nat} (h : Gz q K) (hl : K ≤ L) : Gz q L := ⟨Nat.le_trans h.1 hl,Nat.le_trans h.2 hl⟩
theorem wl4_mulZ (x y : Int) : wlen B4 (x * y).natAbs ≤ wlen B4 x.natAbs + wlen B4 y.natAbs := by rw [Int.natAbs_mul];exact wlen_mul two_le_B4 _ _
theorem Gz.divInt {n d : Int} {K : Nat} (hd : d ≠ 0) (h1 : wlen B4 n.natAbs ≤ K) (h2 : wlen B4 d.natAbs ≤ K) : Gz (Rat.divInt n d) K := by
 have hp : 0 < Int.gcd d n := Int.gcd_pos_of_ne_zero_left _ hd
 constructor
 · rw [Rat.num_divInt]
   refine Nat.le_trans (wlen_mono two_le_B4 ?_) h1
   have hdv : ((Int.gcd d n : Nat) : Int) ∣ d.sign * n := Int.dvd_trans (Int.gcd_dvd_right _ _) (Int.dvd_mul_left _ _)
   rw [Int.natAbs_ediv_of_dvd hdv,Int.natAbs_mul,Int.natAbs_sign_of_ne_zero hd,Nat.one_mul]
   exact Nat.div_le_self _ _
 · rw [Rat.den_divInt,if_neg hd]
   exact Nat.le_trans (wlen_mono two_le_B4 (Nat.div_le_self _ _)) h2
theorem gz_den {q : Rat} {K : Nat} (h : Gz q K) : wlen B4 ((q.den : Int)).natAbs ≤ K := by rw [Int.natAbs_natCast];exact h.2
theorem Gz.neg {q : Rat} {K : Nat} (h : Gz q K) : Gz (-q) K := ⟨by rw [show (-q).num = -q.num from rfl,Int.natAbs_neg];exact h.1,h.2⟩
def RqV (w : World) (v : Value) (q : Rat) : Prop := RtV w v q.num (q.den : Int)
theorem RqV.below {w w' : World} {v : Value} {q : Rat} (h : RqV w v q) (hb : Below w.heap.size w w') : RqV w' v q := RtV.below h hb
theorem RqV.open {w : World} {v : Value} {q : Rat} (h : RqV w v q) : ∃ (A1 : Option Addr) (n1 c1 : Nat) (k1 : Bool) (A2 : Option Addr) (n2 c2 : Nat) (k2 : Bool),v = .agg #[.bool k1,.slice A1 n1 c1,.bool k2,.slice A2 n2 c2] ∧ PlV w (.agg #[.bool k1,.slice A1 n1 c1]) q.num ∧ PlV w (.agg #[.bool k2,.slice A2 n2 c2]) (q.den : Int) := by
 obtain ⟨k1,A1,n1,c1,k2,A2,n2,c2,e,g1,g2⟩ := h
 exact ⟨A1,n1,c1,k1,A2,n2,c2,k2,e,g1,g2⟩
def BoxQ (W : World) (b : Nat) : Prop := ∃ (A : Option Addr) (n c : Nat) (k : Bool) (A' : Option Addr) (n' c' : Nat) (k' : Bool),Fr W b #[.bool k,.slice A n c,.bool k',.slice A' n' c'] 90
theorem Fr.boxQ {W : World} {b : Nat} {A : Option Addr} {n c : Nat} {k : Bool} {A' : Option Addr} {n' c' : Nat} {k' : Bool} (h : Fr W b #[.bool k,.slice A n c,.bool k',.slice A' n' c'] 90) : BoxQ W b := ⟨_,_,_,_,_,_,_,_,h⟩
theorem BoxQ.lt {W : World} {b : Nat} (h : BoxQ W b) : b < W.heap.size := by obtain ⟨_,_,_,_,_,_,_,_,h⟩ := h;exact h.lt
theorem BoxQ.call {W W' : World} {b : Nat} (h : BoxQ W b) (hb : Below W.heap.size W W') : BoxQ W' b := by obtain ⟨_,_,_,_,_,_,_,_,h⟩ := h;exact (h.call hb).boxQ
theorem BoxQ.old {W : World} {b : Nat} {u : Obj} (h : BoxQ W b) : BoxQ (W.alloc u) b := h.call ((Below.refl _ _).alloc (Nat.le_refl _) u)
theorem BoxQ.set4 {W : World} {b : Nat} (h : BoxQ W b) (A : Option Addr) (n c : Nat) (k : Bool) (A' : Option Addr) (n' c' : Nat) (k' : Bool) : BoxQ (sto4 W b (.bool k) (.slice A n c) (.bool k') (.slice A' n' c')) b := by
 obtain ⟨_,_,_,_,_,_,_,_,h⟩ := h;exact (Fr.set4 h).boxQ
theorem BoxQ.pl {W : World} {b : Nat} (h : BoxQ W b) (A : Option Addr) (n c : Nat) (k : Bool) (A' : Option Addr) (n' c' : Nat) (k' : Bool) {v : Value} {z : Int} (hv : PlV W v z) : PlV (sto4 W b (.bool k) (.slice A n c) (.bool k') (.slice A' n' c')) v z := by
 obtain ⟨_,_,_,_,_,_,_,_,h⟩ := h;exact PlV.set4 h rfl rfl rfl rfl rfl rfl rfl hv
theorem BoxQ.facts {W : World} {b : Nat} (h : BoxQ W b) : (∃ u,W.cell? ⟨b,0,none⟩ = some u) ∧ (∃ u,W.cell? ⟨b,1,none⟩ = some u) ∧ (∃ u,W.cell? ⟨b,2,none⟩ = some u) ∧ (∃ u,W.cell? ⟨b,3,none⟩ = some u) ∧ W.frozen? ⟨b,0,none⟩ = false ∧ W.frozen? ⟨b,1,none⟩ = false ∧ W.frozen? ⟨b,2,none⟩ = false ∧ W.frozen? ⟨b,3,none⟩ = false := by
 obtain ⟨_,_,_,_,_,_,_,_,h⟩ := h
 obtain ⟨a,b,c,d,e,f,g,i⟩ := h.cells4
 exact ⟨⟨_,a⟩,⟨_,b⟩,⟨_,c⟩,⟨_,d⟩,e,f,g,i⟩
theorem RqV.fin {V : World} {b : Nat} {q : Rat} {A1 : Option Addr} {n1 c1 : Nat} {k1 : Bool} {A2 : Option Addr} {n2 c2 : Nat} {k2 : Bool} (hF : BoxQ V b) (h1 : PlV V (.agg #[.bool k1,.slice A1 n1 c1]) q.num) (h2 : PlV V (.agg #[.bool k2,.slice A2 n2 c2]) (q.den : Int)) :
    RqV (sto4 V b (.bool k1) (.slice A1 n1 c1) (.bool k2) (.slice A2 n2 c2)) (.agg #[.bool k1,.slice A1 n1 c1,.bool k2,.slice A2 n2 c2]) q :=
 ⟨k1,A1,n1,c1,k2,A2,n2,c2,rfl,hF.pl _ _ _ _ _ _ _ _ h1,hF.pl _ _ _ _ _ _ _ _ h2⟩
theorem RqV.parts {w : World} {A1 : Option Addr} {n1 c1 : Nat} {k1 : Bool} {A2 : Option Addr} {n2 c2 : Nat} {k2 : Bool} {q : Rat} (h : RqV w (.agg #[.bool k1,.slice A1 n1 c1,.bool k2,.slice A2 n2 c2]) q) : PlV w (.agg #[.bool k1,.slice A1 n1 c1]) q.num ∧ PlV w (.agg #[.bool k2,.slice A2 n2 c2]) (q.den : Int) := by
 obtain ⟨k3,A3,n3,c3,k4,A4,n4,c4,e,g1,g2⟩ := h
 simp only [Value.agg.injEq,Array.mk.injEq,List.cons.injEq,Value.bool.injEq,Value.slice.injEq,and_true] at e
 obtain ⟨rfl,⟨rfl,rfl,rfl⟩,rfl,rfl,rfl,rfl⟩ := e
 exact ⟨g1,g2⟩
theorem BoxF.pl {W : World} {b : Nat} (h : BoxF W b) (s t : ByteArray) {v : Value} {z : Int} (hv : PlV W v z) : PlV (sto2 W b (.string s) (.string t)) v z := by
 obtain ⟨_,_,h⟩ := h
 exact (hv.beside h rfl).beside (vs := #[.string s,_]) (Fr.set (o := 0) h) rfl
abbrev BqS (w : World) (A1 : Option Addr) (n1 c1 : Nat) (k1 : Bool) (A2 : Option Addr) (n2 c2 : Nat) (k2 : Bool) (A3 : Option Addr) (n3 c3 : Nat) (k3 : Bool) (A4 : Option Addr) (n4 c4 : Nat) (k4 : Bool) (W : World) : Prop := (Below w.heap.size w W ∧ BoxQ W (w.heap.size + 1 + 1)) ∧ W.cell? ⟨w.heap.size,0,none⟩ = some (.bool k1) ∧ W.cell? ⟨w.heap.size,1,none⟩ = some (.slice A1 n1 c1) ∧ W.cell? ⟨w.heap.size,2,none⟩ = some (.bool k2) ∧ W.cell? ⟨w.heap.size,3,none⟩ = some (.slice A2 n2 c2) ∧ W.cell? ⟨w.heap.size + 1,0,none⟩ = some (.bool k3) ∧ W.cell? ⟨w.heap.size + 1,1,none⟩ = some (.slice A3 n3 c3) ∧ W.cell? ⟨w.heap.size + 1,2,none⟩ = some (.bool k4) ∧ W.cell? ⟨w.heap.size + 1,3,none⟩ = some (.slice A4 n4 c4)
theorem bqS_step {w : World} {A1 : Option Addr} {n1 c1 : Nat} {k1 : Bool} {A2 : Option Addr} {n2 c2 : Nat} {k2 : Bool} {A3 : Option Addr} {n3 c3 : Nat} {k3 : Bool} {A4 : Option Addr} {n4 c4 : Nat} {k4 : Bool} {W W' : World} (h : BqS w A1 n1 c1 k1 A2 n2 c2 k2 A3 n3 c3 k3 A4 n4 c4 k4 W) (hb : Below W.heap.size W W') : BqS w A1 n1 c1 k1 A2 n2 c2 k2 A3 n3 c3 k3 A4 n4 c4 k4 W' := by
 obtain ⟨⟨hb0,hB⟩,e0,e1,e2,e3,e4,e5,e6,e7⟩ := h
 exact ⟨⟨belowt hb0 hb0.size hb,hB.call hb⟩,keepc hb e0,keepc hb e1,keepc hb e2,keepc hb e3,keepc hb e4,keepc hb e5,keepc hb e6,keepc hb e7⟩
theorem bqS_drew {w : World} {A1 : Option Addr} {n1 c1 : Nat} {k1 : Bool} {A2 : Option Addr} {n2 c2 : Nat} {k2 : Bool} {A3 : Option Addr} {n3 c3 : Nat} {k3 : Bool} {A4 : Option Addr} {n4 c4 : Nat} {k4 : Bool} {W : World} (h : BqS w A1 n1 c1 k1 A2 n2 c2 k2 A3 n3 c3 k3 A4 n4 c4 k4 W) : BqS w A1 n1 c1 k1 A2 n2 c2 k2 A3 n3 c3 k3 A4 n4 c4 k4 W.drew := by
 obtain ⟨⟨hb0,hB⟩,e0,e1,e2,e3,e4,e5,e6,e7⟩ := h
 exact ⟨⟨hb0.drew,hB⟩,e0,e1,e2,e3,e4,e5,e6,e7⟩
theorem bqS_store {w : World} {A1 : Option Addr} {n1 c1 : Nat} {k1 : Bool} {A2 : Option Addr} {n2 c2 : Nat} {k2 : Bool} {A3 : Option Addr} {n3 c3 : Nat} {k3 : Bool} {A4 : Option Addr} {n4 c4 : Nat} {k4 : Bool} {W : World} (h : BqS w A1 n1 c1 k1 A2 n2 c2 k2 A3 n3 c3 k3 A4 n4 c4 k4 W) (Ax : Option Addr) (nx cx : Nat) (kx : Bool) (Ay : Option Addr) (ny cy : Nat) (ky : Bool) : BqS w A1 n1 c1 k1 A2 n2 c2 k2 A3 n3 c3 k3 A4 n4 c4 k4 (sto4 W (w.heap.size + 1 + 1) (.bool kx) (.slice Ax nx cx) (.bool ky) (.slice Ay ny cy)) := by
 obtain ⟨⟨hb0,hB⟩,e0,e1,e2,e3,e4,e5,e6,e7⟩ := h
 exact ⟨⟨below_set4 hb0 (by omega),hB.set4 _ _ _ _ _ _ _ _⟩,(cell_set4 (by omega)).trans e0,(cell_set4 (by omega)).trans e1,(cell_set4 (by omega)).trans e2,(cell_set4 (by omega)).trans e3,(cell_set4 (by omega)).trans e4,(cell_set4 (by omega)).trans e5,(cell_set4 (by omega)).trans e6,(cell_set4 (by omega)).trans e7⟩
theorem bqS_start (w : World) (A1 : Option Addr) (n1 c1 : Nat) (k1 : Bool) (A2 : Option Addr) (n2 c2 : Nat) (k2 : Bool) (A3 : Option Addr) (n3 c3 : Nat) (k3 : Bool) (A4 : Option Addr) (n4 c4 : Nat) (k4 : Bool) : BqS w A1 n1 c1 k1 A2 n2 c2 k2 A3 n3 c3 k3 A4 n4 c4 k4 (((w.alloc (.cells #[.bool k1,.slice A1 n1 c1,.bool k2,.slice A2 n2 c2] 90)).alloc (.cells #[.bool k3,.slice A3 n3 c3,.bool k4,.slice A4 n4 c4] 90)).alloc (.cells #[.bool false,.slice none 0 0,.bool false,.slice none 0 0] 90)) := by
 have hb : Below w.heap.size w (((w.alloc (.cells #[.bool k1,.slice A1 n1 c1,.bool k2,.slice A2 n2 c2] 90)).alloc (.cells #[.bool k3,.slice A3 n3 c3,.bool k4,.slice A4 n4 c4] 90)).alloc (.cells #[.bool false,.slice none 0 0,.bool false,.slice none 0 0] 90)) := (((Below.refl _ _).alloc (Nat.le_refl _) _).alloc (by simp) _).alloc (by simp;omega) _
 have r0 : Fr (((w.alloc (.cells #[.bool k1,.slice A1 n1 c1,.bool k2,.slice A2 n2 c2] 90)).alloc (.cells #[.bool k3,.slice A3 n3 c3,.bool k4,.slice A4 n4 c4] 90)).alloc (.cells #[.bool false,.slice none 0 0,.bool false,.slice none 0 0] 90)) w.heap.size #[.bool k1,.slice A1 n1 c1,.bool k2,.slice A2 n2 c2] 90 := (Fr.new rfl).old.old
 have r1 : Fr (((w.alloc (.cells #[.bool k1,.slice A1 n1 c1,.bool k2,.slice A2 n2 c2] 90)).alloc (.cells #[.bool k3,.slice A3 n3 c3,.bool k4,.slice A4 n4 c4] 90)).alloc (.cells #[.bool false,.slice none 0 0,.bool false,.slice none 0 0] 90)) (w.heap.size + 1) #[.bool k3,.slice A3 n3 c3,.bool k4,.slice A4 n4 c4] 90 := (Fr.new (by simp)).old
 obtain ⟨a0,a1,a2,a3,_⟩ := r0.cells4
 obtain ⟨d0,d1,d2,d3,_⟩ := r1.cells4
 exact ⟨⟨hb,Fr.boxQ (Fr.new (by simp))⟩,a0,a1,a2,a3,d0,d1,d2,d3⟩
set_option maxRecDepth 100000 in
set_option maxHeartbeats 2000000 in
theorem rqtimes_any (v1 v2 : Value) (x y : Rat) (K L : Nat) (w : World) (h1 : RqV w v1 x) (h2 : RqV w v2 y) (hx : Gz x K) (hy : Gz y L) (hK : K + L + 4 ≤ 1000000) :
    Calls Tryz.prog 81 #[v1,v2] w fun e w' => ∃ v,e = .returned v ∧ RqV w' v (x * y) ∧ Below w.heap.size w w' := by
 obtain ⟨A1,n1,c1,k1,A2,n2,c2,k2,rfl,hv1,hv2⟩ := h1.open
 obtain ⟨A3,n3,c3,k3,A4,n4,c4,k4,rfl,hv3,hv4⟩ := h2.open
 have HT1 : Hid (∀ W,BqS w A1 n1 c1 k1 A2 n2 c2 k2 A3 n3 c3 k3 A4 n4 c4 k4 W → Calls Tryz.prog 119 #[.agg #[.bool k1,.slice A1 n1 c1],.agg #[.bool k3,.slice A3 n3 c3]] W fun e w' => ∃ (A : Option Addr) (n c : Nat) (k : Bool),e = .returned (.agg #[.bool k,.slice A n c]) ∧ PlV w' (.agg #[.bool k,.slice A n c]) (x.num * y.num) ∧ Below W.heap.size W w' ∧ BqS w A1 n1 c1 k1 A2 n2 c2 k2 A3 n3 c3 k3 A4 n4 c4 k4 w') := Lib.hid (fun W hS => by
  refine (times4_any _ _ x.num y.num W (hv1.below hS.1.1) (hv3.below hS.1.1) (Nat.le_trans hx.1 (by omega)) (Nat.le_trans hy.1 (by omega))).mono ?_
  rintro e w' ⟨v,he,hv,hb⟩
  obtain ⟨A,n,c,k,rfl⟩ := hv.open
  exact ⟨A,n,c,k,he,hv,hb,bqS_step hS hb⟩)
 have HT2 : Hid (∀ W,BqS w A1 n1 c1 k1 A2 n2 c2 k2 A3 n3 c3 k3 A4 n4 c4 k4 W → Calls Tryz.prog 119 #[.agg #[.bool k2,.slice A2 n2 c2],.agg #[.bool k4,.slice A4 n4 c4]] W fun e w' => ∃ (A : Option Addr) (n c : Nat) (k : Bool),e = .returned (.agg #[.bool k,.slice A n c]) ∧ PlV w' (.agg #[.bool k,.slice A n c]) ((x.den : Int) * (y.den : Int)) ∧ Below W.heap.size W w' ∧ BqS w A1 n1 c1 k1 A2 n2 c2 k2 A3 n3 c3 k3 A4 n4 c4 k4 w') := Lib.hid (fun W hS => by
  refine (times4_any _ _ (x.den : Int) (y.den : Int) W (hv2.below hS.1.1) (hv4.below hS.1.1) (Nat.le_trans (gz_den hx) (by omega)) (Nat.le_trans (gz_den hy) (by omega))).mono ?_
  rintro e w' ⟨v,he,hv,hb⟩
  obtain ⟨A,n,c,k,rfl⟩ := hv.open
  exact ⟨A,n,c,k,he,hv,hb,bqS_step hS hb⟩)
 have hne : (x.den : Int) * (y.den : Int) ≠ 0 := Int.mul_ne_zero (by have := x.den_pos;omega) (by have := y.den_pos;omega)
 have HL : Hid (∀ W u v,PlV W u (x.num * y.num) → PlV W v ((x.den : Int) * (y.den : Int)) → BqS w A1 n1 c1 k1 A2 n2 c2 k2 A3 n3 c3 k3 A4 n4 c4 k4 W → Calls Tryz.prog 61 #[u,v] W fun e w' => ∃ (Ax : Option Addr) (nx cx : Nat) (kx : Bool) (Ay : Option Addr) (ny cy : Nat) (ky : Bool),e = .returned (.agg #[.bool kx,.slice Ax nx cx,.bool ky,.slice Ay ny cy]) ∧ PlV w' (.agg #[.bool kx,.slice Ax nx cx]) (x * y).num ∧ PlV w' (.agg #[.bool ky,.slice Ay ny cy]) ((x * y).den : Int) ∧ BqS w A1 n1 c1 k1 A2 n2 c2 k2 A3 n3 c3 k3 A4 n4 c4 k4 w') := Lib.hid (fun W u v hu hv hS => by
  refine (rlow_any u v _ _ W hu hv (Nat.le_trans (wl4_mulZ _ _) (by have a := hx.1;have b := hy.1;omega)) (Nat.le_trans (wl4_mulZ _ _) (by have a := (gz_den hx);have b := (gz_den hy);omega)) (hne)).mono ?_
  rintro e w' ⟨r,he,⟨k,A,n,c,k',A',n',c',rfl,g1,g2⟩,hb⟩
  rw [mul_divInt] at g1 g2
  exact ⟨A,n,c,k,A',n',c',k',he,g1,g2,bqS_step hS hb⟩)
 have hS0 := bqS_start w A1 n1 c1 k1 A2 n2 c2 k2 A3 n3 c3 k3 A4 n4 c4 k4
 have hrb := rt_built
 clear h1 h2 hx hy hK hv1 hv2 hv3 hv4 hne
 go_enter Tryz.func81,Tryz.ntmps81
 go_wp2_with fail
 have hS1 := bqS_drew hS0
 clear hS0
 go_region_held3 (fun W => (Below w.heap.size w W ∧ BoxQ W (w.heap.size + 1 + 1)) ∧ W.cell? ⟨w.heap.size,0,none⟩ = some (.bool k1) ∧ W.cell? ⟨w.heap.size,1,none⟩ = some (.slice A1 n1 c1) ∧ W.cell? ⟨w.heap.size,2,none⟩ = some (.bool k2) ∧ W.cell? ⟨w.heap.size,3,none⟩ = some (.slice A2 n2 c2) ∧ W.cell? ⟨w.heap.size + 1,0,none⟩ = some (.bool k3) ∧ W.cell? ⟨w.heap.size + 1,1,none⟩ = some (.slice A3 n3 c3) ∧ W.cell? ⟨w.heap.size + 1,2,none⟩ = some (.bool k4) ∧ W.cell? ⟨w.heap.size + 1,3,none⟩ = some (.slice A4 n4 c4)) (first | with_reducible assumption | exact ⟨⟨hS1.1.1,hS1.1.2⟩,hS1.2⟩ | (refine bqS_store ?_ _ _ _ _ _ _ _ _;with_reducible assumption))
  (first
   | (go_at_call 119;with_reducible refine (HT1.out _ ?_).mono ?_;with_reducible assumption;rintro e w5 ⟨A5,n5,c5,k5,rfl,hq5,hb5,hS5⟩)
   | (go_at_call 119;with_reducible refine (HT2.out _ ?_).mono ?_;with_reducible assumption;rintro e w6 ⟨A6,n6,c6,k6,rfl,hq6,hb6,hS6⟩;have hq5b := hq5.below hb6)
   | (go_at_call 61;with_reducible refine (HL.out _ _ _ ?_ ?_ ?_).mono ?_;with_reducible assumption;with_reducible assumption;with_reducible assumption;rintro e w7 ⟨A7,n7,c7,k7,A8,n8,c8,k8,rfl,hq7,hq8,hS7⟩;obtain ⟨⟨q0,y0⟩,⟨q1,y1⟩,⟨q2,y2⟩,⟨q3,y3⟩,y4,y5,y6,y7⟩ := hS7.1.2.facts))
 go_wp2_with fail
 exact bodyPost_ret (v := .agg #[.bool k7,.slice A7 n7 c7,.bool k8,.slice A8 n8 c8]) (by simp [results,Tryz.results81,go_sem,y0,y1,y2,y3]) rfl ⟨_,rfl,RqV.fin hS7.1.2 hq7 hq8,below_set4 hS7.1.1 (by omega)⟩
set_option maxRecDepth 100000 in
set_option maxHeartbeats 2000000 in
theorem rqover_any (v1 v2 : Value) (x y : Rat) (K L : Nat) (w : World) (h1 : RqV w v1 x) (h2 : RqV w v2 y) (hx : Gz x K) (hy : Gz y L) (hK : K + L + 4 ≤ 1000000) (hy0 : y ≠ 0) :
    Calls Tryz.prog 82 #[v1,v2] w fun e w' => ∃ v,e = .returned v ∧ RqV w' v (x / y) ∧ Below w.heap.size w w' := by
 obtain ⟨A1,n1,c1,k1,A2,n2,c2,k2,rfl,hv1,hv2⟩ := h1.open
 obtain ⟨A3,n3,c3,k3,A4,n4,c4,k4,rfl,hv3,hv4⟩ := h2.open
 have HT1 : Hid (∀ W,BqS w A1 n1 c1 k1 A2 n2 c2 k2 A3 n3 c3 k3 A4 n4 c4 k4 W → Calls Tryz.prog 119 #[.agg #[.bool k1,.slice A1 n1 c1],.agg #[.bool k4,.slice A4 n4 c4]] W fun e w' => ∃ (A : Option Addr) (n c : Nat) (k : Bool),e = .returned (.agg #[.bool k,.slice A n c]) ∧ PlV w' (.agg #[.bool k,.slice A n c]) (x.num * (y.den : Int)) ∧ Below W.heap.size W w' ∧ BqS w A1 n1 c1 k1 A2 n2 c2 k2 A3 n3 c3 k3 A4 n4 c4 k4 w') := Lib.hid (fun W hS => by
  refine (times4_any _ _ x.num (y.den : Int) W (hv1.below hS.1.1) (hv4.below hS.1.1) (Nat.le_trans hx.1 (by omega)) (Nat.le_trans (gz_den hy) (by omega))).mono ?_
  rintro e w' ⟨v,he,hv,hb⟩
  obtain ⟨A,n,c,k,rfl⟩ := hv.open
  exact ⟨A,n,c,k,he,hv,hb,bqS_step hS hb⟩)
 have HT2 : Hid (∀ W,BqS w A1 n1 c1 k1 A2 n2 c2 k2 A3 n3 c3 k3 A4 n4 c4 k4 W → Calls Tryz.prog 119 #[.agg #[.bool k2,.slice A2 n2 c2],.agg #[.bool k3,.slice A3 n3 c3]] W fun e w' => ∃ (A : Option Addr) (n c : Nat) (k : Bool),e = .returned (.agg #[.bool k,.slice A n c]) ∧ PlV w' (.agg #[.bool k,.slice A n c]) ((x.den : Int) * y.num) ∧ Below W.heap.size W w' ∧ BqS w A1 n1 c1 k1 A2 n2 c2 k2 A3 n3 c3 k3 A4 n4 c4 k4 w') := Lib.hid (fun W hS => by
  refine (times4_any _ _ (x.den : Int) y.num W (hv2.below hS.1.1) (hv3.below hS.1.1) (Nat.le_trans (gz_den hx) (by omega)) (Nat.le_trans hy.1 (by omega))).mono ?_
  rintro e w' ⟨v,he,hv,hb⟩
  obtain ⟨A,n,c,k,rfl⟩ := hv.open
  exact ⟨A,n,c,k,he,hv,hb,bqS_step hS hb⟩)
 have hne : (x.den : Int) * y.num ≠ 0 := Int.mul_ne_zero (by have := x.den_pos;omega) (fun h => hy0 (Rat.num_eq_zero.1 h))
 have HL : Hid (∀ W u v,PlV W u (x.num * (y.den : Int)) → PlV W v ((x.den : Int) * y.num) → BqS w A1 n1 c1 k1 A2 n2 c2 k2 A3 n3 c3 k3 A4 n4 c4 k4 W → Calls Tryz.prog 61 #[u,v] W fun e w' => ∃ (Ax : Option Addr) (nx cx : Nat) (kx : Bool) (Ay : Option Addr) (ny cy : Nat) (ky : Bool),e = .returned (.agg #[.bool kx,.slice Ax nx cx,.bool ky,.slice Ay ny cy]) ∧ PlV w' (.agg #[.bool kx,.slice Ax nx cx]) (x / y).num ∧ PlV w' (.agg #[.bool ky,.slice Ay ny cy]) ((x / y).den : Int) ∧ BqS w A1 n1 c1 k1 A2 n2 c2 k2 A3 n3 c3 k3 A4 n4 c4 k4 w') := Lib.hid (fun W u v hu hv hS => by
  refine (rlow_any u v _ _ W hu hv (Nat.le_trans (wl4_mulZ _ _) (by have a := hx.1;have b := (gz_den hy);omega)) (Nat.le_trans (wl4_mulZ _ _) (by have a := (gz_den hx);have b := hy.1;omega)) (hne)).mono ?_
  rintro e w' ⟨r,he,⟨k,A,n,c,k',A',n',c',rfl,g1,g2⟩,hb⟩
  rw [over_divInt] at g1 g2
  exact ⟨A,n,c,k,A',n',c',k',he,g1,g2,bqS_step hS hb⟩)
 have hS0 := bqS_start w A1 n1 c1 k1 A2 n2 c2 k2 A3 n3 c3 k3 A4 n4 c4 k4
 have hrb := rt_built
 clear h1 h2 hx hy hK hv1 hv2 hv3 hv4 hne hy0
 go_enter Tryz.func82,Tryz.ntmps82
 go_wp2_with fail
 have hS1 := bqS_drew hS0
 clear hS0
 go_region_held3 (fun W => (Below w.heap.size w W ∧ BoxQ W (w.heap.size + 1 + 1)) ∧ W.cell? ⟨w.heap.size,0,none⟩ = some (.bool k1) ∧ W.cell? ⟨w.heap.size,1,none⟩ = some (.slice A1 n1 c1) ∧ W.cell? ⟨w.heap.size,2,none⟩ = some (.bool k2) ∧ W.cell? ⟨w.heap.size,3,none⟩ = some (.slice A2 n2 c2) ∧ W.cell? ⟨w.heap.size + 1,0,none⟩ = some (.bool k3) ∧ W.cell? ⟨w.heap.size + 1,1,none⟩ = some (.slice A3 n3 c3) ∧ W.cell? ⟨w.heap.size + 1,2,none⟩ = some (.bool k4) ∧ W.cell? ⟨w.heap.size + 1,3,none⟩ = some (.slice A4 n4 c4)) (first | with_reducible assumption | exact ⟨⟨hS1.1.1,hS1.1.2⟩,hS1.2⟩ | (refine bqS_store ?_ _ _ _ _ _ _ _ _;with_reducible assumption))
  (first
   | (go_at_call 119;with_reducible refine (HT1.out _ ?_).mono ?_;with_reducible assumption;rintro e w5 ⟨A5,n5,c5,k5,rfl,hq5,hb5,hS5⟩)
   | (go_at_call 119;with_reducible refine (HT2.out _ ?_).mono ?_;with_reducible assumption;rintro e w6 ⟨A6,n6,c6,k6,rfl,hq6,hb6,hS6⟩;have hq5b := hq5.below hb6)
   | (go_at_call 61;with_reducible refine (HL.out _ _ _ ?_ ?_ ?_).mono ?_;with_reducible assumption;with_reducible assumption;with_reducible assumption;rintro e w7 ⟨A7,n7,c7,k7,A8,n8,c8,k8,rfl,hq7,hq8,hS7⟩;obtain ⟨⟨q0,y0⟩,⟨q1,y1⟩,⟨q2,y2⟩,⟨q3,y3⟩,y4,y5,y6,y7⟩ := hS7.1.2.facts))
 go_wp2_with fail
 exact bodyPost_ret (v := .agg #[.bool k7,.slice A7 n7 c7,.bool k8,.slice A8 n8 c8]) (by simp [results,Tryz.results82,go_sem,y0,y1,y2,y3]) rfl ⟨_,rfl,RqV.fin hS7.1.2 hq7 hq8,below_set4 hS7.1.1 (by omega)⟩
end Go.Proofs.YtlfgpmnjnpdkdaaGreatDoor
