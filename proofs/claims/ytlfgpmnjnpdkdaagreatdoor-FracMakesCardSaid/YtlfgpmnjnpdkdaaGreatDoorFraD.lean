/- Contracts: package frac: products, quotients and the order of fractions. -/
import Derived.Test.YtlfgpmnjnpdkdaaGreatDoorFraC
namespace Go.Proofs.YtlfgpmnjnpdkdaaGreatDoor
open Go.RowKit Vd
attribute [local go_sem ↓] Go.wp_at_zero Go.wp_at_succ
def Fz (q : Rat) (K : Nat) : Prop := wlen B64 q.num.natAbs ≤ K ∧ wlen B64 q.den ≤ K
theorem Fz.mono {q : Rat} {K L : Nat} (h : Fz q K) (hl : K ≤ L) : Fz q L := ⟨Nat.le_trans h.1 hl,Nat.le_trans h.2 hl⟩
theorem wlen_mulZ (x y : Int) : wlen B64 (x * y).natAbs ≤ wlen B64 x.natAbs + wlen B64 y.natAbs := by rw [Int.natAbs_mul];exact wlen_mul two_le_B _ _
theorem Fz.divInt {n d : Int} {K : Nat} (hd : d ≠ 0) (h1 : wlen B64 n.natAbs ≤ K) (h2 : wlen B64 d.natAbs ≤ K) : Fz (Rat.divInt n d) K := by
 have hp : 0 < Int.gcd d n := Int.gcd_pos_of_ne_zero_left _ hd
 constructor
 · rw [Rat.num_divInt]
   refine Nat.le_trans (wlen_mono two_le_B ?_) h1
   have hdv : ((Int.gcd d n : Nat) : Int) ∣ d.sign * n := Int.dvd_trans (Int.gcd_dvd_right _ _) (Int.dvd_mul_left _ _)
   rw [Int.natAbs_ediv_of_dvd hdv,Int.natAbs_mul,Int.natAbs_sign_of_ne_zero hd,Nat.one_mul]
   exact Nat.div_le_self _ _
 · rw [Rat.den_divInt,if_neg hd]
   exact Nat.le_trans (wlen_mono two_le_B (Nat.div_le_self _ _)) h2
theorem RaV.open {w : World} {v : Value} {q : Rat} (h : RaV w v q) : ∃ (A1 : Option Addr) (n1 c1 : Nat) (k1 : Bool) (A2 : Option Addr) (n2 c2 : Nat) (k2 : Bool),v = .agg #[.slice A1 n1 c1,.bool k1,.slice A2 n2 c2,.bool k2] ∧ SgV w (.agg #[.slice A1 n1 c1,.bool k1]) q.num ∧ SgV w (.agg #[.slice A2 n2 c2,.bool k2]) (q.den : Int) := h
theorem fz_den {q : Rat} {K : Nat} (h : Fz q K) : wlen B64 ((q.den : Int)).natAbs ≤ K := by rw [Int.natAbs_natCast];exact h.2
abbrev BiS (w : World) (A1 : Option Addr) (n1 c1 : Nat) (k1 : Bool) (A2 : Option Addr) (n2 c2 : Nat) (k2 : Bool) (A3 : Option Addr) (n3 c3 : Nat) (k3 : Bool) (A4 : Option Addr) (n4 c4 : Nat) (k4 : Bool) (W : World) : Prop := (Below w.heap.size w W ∧ BoxR W (w.heap.size + 1 + 1)) ∧ W.cell? ⟨w.heap.size,0,none⟩ = some (.slice A1 n1 c1) ∧ W.cell? ⟨w.heap.size,1,none⟩ = some (.bool k1) ∧ W.cell? ⟨w.heap.size,2,none⟩ = some (.slice A2 n2 c2) ∧ W.cell? ⟨w.heap.size,3,none⟩ = some (.bool k2) ∧ W.cell? ⟨w.heap.size + 1,0,none⟩ = some (.slice A3 n3 c3) ∧ W.cell? ⟨w.heap.size + 1,1,none⟩ = some (.bool k3) ∧ W.cell? ⟨w.heap.size + 1,2,none⟩ = some (.slice A4 n4 c4) ∧ W.cell? ⟨w.heap.size + 1,3,none⟩ = some (.bool k4)
theorem biS_step {w : World} {A1 : Option Addr} {n1 c1 : Nat} {k1 : Bool} {A2 : Option Addr} {n2 c2 : Nat} {k2 : Bool} {A3 : Option Addr} {n3 c3 : Nat} {k3 : Bool} {A4 : Option Addr} {n4 c4 : Nat} {k4 : Bool} {W W' : World} (h : BiS w A1 n1 c1 k1 A2 n2 c2 k2 A3 n3 c3 k3 A4 n4 c4 k4 W) (hb : Below W.heap.size W W') : BiS w A1 n1 c1 k1 A2 n2 c2 k2 A3 n3 c3 k3 A4 n4 c4 k4 W' := by
 obtain ⟨⟨hb0,hB⟩,e0,e1,e2,e3,e4,e5,e6,e7⟩ := h
 exact ⟨⟨belowt hb0 hb0.size hb,hB.call hb⟩,keepc hb e0,keepc hb e1,keepc hb e2,keepc hb e3,keepc hb e4,keepc hb e5,keepc hb e6,keepc hb e7⟩
theorem biS_drew {w : World} {A1 : Option Addr} {n1 c1 : Nat} {k1 : Bool} {A2 : Option Addr} {n2 c2 : Nat} {k2 : Bool} {A3 : Option Addr} {n3 c3 : Nat} {k3 : Bool} {A4 : Option Addr} {n4 c4 : Nat} {k4 : Bool} {W : World} (h : BiS w A1 n1 c1 k1 A2 n2 c2 k2 A3 n3 c3 k3 A4 n4 c4 k4 W) : BiS w A1 n1 c1 k1 A2 n2 c2 k2 A3 n3 c3 k3 A4 n4 c4 k4 W.drew := by
 obtain ⟨⟨hb0,hB⟩,e0,e1,e2,e3,e4,e5,e6,e7⟩ := h
 exact ⟨⟨hb0.drew,hB⟩,e0,e1,e2,e3,e4,e5,e6,e7⟩
theorem biS_store {w : World} {A1 : Option Addr} {n1 c1 : Nat} {k1 : Bool} {A2 : Option Addr} {n2 c2 : Nat} {k2 : Bool} {A3 : Option Addr} {n3 c3 : Nat} {k3 : Bool} {A4 : Option Addr} {n4 c4 : Nat} {k4 : Bool} {W : World} (h : BiS w A1 n1 c1 k1 A2 n2 c2 k2 A3 n3 c3 k3 A4 n4 c4 k4 W) (Ax : Option Addr) (nx cx : Nat) (kx : Bool) (Ay : Option Addr) (ny cy : Nat) (ky : Bool) : BiS w A1 n1 c1 k1 A2 n2 c2 k2 A3 n3 c3 k3 A4 n4 c4 k4 (sto4 W (w.heap.size + 1 + 1) (.slice Ax nx cx) (.bool kx) (.slice Ay ny cy) (.bool ky)) := by
 obtain ⟨⟨hb0,hB⟩,e0,e1,e2,e3,e4,e5,e6,e7⟩ := h
 exact ⟨⟨below_set4 hb0 (by omega),hB.set4 _ _ _ _ _ _ _ _⟩,(cell_set4 (by omega)).trans e0,(cell_set4 (by omega)).trans e1,(cell_set4 (by omega)).trans e2,(cell_set4 (by omega)).trans e3,(cell_set4 (by omega)).trans e4,(cell_set4 (by omega)).trans e5,(cell_set4 (by omega)).trans e6,(cell_set4 (by omega)).trans e7⟩
abbrev BjS (w : World) (A1 : Option Addr) (n1 c1 : Nat) (k1 : Bool) (A2 : Option Addr) (n2 c2 : Nat) (k2 : Bool) (A3 : Option Addr) (n3 c3 : Nat) (k3 : Bool) (A4 : Option Addr) (n4 c4 : Nat) (k4 : Bool) (W : World) : Prop := (Below w.heap.size w W) ∧ W.cell? ⟨w.heap.size,0,none⟩ = some (.slice A1 n1 c1) ∧ W.cell? ⟨w.heap.size,1,none⟩ = some (.bool k1) ∧ W.cell? ⟨w.heap.size,2,none⟩ = some (.slice A2 n2 c2) ∧ W.cell? ⟨w.heap.size,3,none⟩ = some (.bool k2) ∧ W.cell? ⟨w.heap.size + 1,0,none⟩ = some (.slice A3 n3 c3) ∧ W.cell? ⟨w.heap.size + 1,1,none⟩ = some (.bool k3) ∧ W.cell? ⟨w.heap.size + 1,2,none⟩ = some (.slice A4 n4 c4) ∧ W.cell? ⟨w.heap.size + 1,3,none⟩ = some (.bool k4)
theorem bjS_step {w : World} {A1 : Option Addr} {n1 c1 : Nat} {k1 : Bool} {A2 : Option Addr} {n2 c2 : Nat} {k2 : Bool} {A3 : Option Addr} {n3 c3 : Nat} {k3 : Bool} {A4 : Option Addr} {n4 c4 : Nat} {k4 : Bool} {W W' : World} (h : BjS w A1 n1 c1 k1 A2 n2 c2 k2 A3 n3 c3 k3 A4 n4 c4 k4 W) (hb : Below W.heap.size W W') : BjS w A1 n1 c1 k1 A2 n2 c2 k2 A3 n3 c3 k3 A4 n4 c4 k4 W' := by
 obtain ⟨hb0,e0,e1,e2,e3,e4,e5,e6,e7⟩ := h
 exact ⟨belowt hb0 hb0.size hb,keepc hb e0,keepc hb e1,keepc hb e2,keepc hb e3,keepc hb e4,keepc hb e5,keepc hb e6,keepc hb e7⟩
theorem bjS_drew {w : World} {A1 : Option Addr} {n1 c1 : Nat} {k1 : Bool} {A2 : Option Addr} {n2 c2 : Nat} {k2 : Bool} {A3 : Option Addr} {n3 c3 : Nat} {k3 : Bool} {A4 : Option Addr} {n4 c4 : Nat} {k4 : Bool} {W : World} (h : BjS w A1 n1 c1 k1 A2 n2 c2 k2 A3 n3 c3 k3 A4 n4 c4 k4 W) : BjS w A1 n1 c1 k1 A2 n2 c2 k2 A3 n3 c3 k3 A4 n4 c4 k4 W.drew := by
 obtain ⟨hb0,e0,e1,e2,e3,e4,e5,e6,e7⟩ := h
 exact ⟨hb0.drew,e0,e1,e2,e3,e4,e5,e6,e7⟩
theorem biS_start (w : World) (A1 : Option Addr) (n1 c1 : Nat) (k1 : Bool) (A2 : Option Addr) (n2 c2 : Nat) (k2 : Bool) (A3 : Option Addr) (n3 c3 : Nat) (k3 : Bool) (A4 : Option Addr) (n4 c4 : Nat) (k4 : Bool) : BiS w A1 n1 c1 k1 A2 n2 c2 k2 A3 n3 c3 k3 A4 n4 c4 k4 (((w.alloc (.cells #[.slice A1 n1 c1,.bool k1,.slice A2 n2 c2,.bool k2] 82)).alloc (.cells #[.slice A3 n3 c3,.bool k3,.slice A4 n4 c4,.bool k4] 82)).alloc (.cells #[.slice none 0 0,.bool false,.slice none 0 0,.bool false] 82)) := by
 have hb : Below w.heap.size w (((w.alloc (.cells #[.slice A1 n1 c1,.bool k1,.slice A2 n2 c2,.bool k2] 82)).alloc (.cells #[.slice A3 n3 c3,.bool k3,.slice A4 n4 c4,.bool k4] 82)).alloc (.cells #[.slice none 0 0,.bool false,.slice none 0 0,.bool false] 82)) := (((Below.refl _ _).alloc (Nat.le_refl _) _).alloc (by simp) _).alloc (by simp;omega) _
 have r0 : Fr (((w.alloc (.cells #[.slice A1 n1 c1,.bool k1,.slice A2 n2 c2,.bool k2] 82)).alloc (.cells #[.slice A3 n3 c3,.bool k3,.slice A4 n4 c4,.bool k4] 82)).alloc (.cells #[.slice none 0 0,.bool false,.slice none 0 0,.bool false] 82)) w.heap.size #[.slice A1 n1 c1,.bool k1,.slice A2 n2 c2,.bool k2] 82 := (Fr.new rfl).old.old
 have r1 : Fr (((w.alloc (.cells #[.slice A1 n1 c1,.bool k1,.slice A2 n2 c2,.bool k2] 82)).alloc (.cells #[.slice A3 n3 c3,.bool k3,.slice A4 n4 c4,.bool k4] 82)).alloc (.cells #[.slice none 0 0,.bool false,.slice none 0 0,.bool false] 82)) (w.heap.size + 1) #[.slice A3 n3 c3,.bool k3,.slice A4 n4 c4,.bool k4] 82 := (Fr.new (by simp)).old
 obtain ⟨a0,a1,a2,a3,_⟩ := r0.cells4
 obtain ⟨d0,d1,d2,d3,_⟩ := r1.cells4
 exact ⟨⟨hb,Fr.boxR (Fr.new (by simp))⟩,a0,a1,a2,a3,d0,d1,d2,d3⟩
theorem bjS_start (w : World) (A1 : Option Addr) (n1 c1 : Nat) (k1 : Bool) (A2 : Option Addr) (n2 c2 : Nat) (k2 : Bool) (A3 : Option Addr) (n3 c3 : Nat) (k3 : Bool) (A4 : Option Addr) (n4 c4 : Nat) (k4 : Bool) : BjS w A1 n1 c1 k1 A2 n2 c2 k2 A3 n3 c3 k3 A4 n4 c4 k4 ((w.alloc (.cells #[.slice A1 n1 c1,.bool k1,.slice A2 n2 c2,.bool k2] 82)).alloc (.cells #[.slice A3 n3 c3,.bool k3,.slice A4 n4 c4,.bool k4] 82)) := by
 have hb : Below w.heap.size w ((w.alloc (.cells #[.slice A1 n1 c1,.bool k1,.slice A2 n2 c2,.bool k2] 82)).alloc (.cells #[.slice A3 n3 c3,.bool k3,.slice A4 n4 c4,.bool k4] 82)) := ((Below.refl _ _).alloc (Nat.le_refl _) _).alloc (by simp) _
 have r0 : Fr ((w.alloc (.cells #[.slice A1 n1 c1,.bool k1,.slice A2 n2 c2,.bool k2] 82)).alloc (.cells #[.slice A3 n3 c3,.bool k3,.slice A4 n4 c4,.bool k4] 82)) w.heap.size #[.slice A1 n1 c1,.bool k1,.slice A2 n2 c2,.bool k2] 82 := (Fr.new rfl).old
 have r1 : Fr ((w.alloc (.cells #[.slice A1 n1 c1,.bool k1,.slice A2 n2 c2,.bool k2] 82)).alloc (.cells #[.slice A3 n3 c3,.bool k3,.slice A4 n4 c4,.bool k4] 82)) (w.heap.size + 1) #[.slice A3 n3 c3,.bool k3,.slice A4 n4 c4,.bool k4] 82 := (Fr.new (by simp))
 obtain ⟨a0,a1,a2,a3,_⟩ := r0.cells4
 obtain ⟨d0,d1,d2,d3,_⟩ := r1.cells4
 exact ⟨hb,a0,a1,a2,a3,d0,d1,d2,d3⟩
set_option maxRecDepth 100000 in
set_option maxHeartbeats 2000000 in
theorem ratimes_any (v1 v2 : Value) (x y : Rat) (K L : Nat) (w : World) (h1 : RaV w v1 x) (h2 : RaV w v2 y) (hx : Fz x K) (hy : Fz y L) (hK : K + L + 4 ≤ maxW) :
 Calls Tryz.prog 77 #[v1,v2] w fun e w' => ∃ v,e = .returned v ∧ RaV w' v (x * y) ∧ Below w.heap.size w w' := by
 obtain ⟨A1,n1,c1,k1,A2,n2,c2,k2,rfl,hv1,hv2⟩ := h1.open
 obtain ⟨A3,n3,c3,k3,A4,n4,c4,k4,rfl,hv3,hv4⟩ := h2.open
 have HT1 : Hid (∀ W,BiS w A1 n1 c1 k1 A2 n2 c2 k2 A3 n3 c3 k3 A4 n4 c4 k4 W → Calls Tryz.prog 121 #[.agg #[.slice A1 n1 c1,.bool k1],.agg #[.slice A3 n3 c3,.bool k3]] W fun e w' => ∃ (A : Option Addr) (n c : Nat) (k : Bool),e = .returned (.agg #[.slice A n c,.bool k]) ∧ SgV w' (.agg #[.slice A n c,.bool k]) (x.num * y.num) ∧ Below W.heap.size W w' ∧ BiS w A1 n1 c1 k1 A2 n2 c2 k2 A3 n3 c3 k3 A4 n4 c4 k4 w') := Lib.hid (fun W hS => by
  refine (times_any _ _ x.num y.num W (hv1.below hS.1.1) (hv3.below hS.1.1) (Nat.le_trans hx.1 (by omega)) (Nat.le_trans hy.1 (by omega))).mono ?_
  rintro e w' ⟨v,he,hv,hb⟩
  obtain ⟨A,n,c,k,rfl⟩ := hv.open
  exact ⟨A,n,c,k,he,hv,hb,biS_step hS hb⟩)
 have HT2 : Hid (∀ W,BiS w A1 n1 c1 k1 A2 n2 c2 k2 A3 n3 c3 k3 A4 n4 c4 k4 W → Calls Tryz.prog 121 #[.agg #[.slice A2 n2 c2,.bool k2],.agg #[.slice A4 n4 c4,.bool k4]] W fun e w' => ∃ (A : Option Addr) (n c : Nat) (k : Bool),e = .returned (.agg #[.slice A n c,.bool k]) ∧ SgV w' (.agg #[.slice A n c,.bool k]) ((x.den : Int) * (y.den : Int)) ∧ Below W.heap.size W w' ∧ BiS w A1 n1 c1 k1 A2 n2 c2 k2 A3 n3 c3 k3 A4 n4 c4 k4 w') := Lib.hid (fun W hS => by
  refine (times_any _ _ (x.den : Int) (y.den : Int) W (hv2.below hS.1.1) (hv4.below hS.1.1) (Nat.le_trans (fz_den hx) (by omega)) (Nat.le_trans (fz_den hy) (by omega))).mono ?_
  rintro e w' ⟨v,he,hv,hb⟩
  obtain ⟨A,n,c,k,rfl⟩ := hv.open
  exact ⟨A,n,c,k,he,hv,hb,biS_step hS hb⟩)
 have hne : (x.den : Int) * (y.den : Int) ≠ 0 := Int.mul_ne_zero (by have := x.den_pos;omega) (by have := y.den_pos;omega)
 have HL : Hid (∀ W u v,SgV W u (x.num * y.num) → SgV W v ((x.den : Int) * (y.den : Int)) → BiS w A1 n1 c1 k1 A2 n2 c2 k2 A3 n3 c3 k3 A4 n4 c4 k4 W → Calls Tryz.prog 53 #[u,v] W fun e w' => ∃ (Ax : Option Addr) (nx cx : Nat) (kx : Bool) (Ay : Option Addr) (ny cy : Nat) (ky : Bool),e = .returned (.agg #[.slice Ax nx cx,.bool kx,.slice Ay ny cy,.bool ky]) ∧ SgV w' (.agg #[.slice Ax nx cx,.bool kx]) (x * y).num ∧ SgV w' (.agg #[.slice Ay ny cy,.bool ky]) ((x * y).den : Int) ∧ BiS w A1 n1 c1 k1 A2 n2 c2 k2 A3 n3 c3 k3 A4 n4 c4 k4 w') := Lib.hid (fun W u v hu hv hS => by
  refine (lowest_any u v _ _ W hu hv (Nat.le_trans (Nat.add_le_add_right (wlen_mulZ _ _) 2) (by have a := hx.1;have b := hy.1;omega)) (Nat.le_trans (Nat.add_le_add_right (wlen_mulZ _ _) 2) (by have a := (fz_den hx);have b := (fz_den hy);omega)) (hne)).mono ?_
  rintro e w' ⟨r,he,⟨A,n,c,k,A',n',c',k',rfl,g1,g2⟩,hb⟩
  rw [mul_divInt] at g1 g2
  exact ⟨A,n,c,k,A',n',c',k',he,g1,g2,biS_step hS hb⟩)
 have hS0 := biS_start w A1 n1 c1 k1 A2 n2 c2 k2 A3 n3 c3 k3 A4 n4 c4 k4
 have hrb := ra_built
 clear h1 h2 hx hy hK hv1 hv2 hv3 hv4 hne
 go_enter Tryz.func77,Tryz.ntmps77
 go_wp2_with fail
 have hS1 := biS_drew hS0
 clear hS0
 go_region_held3 (fun W => (Below w.heap.size w W ∧ BoxR W (w.heap.size + 1 + 1)) ∧ W.cell? ⟨w.heap.size,0,none⟩ = some (.slice A1 n1 c1) ∧ W.cell? ⟨w.heap.size,1,none⟩ = some (.bool k1) ∧ W.cell? ⟨w.heap.size,2,none⟩ = some (.slice A2 n2 c2) ∧ W.cell? ⟨w.heap.size,3,none⟩ = some (.bool k2) ∧ W.cell? ⟨w.heap.size + 1,0,none⟩ = some (.slice A3 n3 c3) ∧ W.cell? ⟨w.heap.size + 1,1,none⟩ = some (.bool k3) ∧ W.cell? ⟨w.heap.size + 1,2,none⟩ = some (.slice A4 n4 c4) ∧ W.cell? ⟨w.heap.size + 1,3,none⟩ = some (.bool k4)) (first | with_reducible assumption | exact ⟨⟨hS1.1.1,hS1.1.2⟩,hS1.2⟩ | (refine biS_store ?_ _ _ _ _ _ _ _ _;with_reducible assumption))
  (first
   | (go_at_call 121;with_reducible refine (HT1.out _ ?_).mono ?_;with_reducible assumption;rintro e w5 ⟨A5,n5,c5,k5,rfl,hq5,hb5,hS5⟩)
   | (go_at_call 121;with_reducible refine (HT2.out _ ?_).mono ?_;with_reducible assumption;rintro e w6 ⟨A6,n6,c6,k6,rfl,hq6,hb6,hS6⟩;have hq5b := hq5.below hb6)
   | (go_at_call 53;with_reducible refine (HL.out _ _ _ ?_ ?_ ?_).mono ?_;with_reducible assumption;with_reducible assumption;with_reducible assumption;rintro e w7 ⟨A7,n7,c7,k7,A8,n8,c8,k8,rfl,hq7,hq8,hS7⟩;obtain ⟨⟨q0,y0⟩,⟨q1,y1⟩,⟨q2,y2⟩,⟨q3,y3⟩,y4,y5,y6,y7⟩ := hS7.1.2.facts))
 go_wp2_with fail
 exact bodyPost_ret (v := .agg #[.slice A7 n7 c7,.bool k7,.slice A8 n8 c8,.bool k8]) (by simp [results,Tryz.results77,go_sem,y0,y1,y2,y3]) rfl ⟨_,rfl,RaV.fin hS7.1.2 hq7 hq8,below_set4 hS7.1.1 (by omega)⟩
set_option maxRecDepth 100000 in
set_option maxHeartbeats 2000000 in
theorem raover_any (v1 v2 : Value) (x y : Rat) (K L : Nat) (w : World) (h1 : RaV w v1 x) (h2 : RaV w v2 y) (hx : Fz x K) (hy : Fz y L) (hK : K + L + 4 ≤ maxW) (hy0 : y ≠ 0) :
 Calls Tryz.prog 78 #[v1,v2] w fun e w' => ∃ v,e = .returned v ∧ RaV w' v (x / y) ∧ Below w.heap.size w w' := by
 obtain ⟨A1,n1,c1,k1,A2,n2,c2,k2,rfl,hv1,hv2⟩ := h1.open
 obtain ⟨A3,n3,c3,k3,A4,n4,c4,k4,rfl,hv3,hv4⟩ := h2.open
 have HT1 : Hid (∀ W,BiS w A1 n1 c1 k1 A2 n2 c2 k2 A3 n3 c3 k3 A4 n4 c4 k4 W → Calls Tryz.prog 121 #[.agg #[.slice A1 n1 c1,.bool k1],.agg #[.slice A4 n4 c4,.bool k4]] W fun e w' => ∃ (A : Option Addr) (n c : Nat) (k : Bool),e = .returned (.agg #[.slice A n c,.bool k]) ∧ SgV w' (.agg #[.slice A n c,.bool k]) (x.num * (y.den : Int)) ∧ Below W.heap.size W w' ∧ BiS w A1 n1 c1 k1 A2 n2 c2 k2 A3 n3 c3 k3 A4 n4 c4 k4 w') := Lib.hid (fun W hS => by
  refine (times_any _ _ x.num (y.den : Int) W (hv1.below hS.1.1) (hv4.below hS.1.1) (Nat.le_trans hx.1 (by omega)) (Nat.le_trans (fz_den hy) (by omega))).mono ?_
  rintro e w' ⟨v,he,hv,hb⟩
  obtain ⟨A,n,c,k,rfl⟩ := hv.open
  exact ⟨A,n,c,k,he,hv,hb,biS_step hS hb⟩)
 have HT2 : Hid (∀ W,BiS w A1 n1 c1 k1 A2 n2 c2 k2 A3 n3 c3 k3 A4 n4 c4 k4 W → Calls Tryz.prog 121 #[.agg #[.slice A2 n2 c2,.bool k2],.agg #[.slice A3 n3 c3,.bool k3]] W fun e w' => ∃ (A : Option Addr) (n c : Nat) (k : Bool),e = .returned (.agg #[.slice A n c,.bool k]) ∧ SgV w' (.agg #[.slice A n c,.bool k]) ((x.den : Int) * y.num) ∧ Below W.heap.size W w' ∧ BiS w A1 n1 c1 k1 A2 n2 c2 k2 A3 n3 c3 k3 A4 n4 c4 k4 w') := Lib.hid (fun W hS => by
  refine (times_any _ _ (x.den : Int) y.num W (hv2.below hS.1.1) (hv3.below hS.1.1) (Nat.le_trans (fz_den hx) (by omega)) (Nat.le_trans hy.1 (by omega))).mono ?_
  rintro e w' ⟨v,he,hv,hb⟩
  obtain ⟨A,n,c,k,rfl⟩ := hv.open
  exact ⟨A,n,c,k,he,hv,hb,biS_step hS hb⟩)
 have hne : (x.den : Int) * y.num ≠ 0 := Int.mul_ne_zero (by have := x.den_pos;omega) (fun h => hy0 (Rat.num_eq_zero.1 h))
 have HL : Hid (∀ W u v,SgV W u (x.num * (y.den : Int)) → SgV W v ((x.den : Int) * y.num) → BiS w A1 n1 c1 k1 A2 n2 c2 k2 A3 n3 c3 k3 A4 n4 c4 k4 W → Calls Tryz.prog 53 #[u,v] W fun e w' => ∃ (Ax : Option Addr) (nx cx : Nat) (kx : Bool) (Ay : Option Addr) (ny cy : Nat) (ky : Bool),e = .returned (.agg #[.slice Ax nx cx,.bool kx,.slice Ay ny cy,.bool ky]) ∧ SgV w' (.agg #[.slice Ax nx cx,.bool kx]) (x / y).num ∧ SgV w' (.agg #[.slice Ay ny cy,.bool ky]) ((x / y).den : Int) ∧ BiS w A1 n1 c1 k1 A2 n2 c2 k2 A3 n3 c3 k3 A4 n4 c4 k4 w') := Lib.hid (fun W u v hu hv hS => by
  refine (lowest_any u v _ _ W hu hv (Nat.le_trans (Nat.add_le_add_right (wlen_mulZ _ _) 2) (by have a := hx.1;have b := (fz_den hy);omega)) (Nat.le_trans (Nat.add_le_add_right (wlen_mulZ _ _) 2) (by have a := (fz_den hx);have b := hy.1;omega)) (hne)).mono ?_
  rintro e w' ⟨r,he,⟨A,n,c,k,A',n',c',k',rfl,g1,g2⟩,hb⟩
  rw [over_divInt] at g1 g2
  exact ⟨A,n,c,k,A',n',c',k',he,g1,g2,biS_step hS hb⟩)
 have hS0 := biS_start w A1 n1 c1 k1 A2 n2 c2 k2 A3 n3 c3 k3 A4 n4 c4 k4
 have hrb := ra_built
 clear h1 h2 hx hy hK hv1 hv2 hv3 hv4 hne hy0
 go_enter Tryz.func78,Tryz.ntmps78
 go_wp2_with fail
 have hS1 := biS_drew hS0
 clear hS0
 go_region_held3 (fun W => (Below w.heap.size w W ∧ BoxR W (w.heap.size + 1 + 1)) ∧ W.cell? ⟨w.heap.size,0,none⟩ = some (.slice A1 n1 c1) ∧ W.cell? ⟨w.heap.size,1,none⟩ = some (.bool k1) ∧ W.cell? ⟨w.heap.size,2,none⟩ = some (.slice A2 n2 c2) ∧ W.cell? ⟨w.heap.size,3,none⟩ = some (.bool k2) ∧ W.cell? ⟨w.heap.size + 1,0,none⟩ = some (.slice A3 n3 c3) ∧ W.cell? ⟨w.heap.size + 1,1,none⟩ = some (.bool k3) ∧ W.cell? ⟨w.heap.size + 1,2,none⟩ = some (.slice A4 n4 c4) ∧ W.cell? ⟨w.heap.size + 1,3,none⟩ = some (.bool k4)) (first | with_reducible assumption | exact ⟨⟨hS1.1.1,hS1.1.2⟩,hS1.2⟩ | (refine biS_store ?_ _ _ _ _ _ _ _ _;with_reducible assumption))
  (first
   | (go_at_call 121;with_reducible refine (HT1.out _ ?_).mono ?_;with_reducible assumption;rintro e w5 ⟨A5,n5,c5,k5,rfl,hq5,hb5,hS5⟩)
   | (go_at_call 121;with_reducible refine (HT2.out _ ?_).mono ?_;with_reducible assumption;rintro e w6 ⟨A6,n6,c6,k6,rfl,hq6,hb6,hS6⟩;have hq5b := hq5.below hb6)
   | (go_at_call 53;with_reducible refine (HL.out _ _ _ ?_ ?_ ?_).mono ?_;with_reducible assumption;with_reducible assumption;with_reducible assumption;rintro e w7 ⟨A7,n7,c7,k7,A8,n8,c8,k8,rfl,hq7,hq8,hS7⟩;obtain ⟨⟨q0,y0⟩,⟨q1,y1⟩,⟨q2,y2⟩,⟨q3,y3⟩,y4,y5,y6,y7⟩ := hS7.1.2.facts))
 go_wp2_with fail
 exact bodyPost_ret (v := .agg #[.slice A7 n7 c7,.bool k7,.slice A8 n8 c8,.bool k8]) (by simp [results,Tryz.results78,go_sem,y0,y1,y2,y3]) rfl ⟨_,rfl,RaV.fin hS7.1.2 hq7 hq8,below_set4 hS7.1.1 (by omega)⟩
set_option maxRecDepth 100000 in
set_option maxHeartbeats 2000000 in
theorem raorder_any (v1 v2 : Value) (x y : Rat) (K L : Nat) (w : World) (h1 : RaV w v1 x) (h2 : RaV w v2 y) (hx : Fz x K) (hy : Fz y L) (hK : K + L + 4 ≤ maxW) :
 Calls Tryz.prog 70 #[v1,v2] w fun e w' => e = .returned (.int .i64 (cmpQ x y)) ∧ Below w.heap.size w w' := by
 obtain ⟨A1,n1,c1,k1,A2,n2,c2,k2,rfl,hv1,hv2⟩ := h1.open
 obtain ⟨A3,n3,c3,k3,A4,n4,c4,k4,rfl,hv3,hv4⟩ := h2.open
 have HT1 : Hid (∀ W,BjS w A1 n1 c1 k1 A2 n2 c2 k2 A3 n3 c3 k3 A4 n4 c4 k4 W → Calls Tryz.prog 121 #[.agg #[.slice A1 n1 c1,.bool k1],.agg #[.slice A4 n4 c4,.bool k4]] W fun e w' => ∃ (A : Option Addr) (n c : Nat) (k : Bool),e = .returned (.agg #[.slice A n c,.bool k]) ∧ SgV w' (.agg #[.slice A n c,.bool k]) (x.num * (y.den : Int)) ∧ Below W.heap.size W w' ∧ BjS w A1 n1 c1 k1 A2 n2 c2 k2 A3 n3 c3 k3 A4 n4 c4 k4 w') := Lib.hid (fun W hS => by
  refine (times_any _ _ x.num (y.den : Int) W (hv1.below hS.1) (hv4.below hS.1) (Nat.le_trans hx.1 (by omega)) (Nat.le_trans (fz_den hy) (by omega))).mono ?_
  rintro e w' ⟨v,he,hv,hb⟩
  obtain ⟨A,n,c,k,rfl⟩ := hv.open
  exact ⟨A,n,c,k,he,hv,hb,bjS_step hS hb⟩)
 have HT2 : Hid (∀ W,BjS w A1 n1 c1 k1 A2 n2 c2 k2 A3 n3 c3 k3 A4 n4 c4 k4 W → Calls Tryz.prog 121 #[.agg #[.slice A3 n3 c3,.bool k3],.agg #[.slice A2 n2 c2,.bool k2]] W fun e w' => ∃ (A : Option Addr) (n c : Nat) (k : Bool),e = .returned (.agg #[.slice A n c,.bool k]) ∧ SgV w' (.agg #[.slice A n c,.bool k]) (y.num * (x.den : Int)) ∧ Below W.heap.size W w' ∧ BjS w A1 n1 c1 k1 A2 n2 c2 k2 A3 n3 c3 k3 A4 n4 c4 k4 w') := Lib.hid (fun W hS => by
  refine (times_any _ _ y.num (x.den : Int) W (hv3.below hS.1) (hv2.below hS.1) (Nat.le_trans hy.1 (by omega)) (Nat.le_trans (fz_den hx) (by omega))).mono ?_
  rintro e w' ⟨v,he,hv,hb⟩
  obtain ⟨A,n,c,k,rfl⟩ := hv.open
  exact ⟨A,n,c,k,he,hv,hb,bjS_step hS hb⟩)
 have HL : Hid (∀ W u v,SgV W u (x.num * (y.den : Int)) → SgV W v (y.num * (x.den : Int)) → BjS w A1 n1 c1 k1 A2 n2 c2 k2 A3 n3 c3 k3 A4 n4 c4 k4 W → Calls Tryz.prog 122 #[u,v] W fun e w' => e = .returned (.int .i64 (cmpQ x y)) ∧ BjS w A1 n1 c1 k1 A2 n2 c2 k2 A3 n3 c3 k3 A4 n4 c4 k4 w') := Lib.hid (fun W u v hu hv hS => by
  refine (orderZ_any u v _ _ W hu hv (Nat.le_trans (wlen_mulZ _ _) (by have a := hx.1;have b := fz_den hy;omega)) (Nat.le_trans (wlen_mulZ _ _) (by have a := hy.1;have b := fz_den hx;omega))).mono ?_
  rintro e w' ⟨he,hb⟩
  exact ⟨he,bjS_step hS hb⟩)
 have hS0 := bjS_start w A1 n1 c1 k1 A2 n2 c2 k2 A3 n3 c3 k3 A4 n4 c4 k4
 obtain ⟨C,hC⟩ : ∃ C,C = cmpQ x y := ⟨_,rfl⟩
 rw [← hC] at HL ⊢
 clear h1 h2 hx hy hK hv1 hv2 hv3 hv4 hC
 go_enter Tryz.func70,Tryz.ntmps70
 go_wp2_with fail
 have hS1 := bjS_drew hS0
 clear hS0
 go_region_held3 (fun W => (Below w.heap.size w W) ∧ W.cell? ⟨w.heap.size,0,none⟩ = some (.slice A1 n1 c1) ∧ W.cell? ⟨w.heap.size,1,none⟩ = some (.bool k1) ∧ W.cell? ⟨w.heap.size,2,none⟩ = some (.slice A2 n2 c2) ∧ W.cell? ⟨w.heap.size,3,none⟩ = some (.bool k2) ∧ W.cell? ⟨w.heap.size + 1,0,none⟩ = some (.slice A3 n3 c3) ∧ W.cell? ⟨w.heap.size + 1,1,none⟩ = some (.bool k3) ∧ W.cell? ⟨w.heap.size + 1,2,none⟩ = some (.slice A4 n4 c4) ∧ W.cell? ⟨w.heap.size + 1,3,none⟩ = some (.bool k4)) (first | with_reducible assumption | exact ⟨hS1.1,hS1.2⟩)
  (first
   | (go_at_call 121;with_reducible refine (HT1.out _ ?_).mono ?_;with_reducible assumption;rintro e w5 ⟨A5,n5,c5,k5,rfl,hq5,hb5,hS5⟩)
   | (go_at_call 121;with_reducible refine (HT2.out _ ?_).mono ?_;with_reducible assumption;rintro e w6 ⟨A6,n6,c6,k6,rfl,hq6,hb6,hS6⟩;have hq5b := hq5.below hb6)
   | (go_at_call 122;with_reducible refine (HL.out _ _ _ ?_ ?_ ?_).mono ?_;with_reducible assumption;with_reducible assumption;with_reducible assumption;rintro e w7 ⟨rfl,hS7⟩))
 have hbel := hS7.1
 go_wp2_with fail
 go_ret
 exact ⟨rfl,hbel⟩
end Go.Proofs.YtlfgpmnjnpdkdaaGreatDoor
namespace Go.Proofs.YtlfgpmnjnpdkdaaGreatDoor
open Go.RowKit Vd
attribute [local go_sem ↓] Go.wp_at_zero Go.wp_at_succ
abbrev UnS (w : World) (A1 : Option Addr) (n1 c1 : Nat) (k1 : Bool) (A2 : Option Addr) (n2 c2 : Nat) (k2 : Bool) (W : World) : Prop := (Below w.heap.size w W ∧ BoxR W (w.heap.size + 1)) ∧ W.cell? ⟨w.heap.size,0,none⟩ = some (.slice A1 n1 c1) ∧ W.cell? ⟨w.heap.size,1,none⟩ = some (.bool k1) ∧ W.cell? ⟨w.heap.size,2,none⟩ = some (.slice A2 n2 c2) ∧ W.cell? ⟨w.heap.size,3,none⟩ = some (.bool k2)
theorem unS_step {w : World} {A1 : Option Addr} {n1 c1 : Nat} {k1 : Bool} {A2 : Option Addr} {n2 c2 : Nat} {k2 : Bool} {W W' : World} (h : UnS w A1 n1 c1 k1 A2 n2 c2 k2 W) (hb : Below W.heap.size W W') : UnS w A1 n1 c1 k1 A2 n2 c2 k2 W' := by
 obtain ⟨⟨hb0,hB⟩,e0,e1,e2,e3⟩ := h
 exact ⟨⟨belowt hb0 hb0.size hb,hB.call hb⟩,keepc hb e0,keepc hb e1,keepc hb e2,keepc hb e3⟩
theorem unS_drew {w : World} {A1 : Option Addr} {n1 c1 : Nat} {k1 : Bool} {A2 : Option Addr} {n2 c2 : Nat} {k2 : Bool} {W : World} (h : UnS w A1 n1 c1 k1 A2 n2 c2 k2 W) : UnS w A1 n1 c1 k1 A2 n2 c2 k2 W.drew := by
 obtain ⟨⟨hb0,hB⟩,e0,e1,e2,e3⟩ := h
 exact ⟨⟨hb0.drew,hB⟩,e0,e1,e2,e3⟩
theorem unS_store {w : World} {A1 : Option Addr} {n1 c1 : Nat} {k1 : Bool} {A2 : Option Addr} {n2 c2 : Nat} {k2 : Bool} {W : World} (h : UnS w A1 n1 c1 k1 A2 n2 c2 k2 W) (Ax : Option Addr) (nx cx : Nat) (kx : Bool) (Ay : Option Addr) (ny cy : Nat) (ky : Bool) : UnS w A1 n1 c1 k1 A2 n2 c2 k2 (sto4 W (w.heap.size + 1) (.slice Ax nx cx) (.bool kx) (.slice Ay ny cy) (.bool ky)) := by
 obtain ⟨⟨hb0,hB⟩,e0,e1,e2,e3⟩ := h
 exact ⟨⟨below_set4 hb0 (by omega),hB.set4 _ _ _ _ _ _ _ _⟩,(cell_set4 (by omega)).trans e0,(cell_set4 (by omega)).trans e1,(cell_set4 (by omega)).trans e2,(cell_set4 (by omega)).trans e3⟩
theorem unS_start (w : World) (A1 : Option Addr) (n1 c1 : Nat) (k1 : Bool) (A2 : Option Addr) (n2 c2 : Nat) (k2 : Bool) : UnS w A1 n1 c1 k1 A2 n2 c2 k2 ((w.alloc (.cells #[.slice A1 n1 c1,.bool k1,.slice A2 n2 c2,.bool k2] 82)).alloc (.cells #[.slice none 0 0,.bool false,.slice none 0 0,.bool false] 82)) := by
 have r0 : Fr ((w.alloc (.cells #[.slice A1 n1 c1,.bool k1,.slice A2 n2 c2,.bool k2] 82)).alloc (.cells #[.slice none 0 0,.bool false,.slice none 0 0,.bool false] 82)) w.heap.size #[.slice A1 n1 c1,.bool k1,.slice A2 n2 c2,.bool k2] 82 := (Fr.new rfl).old
 obtain ⟨a0,a1,a2,a3,_⟩ := r0.cells4
 exact ⟨⟨((Below.refl _ _).alloc (Nat.le_refl _) _).alloc (by simp) _,Fr.boxR (Fr.new (by simp))⟩,a0,a1,a2,a3⟩
set_option maxRecDepth 100000 in
set_option maxHeartbeats 2000000 in
theorem raneg_any (v1 : Value) (x : Rat) (w : World) (h1 : RaV w v1 x) :
 Calls Tryz.prog 84 #[v1] w fun e w' => ∃ v,e = .returned v ∧ RaV w' v (-x) ∧ Below w.heap.size w w' := by
 obtain ⟨A1,n1,c1,k1,A2,n2,c2,k2,rfl,hv1,hv2⟩ := h1.open
 have HN : Hid (∀ W,UnS w A1 n1 c1 k1 A2 n2 c2 k2 W → Calls Tryz.prog 107 #[.agg #[.slice A1 n1 c1,.bool k1]] W fun e w' => ∃ (A : Option Addr) (n c : Nat) (k : Bool),e = .returned (.agg #[.slice A n c,.bool k]) ∧ SgV w' (.agg #[.slice A n c,.bool k]) (-x.num) ∧ Below W.heap.size W w' ∧ UnS w A1 n1 c1 k1 A2 n2 c2 k2 w') := Lib.hid (fun W hS => by
  refine (negative_any _ _ W (hv1.below hS.1.1)).mono ?_
  rintro e w' ⟨v,he,hv,hb⟩
  obtain ⟨A,n,c,k,rfl⟩ := hv.open
  exact ⟨A,n,c,k,he,hv,hb,unS_step hS hb⟩)
 have hS0 := unS_start w A1 n1 c1 k1 A2 n2 c2 k2
 have hrb := ra_built
 have HV := Lib.hid hv2
 clear h1 hv1 hv2
 go_enter Tryz.func84,Tryz.ntmps84
 go_wp2_with fail
 have hS1 := unS_drew hS0
 clear hS0
 go_region_held3 (fun W => (Below w.heap.size w W ∧ BoxR W (w.heap.size + 1)) ∧ W.cell? ⟨w.heap.size,0,none⟩ = some (.slice A1 n1 c1) ∧ W.cell? ⟨w.heap.size,1,none⟩ = some (.bool k1) ∧ W.cell? ⟨w.heap.size,2,none⟩ = some (.slice A2 n2 c2) ∧ W.cell? ⟨w.heap.size,3,none⟩ = some (.bool k2)) (first | with_reducible assumption | exact ⟨⟨hS1.1.1,hS1.1.2⟩,hS1.2⟩ | (refine unS_store ?_ _ _ _ _ _ _ _ _;with_reducible assumption))
  (first
   | (go_at_call 107;with_reducible refine (HN.out _ ?_).mono ?_;with_reducible assumption;rintro e w5 ⟨A5,n5,c5,k5,rfl,hq5,hb5,hS5⟩;obtain ⟨⟨q0,y0⟩,⟨q1,y1⟩,⟨q2,y2⟩,⟨q3,y3⟩,y4,y5,y6,y7⟩ := hS5.1.2.facts))
 go_wp2_with fail
 exact bodyPost_ret (v := .agg #[.slice A5 n5 c5,.bool k5,.slice A2 n2 c2,.bool k2]) (by simp [results,Tryz.results84,go_sem,y0,y1,y2,y3]) rfl ⟨_,rfl,RaV.fin (q := -x) hS5.1.2 hq5 (HV.out.below hS5.1.1),below_set4 hS5.1.1 (by omega)⟩
set_option maxRecDepth 100000 in
set_option maxHeartbeats 2000000 in
theorem rapow_any (v1 : Value) (x : Rat) (n K : Nat) (w : World) (h1 : RaV w v1 x) (hx : Fz x K) (hn : n ≤ 1000000) (hK : n * K + 1 ≤ maxW) (hK2 : K ≤ maxW) :
 Calls Tryz.prog 103 #[v1,.int .i64 (n : Int)] w fun e w' => ∃ v,e = .returned v ∧ RaV w' v (x ^ n) ∧ Below w.heap.size w w' := by
 obtain ⟨A1,n1,c1,k1,A2,n2,c2,k2,rfl,hv1,hv2⟩ := h1.open
 have HP1 : Hid (∀ W,UnS w A1 n1 c1 k1 A2 n2 c2 k2 W → Calls Tryz.prog 132 #[.agg #[.slice A1 n1 c1,.bool k1],.int .i64 (n : Int)] W fun e w' => ∃ (A : Option Addr) (l c : Nat) (k : Bool),e = .returned (.agg #[.slice A l c,.bool k]) ∧ SgV w' (.agg #[.slice A l c,.bool k]) (x.num ^ n) ∧ Below W.heap.size W w' ∧ UnS w A1 n1 c1 k1 A2 n2 c2 k2 w') := Lib.hid (fun W hS => by
  refine (toPower_any _ _ n W (hv1.below hS.1.1) (Nat.le_trans hx.1 hK2) (Nat.le_trans (Nat.add_le_add_right (Nat.mul_le_mul_left n hx.1) 1) hK) hn).mono ?_
  rintro e w' ⟨v,he,hv,hb⟩
  obtain ⟨A,l,c,k,rfl⟩ := hv.open
  exact ⟨A,l,c,k,he,hv,hb,unS_step hS hb⟩)
 have HP2 : Hid (∀ W,UnS w A1 n1 c1 k1 A2 n2 c2 k2 W → Calls Tryz.prog 132 #[.agg #[.slice A2 n2 c2,.bool k2],.int .i64 (n : Int)] W fun e w' => ∃ (A : Option Addr) (l c : Nat) (k : Bool),e = .returned (.agg #[.slice A l c,.bool k]) ∧ SgV w' (.agg #[.slice A l c,.bool k]) ((x.den : Int) ^ n) ∧ Below W.heap.size W w' ∧ UnS w A1 n1 c1 k1 A2 n2 c2 k2 w') := Lib.hid (fun W hS => by
  refine (toPower_any _ _ n W (hv2.below hS.1.1) (Nat.le_trans (fz_den hx) hK2) (Nat.le_trans (Nat.add_le_add_right (Nat.mul_le_mul_left n (fz_den hx)) 1) hK) hn).mono ?_
  rintro e w' ⟨v,he,hv,hb⟩
  obtain ⟨A,l,c,k,rfl⟩ := hv.open
  exact ⟨A,l,c,k,he,hv,hb,unS_step hS hb⟩)
 have hS0 := unS_start w A1 n1 c1 k1 A2 n2 c2 k2
 have hrb := ra_built
 obtain ⟨N,hN⟩ : ∃ N : Int,N = (n : Int) := ⟨_,rfl⟩
 simp only [← hN] at HP1 HP2 ⊢
 clear h1 hv1 hv2 hx hn hK hK2 hN
 go_enter Tryz.func103,Tryz.ntmps103
 go_wp2_with fail
 have hS1 := unS_drew hS0
 clear hS0
 go_region_held3 (fun W => (Below w.heap.size w W ∧ BoxR W (w.heap.size + 1)) ∧ W.cell? ⟨w.heap.size,0,none⟩ = some (.slice A1 n1 c1) ∧ W.cell? ⟨w.heap.size,1,none⟩ = some (.bool k1) ∧ W.cell? ⟨w.heap.size,2,none⟩ = some (.slice A2 n2 c2) ∧ W.cell? ⟨w.heap.size,3,none⟩ = some (.bool k2)) (first | with_reducible assumption | exact ⟨⟨hS1.1.1,hS1.1.2⟩,hS1.2⟩ | (refine unS_store ?_ _ _ _ _ _ _ _ _;with_reducible assumption))
  (first
   | (go_at_call 132;with_reducible refine (HP1.out _ ?_).mono ?_;with_reducible assumption;rintro e w5 ⟨A5,n5,c5,k5,rfl,hq5,hb5,hS5⟩)
   | (go_at_call 132;with_reducible refine (HP2.out _ ?_).mono ?_;with_reducible assumption;rintro e w6 ⟨A6,n6,c6,k6,rfl,hq6,hb6,hS6⟩;obtain ⟨⟨q0,y0⟩,⟨q1,y1⟩,⟨q2,y2⟩,⟨q3,y3⟩,y4,y5,y6,y7⟩ := hS6.1.2.facts))
 go_wp2_with fail
 have hd : ((x ^ n : Rat).den : Int) = (x.den : Int) ^ n := by rw [Rat.den_pow];exact Int.natCast_pow _ _
 exact bodyPost_ret (v := .agg #[.slice A5 n5 c5,.bool k5,.slice A6 n6 c6,.bool k6]) (by simp [results,Tryz.results103,go_sem,y0,y1,y2,y3]) rfl ⟨_,rfl,RaV.fin (q := x ^ n) hS6.1.2 (hq5.below hb6) (by rw [hd];exact hq6),below_set4 hS6.1.1 (by omega)⟩
theorem rat_abs_neg {x : Rat} (h : x.num < 0) : -x = mkRat (x.num.natAbs : Int) x.den := by
 refine Rat.ext ?_ ?_
 · rw [(mkRat_coprime x.den_pos (by simpa using x.reduced)).1];show -x.num = _;omega
 · rw [(mkRat_coprime x.den_pos (by simpa using x.reduced)).2];rfl
theorem rat_abs_pos {x : Rat} (h : ¬ x.num < 0) : x = mkRat (x.num.natAbs : Int) x.den := by
 refine Rat.ext ?_ ?_
 · rw [(mkRat_coprime x.den_pos (by simpa using x.reduced)).1];omega
 · rw [(mkRat_coprime x.den_pos (by simpa using x.reduced)).2]
set_option maxRecDepth 100000 in
set_option maxHeartbeats 2000000 in
theorem raabs_any (v1 : Value) (x : Rat) (w : World) (h1 : RaV w v1 x) :
 Calls Tryz.prog 86 #[v1] w fun e w' => ∃ v,e = .returned v ∧ RaV w' v (mkRat (x.num.natAbs : Int) x.den) ∧ Below w.heap.size w w' := by
 obtain ⟨A1,n1,c1,k1,A2,n2,c2,k2,rfl,hv1,hv2⟩ := h1.open
 have hS0 := unS_start w A1 n1 c1 k1 A2 n2 c2 k2
 have hk := Lib.hid hv1.neg
 have hN := raneg_any (.agg #[.slice A1 n1 c1,.bool k1,.slice A2 n2 c2,.bool k2]) x ((w.alloc (.cells #[.slice A1 n1 c1,.bool k1,.slice A2 n2 c2,.bool k2] 82)).alloc (.cells #[.slice none 0 0,.bool false,.slice none 0 0,.bool false] 82)) (h1.below hS0.1.1)
 have HV := Lib.hid (And.intro hv1 hv2)
 by_cases hx : x.num < 0
 · obtain rfl : k1 = true := by rw [hk.out];simpa using hx
   rw [rat_abs_neg hx] at hN
   clear h1 hv1 hv2 hk hx HV
   go_enter Tryz.func86,Tryz.ntmps86
   go_wp2_with fail
   refine hN.mono ?_
   rintro e w5 ⟨v5,rfl,hq5,hb5⟩
   obtain ⟨A5,n5,c5,k5,A6,n6,c6,k6,rfl,hv5,hv6⟩ := hq5.open
   have hS5 := unS_step hS0 hb5
   obtain ⟨⟨q0,y0⟩,⟨q1,y1⟩,⟨q2,y2⟩,⟨q3,y3⟩,y4,y5,y6,y7⟩ := hS5.1.2.facts
   clear hN hS0 hb5
   go_wp2_with fail
   exact bodyPost_ret (v := .agg #[.slice A5 n5 c5,.bool k5,.slice A6 n6 c6,.bool k6]) (by simp [results,Tryz.results86,go_sem,y0,y1,y2,y3]) rfl ⟨_,rfl,RaV.fin hS5.1.2 hv5 hv6,below_set4 hS5.1.1 (by omega)⟩
 · obtain rfl : k1 = false := by rw [hk.out];simpa using hx
   have hE := Lib.hid (rat_abs_pos hx)
   clear h1 hv1 hv2 hk hx hN
   go_enter Tryz.func86,Tryz.ntmps86
   go_wp2_with fail
   have hS5 := hS0
   exact bodyPost_ret (v := .agg #[.slice A1 n1 c1,.bool false,.slice A2 n2 c2,.bool k2]) (by simp [results,Tryz.results86,go_sem]) rfl ⟨_,rfl,by
    rw [← hE.out]
    refine RaV.below (w := w) ⟨_,_,_,_,_,_,_,_,rfl,HV.out.1,HV.out.2⟩ ?_
    first | exact ((Below.refl _ _).alloc (Nat.le_refl _) _).alloc (by simp) _ | exact below_set4 hS5.1.1 (by omega),by first | exact ((Below.refl _ _).alloc (Nat.le_refl _) _).alloc (by simp) _ | exact below_set4 hS5.1.1 (by omega)⟩
end Go.Proofs.YtlfgpmnjnpdkdaaGreatDoor
