/- Contracts of the reference: Out. Contract of the reference: the number of a draft. -/
import Derived.Test.YtlfgpmnjnpdkdaaGreatDoorRefA
import Derived.Test.YtlfgpmnjnpdkdaaGreatDoorWhoA
namespace Go.Proofs.YtlfgpmnjnpdkdaaGreatDoor
open Go.RowKit Vd
theorem B4_pow (k : Nat) : B4 ^ k = 10 ^ (4 * k) := by rw [Nat.pow_mul];rfl
theorem dlen_of_wlen4 {n k : Nat} (h : wlen B4 n ≤ k) : dlen n ≤ 4 * k + 1 := by
 rw [dlen_le_iff _ _ (by omega)]
 refine Nat.lt_of_lt_of_le (lt_pow_wlen two_le_B4 n) ?_
 rw [B4_pow]
 exact Nat.pow_le_pow_right (by omega) (by omega)
set_option maxRecDepth 100000 in
set_option maxHeartbeats 1000000 in
theorem out4_any (v : Value) (z : Int) (w : World) (h : PlV w v z) (hb : wlen B4 z.natAbs ≤ 1000000) :
 Calls Tryz.prog 110 #[v] w fun e w' => e = .returned (outV z) ∧ Below w.heap.size w w' := by
 have htx := fun W (hbl : Below w.heap.size w W) => text4_any v z W (h.below hbl) hb
 obtain ⟨m,rfl,A,c,rfl,hlc,hc,hsl⟩ := h
 obtain ⟨b,hbz⟩ : ∃ b,b = decide (z < 0) := ⟨_,rfl⟩
 rw [← hbz] at htx ⊢
 have hbW : Below w.heap.size w (w.alloc (.cells #[.bool b,.slice A (wlen B4 z.natAbs) c] 88)) := (Below.refl _ _).alloc (Nat.le_refl _) _
 have htx := htx _ hbW
 have hlen : (wr z).length = if b then dlen z.natAbs + 1 else dlen z.natAbs := by
  unfold wr
  rw [hbz]
  by_cases hz : z < 0
  · simp [hz,digs_length]
  · simp [hz,digs_length]
 have hsm := small_iff z
 have hdl := dlen_of_wlen4 hb
 obtain ⟨L,hL⟩ : ∃ L,L = wlen B4 z.natAbs := ⟨_,rfl⟩
 obtain ⟨D,hD⟩ : ∃ D,D = dlen z.natAbs := ⟨_,rfl⟩
 obtain ⟨t,ht⟩ : ∃ t,t = wr z := ⟨_,rfl⟩
 rw [← hL] at htx hbW ⊢
 rw [← hD] at hlen hsm hdl
 rw [← ht] at htx hlen
 have HB := Lib.hid (And.intro hbW hlen)
 by_cases hs : small z
 · have hD6 := hsm.1 hs
   have HE : Hid (outV z = .tuple #[.string ⟨t.toArray⟩,.int .i64 0]) := Lib.hid (by unfold outV;rw [if_pos hs,ht])
   clear hs hsm hL hD ht hsl hlc hc hb hbW hbz
   cases b
   · rw [if_neg (by simp)] at hlen
     have k1 : ¬ (600 : Int) < (t.length : Int) := by omega
     have k2 : ¬ 600 < t.length := by omega
     clear hlen hD6 hdl
     go_enter Tryz.func110,Tryz.ntmps110
     go_wp2_with fail
     refine htx.mono ?_
     rintro e w1 ⟨rfl,hb1⟩
     have hd0 : w1.cell? ⟨w.heap.size,0,none⟩ = some (.bool false) := by rw [hb1.cell (by simp)];simp [go_sem]
     have HB1 := Lib.hid (HB.out.1.trans (hb1.mono HB.out.1.size))
     clear hb1 htx
     go_wp2_with fail
     go_ret2
     exact ⟨by rw [HE.out];rfl,HB1.out⟩
   · rw [if_pos rfl] at hlen
     have k1 : IntKind.i64.wrap ((t.length : Int) - 1) = (t.length : Int) - 1 := by rw [IntKind.wrap_i64];omega
     have k2 : ¬ (600 : Int) < (t.length : Int) - 1 := by omega
     have k3 : (0 : Int) ≤ (t.length : Int) := by omega
     have k4 : (t.length : Int) ≤ 5000000 := by omega
     clear hlen hD6 hdl
     go_enter Tryz.func110,Tryz.ntmps110
     go_wp2_with fail
     refine htx.mono ?_
     rintro e w1 ⟨rfl,hb1⟩
     have hd0 : w1.cell? ⟨w.heap.size,0,none⟩ = some (.bool true) := by rw [hb1.cell (by simp)];simp [go_sem]
     have HB1 := Lib.hid (HB.out.1.trans (hb1.mono HB.out.1.size))
     clear hb1 htx
     go_wp2_with fail
     go_ret2
     exact ⟨by rw [HE.out];rfl,HB1.out⟩
 · have hD6 : ¬ D ≤ 600 := fun e => hs (hsm.2 e)
   have HE : Hid (outV z = .tuple #[.string ⟨#[]⟩,.int .i64 6]) := Lib.hid (by unfold outV;rw [if_neg hs])
   clear hs hsm hL hD ht hsl hlc hc hb hbW hbz
   cases b
   · rw [if_neg (by simp)] at hlen
     have k1 : (600 : Int) < (t.length : Int) := by omega
     have k2 : 600 < t.length := by omega
     clear hlen hD6 hdl
     go_enter Tryz.func110,Tryz.ntmps110
     go_wp2_with fail
     refine htx.mono ?_
     rintro e w1 ⟨rfl,hb1⟩
     have hd0 : w1.cell? ⟨w.heap.size,0,none⟩ = some (.bool false) := by rw [hb1.cell (by simp)];simp [go_sem]
     have HB1 := Lib.hid (HB.out.1.trans (hb1.mono HB.out.1.size))
     clear hb1 htx
     go_wp2_with fail
     go_ret2
     exact ⟨by rw [HE.out];rfl,HB1.out⟩
   · rw [if_pos rfl] at hlen
     have k1 : IntKind.i64.wrap ((t.length : Int) - 1) = (t.length : Int) - 1 := by rw [IntKind.wrap_i64];omega
     have k2 : (600 : Int) < (t.length : Int) - 1 := by omega
     have k3 : (0 : Int) ≤ (t.length : Int) := by omega
     have k4 : (t.length : Int) ≤ 5000000 := by omega
     clear hlen hD6 hdl
     go_enter Tryz.func110,Tryz.ntmps110
     go_wp2_with fail
     refine htx.mono ?_
     rintro e w1 ⟨rfl,hb1⟩
     have hd0 : w1.cell? ⟨w.heap.size,0,none⟩ = some (.bool true) := by rw [hb1.cell (by simp)];simp [go_sem]
     have HB1 := Lib.hid (HB.out.1.trans (hb1.mono HB.out.1.size))
     clear hb1 htx
     go_wp2_with fail
     go_ret2
     exact ⟨by rw [HE.out];rfl,HB1.out⟩
end Go.Proofs.YtlfgpmnjnpdkdaaGreatDoor
namespace Go.Proofs.YtlfgpmnjnpdkdaaGreatDoor
open Go.RowKit Vd
attribute [local go_sem ↓] Go.wp_at_zero Go.wp_at_succ
def U16 (x : Nat) : Value := .int .u16 (x : Int)
theorem BoxP.setEq {W : World} {b : Nat} (h : BoxP W b) (A : Option Addr) (n c : Nat) (k : Bool) : ((W.setCell ⟨b,0,none⟩ (.bool k)).setCell ⟨b,1,none⟩ (.slice A n c)).heap[b]? = some (.cells #[.bool k,.slice A n c] 88 (0,0)) := by
 obtain ⟨A',n',c',k',h⟩ := h
 simp [World.setCell,Array.getElem?_modify,h]
abbrev DrS (W0 : World) (h g : Nat) (p : Addr) (b s z x : Value) (W : World) : Prop :=
 (BoxP W g ∧ Below W0.heap.size W0 W) ∧ W.cell? ⟨h,0,none⟩ = some b ∧ W.cell? ⟨h,1,none⟩ = some s ∧ W.cell? ⟨h,2,none⟩ = some z ∧ W.cell? p = some x
def DrT (wr : World) (g : Nat) (k : Bool) (s : Value) (W : World) : Prop := Below wr.heap.size wr W ∧ W.cell? ⟨g,0,none⟩ = some (.bool k) ∧ W.cell? ⟨g,1,none⟩ = some s
theorem drs_step {W0 W w1 : World} {h g : Nat} {p : Addr} {b s z x : Value} (hS : DrS W0 h g p b s z x W) (hb : Below W.heap.size W w1) : DrS W0 h g p b s z x w1 := by
 refine ⟨⟨hS.1.1.below hb hS.1.1.lt,hS.1.2.trans (hb.mono hS.1.2.size)⟩,?_,?_,?_,?_⟩
 · rw [hb.cell (World.block_lt_of_cell? W _ hS.2.1)];exact hS.2.1
 · rw [hb.cell (World.block_lt_of_cell? W _ hS.2.2.1)];exact hS.2.2.1
 · rw [hb.cell (World.block_lt_of_cell? W _ hS.2.2.2.1)];exact hS.2.2.2.1
 · rw [hb.cell (World.block_lt_of_cell? W _ hS.2.2.2.2)];exact hS.2.2.2.2
theorem drt_step {wr W w1 : World} {g : Nat} {k : Bool} {s : Value} (hT : DrT wr g k s W) (hb : Below W.heap.size W w1) : DrT wr g k s w1 := by
 refine ⟨hT.1.trans (hb.mono hT.1.size),?_,?_⟩
 · rw [hb.cell (World.block_lt_of_cell? W _ hT.2.1)];exact hT.2.1
 · rw [hb.cell (World.block_lt_of_cell? W _ hT.2.2)];exact hT.2.2
theorem drs_store {W0 W : World} {h g : Nat} {p : Addr} {b s z x : Value} (hS : DrS W0 h g p b s z x W) (hg : W0.heap.size ≤ g) (hh : h ≠ g) (hp : p.block ≠ g) (A : Option Addr) (n c : Nat) (k : Bool) :
 DrS W0 h g p b s z x ((W.setCell ⟨g,0,none⟩ (.bool k)).setCell ⟨g,1,none⟩ (.slice A n c)) := by
 have hc : ∀ q : Addr,q.block ≠ g → ((W.setCell ⟨g,0,none⟩ (.bool k)).setCell ⟨g,1,none⟩ (.slice A n c)).cell? q = W.cell? q := fun q hq => by
  rw [World.cell?_setCell_other _ _ _ _ (by intro e;rw [← e] at hq;exact hq rfl),World.cell?_setCell_other _ _ _ _ (by intro e;rw [← e] at hq;exact hq rfl)]
 refine ⟨⟨hS.1.1.set A n c k,(hS.1.2.setCell hg _).setCell hg _⟩,?_,?_,?_,?_⟩
 · rw [hc _ hh];exact hS.2.1
 · rw [hc _ hh];exact hS.2.2.1
 · rw [hc _ hh];exact hS.2.2.2.1
 · rw [hc _ hp];exact hS.2.2.2.2
structure DrR (w : World) (g : Nat) (b : Bool) (A0 : Option Addr) (n0 c0 z0 : Nat) (V : Nat) (W : World) (A : Option Addr) (l c : Nat) (k : Bool) : Prop where
 blk : W.heap[g]? = some (.cells #[.bool k,.slice A l c] 88 (0,0))
 val : PlV W (.agg #[.bool k,.slice A l c]) (V : Int)
 f0 : W.cell? ⟨w.heap.size,0,none⟩ = some (.bool b)
 f1 : W.cell? ⟨w.heap.size,1,none⟩ = some (.slice A0 n0 c0)
 f2 : W.cell? ⟨w.heap.size,2,none⟩ = some (.int .u16 (z0 : Int))
 bel : Below w.heap.size w W
 ord : w.heap.size < g
theorem DrR.box {w : World} {g : Nat} {b : Bool} {A0 : Option Addr} {n0 c0 z0 V : Nat} {W : World} {A : Option Addr} {l c : Nat} {k : Bool} (h : DrR w g b A0 n0 c0 z0 V W A l c k) : BoxP W g := ⟨A,l,c,k,h.blk⟩
theorem DrR.t {w : World} {g : Nat} {b : Bool} {A0 : Option Addr} {n0 c0 z0 V : Nat} {W : World} {A : Option Addr} {l c : Nat} {k : Bool} (h : DrR w g b A0 n0 c0 z0 V W A l c k) : DrT W g k (.slice A l c) W.drew := by
 refine ⟨(Below.refl _ _).drew,?_,?_⟩
 · show W.cell? _ = _;rw [cell_of_row W g 0 _ _ (0,0) h.blk];rfl
 · show W.cell? _ = _;rw [cell_of_row W g 1 _ _ (0,0) h.blk];rfl
theorem DrR.s {w : World} {g : Nat} {b : Bool} {A0 : Option Addr} {n0 c0 z0 V : Nat} {W : World} {A : Option Addr} {l c : Nat} {k : Bool} (h : DrR w g b A0 n0 c0 z0 V W A l c k) {p : Addr} {x : Value} (hx : W.cell? p = some x) : DrS w w.heap.size g p (.bool b) (.slice A0 n0 c0) (.int .u16 (z0 : Int)) x W.drew :=
 ⟨⟨h.box,h.bel.drew⟩,h.f0,h.f1,h.f2,hx⟩
theorem DrR.next {w : World} {g : Nat} {b : Bool} {A0 : Option Addr} {n0 c0 z0 V V' : Nat} {W W2 : World} {A A' : Option Addr} {l c l' c' : Nat} {k k' : Bool} (h : DrR w g b A0 n0 c0 z0 V W A l c k) {p : Addr} {x : Value}
 (hS : DrS w w.heap.size g p (.bool b) (.slice A0 n0 c0) (.int .u16 (z0 : Int)) x W2) (hv : PlV W2 (.agg #[.bool k',.slice A' l' c']) (V' : Int)) :
 DrR w g b A0 n0 c0 z0 V' ((W2.setCell ⟨g,0,none⟩ (.bool k')).setCell ⟨g,1,none⟩ (.slice A' l' c')) A' l' c' k' := by
 have hord := h.ord
 refine ⟨hS.1.1.setEq _ _ _ _,hv.sets hS.1.1 _ _,?_,?_,?_,(hS.1.2.setCell (by simp;omega) _).setCell (by simp;omega) _,h.ord⟩
 · rw [World.cell?_setCell_other _ _ _ _ (by intro e;injection e with e;omega),World.cell?_setCell_other _ _ _ _ (by intro e;injection e with e;omega)];exact hS.2.1
 · rw [World.cell?_setCell_other _ _ _ _ (by intro e;injection e with e;omega),World.cell?_setCell_other _ _ _ _ (by intro e;injection e with e;omega)];exact hS.2.2.1
 · rw [World.cell?_setCell_other _ _ _ _ (by intro e;injection e with e;omega),World.cell?_setCell_other _ _ _ _ (by intro e;injection e with e;omega)];exact hS.2.2.2.1
theorem lt_wlen4 {v k : Nat} (h : v < 10 ^ (4 * k)) : wlen B4 v ≤ k := by
 rw [wlen_le_iff two_le_B4,B4_pow];exact h
theorem wlen4_1000 {v i : Nat} (h : v < 1000 ^ i) (hi : i ≤ 12) : wlen B4 v ≤ 50 := by
 refine lt_wlen4 (Nat.lt_of_lt_of_le h ?_)
 rw [show 1000 = 10 ^ 3 from rfl,← Nat.pow_mul]
 exact Nat.pow_le_pow_right (by omega) (by omega)
theorem wlen4_c : wlen B4 1000 ≤ 1000000000 := by
 have : wlen B4 1000 ≤ 1 := wlen_le_one two_le_B4 (by decide)
 omega
theorem draft_step {V i G : Nat} (h : V < 1000 ^ i) (hG : G < 1000) : V * 1000 + G < 1000 ^ (i + 1) := by
 rw [Nat.pow_succ];omega
abbrev DrE (W0 wr : World) (h g : Nat) (p : Addr) (b s z x : Value) (k : Bool) (s' : Value) (n : Nat) (W : World) (e : Ending) (w' : World) : Prop :=
 ∃ (A : Option Addr) (l c : Nat) (k1 : Bool),e = .returned (.agg #[.bool k1,.slice A l c]) ∧ PlV w' (.agg #[.bool k1,.slice A l c]) (n : Int) ∧ Below W.heap.size W w' ∧ DrS W0 h g p b s z x w' ∧ DrT wr g k s' w'
theorem dr_int {W0 wr : World} {h g : Nat} {p : Addr} {b s z x : Value} {k : Bool} {s' : Value} (n : Nat) (hn : n ≤ 1000000) (W : World) (hS : DrS W0 h g p b s z x W) (hT : DrT wr g k s' W) :
 Calls Tryz.prog 88 #[.int .i64 (n : Int)] W (DrE W0 wr h g p b s z x k s' n W) := by
 refine (integer_any n W (by omega)).mono ?_
 rintro e w' ⟨v,he,hv,hb⟩
 obtain ⟨A,l,c,k1,rfl⟩ := hv.open
 exact ⟨A,l,c,k1,he,hv,hb,drs_step hS hb,drt_step hT hb⟩
theorem dr_times {W0 wr : World} {h g : Nat} {p : Addr} {b s z x : Value} {k : Bool} {s' : Value} (m n : Nat) (hm : wlen B4 m ≤ 1000000000) (hn : wlen B4 n ≤ 1000000000) (W : World) (v1 v2 : Value) (h1 : PlV W v1 (m : Int)) (h2 : PlV W v2 (n : Int)) (hS : DrS W0 h g p b s z x W) (hT : DrT wr g k s' W) :
 Calls Tryz.prog 119 #[v1,v2] W (DrE W0 wr h g p b s z x k s' (m * n) W) := by
 refine (times4_any v1 v2 _ _ W h1 h2 (by rw [Int.natAbs_natCast];exact hm) (by rw [Int.natAbs_natCast];exact hn)).mono ?_
 rintro e w' ⟨v,he,hv,hb⟩
 obtain ⟨A,l,c,k1,rfl⟩ := hv.open
 rw [← Int.natCast_mul] at hv
 exact ⟨A,l,c,k1,he,hv,hb,drs_step hS hb,drt_step hT hb⟩
theorem dr_plus {W0 wr : World} {h g : Nat} {p : Addr} {b s z x : Value} {k : Bool} {s' : Value} (m n : Nat) (hm : wlen B4 m ≤ 1000000000) (hn : wlen B4 n ≤ 1000000000) (W : World) (v1 v2 : Value) (h1 : PlV W v1 (m : Int)) (h2 : PlV W v2 (n : Int)) (hS : DrS W0 h g p b s z x W) (hT : DrT wr g k s' W) :
 Calls Tryz.prog 124 #[v1,v2] W (DrE W0 wr h g p b s z x k s' (m + n) W) := by
 refine (plus4_nat v1 v2 m n W h1 h2 hm hn).mono ?_
 rintro e w' ⟨v,he,hv,hb⟩
 obtain ⟨A,l,c,k1,rfl⟩ := hv.open
 exact ⟨A,l,c,k1,he,hv,hb,drs_step hS hb,drt_step hT hb⟩
theorem dr_raised {W0 wr : World} {h g : Nat} {p : Addr} {b s z x : Value} {k : Bool} {s' : Value} (m n : Nat) (hm : wlen B4 m ≤ 100) (hn : n ≤ 1000) (W : World) (v1 : Value) (h1 : PlV W v1 (m : Int)) (hS : DrS W0 h g p b s z x W) (hT : DrT wr g k s' W) :
 Calls Tryz.prog 125 #[v1,.int .i64 (n : Int)] W (DrE W0 wr h g p b s z x k s' (m ^ n) W) := by
 refine (raised4_any v1 m n W h1 hm hn).mono ?_
 rintro e w' ⟨v,he,hv,hb⟩
 obtain ⟨A,l,c,k1,rfl⟩ := hv.open
 exact ⟨A,l,c,k1,he,hv,hb,drs_step hS hb,drt_step hT hb⟩
theorem PlV.digL {w : World} {A : Option Addr} {l c V : Nat} {k : Bool} (h : PlV w (.agg #[.bool k,.slice A l c]) (V : Int)) : DigL w (.slice A l c) V := by
 obtain ⟨m,e,hm⟩ := h
 injection e with e
 simp at e
 rw [e.2]
 exact hm.l
theorem draft_end {V i Z N : Nat} {b : Bool} (hV : V < 1000 ^ i) (hi : i ≤ N) (hN : N ≤ 12) (hZ : Z ≤ 500) :
 wlen B4 (sgn (V * 10 ^ Z) b).natAbs ≤ 1000000 ∧ outV (sgn (V * 10 ^ Z) b) = .tuple #[.string ⟨(Vd.wr (sgn (V * 10 ^ Z) b)).toArray⟩,.int .i64 0] ∧ (sgn (V * 10 ^ Z) b).natAbs < 10 ^ (3 * N + Z) := by
 have h1 : V * 10 ^ Z < 10 ^ (3 * N + Z) := by
  rw [Nat.pow_add]
  refine Nat.mul_lt_mul_of_pos_right (Nat.lt_of_lt_of_le hV ?_) (Nat.pow_pos (by omega))
  rw [show 1000 = 10 ^ 3 from rfl,← Nat.pow_mul]
  exact Nat.pow_le_pow_right (by omega) (by omega)
 rw [sgn_abs]
 refine ⟨?_,outV_small ?_,h1⟩
 · have h2 : wlen B4 (V * 10 ^ Z) ≤ 3 * N + Z := lt_wlen4 (Nat.lt_of_lt_of_le h1 (Nat.pow_le_pow_right (by omega) (by omega)))
   omega
 · unfold small
   rw [sgn_abs]
   exact Nat.lt_of_lt_of_le h1 (Nat.pow_le_pow_right (by omega) (by rw [maxDigits_eq];omega))
set_option maxRecDepth 100000 in
set_option maxHeartbeats 4000000 in
theorem draft_any (b : Bool) (A0 : Option Addr) (n0 c0 z0 : Nat) (xs : List Nat) (w : World) (hx : Sl w U16 A0 n0 xs) (ox : Ok 65536 xs) (hz : z0 < 65536) (hn : n0 ≤ 9223372036854775807) :
 Calls Tryz.prog 87 #[.agg #[.bool b,.slice A0 n0 c0,.int .u16 (z0 : Int)]] w fun e w' => ∃ z : Int,e = .returned (.string ⟨(wr z).toArray⟩) ∧ z.natAbs < 10 ^ (3 * min n0 12 + z0 % 501) ∧ Below w.heap.size w w' := by
 have hin0 := fun W => integer_any 0 W (by decide)
 rw [show ((0 : Nat) : Int) = 0 from rfl] at hin0
 go_enter Tryz.func87,Tryz.ntmps87
 go_wp2_with fail
 refine (hin0 _).mono ?_
 rintro e w1 ⟨v,rfl,hv,hb1⟩
 obtain ⟨A1,l1,c1,k1,rfl⟩ := hv.open
 go_wp2_with fail
 have hba : Below w1.heap.size w1 (w1.alloc (.cells #[.bool k1,.slice A1 l1 c1] 88)) := (Below.refl _ _).alloc (Nat.le_refl _) _
 have hbw : Below w.heap.size w w1 := ((Below.refl _ _).alloc (Nat.le_refl _) _).trans (hb1.mono (by simp))
 have hlt : w.heap.size < w1.heap.size := by have := hb1.size;simp at this;omega
 have hR0 : DrR w w1.heap.size b A0 n0 c0 z0 0 (w1.alloc (.cells #[.bool k1,.slice A1 l1 c1] 88)) A1 l1 c1 k1 := by
  refine ⟨heap_alloc_new w1 _,hv.below hba,?_,?_,?_,hbw.trans (hba.mono hbw.size),hlt⟩
  all_goals
   rw [hba.cell (by show w.heap.size < w1.heap.size;exact hlt),hb1.cell (by simp)]
   simp [go_sem]
 obtain ⟨g,hg⟩ : ∃ g,g = w1.heap.size := ⟨_,rfl⟩
 rw [← hg] at hR0
 simp only [← hg]
 clear hv hba hbw hlt hb1 hin0
 go_loopg [4] (12 - 0) (fun r iv W => ∃ (i V : Nat) (A : Option Addr) (l c : Nat) (k : Bool),r = 12 - i ∧ iv = .int .i64 (i : Int) ∧ i ≤ 12 ∧ i ≤ n0 ∧ V < 1000 ^ i ∧ DrR w g b A0 n0 c0 z0 V W A l c k)
 case atStart => exact ⟨0,0,_,_,_,_,rfl,rfl,Nat.zero_le _,Nat.zero_le _,by decide,hR0⟩
 case round =>
  clear hR0 hg
  obtain ⟨i,V,A,l,c,k,rfl,rfl,hi,hi2,hV,hR⟩ := hrel
  have f0 := hR.f0
  have f1 := hR.f1
  have f2 := hR.f2
  have hT := hR.t
  obtain ⟨_,t0,t1⟩ := hT
  by_cases ha : i < n0
  · by_cases hb : i < 12
    · have hia : (i : Int) < (n0 : Int) := by omega
      have hib : (i : Int) < 12 := by omega
      have hi0 : (0 : Int) ≤ (i : Int) := by omega
      obtain ⟨ge,oe,rfl,hge,hce⟩ := hx.at_ (by omega)
      have hcx := (hR.bel.cell (p := ⟨ge,oe + i,none⟩) hge).trans (hce i ha)
      unfold U16 at hcx
      have hS0 := hR.s hcx
      have hxl := ox.get (by omega) i
      obtain ⟨x,hxx⟩ : ∃ x,x = nth xs i := ⟨_,rfl⟩
      rw [← hxx] at hcx hS0 hxl
      obtain ⟨G,hG⟩ : ∃ G,G = x % 1000 := ⟨_,rfl⟩
      have e1 : IntKind.i64.wrap ((x : Int).tmod 1000) = (G : Int) := by rw [Int.tmod_eq_emod_of_nonneg (by omega),IntKind.wrap_i64];omega
      have E1 := Lib.hid e1
      clear e1
      have g1 : (0 : Int) ≤ (G : Int) := by omega
      have g2 : (G : Int) ≤ 999 := by omega
      have x1 : (0 : Int) ≤ (x : Int) := by omega
      have x2 : (x : Int) ≤ 65535 := by omega
      have hT := hR.t
      have hvl := wlen4_1000 hV (by omega)
      have hvl2 : wlen B4 (V * 1000) ≤ 1000000000 := by
       have h1 := wlen_mul (b := B4) two_le_B4 V 1000
       have h2 : wlen B4 1000 ≤ 1 := wlen_le_one two_le_B4 (by decide)
       omega
      have hgl : wlen B4 G ≤ 1000000000 := by
       have h2 : wlen B4 G ≤ 1 := wlen_le_one two_le_B4 (by rw [B4_eq];omega)
       omega
      have hVd := hR.val
      have I1 : Hid (∀ W,DrS w w.heap.size g ⟨ge,oe + i,none⟩ (.bool b) (.slice (some ⟨ge,oe,none⟩) n0 c0) (.int .u16 (z0 : Int)) (.int .u16 (x : Int)) W → DrT wr g k (.slice A l c) W → Calls Tryz.prog 88 #[.int .i64 1000] W (DrE w wr w.heap.size g ⟨ge,oe + i,none⟩ (.bool b) (.slice (some ⟨ge,oe,none⟩) n0 c0) (.int .u16 (z0 : Int)) (.int .u16 (x : Int)) k (.slice A l c) 1000 W)) := Lib.hid (fun W hS hT => dr_int 1000 (by omega) W hS hT)
      have I2 : Hid (∀ W,DrS w w.heap.size g ⟨ge,oe + i,none⟩ (.bool b) (.slice (some ⟨ge,oe,none⟩) n0 c0) (.int .u16 (z0 : Int)) (.int .u16 (x : Int)) W → DrT wr g k (.slice A l c) W → Calls Tryz.prog 88 #[.int .i64 (G : Int)] W (DrE w wr w.heap.size g ⟨ge,oe + i,none⟩ (.bool b) (.slice (some ⟨ge,oe,none⟩) n0 c0) (.int .u16 (z0 : Int)) (.int .u16 (x : Int)) k (.slice A l c) G W)) := Lib.hid (fun W hS hT => dr_int G (by omega) W hS hT)
      have T1 : Hid (∀ W v2,PlV W v2 ((1000 : Nat) : Int) → DrS w w.heap.size g ⟨ge,oe + i,none⟩ (.bool b) (.slice (some ⟨ge,oe,none⟩) n0 c0) (.int .u16 (z0 : Int)) (.int .u16 (x : Int)) W → DrT wr g k (.slice A l c) W → Calls Tryz.prog 119 #[.agg #[.bool k,.slice A l c],v2] W (DrE w wr w.heap.size g ⟨ge,oe + i,none⟩ (.bool b) (.slice (some ⟨ge,oe,none⟩) n0 c0) (.int .u16 (z0 : Int)) (.int .u16 (x : Int)) k (.slice A l c) (V * 1000) W)) := Lib.hid (fun W v2 h2 hS hT => dr_times V 1000 (by omega) wlen4_c W _ _ (hVd.below hT.1) h2 hS hT)
      have P1 : Hid (∀ W v1 v2,PlV W v1 ((V * 1000 : Nat) : Int) → PlV W v2 (G : Int) → DrS w w.heap.size g ⟨ge,oe + i,none⟩ (.bool b) (.slice (some ⟨ge,oe,none⟩) n0 c0) (.int .u16 (z0 : Int)) (.int .u16 (x : Int)) W → DrT wr g k (.slice A l c) W → Calls Tryz.prog 124 #[v1,v2] W (DrE w wr w.heap.size g ⟨ge,oe + i,none⟩ (.bool b) (.slice (some ⟨ge,oe,none⟩) n0 c0) (.int .u16 (z0 : Int)) (.int .u16 (x : Int)) k (.slice A l c) (V * 1000 + G) W)) := Lib.hid (fun W v1 v2 h1 h2 hS hT => dr_plus _ _ hvl2 hgl W _ _ h1 h2 hS hT)
      have hTd := hT
      have HR := Lib.hid (And.intro hR (And.intro ha (And.intro hb (And.intro hV hG))))
      have HGE := Lib.hid (And.intro (show ge ≠ g by have := hR.ord;omega) hge)
      clear hR ha hb hi hi2 hV hG hvl hvl2 hgl hVd hce hcx hxl hxx hx hge hT
      go_wp2_with fail
      refine wp_region_noPanic ?_
      refine wp_region_held_drew (S := DrS w w.heap.size g ⟨ge,oe + i,none⟩ (.bool b) (.slice (some ⟨ge,oe,none⟩) n0 c0) (.int .u16 (z0 : Int)) (.int .u16 (x : Int))) (by kernel_rfl) hS0 (fun hHeld => ?_)
      refine wpAnyH_take (i := 3) (v := ?_) rfl (by kernel_rfl) (by kernel_rfl) (by kernel_rfl) (fun _ _ _ h => h) (Or.inl ⟨by rfl,?_⟩) (by assumption) ?_
      rotate_left
      · intro W hSw;obtain ⟨⟨_,_⟩,e1,e2,e3,e4⟩ := hSw;go_simp;try with_reducible rfl
      try simp only [Act.put,List.setIfInBounds_toArray]
      refine wpAnyH_take (i := 4) (v := ?_) rfl (by kernel_rfl) (by kernel_rfl) (by kernel_rfl) (fun _ _ _ h => h) (Or.inl ⟨by rfl,?_⟩) (by assumption) ?_
      rotate_left
      · intro W hSw;obtain ⟨⟨_,_⟩,e1,e2,e3,e4⟩ := hSw;go_simp;try with_reducible rfl
      try simp only [Act.put]
      refine wpAnyH_take (i := 5) (v := ?_) rfl (by kernel_rfl) (by kernel_rfl) (by kernel_rfl) (fun _ _ _ h => h) (Or.inl ⟨by rfl,?_⟩) (by assumption) ?_
      rotate_left
      · intro W hSw;obtain ⟨⟨_,_⟩,e1,e2,e3,e4⟩ := hSw;go_simp;try with_reducible rfl
      try simp only [Act.put]
      refine wpAnyH_take (i := 6) (v := ?_) rfl (by kernel_rfl) (by kernel_rfl) (by kernel_rfl) (fun _ _ _ h => h) (Or.inl ⟨by rfl,?_⟩) (by assumption) ?_
      rotate_left
      · intro W hSw;obtain ⟨⟨_,_⟩,e1,e2,e3,e4⟩ := hSw;go_simp;try with_reducible rfl
      try simp only [Act.put]
      refine wpAnyH_take (i := 7) (v := ?_) rfl (by kernel_rfl) (by kernel_rfl) (by kernel_rfl) (fun _ _ _ h => h) (Or.inl ⟨by rfl,?_⟩) (by assumption) ?_
      rotate_left
      · intro W hSw;obtain ⟨⟨_,_⟩,e1,e2,e3,e4⟩ := hSw;go_simp;try with_reducible rfl
      try simp only [Act.put]
      refine wpAnyH_take (i := 8) (v := ?_) rfl (by kernel_rfl) (by kernel_rfl) (by kernel_rfl) (fun _ _ _ h => h) (Or.inl ⟨by rfl,?_⟩) (by assumption) ?_
      rotate_left
      · intro W hSw;obtain ⟨⟨_,_⟩,e1,e2,e3,e4⟩ := hSw;go_simp;try with_reducible rfl
      try simp only [Act.put]
      refine wpAnyH_take (i := 9) (v := ?_) rfl (by kernel_rfl) (by kernel_rfl) (by kernel_rfl) (fun _ _ _ h => h) (Or.inl ⟨by rfl,?_⟩) (by assumption) ?_
      rotate_left
      · intro W hSw;obtain ⟨⟨_,_⟩,e1,e2,e3,e4⟩ := hSw;go_simp;try with_reducible rfl
      try simp only [Act.put]
      refine wpAnyH_ready (rs := [0,1]) (by kernel_rfl) (by simp) ?_
      refine AllReadyH.cons rfl (fun K hK => ?_) (AllReadyH.cons rfl (fun K hK => ?_) AllReadyH.nil)
      · have u0 := hTd.2.1
        have u1 := hTd.2.2
        go_simp
        refine hK.out _ _ hHeld (fun hHeld => ?_)
        clear hK K
        try simp only [Act.put,List.setIfInBounds_toArray,List.set_cons_zero,List.set_cons_succ]
        refine wpAnyH_ready (rs := [1]) (by kernel_rfl) (by simp) ?_
        refine AllReadyH.cons rfl (fun K hK => ?_) AllReadyH.nil
        go_simp
        refine (I1.out _ hHeld hTd).mono ?_
        rintro e w2 ⟨A2,l2,c2,k2,rfl,hv2,hb2,hS2,hT2⟩
        refine hK.out _ _ hS2 (fun hHeld => ?_)
        clear hK K
        try simp only [Act.put,List.setIfInBounds_toArray,List.set_cons_zero,List.set_cons_succ]
        refine wpAnyH_ready (rs := [2]) (by kernel_rfl) (by simp) ?_
        refine AllReadyH.cons rfl (fun K hK => ?_) AllReadyH.nil
        go_simp
        refine (T1.out _ _ hv2 hS2 hT2).mono ?_
        rintro e w3 ⟨A3,l3,c3,k3,rfl,hv3,hb3,hS3,hT3⟩
        refine hK.out _ _ hS3 (fun hHeld => ?_)
        clear hK K
        try simp only [Act.put,List.setIfInBounds_toArray,List.set_cons_zero,List.set_cons_succ]
        refine wpAnyH_ready (rs := [10]) (by kernel_rfl) (by simp) ?_
        refine AllReadyH.cons rfl (fun K hK => ?_) AllReadyH.nil
        go_simp
        rw [E1.out]
        refine (I2.out _ hS3 hT3).mono ?_
        rintro e w4 ⟨A4,l4,c4,k4,rfl,hv4,hb4,hS4,hT4⟩
        refine hK.out _ _ hS4 (fun hHeld => ?_)
        clear hK K
        try simp only [Act.put,List.setIfInBounds_toArray,List.set_cons_zero,List.set_cons_succ]
        refine wpAnyH_ready (rs := [11]) (by kernel_rfl) (by simp) ?_
        refine AllReadyH.cons rfl (fun K hK => ?_) AllReadyH.nil
        go_simp
        refine (P1.out _ _ _ (hv3.below hb4) hv4 hS4 hT4).mono ?_
        rintro e w5 ⟨A5,l5,c5,k5,rfl,hv5,hb5,hS5,hT5⟩
        refine hK.out _ _ hS5 (fun hHeld => ?_)
        clear hK K
        try simp only [Act.put,List.setIfInBounds_toArray,List.set_cons_zero,List.set_cons_succ]
        refine wpAnyH_ready (rs := [12]) (by kernel_rfl) (by simp) ?_
        refine AllReadyH.cons rfl (fun K hK => ?_) AllReadyH.nil
        obtain ⟨⟨q0,hd0⟩,⟨q1,hd1⟩,hf0,hf1⟩ := hS5.1.1.facts
        go_simp
        have hS6 := drs_store hS5 (by have := HR.out.1.ord;omega) (by have := HR.out.1.ord;omega) (HGE.out.1) A5 l5 c5 k5
        refine hK.out _ _ hS6 (fun hHeld => ?_)
        clear hK K
        try simp only [Act.put,List.setIfInBounds_toArray,List.set_cons_zero,List.set_cons_succ]
        refine wpAnyH_done (by kernel_rfl) ?_ _
        refine NoPanic.normal ?_
        have hnx := HR.out.1.next hS5 hv5
        go_wp2_with fail
        go_roundg (12 - (i + 1))
        case measure => have := HR.out.2.2.1;omega
        case rel => exact ⟨i + 1,V * 1000 + G,A5,l5,c5,k5,rfl,by go_num,by have := HR.out.2.2.1;omega,by have := HR.out.2.1;omega,draft_step HR.out.2.2.2.1 (by have := HR.out.2.2.2.2;omega),hnx⟩
      · go_simp
        refine (I1.out _ hHeld hTd).mono ?_
        rintro e w2 ⟨A2,l2,c2,k2,rfl,hv2,hb2,hS2,hT2⟩
        refine hK.out _ _ hS2 (fun hHeld => ?_)
        clear hK K
        try simp only [Act.put,List.setIfInBounds_toArray,List.set_cons_zero,List.set_cons_succ]
        refine wpAnyH_ready (rs := [0]) (by kernel_rfl) (by simp) ?_
        refine AllReadyH.cons rfl (fun K hK => ?_) AllReadyH.nil
        have u0 := hT2.2.1
        have u1 := hT2.2.2
        go_simp
        refine hK.out _ _ hS2 (fun hHeld => ?_)
        clear hK K
        try simp only [Act.put,List.setIfInBounds_toArray,List.set_cons_zero,List.set_cons_succ]
        refine wpAnyH_ready (rs := [2]) (by kernel_rfl) (by simp) ?_
        refine AllReadyH.cons rfl (fun K hK => ?_) AllReadyH.nil
        go_simp
        refine (T1.out _ _ hv2 hS2 hT2).mono ?_
        rintro e w3 ⟨A3,l3,c3,k3,rfl,hv3,hb3,hS3,hT3⟩
        refine hK.out _ _ hS3 (fun hHeld => ?_)
        clear hK K
        try simp only [Act.put,List.setIfInBounds_toArray,List.set_cons_zero,List.set_cons_succ]
        refine wpAnyH_ready (rs := [10]) (by kernel_rfl) (by simp) ?_
        refine AllReadyH.cons rfl (fun K hK => ?_) AllReadyH.nil
        go_simp
        rw [E1.out]
        refine (I2.out _ hS3 hT3).mono ?_
        rintro e w4 ⟨A4,l4,c4,k4,rfl,hv4,hb4,hS4,hT4⟩
        refine hK.out _ _ hS4 (fun hHeld => ?_)
        clear hK K
        try simp only [Act.put,List.setIfInBounds_toArray,List.set_cons_zero,List.set_cons_succ]
        refine wpAnyH_ready (rs := [11]) (by kernel_rfl) (by simp) ?_
        refine AllReadyH.cons rfl (fun K hK => ?_) AllReadyH.nil
        go_simp
        refine (P1.out _ _ _ (hv3.below hb4) hv4 hS4 hT4).mono ?_
        rintro e w5 ⟨A5,l5,c5,k5,rfl,hv5,hb5,hS5,hT5⟩
        refine hK.out _ _ hS5 (fun hHeld => ?_)
        clear hK K
        try simp only [Act.put,List.setIfInBounds_toArray,List.set_cons_zero,List.set_cons_succ]
        refine wpAnyH_ready (rs := [12]) (by kernel_rfl) (by simp) ?_
        refine AllReadyH.cons rfl (fun K hK => ?_) AllReadyH.nil
        obtain ⟨⟨q0,hd0⟩,⟨q1,hd1⟩,hf0,hf1⟩ := hS5.1.1.facts
        go_simp
        have hS6 := drs_store hS5 (by have := HR.out.1.ord;omega) (by have := HR.out.1.ord;omega) (HGE.out.1) A5 l5 c5 k5
        refine hK.out _ _ hS6 (fun hHeld => ?_)
        clear hK K
        try simp only [Act.put,List.setIfInBounds_toArray,List.set_cons_zero,List.set_cons_succ]
        refine wpAnyH_done (by kernel_rfl) ?_ _
        refine NoPanic.normal ?_
        have hnx := HR.out.1.next hS5 hv5
        go_wp2_with fail
        go_roundg (12 - (i + 1))
        case measure => have := HR.out.2.2.1;omega
        case rel => exact ⟨i + 1,V * 1000 + G,A5,l5,c5,k5,rfl,by go_num,by have := HR.out.2.2.1;omega,by have := HR.out.2.1;omega,draft_step HR.out.2.2.2.1 (by have := HR.out.2.2.2.2;omega),hnx⟩
    · have hib : ¬ (i : Int) < 12 := by omega
      have hia : (i : Int) < (n0 : Int) := by omega
      have hT := hR.t
      have hS0 := hR.s f2
      obtain ⟨Z,hZ⟩ : ∃ Z,Z = z0 % 501 := ⟨_,rfl⟩
      have e2 : IntKind.i64.wrap ((z0 : Int).tmod 501) = (Z : Int) := by rw [Int.tmod_eq_emod_of_nonneg (by omega),IntKind.wrap_i64];omega
      have E2 := Lib.hid e2
      have hVd := hR.val
      have hvl := wlen4_1000 hV hi
      have h10 : wlen B4 10 ≤ 1 := wlen_le_one two_le_B4 (by decide)
      have hpz : wlen B4 (10 ^ Z) ≤ 1000000000 := wlen4_pow (by omega) (by omega)
      have J1 : Hid (∀ W,DrS w w.heap.size g ⟨w.heap.size,2,none⟩ (.bool b) (.slice A0 n0 c0) (.int .u16 (z0 : Int)) (.int .u16 (z0 : Int)) W → DrT wr g k (.slice A l c) W → Calls Tryz.prog 88 #[.int .i64 10] W (DrE w wr w.heap.size g ⟨w.heap.size,2,none⟩ (.bool b) (.slice A0 n0 c0) (.int .u16 (z0 : Int)) (.int .u16 (z0 : Int)) k (.slice A l c) 10 W)) := Lib.hid (fun W hS hT => dr_int 10 (by omega) W hS hT)
      have J2 : Hid (∀ W v1,PlV W v1 ((10 : Nat) : Int) → DrS w w.heap.size g ⟨w.heap.size,2,none⟩ (.bool b) (.slice A0 n0 c0) (.int .u16 (z0 : Int)) (.int .u16 (z0 : Int)) W → DrT wr g k (.slice A l c) W → Calls Tryz.prog 125 #[v1,.int .i64 (Z : Int)] W (DrE w wr w.heap.size g ⟨w.heap.size,2,none⟩ (.bool b) (.slice A0 n0 c0) (.int .u16 (z0 : Int)) (.int .u16 (z0 : Int)) k (.slice A l c) (10 ^ Z) W)) := Lib.hid (fun W v1 h1 hS hT => dr_raised 10 Z (by omega) (by omega) W v1 h1 hS hT)
      have J3 : Hid (∀ W v2,PlV W v2 ((10 ^ Z : Nat) : Int) → DrS w w.heap.size g ⟨w.heap.size,2,none⟩ (.bool b) (.slice A0 n0 c0) (.int .u16 (z0 : Int)) (.int .u16 (z0 : Int)) W → DrT wr g k (.slice A l c) W → Calls Tryz.prog 119 #[.agg #[.bool k,.slice A l c],v2] W (DrE w wr w.heap.size g ⟨w.heap.size,2,none⟩ (.bool b) (.slice A0 n0 c0) (.int .u16 (z0 : Int)) (.int .u16 (z0 : Int)) k (.slice A l c) (V * 10 ^ Z) W)) := Lib.hid (fun W v2 h2 hS hT => dr_times V (10 ^ Z) (by omega) hpz W _ _ (hVd.below hT.1) h2 hS hT)
      have HO : Hid (wlen B4 (sgn (V * 10 ^ Z) b).natAbs ≤ 1000000 ∧ outV (sgn (V * 10 ^ Z) b) = .tuple #[.string ⟨(Vd.wr (sgn (V * 10 ^ Z) b)).toArray⟩,.int .i64 0] ∧ (sgn (V * 10 ^ Z) b).natAbs < 10 ^ (3 * min n0 12 + z0 % 501)) := Lib.hid (by
       rw [← hZ]
       exact draft_end hV (by omega) (by omega) (by omega))
      have hTd := hT
      have HR := Lib.hid (And.intro hR (And.intro hV hi))
      clear hR hi hi2 hV hZ e2 hVd hvl h10 hpz hT ha hb hx hz hn
      go_wp2_with fail
      refine wp_region_noPanic ?_
      refine wp_region_held_drew (S := DrS w w.heap.size g ⟨w.heap.size,2,none⟩ (.bool b) (.slice A0 n0 c0) (.int .u16 (z0 : Int)) (.int .u16 (z0 : Int))) (by kernel_rfl) hS0 (fun hHeld => ?_)
      refine wpAnyH_take (i := 2) (v := ?_) rfl (by kernel_rfl) (by kernel_rfl) (by kernel_rfl) (fun _ _ _ h => h) (Or.inl ⟨by rfl,?_⟩) (by assumption) ?_
      rotate_left
      · intro W hSw;obtain ⟨⟨_,_⟩,e1,e2,e3,e4⟩ := hSw;go_simp;try with_reducible rfl
      try simp only [Act.put,List.setIfInBounds_toArray]
      refine wpAnyH_take (i := 3) (v := ?_) rfl (by kernel_rfl) (by kernel_rfl) (by kernel_rfl) (fun _ _ _ h => h) (Or.inl ⟨by rfl,?_⟩) (by assumption) ?_
      rotate_left
      · intro W hSw;obtain ⟨⟨_,_⟩,e1,e2,e3,e4⟩ := hSw;go_simp;try with_reducible rfl
      try simp only [Act.put]
      refine wpAnyH_take (i := 4) (v := ?_) rfl (by kernel_rfl) (by kernel_rfl) (by kernel_rfl) (fun _ _ _ h => h) (Or.inl ⟨by rfl,?_⟩) (by assumption) ?_
      rotate_left
      · intro W hSw;obtain ⟨⟨_,_⟩,e1,e2,e3,e4⟩ := hSw;go_simp;try with_reducible rfl
      try simp only [Act.put]
      refine wpAnyH_take (i := 5) (v := ?_) rfl (by kernel_rfl) (by kernel_rfl) (by kernel_rfl) (fun _ _ _ h => h) (Or.inl ⟨by rfl,?_⟩) (by assumption) ?_
      rotate_left
      · intro W hSw;obtain ⟨⟨_,_⟩,e1,e2,e3,e4⟩ := hSw;go_simp;try with_reducible rfl
      try simp only [Act.put]
      refine wpAnyH_ready (rs := [0,1]) (by kernel_rfl) (by simp) ?_
      refine AllReadyH.cons rfl (fun K hK => ?_) (AllReadyH.cons rfl (fun K hK => ?_) AllReadyH.nil)
      · have u0 := hTd.2.1
        have u1 := hTd.2.2
        go_simp
        refine hK.out _ _ hHeld (fun hHeld => ?_)
        clear hK K
        try simp only [Act.put,List.setIfInBounds_toArray,List.set_cons_zero,List.set_cons_succ]
        refine wpAnyH_ready (rs := [1]) (by kernel_rfl) (by simp) ?_
        refine AllReadyH.cons rfl (fun K hK => ?_) AllReadyH.nil
        go_simp
        refine (J1.out _ hHeld hTd).mono ?_
        rintro e w2 ⟨A2,l2,c2,k2,rfl,hv2,hb2,hS2,hT2⟩
        refine hK.out _ _ hS2 (fun hHeld => ?_)
        clear hK K
        try simp only [Act.put,List.setIfInBounds_toArray,List.set_cons_zero,List.set_cons_succ]
        refine wpAnyH_ready (rs := [6]) (by kernel_rfl) (by simp) ?_
        refine AllReadyH.cons rfl (fun K hK => ?_) AllReadyH.nil
        go_simp
        rw [E2.out]
        refine (J2.out _ _ hv2 hS2 hT2).mono ?_
        rintro e w3 ⟨A3,l3,c3,k3,rfl,hv3,hb3,hS3,hT3⟩
        refine hK.out _ _ hS3 (fun hHeld => ?_)
        clear hK K
        try simp only [Act.put,List.setIfInBounds_toArray,List.set_cons_zero,List.set_cons_succ]
        refine wpAnyH_ready (rs := [7]) (by kernel_rfl) (by simp) ?_
        refine AllReadyH.cons rfl (fun K hK => ?_) AllReadyH.nil
        go_simp
        refine (J3.out _ _ hv3 hS3 hT3).mono ?_
        rintro e w5 ⟨A5,l5,c5,k5,rfl,hv5,hb5,hS5,hT5⟩
        refine hK.out _ _ hS5 (fun hHeld => ?_)
        clear hK K
        try simp only [Act.put,List.setIfInBounds_toArray,List.set_cons_zero,List.set_cons_succ]
        refine wpAnyH_ready (rs := [8]) (by kernel_rfl) (by simp) ?_
        refine AllReadyH.cons rfl (fun K hK => ?_) AllReadyH.nil
        obtain ⟨⟨q0,hd0⟩,⟨q1,hd1⟩,hf0,hf1⟩ := hS5.1.1.facts
        go_simp
        have hS6 := drs_store hS5 (by have := HR.out.1.ord;omega) (by have := HR.out.1.ord;omega) (by have := HR.out.1.ord;show w.heap.size ≠ g;omega) A5 l5 c5 k5
        refine hK.out _ _ hS6 (fun hHeld => ?_)
        clear hK K
        try simp only [Act.put,List.setIfInBounds_toArray,List.set_cons_zero,List.set_cons_succ]
        refine wpAnyH_done (by kernel_rfl) ?_ _
        refine NoPanic.normal ?_
        have hnx := HR.out.1.next hS5 hv5
        have hf := hnx.f0
        have hmd := made4_any b _ _ _ (PlV.digL hnx.val)
        clear hS5 hT5 hv5 hb5 hS6
        have HN := Lib.hid hnx
        clear hnx
        go_wp2_with fail
        refine hmd.mono ?_
        rintro e w7 ⟨A7,l7,c7,k7,rfl,hv7,hb7⟩
        have hbx7 := (HN.out.box.below hb7 HN.out.box.lt)
        have hv8 := hv7.sets hbx7 (.bool k7) (.slice A7 l7 c7)
        have hr7 := hbx7.read A7 l7 c7 k7
        obtain ⟨⟨q0,hd0⟩,⟨q1,hd1⟩,hf0,hf1⟩ := hbx7.facts
        have hbel7 : Below w.heap.size w ((w7.setCell ⟨g,0,none⟩ (.bool k7)).setCell ⟨g,1,none⟩ (.slice A7 l7 c7)) := ((HN.out.bel.trans (hb7.mono HN.out.bel.size)).setCell (by have := HR.out.1.ord;simp;omega) _).setCell (by have := HR.out.1.ord;simp;omega) _
        have hou := out4_any _ _ _ hv8 HO.out.1
        rw [HO.out.2.1] at hou
        obtain ⟨r0,r1⟩ := hr7
        have HB := Lib.hid hbel7
        clear hv7 hb7 hbx7 hbel7 hv8 hmd
        go_wp2_with fail
        refine hou.mono ?_
        rintro e w9 ⟨rfl,hb9⟩
        go_wp2_with fail
        go_ret
        exact ⟨_,rfl,HO.out.2.2,HB.out.trans (hb9.mono HB.out.size)⟩
      · go_simp
        refine (J1.out _ hHeld hTd).mono ?_
        rintro e w2 ⟨A2,l2,c2,k2,rfl,hv2,hb2,hS2,hT2⟩
        refine hK.out _ _ hS2 (fun hHeld => ?_)
        clear hK K
        try simp only [Act.put,List.setIfInBounds_toArray,List.set_cons_zero,List.set_cons_succ]
        refine wpAnyH_ready (rs := [0,6]) (by kernel_rfl) (by simp) ?_
        refine AllReadyH.cons rfl (fun K hK => ?_) (AllReadyH.cons rfl (fun K hK => ?_) AllReadyH.nil)
        · have u0 := hT2.2.1
          have u1 := hT2.2.2
          go_simp
          refine hK.out _ _ hS2 (fun hHeld => ?_)
          clear hK K
          try simp only [Act.put,List.setIfInBounds_toArray,List.set_cons_zero,List.set_cons_succ]
          refine wpAnyH_ready (rs := [6]) (by kernel_rfl) (by simp) ?_
          refine AllReadyH.cons rfl (fun K hK => ?_) AllReadyH.nil
          go_simp
          rw [E2.out]
          refine (J2.out _ _ hv2 hS2 hT2).mono ?_
          rintro e w3 ⟨A3,l3,c3,k3,rfl,hv3,hb3,hS3,hT3⟩
          refine hK.out _ _ hS3 (fun hHeld => ?_)
          clear hK K
          try simp only [Act.put,List.setIfInBounds_toArray,List.set_cons_zero,List.set_cons_succ]
          refine wpAnyH_ready (rs := [7]) (by kernel_rfl) (by simp) ?_
          refine AllReadyH.cons rfl (fun K hK => ?_) AllReadyH.nil
          go_simp
          refine (J3.out _ _ hv3 hS3 hT3).mono ?_
          rintro e w5 ⟨A5,l5,c5,k5,rfl,hv5,hb5,hS5,hT5⟩
          refine hK.out _ _ hS5 (fun hHeld => ?_)
          clear hK K
          try simp only [Act.put,List.setIfInBounds_toArray,List.set_cons_zero,List.set_cons_succ]
          refine wpAnyH_ready (rs := [8]) (by kernel_rfl) (by simp) ?_
          refine AllReadyH.cons rfl (fun K hK => ?_) AllReadyH.nil
          obtain ⟨⟨q0,hd0⟩,⟨q1,hd1⟩,hf0,hf1⟩ := hS5.1.1.facts
          go_simp
          have hS6 := drs_store hS5 (by have := HR.out.1.ord;omega) (by have := HR.out.1.ord;omega) (by have := HR.out.1.ord;show w.heap.size ≠ g;omega) A5 l5 c5 k5
          refine hK.out _ _ hS6 (fun hHeld => ?_)
          clear hK K
          try simp only [Act.put,List.setIfInBounds_toArray,List.set_cons_zero,List.set_cons_succ]
          refine wpAnyH_done (by kernel_rfl) ?_ _
          refine NoPanic.normal ?_
          have hnx := HR.out.1.next hS5 hv5
          have hf := hnx.f0
          have hmd := made4_any b _ _ _ (PlV.digL hnx.val)
          clear hS5 hT5 hv5 hb5 hS6
          have HN := Lib.hid hnx
          clear hnx
          go_wp2_with fail
          refine hmd.mono ?_
          rintro e w7 ⟨A7,l7,c7,k7,rfl,hv7,hb7⟩
          have hbx7 := (HN.out.box.below hb7 HN.out.box.lt)
          have hv8 := hv7.sets hbx7 (.bool k7) (.slice A7 l7 c7)
          have hr7 := hbx7.read A7 l7 c7 k7
          obtain ⟨⟨q0,hd0⟩,⟨q1,hd1⟩,hf0,hf1⟩ := hbx7.facts
          have hbel7 : Below w.heap.size w ((w7.setCell ⟨g,0,none⟩ (.bool k7)).setCell ⟨g,1,none⟩ (.slice A7 l7 c7)) := ((HN.out.bel.trans (hb7.mono HN.out.bel.size)).setCell (by have := HR.out.1.ord;simp;omega) _).setCell (by have := HR.out.1.ord;simp;omega) _
          have hou := out4_any _ _ _ hv8 HO.out.1
          rw [HO.out.2.1] at hou
          obtain ⟨r0,r1⟩ := hr7
          have HB := Lib.hid hbel7
          clear hv7 hb7 hbx7 hbel7 hv8 hmd
          go_wp2_with fail
          refine hou.mono ?_
          rintro e w9 ⟨rfl,hb9⟩
          go_wp2_with fail
          go_ret
          exact ⟨_,rfl,HO.out.2.2,HB.out.trans (hb9.mono HB.out.size)⟩
        · go_simp
          rw [E2.out]
          refine (J2.out _ _ hv2 hS2 hT2).mono ?_
          rintro e w3 ⟨A3,l3,c3,k3,rfl,hv3,hb3,hS3,hT3⟩
          refine hK.out _ _ hS3 (fun hHeld => ?_)
          clear hK K
          try simp only [Act.put,List.setIfInBounds_toArray,List.set_cons_zero,List.set_cons_succ]
          refine wpAnyH_ready (rs := [0]) (by kernel_rfl) (by simp) ?_
          refine AllReadyH.cons rfl (fun K hK => ?_) AllReadyH.nil
          have u0 := hT3.2.1
          have u1 := hT3.2.2
          go_simp
          refine hK.out _ _ hS3 (fun hHeld => ?_)
          clear hK K
          try simp only [Act.put,List.setIfInBounds_toArray,List.set_cons_zero,List.set_cons_succ]
          refine wpAnyH_ready (rs := [7]) (by kernel_rfl) (by simp) ?_
          refine AllReadyH.cons rfl (fun K hK => ?_) AllReadyH.nil
          go_simp
          refine (J3.out _ _ hv3 hS3 hT3).mono ?_
          rintro e w5 ⟨A5,l5,c5,k5,rfl,hv5,hb5,hS5,hT5⟩
          refine hK.out _ _ hS5 (fun hHeld => ?_)
          clear hK K
          try simp only [Act.put,List.setIfInBounds_toArray,List.set_cons_zero,List.set_cons_succ]
          refine wpAnyH_ready (rs := [8]) (by kernel_rfl) (by simp) ?_
          refine AllReadyH.cons rfl (fun K hK => ?_) AllReadyH.nil
          obtain ⟨⟨q0,hd0⟩,⟨q1,hd1⟩,hf0,hf1⟩ := hS5.1.1.facts
          go_simp
          have hS6 := drs_store hS5 (by have := HR.out.1.ord;omega) (by have := HR.out.1.ord;omega) (by have := HR.out.1.ord;show w.heap.size ≠ g;omega) A5 l5 c5 k5
          refine hK.out _ _ hS6 (fun hHeld => ?_)
          clear hK K
          try simp only [Act.put,List.setIfInBounds_toArray,List.set_cons_zero,List.set_cons_succ]
          refine wpAnyH_done (by kernel_rfl) ?_ _
          refine NoPanic.normal ?_
          have hnx := HR.out.1.next hS5 hv5
          have hf := hnx.f0
          have hmd := made4_any b _ _ _ (PlV.digL hnx.val)
          clear hS5 hT5 hv5 hb5 hS6
          have HN := Lib.hid hnx
          clear hnx
          go_wp2_with fail
          refine hmd.mono ?_
          rintro e w7 ⟨A7,l7,c7,k7,rfl,hv7,hb7⟩
          have hbx7 := (HN.out.box.below hb7 HN.out.box.lt)
          have hv8 := hv7.sets hbx7 (.bool k7) (.slice A7 l7 c7)
          have hr7 := hbx7.read A7 l7 c7 k7
          obtain ⟨⟨q0,hd0⟩,⟨q1,hd1⟩,hf0,hf1⟩ := hbx7.facts
          have hbel7 : Below w.heap.size w ((w7.setCell ⟨g,0,none⟩ (.bool k7)).setCell ⟨g,1,none⟩ (.slice A7 l7 c7)) := ((HN.out.bel.trans (hb7.mono HN.out.bel.size)).setCell (by have := HR.out.1.ord;simp;omega) _).setCell (by have := HR.out.1.ord;simp;omega) _
          have hou := out4_any _ _ _ hv8 HO.out.1
          rw [HO.out.2.1] at hou
          obtain ⟨r0,r1⟩ := hr7
          have HB := Lib.hid hbel7
          clear hv7 hb7 hbx7 hbel7 hv8 hmd
          go_wp2_with fail
          refine hou.mono ?_
          rintro e w9 ⟨rfl,hb9⟩
          go_wp2_with fail
          go_ret
          exact ⟨_,rfl,HO.out.2.2,HB.out.trans (hb9.mono HB.out.size)⟩
  · have hia : ¬ (i : Int) < (n0 : Int) := by omega
    have hT := hR.t
    have hS0 := hR.s f2
    obtain ⟨Z,hZ⟩ : ∃ Z,Z = z0 % 501 := ⟨_,rfl⟩
    have e2 : IntKind.i64.wrap ((z0 : Int).tmod 501) = (Z : Int) := by rw [Int.tmod_eq_emod_of_nonneg (by omega),IntKind.wrap_i64];omega
    have E2 := Lib.hid e2
    have hVd := hR.val
    have hvl := wlen4_1000 hV hi
    have h10 : wlen B4 10 ≤ 1 := wlen_le_one two_le_B4 (by decide)
    have hpz : wlen B4 (10 ^ Z) ≤ 1000000000 := wlen4_pow (by omega) (by omega)
    have J1 : Hid (∀ W,DrS w w.heap.size g ⟨w.heap.size,2,none⟩ (.bool b) (.slice A0 n0 c0) (.int .u16 (z0 : Int)) (.int .u16 (z0 : Int)) W → DrT wr g k (.slice A l c) W → Calls Tryz.prog 88 #[.int .i64 10] W (DrE w wr w.heap.size g ⟨w.heap.size,2,none⟩ (.bool b) (.slice A0 n0 c0) (.int .u16 (z0 : Int)) (.int .u16 (z0 : Int)) k (.slice A l c) 10 W)) := Lib.hid (fun W hS hT => dr_int 10 (by omega) W hS hT)
    have J2 : Hid (∀ W v1,PlV W v1 ((10 : Nat) : Int) → DrS w w.heap.size g ⟨w.heap.size,2,none⟩ (.bool b) (.slice A0 n0 c0) (.int .u16 (z0 : Int)) (.int .u16 (z0 : Int)) W → DrT wr g k (.slice A l c) W → Calls Tryz.prog 125 #[v1,.int .i64 (Z : Int)] W (DrE w wr w.heap.size g ⟨w.heap.size,2,none⟩ (.bool b) (.slice A0 n0 c0) (.int .u16 (z0 : Int)) (.int .u16 (z0 : Int)) k (.slice A l c) (10 ^ Z) W)) := Lib.hid (fun W v1 h1 hS hT => dr_raised 10 Z (by omega) (by omega) W v1 h1 hS hT)
    have J3 : Hid (∀ W v2,PlV W v2 ((10 ^ Z : Nat) : Int) → DrS w w.heap.size g ⟨w.heap.size,2,none⟩ (.bool b) (.slice A0 n0 c0) (.int .u16 (z0 : Int)) (.int .u16 (z0 : Int)) W → DrT wr g k (.slice A l c) W → Calls Tryz.prog 119 #[.agg #[.bool k,.slice A l c],v2] W (DrE w wr w.heap.size g ⟨w.heap.size,2,none⟩ (.bool b) (.slice A0 n0 c0) (.int .u16 (z0 : Int)) (.int .u16 (z0 : Int)) k (.slice A l c) (V * 10 ^ Z) W)) := Lib.hid (fun W v2 h2 hS hT => dr_times V (10 ^ Z) (by omega) hpz W _ _ (hVd.below hT.1) h2 hS hT)
    have HO : Hid (wlen B4 (sgn (V * 10 ^ Z) b).natAbs ≤ 1000000 ∧ outV (sgn (V * 10 ^ Z) b) = .tuple #[.string ⟨(Vd.wr (sgn (V * 10 ^ Z) b)).toArray⟩,.int .i64 0] ∧ (sgn (V * 10 ^ Z) b).natAbs < 10 ^ (3 * min n0 12 + z0 % 501)) := Lib.hid (by
     rw [← hZ]
     exact draft_end hV (by omega) (by omega) (by omega))
    have hTd := hT
    have HR := Lib.hid (And.intro hR (And.intro hV hi))
    clear hR hi hi2 hV hZ e2 hVd hvl h10 hpz hT ha hx hz hn
    go_wp2_with fail
    refine wp_region_noPanic ?_
    refine wp_region_held_drew (S := DrS w w.heap.size g ⟨w.heap.size,2,none⟩ (.bool b) (.slice A0 n0 c0) (.int .u16 (z0 : Int)) (.int .u16 (z0 : Int))) (by kernel_rfl) hS0 (fun hHeld => ?_)
    refine wpAnyH_take (i := 2) (v := ?_) rfl (by kernel_rfl) (by kernel_rfl) (by kernel_rfl) (fun _ _ _ h => h) (Or.inl ⟨by rfl,?_⟩) (by assumption) ?_
    rotate_left
    · intro W hSw;obtain ⟨⟨_,_⟩,e1,e2,e3,e4⟩ := hSw;go_simp;try with_reducible rfl
    try simp only [Act.put,List.setIfInBounds_toArray]
    refine wpAnyH_take (i := 3) (v := ?_) rfl (by kernel_rfl) (by kernel_rfl) (by kernel_rfl) (fun _ _ _ h => h) (Or.inl ⟨by rfl,?_⟩) (by assumption) ?_
    rotate_left
    · intro W hSw;obtain ⟨⟨_,_⟩,e1,e2,e3,e4⟩ := hSw;go_simp;try with_reducible rfl
    try simp only [Act.put]
    refine wpAnyH_take (i := 4) (v := ?_) rfl (by kernel_rfl) (by kernel_rfl) (by kernel_rfl) (fun _ _ _ h => h) (Or.inl ⟨by rfl,?_⟩) (by assumption) ?_
    rotate_left
    · intro W hSw;obtain ⟨⟨_,_⟩,e1,e2,e3,e4⟩ := hSw;go_simp;try with_reducible rfl
    try simp only [Act.put]
    refine wpAnyH_take (i := 5) (v := ?_) rfl (by kernel_rfl) (by kernel_rfl) (by kernel_rfl) (fun _ _ _ h => h) (Or.inl ⟨by rfl,?_⟩) (by assumption) ?_
    rotate_left
    · intro W hSw;obtain ⟨⟨_,_⟩,e1,e2,e3,e4⟩ := hSw;go_simp;try with_reducible rfl
    try simp only [Act.put]
    refine wpAnyH_ready (rs := [0,1]) (by kernel_rfl) (by simp) ?_
    refine AllReadyH.cons rfl (fun K hK => ?_) (AllReadyH.cons rfl (fun K hK => ?_) AllReadyH.nil)
    · have u0 := hTd.2.1
      have u1 := hTd.2.2
      go_simp
      refine hK.out _ _ hHeld (fun hHeld => ?_)
      clear hK K
      try simp only [Act.put,List.setIfInBounds_toArray,List.set_cons_zero,List.set_cons_succ]
      refine wpAnyH_ready (rs := [1]) (by kernel_rfl) (by simp) ?_
      refine AllReadyH.cons rfl (fun K hK => ?_) AllReadyH.nil
      go_simp
      refine (J1.out _ hHeld hTd).mono ?_
      rintro e w2 ⟨A2,l2,c2,k2,rfl,hv2,hb2,hS2,hT2⟩
      refine hK.out _ _ hS2 (fun hHeld => ?_)
      clear hK K
      try simp only [Act.put,List.setIfInBounds_toArray,List.set_cons_zero,List.set_cons_succ]
      refine wpAnyH_ready (rs := [6]) (by kernel_rfl) (by simp) ?_
      refine AllReadyH.cons rfl (fun K hK => ?_) AllReadyH.nil
      go_simp
      rw [E2.out]
      refine (J2.out _ _ hv2 hS2 hT2).mono ?_
      rintro e w3 ⟨A3,l3,c3,k3,rfl,hv3,hb3,hS3,hT3⟩
      refine hK.out _ _ hS3 (fun hHeld => ?_)
      clear hK K
      try simp only [Act.put,List.setIfInBounds_toArray,List.set_cons_zero,List.set_cons_succ]
      refine wpAnyH_ready (rs := [7]) (by kernel_rfl) (by simp) ?_
      refine AllReadyH.cons rfl (fun K hK => ?_) AllReadyH.nil
      go_simp
      refine (J3.out _ _ hv3 hS3 hT3).mono ?_
      rintro e w5 ⟨A5,l5,c5,k5,rfl,hv5,hb5,hS5,hT5⟩
      refine hK.out _ _ hS5 (fun hHeld => ?_)
      clear hK K
      try simp only [Act.put,List.setIfInBounds_toArray,List.set_cons_zero,List.set_cons_succ]
      refine wpAnyH_ready (rs := [8]) (by kernel_rfl) (by simp) ?_
      refine AllReadyH.cons rfl (fun K hK => ?_) AllReadyH.nil
      obtain ⟨⟨q0,hd0⟩,⟨q1,hd1⟩,hf0,hf1⟩ := hS5.1.1.facts
      go_simp
      have hS6 := drs_store hS5 (by have := HR.out.1.ord;omega) (by have := HR.out.1.ord;omega) (by have := HR.out.1.ord;show w.heap.size ≠ g;omega) A5 l5 c5 k5
      refine hK.out _ _ hS6 (fun hHeld => ?_)
      clear hK K
      try simp only [Act.put,List.setIfInBounds_toArray,List.set_cons_zero,List.set_cons_succ]
      refine wpAnyH_done (by kernel_rfl) ?_ _
      refine NoPanic.normal ?_
      have hnx := HR.out.1.next hS5 hv5
      have hf := hnx.f0
      have hmd := made4_any b _ _ _ (PlV.digL hnx.val)
      clear hS5 hT5 hv5 hb5 hS6
      have HN := Lib.hid hnx
      clear hnx
      go_wp2_with fail
      refine hmd.mono ?_
      rintro e w7 ⟨A7,l7,c7,k7,rfl,hv7,hb7⟩
      have hbx7 := (HN.out.box.below hb7 HN.out.box.lt)
      have hv8 := hv7.sets hbx7 (.bool k7) (.slice A7 l7 c7)
      have hr7 := hbx7.read A7 l7 c7 k7
      obtain ⟨⟨q0,hd0⟩,⟨q1,hd1⟩,hf0,hf1⟩ := hbx7.facts
      have hbel7 : Below w.heap.size w ((w7.setCell ⟨g,0,none⟩ (.bool k7)).setCell ⟨g,1,none⟩ (.slice A7 l7 c7)) := ((HN.out.bel.trans (hb7.mono HN.out.bel.size)).setCell (by have := HR.out.1.ord;simp;omega) _).setCell (by have := HR.out.1.ord;simp;omega) _
      have hou := out4_any _ _ _ hv8 HO.out.1
      rw [HO.out.2.1] at hou
      obtain ⟨r0,r1⟩ := hr7
      have HB := Lib.hid hbel7
      clear hv7 hb7 hbx7 hbel7 hv8 hmd
      go_wp2_with fail
      refine hou.mono ?_
      rintro e w9 ⟨rfl,hb9⟩
      go_wp2_with fail
      go_ret
      exact ⟨_,rfl,HO.out.2.2,HB.out.trans (hb9.mono HB.out.size)⟩
    · go_simp
      refine (J1.out _ hHeld hTd).mono ?_
      rintro e w2 ⟨A2,l2,c2,k2,rfl,hv2,hb2,hS2,hT2⟩
      refine hK.out _ _ hS2 (fun hHeld => ?_)
      clear hK K
      try simp only [Act.put,List.setIfInBounds_toArray,List.set_cons_zero,List.set_cons_succ]
      refine wpAnyH_ready (rs := [0,6]) (by kernel_rfl) (by simp) ?_
      refine AllReadyH.cons rfl (fun K hK => ?_) (AllReadyH.cons rfl (fun K hK => ?_) AllReadyH.nil)
      · have u0 := hT2.2.1
        have u1 := hT2.2.2
        go_simp
        refine hK.out _ _ hS2 (fun hHeld => ?_)
        clear hK K
        try simp only [Act.put,List.setIfInBounds_toArray,List.set_cons_zero,List.set_cons_succ]
        refine wpAnyH_ready (rs := [6]) (by kernel_rfl) (by simp) ?_
        refine AllReadyH.cons rfl (fun K hK => ?_) AllReadyH.nil
        go_simp
        rw [E2.out]
        refine (J2.out _ _ hv2 hS2 hT2).mono ?_
        rintro e w3 ⟨A3,l3,c3,k3,rfl,hv3,hb3,hS3,hT3⟩
        refine hK.out _ _ hS3 (fun hHeld => ?_)
        clear hK K
        try simp only [Act.put,List.setIfInBounds_toArray,List.set_cons_zero,List.set_cons_succ]
        refine wpAnyH_ready (rs := [7]) (by kernel_rfl) (by simp) ?_
        refine AllReadyH.cons rfl (fun K hK => ?_) AllReadyH.nil
        go_simp
        refine (J3.out _ _ hv3 hS3 hT3).mono ?_
        rintro e w5 ⟨A5,l5,c5,k5,rfl,hv5,hb5,hS5,hT5⟩
        refine hK.out _ _ hS5 (fun hHeld => ?_)
        clear hK K
        try simp only [Act.put,List.setIfInBounds_toArray,List.set_cons_zero,List.set_cons_succ]
        refine wpAnyH_ready (rs := [8]) (by kernel_rfl) (by simp) ?_
        refine AllReadyH.cons rfl (fun K hK => ?_) AllReadyH.nil
        obtain ⟨⟨q0,hd0⟩,⟨q1,hd1⟩,hf0,hf1⟩ := hS5.1.1.facts
        go_simp
        have hS6 := drs_store hS5 (by have := HR.out.1.ord;omega) (by have := HR.out.1.ord;omega) (by have := HR.out.1.ord;show w.heap.size ≠ g;omega) A5 l5 c5 k5
        refine hK.out _ _ hS6 (fun hHeld => ?_)
        clear hK K
        try simp only [Act.put,List.setIfInBounds_toArray,List.set_cons_zero,List.set_cons_succ]
        refine wpAnyH_done (by kernel_rfl) ?_ _
        refine NoPanic.normal ?_
        have hnx := HR.out.1.next hS5 hv5
        have hf := hnx.f0
        have hmd := made4_any b _ _ _ (PlV.digL hnx.val)
        clear hS5 hT5 hv5 hb5 hS6
        have HN := Lib.hid hnx
        clear hnx
        go_wp2_with fail
        refine hmd.mono ?_
        rintro e w7 ⟨A7,l7,c7,k7,rfl,hv7,hb7⟩
        have hbx7 := (HN.out.box.below hb7 HN.out.box.lt)
        have hv8 := hv7.sets hbx7 (.bool k7) (.slice A7 l7 c7)
        have hr7 := hbx7.read A7 l7 c7 k7
        obtain ⟨⟨q0,hd0⟩,⟨q1,hd1⟩,hf0,hf1⟩ := hbx7.facts
        have hbel7 : Below w.heap.size w ((w7.setCell ⟨g,0,none⟩ (.bool k7)).setCell ⟨g,1,none⟩ (.slice A7 l7 c7)) := ((HN.out.bel.trans (hb7.mono HN.out.bel.size)).setCell (by have := HR.out.1.ord;simp;omega) _).setCell (by have := HR.out.1.ord;simp;omega) _
        have hou := out4_any _ _ _ hv8 HO.out.1
        rw [HO.out.2.1] at hou
        obtain ⟨r0,r1⟩ := hr7
        have HB := Lib.hid hbel7
        clear hv7 hb7 hbx7 hbel7 hv8 hmd
        go_wp2_with fail
        refine hou.mono ?_
        rintro e w9 ⟨rfl,hb9⟩
        go_wp2_with fail
        go_ret
        exact ⟨_,rfl,HO.out.2.2,HB.out.trans (hb9.mono HB.out.size)⟩
      · go_simp
        rw [E2.out]
        refine (J2.out _ _ hv2 hS2 hT2).mono ?_
        rintro e w3 ⟨A3,l3,c3,k3,rfl,hv3,hb3,hS3,hT3⟩
        refine hK.out _ _ hS3 (fun hHeld => ?_)
        clear hK K
        try simp only [Act.put,List.setIfInBounds_toArray,List.set_cons_zero,List.set_cons_succ]
        refine wpAnyH_ready (rs := [0]) (by kernel_rfl) (by simp) ?_
        refine AllReadyH.cons rfl (fun K hK => ?_) AllReadyH.nil
        have u0 := hT3.2.1
        have u1 := hT3.2.2
        go_simp
        refine hK.out _ _ hS3 (fun hHeld => ?_)
        clear hK K
        try simp only [Act.put,List.setIfInBounds_toArray,List.set_cons_zero,List.set_cons_succ]
        refine wpAnyH_ready (rs := [7]) (by kernel_rfl) (by simp) ?_
        refine AllReadyH.cons rfl (fun K hK => ?_) AllReadyH.nil
        go_simp
        refine (J3.out _ _ hv3 hS3 hT3).mono ?_
        rintro e w5 ⟨A5,l5,c5,k5,rfl,hv5,hb5,hS5,hT5⟩
        refine hK.out _ _ hS5 (fun hHeld => ?_)
        clear hK K
        try simp only [Act.put,List.setIfInBounds_toArray,List.set_cons_zero,List.set_cons_succ]
        refine wpAnyH_ready (rs := [8]) (by kernel_rfl) (by simp) ?_
        refine AllReadyH.cons rfl (fun K hK => ?_) AllReadyH.nil
        obtain ⟨⟨q0,hd0⟩,⟨q1,hd1⟩,hf0,hf1⟩ := hS5.1.1.facts
        go_simp
        have hS6 := drs_store hS5 (by have := HR.out.1.ord;omega) (by have := HR.out.1.ord;omega) (by have := HR.out.1.ord;show w.heap.size ≠ g;omega) A5 l5 c5 k5
        refine hK.out _ _ hS6 (fun hHeld => ?_)
        clear hK K
        try simp only [Act.put,List.setIfInBounds_toArray,List.set_cons_zero,List.set_cons_succ]
        refine wpAnyH_done (by kernel_rfl) ?_ _
        refine NoPanic.normal ?_
        have hnx := HR.out.1.next hS5 hv5
        have hf := hnx.f0
        have hmd := made4_any b _ _ _ (PlV.digL hnx.val)
        clear hS5 hT5 hv5 hb5 hS6
        have HN := Lib.hid hnx
        clear hnx
        go_wp2_with fail
        refine hmd.mono ?_
        rintro e w7 ⟨A7,l7,c7,k7,rfl,hv7,hb7⟩
        have hbx7 := (HN.out.box.below hb7 HN.out.box.lt)
        have hv8 := hv7.sets hbx7 (.bool k7) (.slice A7 l7 c7)
        have hr7 := hbx7.read A7 l7 c7 k7
        obtain ⟨⟨q0,hd0⟩,⟨q1,hd1⟩,hf0,hf1⟩ := hbx7.facts
        have hbel7 : Below w.heap.size w ((w7.setCell ⟨g,0,none⟩ (.bool k7)).setCell ⟨g,1,none⟩ (.slice A7 l7 c7)) := ((HN.out.bel.trans (hb7.mono HN.out.bel.size)).setCell (by have := HR.out.1.ord;simp;omega) _).setCell (by have := HR.out.1.ord;simp;omega) _
        have hou := out4_any _ _ _ hv8 HO.out.1
        rw [HO.out.2.1] at hou
        obtain ⟨r0,r1⟩ := hr7
        have HB := Lib.hid hbel7
        clear hv7 hb7 hbx7 hbel7 hv8 hmd
        go_wp2_with fail
        refine hou.mono ?_
        rintro e w9 ⟨rfl,hb9⟩
        go_wp2_with fail
        go_ret
        exact ⟨_,rfl,HO.out.2.2,HB.out.trans (hb9.mono HB.out.size)⟩
end Go.Proofs.YtlfgpmnjnpdkdaaGreatDoor
