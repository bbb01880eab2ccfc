/- What FracMakes wants beside. -/
import Derived.Test.YtlfgpmnjnpdkdaaGreatDoorFrdC
import Derived.Test.YtlfgpmnjnpdkdaaGreatDoorFrcG
namespace Go.Proofs.YtlfgpmnjnpdkdaaGreatDoor
open Go.RowKit Vd
attribute [local go_sem ↓] Go.wp_at_zero Go.wp_at_succ
set_option maxRecDepth 100000 in
set_option maxHeartbeats 1000000 in
theorem orderZ4_any (v1 v2 : Value) (x y : Int) (w : World) (h1 : PlV w v1 x) (h2 : PlV w v2 y) (b1 : wlen B4 x.natAbs ≤ 1000000000) (b2 : wlen B4 y.natAbs ≤ 1000000000) :
    Calls Tryz.prog 118 #[v1,v2] w fun e w' => e = .returned (.int .i64 (cmpZ x y)) ∧ Below w.heap.size w w' := by
 obtain ⟨A1,n1,c1,k1,rfl⟩ := h1.open
 obtain ⟨A2,n2,c2,k2,rfl⟩ := h2.open
 have hbW : Below w.heap.size w ((w.alloc (.cells #[.bool k1,.slice A1 n1 c1] 88)).alloc (.cells #[.bool k2,.slice A2 n2 c2] 88)) := ((Below.refl _ _).alloc (Nat.le_refl _) _).alloc (by simp) _
 have hmi := minus4_any _ _ x y _ (h1.below hbW) (h2.below hbW) b1 b2
 have HB := Lib.hid hbW
 clear h1 h2 b1 b2 hbW
 go_enter Tryz.func118,Tryz.ntmps118
 go_wp2_with fail
 refine hmi.mono ?_
 rintro e w1 ⟨A,n,c,k,rfl,hp,hb⟩
 obtain ⟨hk,hn⟩ := order4z_cells hp
 have hbl := HB.out.trans (hb.mono HB.out.size)
 have HL := Lib.hid hbl
 have h0 := wlen_eq_zero (b := B4) two_le_B4 (n := (x - y).natAbs)
 rw [← hn] at h0
 cases k
 · have hk' : ¬ x - y < 0 := by simpa using hk.symm
   by_cases hz : n = 0
   · have hxy : x - y = 0 := by have := h0.1 hz;omega
     have HE := Lib.hid (show cmpZ x y = 0 by unfold cmpZ;rw [if_neg (by omega),if_neg (by omega)])
     subst hz
     clear hk hk' hn h0 hp hb hmi hbl hxy
     go_wp2_with fail
     go_ret
     exact ⟨by rw [HE.out];rfl,HL.out.alloc (by simpa using HL.out.size) _⟩
   · have hxy : x - y ≠ 0 := fun e => hz (h0.2 (by omega))
     have i1 : (0 : Int) < (n : Int) := by omega
     have HE := Lib.hid (show cmpZ x y = 1 by unfold cmpZ;rw [if_neg (by omega),if_pos (by omega)])
     clear hk hk' hn h0 hp hb hmi hbl hxy hz
     go_wp2_with fail
     go_ret
     exact ⟨by rw [HE.out];rfl,HL.out.alloc (by simpa using HL.out.size) _⟩
 · have hk' : x - y < 0 := by simpa using hk.symm
   have HE := Lib.hid (show cmpZ x y = -1 by unfold cmpZ;rw [if_pos (by omega)])
   clear hk hk' hn h0 hp hb hmi hbl
   go_wp2_with fail
   go_ret
   exact ⟨by rw [HE.out];rfl,HL.out.alloc (by simpa using HL.out.size) _⟩
end Go.Proofs.YtlfgpmnjnpdkdaaGreatDoor

namespace Go.Proofs.YtlfgpmnjnpdkdaaGreatDoor
open Go.RowKit Vd
instance (q : Rat) : Decidable (smallF q) := by unfold smallF;exact inferInstance
end Go.Proofs.YtlfgpmnjnpdkdaaGreatDoor
namespace Go.Proofs.YtlfgpmnjnpdkdaaGreatDoor
open Go.RowKit Vd
attribute [local go_sem ↓] Go.wp_at_zero Go.wp_at_succ
section
variable {W W' : World} {b g o : Nat} {vs : Array Value} {t : TypeId}
end
set_option maxRecDepth 100000 in
set_option maxHeartbeats 1000000 in
theorem frw_some (l : List UInt8) (z : Int) (w : World) (h : rd l = some z) :
    Calls Tryz.prog 58 #[.string ⟨l.toArray⟩] w fun e w' => ∃ (A : Option Addr) (n c : Nat) (k : Bool),e = .returned (.tuple #[.agg #[.slice A n c,.bool k],.bool true]) ∧ SgV w' (.agg #[.slice A n c,.bool k]) z ∧ Below w.heap.size w w' := by
 have hr := fun W => read600_some l z W h
 have hF0 : Fr (w.alloc (.cells #[.slice none 0 0,.bool false] 80)) w.heap.size #[.slice none 0 0,.bool false] 80 := Fr.new rfl
 have hbW : Below w.heap.size w (w.alloc (.cells #[.slice none 0 0,.bool false] 80)) := (Below.refl _ _).alloc (Nat.le_refl _) _
 clear h
 go_enter Tryz.func58,Tryz.ntmps58
 go_wp2_with fail
 refine (hr _).mono ?_
 rintro e w1 ⟨A,n,c,k,rfl,hv,hb⟩
 have hF1 := hF0.call hb
 obtain ⟨c0,c1,z0,z1⟩ := hF1.cells2
 have HB := Lib.hid (hbW.trans (hb.mono hbW.size))
 clear hb hr
 go_wp2_with fail
 exact bodyPost_ret (v := .tuple #[.agg #[.slice A n c,.bool k],.bool true]) (by simp [results,Tryz.results58,go_sem,c0,c1]) rfl ⟨A,n,c,k,rfl,SgV.set2 hF1 rfl rfl rfl hv,(HB.out.setCell (Nat.le_refl _) _).setCell (Nat.le_refl _) _⟩
set_option maxRecDepth 100000 in
set_option maxHeartbeats 1000000 in
theorem frw_none (l : List UInt8) (w : World) (h : rd l = none) :
    Calls Tryz.prog 58 #[.string ⟨l.toArray⟩] w fun e w' => ∃ (A : Option Addr) (n c : Nat) (k : Bool),e = .returned (.tuple #[.agg #[.slice A n c,.bool k],.bool false]) ∧ Below w.heap.size w w' := by
 have hr := fun W => read600_none l W h
 have hF0 : Fr (w.alloc (.cells #[.slice none 0 0,.bool false] 80)) w.heap.size #[.slice none 0 0,.bool false] 80 := Fr.new rfl
 have hbW : Below w.heap.size w (w.alloc (.cells #[.slice none 0 0,.bool false] 80)) := (Below.refl _ _).alloc (Nat.le_refl _) _
 clear h
 go_enter Tryz.func58,Tryz.ntmps58
 go_wp2_with fail
 refine (hr _).mono ?_
 rintro e w1 ⟨A,n,c,k,rfl,hb⟩
 have hF1 := hF0.call hb
 obtain ⟨c0,c1,z0,z1⟩ := hF1.cells2
 have HB := Lib.hid (hbW.trans (hb.mono hbW.size))
 clear hb hr
 go_wp2_with fail
 exact bodyPost_ret (v := .tuple #[.agg #[.slice A n c,.bool k],.bool false]) (by simp [results,Tryz.results58,go_sem,c0,c1]) rfl ⟨A,n,c,k,rfl,(HB.out.setCell (Nat.le_refl _) _).setCell (Nat.le_refl _) _⟩
end Go.Proofs.YtlfgpmnjnpdkdaaGreatDoor

namespace Go.Proofs.YtlfgpmnjnpdkdaaGreatDoor
open Go.RowKit Vd
attribute [local go_sem ↓] Go.wp_at_zero Go.wp_at_succ
set_option maxRecDepth 100000 in
set_option maxHeartbeats 1000000 in
theorem fcheck_some (a1 a2 : List UInt8) (x : Rat) (w : World) (ha : rdF a1 a2 = some x) :
    Calls Tryz.prog 15 #[.agg #[.string ⟨a1.toArray⟩,.string ⟨a2.toArray⟩]] w fun e w' => e = .returned (.int .i64 0) ∧ Below w.heap.size w w' := by
 have hbW : Below w.heap.size w (w.alloc (.cells #[.string ⟨a1.toArray⟩,.string ⟨a2.toArray⟩] 24)) := (Below.refl _ _).alloc (Nat.le_refl _) _
 have hc := fread_some a1 a2 x (w.alloc (.cells #[.string ⟨a1.toArray⟩,.string ⟨a2.toArray⟩] 24)) ha
 have HB := Lib.hid hbW
 clear ha hbW
 go_enter Tryz.func15,Tryz.ntmps15
 go_wp2_with fail
 refine hc.mono ?_
 rintro e w1 ⟨v,rfl,hv,hb1⟩
 obtain ⟨A1,n1,c1,k1,A2,n2,c2,k2,rfl,_,_⟩ := hv.open
 have hbel := Lib.hid (belowt HB.out HB.out.size hb1)
 clear hc hb1 hv
 go_wp2_with fail
 go_ret
 exact ⟨rfl,hbel.out.alloc hbel.out.size _⟩
end Go.Proofs.YtlfgpmnjnpdkdaaGreatDoor
namespace Go.Proofs.YtlfgpmnjnpdkdaaGreatDoor
open Go.RowKit Vd
attribute [local go_sem ↓] Go.wp_at_zero Go.wp_at_succ
theorem meth_sign (n : Nat) (A1 : Option Addr) (n1 c1 : Nat) (k1 : Bool) (A2 : Option Addr) (n2 c2 : Nat) (k2 : Bool) (W : World) : Sem.run Tryz.prog (method (n + 4) 82 (.agg #[.slice A1 n1 c1,.bool k1,.slice A2 n2 c2,.bool k2]) "Sign") W = .ok (64,.agg #[.slice A1 n1 c1,.bool k1]) W := by kernel_rfl
set_option maxRecDepth 100000 in
set_option maxHeartbeats 1000000 in
theorem appSign_some (a1 a2 : List UInt8) (x : Rat) (w : World) (ha : rdF a1 a2 = some x) :
    Calls Tryz.prog 63 #[.agg #[.string ⟨a1.toArray⟩,.string ⟨a2.toArray⟩],.func (.methodOf 82 "Sign") #[] #[]] w fun e w' => e = .returned (.tuple #[.int .i64 (signZ x.num),.int .i64 0]) ∧ Below w.heap.size w w' := by
 have hbW : Below w.heap.size w (w.alloc (.cells #[.string ⟨a1.toArray⟩,.string ⟨a2.toArray⟩] 24)) := (Below.refl _ _).alloc (Nat.le_refl _) _
 have hc := fread_some a1 a2 x (w.alloc (.cells #[.string ⟨a1.toArray⟩,.string ⟨a2.toArray⟩] 24)) ha
 obtain ⟨s,hs⟩ : ∃ s,s = signZ x.num := ⟨_,rfl⟩
 rw [← hs]
 have HS := Lib.hid hs
 clear hs
 have HB := Lib.hid hbW
 clear ha hbW
 go_enter Tryz.func63,Tryz.ntmps63
 go_wp2_with fail
 refine hc.mono ?_
 rintro e w1 ⟨v,rfl,hv,hb1⟩
 obtain ⟨A1,n1,c1,k1,A2,n2,c2,k2,rfl,g1,g2⟩ := hv.open
 have hop := sign_any _ _ _ (g1.below (w' := w1.alloc (.cells #[.slice A1 n1 c1,.bool k1,.slice A2 n2 c2,.bool k2] 82)) ((Below.refl _ _).alloc (Nat.le_refl _) _))
 have hm := meth_sign 404
 rw [← HS.out] at hop
 have HB1 := Lib.hid hb1
 clear hc hb1 hv g1 g2
 go_wp2_with fail
 refine hop.mono ?_
 rintro e w2 ⟨rfl,hb2⟩
 have hbel := belowt ((belowt HB.out HB.out.size HB1.out).alloc (by have := HB.out.size;have := HB1.out.size;omega) (.cells #[.slice A1 n1 c1,.bool k1,.slice A2 n2 c2,.bool k2] 82)) (by have := HB.out.size;have := HB1.out.size;simp;omega) hb2
 clear hop hb2
 go_wp2_with fail
 go_ret2
 exact ⟨rfl,hbel⟩
end Go.Proofs.YtlfgpmnjnpdkdaaGreatDoor
namespace Go.Proofs.YtlfgpmnjnpdkdaaGreatDoor
open Go.RowKit Vd
attribute [local go_sem ↓] Go.wp_at_zero Go.wp_at_succ
theorem mkfM (t : TypeId) (s : String) (w : World) : (Instr.makeFunc (.methodOf t s) #[] #[]).run Tryz.prog w = .ok (.func (.methodOf t s) #[] #[]) w := rfl
set_option maxRecDepth 100000 in
set_option maxHeartbeats 1000000 in
theorem appSign_none (a1 a2 : List UInt8) (w : World) (ha : rdF a1 a2 = none) :
    Calls Tryz.prog 63 #[.agg #[.string ⟨a1.toArray⟩,.string ⟨a2.toArray⟩],.func (.methodOf 82 "Sign") #[] #[]] w fun e w' => e = .returned (.tuple #[.int .i64 0,.int .i64 20]) ∧ Below w.heap.size w w' := by
 have hbW : Below w.heap.size w (w.alloc (.cells #[.string ⟨a1.toArray⟩,.string ⟨a2.toArray⟩] 24)) := (Below.refl _ _).alloc (Nat.le_refl _) _
 have hc := fread_none a1 a2 (w.alloc (.cells #[.string ⟨a1.toArray⟩,.string ⟨a2.toArray⟩] 24)) ha
 unfold raNone at hc
 have HB := Lib.hid hbW
 clear ha hbW
 go_enter Tryz.func63,Tryz.ntmps63
 go_wp2_with fail
 refine hc.mono ?_
 rintro e w1 ⟨rfl,hb1⟩
 have hbel := belowt HB.out HB.out.size hb1
 have HZ := Lib.hid (hbel.alloc hbel.size (.cells #[.slice none 0 0,.bool false,.slice none 0 0,.bool false] 82))
 clear hc hb1 hbel
 go_wp2_with fail
 go_ret2
 exact ⟨rfl,HZ.out⟩
set_option maxRecDepth 100000 in
set_option maxHeartbeats 1000000 in
theorem fsign_some (a1 a2 : List UInt8) (x : Rat) (w : World) (ha : rdF a1 a2 = some x) :
    Calls Tryz.prog 13 #[.agg #[.string ⟨a1.toArray⟩,.string ⟨a2.toArray⟩]] w fun e w' => e = .returned (.tuple #[.int .i64 (signZ x.num),.int .i64 0]) ∧ Below w.heap.size w w' := by
 have hbW : Below w.heap.size w (w.alloc (.cells #[.string ⟨a1.toArray⟩,.string ⟨a2.toArray⟩] 24)) := (Below.refl _ _).alloc (Nat.le_refl _) _
 have hc := appSign_some a1 a2 x (w.alloc (.cells #[.string ⟨a1.toArray⟩,.string ⟨a2.toArray⟩] 24)) ha
 have hmf := mkfM
 obtain ⟨s,hs⟩ : ∃ s,s = signZ x.num := ⟨_,rfl⟩
 rw [← hs] at hc ⊢
 clear hs
 have HB := Lib.hid hbW
 clear ha hbW
 go_enter Tryz.func13,Tryz.ntmps13
 go_wp2_with fail
 refine hc.mono ?_
 rintro e w1 ⟨rfl,hb1⟩
 have hbel := Lib.hid (belowt HB.out HB.out.size hb1)
 clear hc hb1
 go_wp2_with fail
 go_ret2
 exact ⟨rfl,hbel.out⟩
set_option maxRecDepth 100000 in
set_option maxHeartbeats 1000000 in
theorem fsign_none (a1 a2 : List UInt8) (w : World) (ha : rdF a1 a2 = none) :
    Calls Tryz.prog 13 #[.agg #[.string ⟨a1.toArray⟩,.string ⟨a2.toArray⟩]] w fun e w' => e = .returned (.tuple #[.int .i64 0,.int .i64 20]) ∧ Below w.heap.size w w' := by
 have hbW : Below w.heap.size w (w.alloc (.cells #[.string ⟨a1.toArray⟩,.string ⟨a2.toArray⟩] 24)) := (Below.refl _ _).alloc (Nat.le_refl _) _
 have hc := appSign_none a1 a2 (w.alloc (.cells #[.string ⟨a1.toArray⟩,.string ⟨a2.toArray⟩] 24)) ha
 have hmf := mkfM
 have HB := Lib.hid hbW
 clear ha hbW
 go_enter Tryz.func13,Tryz.ntmps13
 go_wp2_with fail
 refine hc.mono ?_
 rintro e w1 ⟨rfl,hb1⟩
 have hbel := Lib.hid (belowt HB.out HB.out.size hb1)
 clear hc hb1
 go_wp2_with fail
 go_ret2
 exact ⟨rfl,hbel.out⟩
end Go.Proofs.YtlfgpmnjnpdkdaaGreatDoor
namespace Go.Proofs.YtlfgpmnjnpdkdaaGreatDoor
open Go.RowKit Vd
attribute [local go_sem ↓] Go.wp_at_zero Go.wp_at_succ
def Gz (q : Rat) (K : Nat) : Prop := wlen B4 q.num.natAbs ≤ K ∧ wlen B4 q.den ≤ K
theorem Gz.mono {q : Rat} {K L : Nat} (h : Gz q K) (hl : K ≤ L) : Gz q L := ⟨Nat.le_trans h.1 hl,Nat.le_trans h.2 hl⟩
theorem wl4_mulZ (x y : Int) : wlen B4 (x * y).natAbs ≤ wlen B4 x.natAbs + wlen B4 y.natAbs := by rw [Int.natAbs_mul];exact wlen_mul two_le_B4 _ _
theorem Gz.divInt {n d : Int} {K : Nat} (hd : d ≠ 0) (h1 : wlen B4 n.natAbs ≤ K) (h2 : wlen B4 d.natAbs ≤ K) : Gz (Rat.divInt n d) K := by
 have hp : 0 < Int.gcd d n := Int.gcd_pos_of_ne_zero_left _ hd
 constructor
 · rw [Rat.num_divInt]
   refine Nat.le_trans (wlen_mono two_le_B4 ?_) h1
   have hdv : ((Int.gcd d n : Nat) : Int) ∣ d.sign * n := Int.dvd_trans (Int.gcd_dvd_right _ _) (Int.dvd_mul_left _ _)
   rw [Int.natAbs_ediv_of_dvd hdv,Int.natAbs_mul,Int.natAbs_sign_of_ne_zero hd,Nat.one_mul]
   exact Nat.div_le_self _ _
 · rw [Rat.den_divInt,if_neg hd]
   exact Nat.le_trans (wlen_mono two_le_B4 (Nat.div_le_self _ _)) h2
theorem gz_den {q : Rat} {K : Nat} (h : Gz q K) : wlen B4 ((q.den : Int)).natAbs ≤ K := by rw [Int.natAbs_natCast];exact h.2
theorem Gz.neg {q : Rat} {K : Nat} (h : Gz q K) : Gz (-q) K := ⟨by rw [show (-q).num = -q.num from rfl,Int.natAbs_neg];exact h.1,h.2⟩
def RqV (w : World) (v : Value) (q : Rat) : Prop := RtV w v q.num (q.den : Int)
theorem RqV.below {w w' : World} {v : Value} {q : Rat} (h : RqV w v q) (hb : Below w.heap.size w w') : RqV w' v q := RtV.below h hb
theorem RqV.open {w : World} {v : Value} {q : Rat} (h : RqV w v q) : ∃ (A1 : Option Addr) (n1 c1 : Nat) (k1 : Bool) (A2 : Option Addr) (n2 c2 : Nat) (k2 : Bool),v = .agg #[.bool k1,.slice A1 n1 c1,.bool k2,.slice A2 n2 c2] ∧ PlV w (.agg #[.bool k1,.slice A1 n1 c1]) q.num ∧ PlV w (.agg #[.bool k2,.slice A2 n2 c2]) (q.den : Int) := by
 obtain ⟨k1,A1,n1,c1,k2,A2,n2,c2,e,g1,g2⟩ := h
 exact ⟨A1,n1,c1,k1,A2,n2,c2,k2,e,g1,g2⟩
def BoxQ (W : World) (b : Nat) : Prop := ∃ (A : Option Addr) (n c : Nat) (k : Bool) (A' : Option Addr) (n' c' : Nat) (k' : Bool),Fr W b #[.bool k,.slice A n c,.bool k',.slice A' n' c'] 90
theorem Fr.boxQ {W : World} {b : Nat} {A : Option Addr} {n c : Nat} {k : Bool} {A' : Option Addr} {n' c' : Nat} {k' : Bool} (h : Fr W b #[.bool k,.slice A n c,.bool k',.slice A' n' c'] 90) : BoxQ W b := ⟨_,_,_,_,_,_,_,_,h⟩
theorem BoxQ.lt {W : World} {b : Nat} (h : BoxQ W b) : b < W.heap.size := by obtain ⟨_,_,_,_,_,_,_,_,h⟩ := h;exact h.lt
theorem BoxQ.call {W W' : World} {b : Nat} (h : BoxQ W b) (hb : Below W.heap.size W W') : BoxQ W' b := by obtain ⟨_,_,_,_,_,_,_,_,h⟩ := h;exact (h.call hb).boxQ
theorem BoxQ.old {W : World} {b : Nat} {u : Obj} (h : BoxQ W b) : BoxQ (W.alloc u) b := h.call ((Below.refl _ _).alloc (Nat.le_refl _) u)
theorem BoxQ.set4 {W : World} {b : Nat} (h : BoxQ W b) (A : Option Addr) (n c : Nat) (k : Bool) (A' : Option Addr) (n' c' : Nat) (k' : Bool) : BoxQ (sto4 W b (.bool k) (.slice A n c) (.bool k') (.slice A' n' c')) b := by
 obtain ⟨_,_,_,_,_,_,_,_,h⟩ := h;exact (Fr.set4 h).boxQ
theorem BoxQ.pl {W : World} {b : Nat} (h : BoxQ W b) (A : Option Addr) (n c : Nat) (k : Bool) (A' : Option Addr) (n' c' : Nat) (k' : Bool) {v : Value} {z : Int} (hv : PlV W v z) : PlV (sto4 W b (.bool k) (.slice A n c) (.bool k') (.slice A' n' c')) v z := by
 obtain ⟨_,_,_,_,_,_,_,_,h⟩ := h;exact PlV.set4 h rfl rfl rfl rfl rfl rfl rfl hv
theorem BoxQ.facts {W : World} {b : Nat} (h : BoxQ W b) : (∃ u,W.cell? ⟨b,0,none⟩ = some u) ∧ (∃ u,W.cell? ⟨b,1,none⟩ = some u) ∧ (∃ u,W.cell? ⟨b,2,none⟩ = some u) ∧ (∃ u,W.cell? ⟨b,3,none⟩ = some u) ∧ W.frozen? ⟨b,0,none⟩ = false ∧ W.frozen? ⟨b,1,none⟩ = false ∧ W.frozen? ⟨b,2,none⟩ = false ∧ W.frozen? ⟨b,3,none⟩ = false := by
 obtain ⟨_,_,_,_,_,_,_,_,h⟩ := h
 obtain ⟨a,b,c,d,e,f,g,i⟩ := h.cells4
 exact ⟨⟨_,a⟩,⟨_,b⟩,⟨_,c⟩,⟨_,d⟩,e,f,g,i⟩
theorem RqV.fin {V : World} {b : Nat} {q : Rat} {A1 : Option Addr} {n1 c1 : Nat} {k1 : Bool} {A2 : Option Addr} {n2 c2 : Nat} {k2 : Bool} (hF : BoxQ V b) (h1 : PlV V (.agg #[.bool k1,.slice A1 n1 c1]) q.num) (h2 : PlV V (.agg #[.bool k2,.slice A2 n2 c2]) (q.den : Int)) :
    RqV (sto4 V b (.bool k1) (.slice A1 n1 c1) (.bool k2) (.slice A2 n2 c2)) (.agg #[.bool k1,.slice A1 n1 c1,.bool k2,.slice A2 n2 c2]) q :=
 ⟨k1,A1,n1,c1,k2,A2,n2,c2,rfl,hF.pl _ _ _ _ _ _ _ _ h1,hF.pl _ _ _ _ _ _ _ _ h2⟩
theorem RqV.parts {w : World} {A1 : Option Addr} {n1 c1 : Nat} {k1 : Bool} {A2 : Option Addr} {n2 c2 : Nat} {k2 : Bool} {q : Rat} (h : RqV w (.agg #[.bool k1,.slice A1 n1 c1,.bool k2,.slice A2 n2 c2]) q) : PlV w (.agg #[.bool k1,.slice A1 n1 c1]) q.num ∧ PlV w (.agg #[.bool k2,.slice A2 n2 c2]) (q.den : Int) := by
 obtain ⟨k3,A3,n3,c3,k4,A4,n4,c4,e,g1,g2⟩ := h
 simp only [Value.agg.injEq,Array.mk.injEq,List.cons.injEq,Value.bool.injEq,Value.slice.injEq,and_true] at e
 obtain ⟨rfl,⟨rfl,rfl,rfl⟩,rfl,rfl,rfl,rfl⟩ := e
 exact ⟨g1,g2⟩
theorem BoxF.pl {W : World} {b : Nat} (h : BoxF W b) (s t : ByteArray) {v : Value} {z : Int} (hv : PlV W v z) : PlV (sto2 W b (.string s) (.string t)) v z := by
 obtain ⟨_,_,h⟩ := h
 exact (hv.beside h rfl).beside (vs := #[.string s,_]) (Fr.set (o := 0) h) rfl
abbrev BrS (w : World) (A1 : Option Addr) (n1 c1 : Nat) (k1 : Bool) (A2 : Option Addr) (n2 c2 : Nat) (k2 : Bool) (A3 : Option Addr) (n3 c3 : Nat) (k3 : Bool) (A4 : Option Addr) (n4 c4 : Nat) (k4 : Bool) (W : World) : Prop := (Below w.heap.size w W) ∧ W.cell? ⟨w.heap.size,0,none⟩ = some (.bool k1) ∧ W.cell? ⟨w.heap.size,1,none⟩ = some (.slice A1 n1 c1) ∧ W.cell? ⟨w.heap.size,2,none⟩ = some (.bool k2) ∧ W.cell? ⟨w.heap.size,3,none⟩ = some (.slice A2 n2 c2) ∧ W.cell? ⟨w.heap.size + 1,0,none⟩ = some (.bool k3) ∧ W.cell? ⟨w.heap.size + 1,1,none⟩ = some (.slice A3 n3 c3) ∧ W.cell? ⟨w.heap.size + 1,2,none⟩ = some (.bool k4) ∧ W.cell? ⟨w.heap.size + 1,3,none⟩ = some (.slice A4 n4 c4)
theorem brS_step {w : World} {A1 : Option Addr} {n1 c1 : Nat} {k1 : Bool} {A2 : Option Addr} {n2 c2 : Nat} {k2 : Bool} {A3 : Option Addr} {n3 c3 : Nat} {k3 : Bool} {A4 : Option Addr} {n4 c4 : Nat} {k4 : Bool} {W W' : World} (h : BrS w A1 n1 c1 k1 A2 n2 c2 k2 A3 n3 c3 k3 A4 n4 c4 k4 W) (hb : Below W.heap.size W W') : BrS w A1 n1 c1 k1 A2 n2 c2 k2 A3 n3 c3 k3 A4 n4 c4 k4 W' := by
 obtain ⟨hb0,e0,e1,e2,e3,e4,e5,e6,e7⟩ := h
 exact ⟨belowt hb0 hb0.size hb,keepc hb e0,keepc hb e1,keepc hb e2,keepc hb e3,keepc hb e4,keepc hb e5,keepc hb e6,keepc hb e7⟩
theorem brS_drew {w : World} {A1 : Option Addr} {n1 c1 : Nat} {k1 : Bool} {A2 : Option Addr} {n2 c2 : Nat} {k2 : Bool} {A3 : Option Addr} {n3 c3 : Nat} {k3 : Bool} {A4 : Option Addr} {n4 c4 : Nat} {k4 : Bool} {W : World} (h : BrS w A1 n1 c1 k1 A2 n2 c2 k2 A3 n3 c3 k3 A4 n4 c4 k4 W) : BrS w A1 n1 c1 k1 A2 n2 c2 k2 A3 n3 c3 k3 A4 n4 c4 k4 W.drew := by
 obtain ⟨hb0,e0,e1,e2,e3,e4,e5,e6,e7⟩ := h
 exact ⟨hb0.drew,e0,e1,e2,e3,e4,e5,e6,e7⟩
theorem brS_start (w : World) (A1 : Option Addr) (n1 c1 : Nat) (k1 : Bool) (A2 : Option Addr) (n2 c2 : Nat) (k2 : Bool) (A3 : Option Addr) (n3 c3 : Nat) (k3 : Bool) (A4 : Option Addr) (n4 c4 : Nat) (k4 : Bool) : BrS w A1 n1 c1 k1 A2 n2 c2 k2 A3 n3 c3 k3 A4 n4 c4 k4 ((w.alloc (.cells #[.bool k1,.slice A1 n1 c1,.bool k2,.slice A2 n2 c2] 90)).alloc (.cells #[.bool k3,.slice A3 n3 c3,.bool k4,.slice A4 n4 c4] 90)) := by
 have hb : Below w.heap.size w ((w.alloc (.cells #[.bool k1,.slice A1 n1 c1,.bool k2,.slice A2 n2 c2] 90)).alloc (.cells #[.bool k3,.slice A3 n3 c3,.bool k4,.slice A4 n4 c4] 90)) := ((Below.refl _ _).alloc (Nat.le_refl _) _).alloc (by simp) _
 have r0 : Fr ((w.alloc (.cells #[.bool k1,.slice A1 n1 c1,.bool k2,.slice A2 n2 c2] 90)).alloc (.cells #[.bool k3,.slice A3 n3 c3,.bool k4,.slice A4 n4 c4] 90)) w.heap.size #[.bool k1,.slice A1 n1 c1,.bool k2,.slice A2 n2 c2] 90 := (Fr.new rfl).old
 have r1 : Fr ((w.alloc (.cells #[.bool k1,.slice A1 n1 c1,.bool k2,.slice A2 n2 c2] 90)).alloc (.cells #[.bool k3,.slice A3 n3 c3,.bool k4,.slice A4 n4 c4] 90)) (w.heap.size + 1) #[.bool k3,.slice A3 n3 c3,.bool k4,.slice A4 n4 c4] 90 := (Fr.new (by simp))
 obtain ⟨a0,a1,a2,a3,_⟩ := r0.cells4
 obtain ⟨d0,d1,d2,d3,_⟩ := r1.cells4
 exact ⟨hb,a0,a1,a2,a3,d0,d1,d2,d3⟩
set_option maxRecDepth 100000 in
set_option maxHeartbeats 2000000 in
theorem rqorder_any (v1 v2 : Value) (x y : Rat) (K L : Nat) (w : World) (h1 : RqV w v1 x) (h2 : RqV w v2 y) (hx : Gz x K) (hy : Gz y L) (hK : K + L + 4 ≤ 1000000) :
    Calls Tryz.prog 66 #[v1,v2] w fun e w' => e = .returned (.int .i64 (cmpQ x y)) ∧ Below w.heap.size w w' := by
 obtain ⟨A1,n1,c1,k1,A2,n2,c2,k2,rfl,hv1,hv2⟩ := h1.open
 obtain ⟨A3,n3,c3,k3,A4,n4,c4,k4,rfl,hv3,hv4⟩ := h2.open
 have HT1 : Hid (∀ W,BrS w A1 n1 c1 k1 A2 n2 c2 k2 A3 n3 c3 k3 A4 n4 c4 k4 W → Calls Tryz.prog 119 #[.agg #[.bool k1,.slice A1 n1 c1],.agg #[.bool k4,.slice A4 n4 c4]] W fun e w' => ∃ (A : Option Addr) (n c : Nat) (k : Bool),e = .returned (.agg #[.bool k,.slice A n c]) ∧ PlV w' (.agg #[.bool k,.slice A n c]) (x.num * (y.den : Int)) ∧ Below W.heap.size W w' ∧ BrS w A1 n1 c1 k1 A2 n2 c2 k2 A3 n3 c3 k3 A4 n4 c4 k4 w') := Lib.hid (fun W hS => by
  refine (times4_any _ _ x.num (y.den : Int) W (hv1.below hS.1) (hv4.below hS.1) (Nat.le_trans hx.1 (by omega)) (Nat.le_trans (gz_den hy) (by omega))).mono ?_
  rintro e w' ⟨v,he,hv,hb⟩
  obtain ⟨A,n,c,k,rfl⟩ := hv.open
  exact ⟨A,n,c,k,he,hv,hb,brS_step hS hb⟩)
 have HT2 : Hid (∀ W,BrS w A1 n1 c1 k1 A2 n2 c2 k2 A3 n3 c3 k3 A4 n4 c4 k4 W → Calls Tryz.prog 119 #[.agg #[.bool k3,.slice A3 n3 c3],.agg #[.bool k2,.slice A2 n2 c2]] W fun e w' => ∃ (A : Option Addr) (n c : Nat) (k : Bool),e = .returned (.agg #[.bool k,.slice A n c]) ∧ PlV w' (.agg #[.bool k,.slice A n c]) (y.num * (x.den : Int)) ∧ Below W.heap.size W w' ∧ BrS w A1 n1 c1 k1 A2 n2 c2 k2 A3 n3 c3 k3 A4 n4 c4 k4 w') := Lib.hid (fun W hS => by
  refine (times4_any _ _ y.num (x.den : Int) W (hv3.below hS.1) (hv2.below hS.1) (Nat.le_trans hy.1 (by omega)) (Nat.le_trans (gz_den hx) (by omega))).mono ?_
  rintro e w' ⟨v,he,hv,hb⟩
  obtain ⟨A,n,c,k,rfl⟩ := hv.open
  exact ⟨A,n,c,k,he,hv,hb,brS_step hS hb⟩)
 have HL : Hid (∀ W u v,PlV W u (x.num * (y.den : Int)) → PlV W v (y.num * (x.den : Int)) → BrS w A1 n1 c1 k1 A2 n2 c2 k2 A3 n3 c3 k3 A4 n4 c4 k4 W → Calls Tryz.prog 118 #[u,v] W fun e w' => e = .returned (.int .i64 (cmpQ x y)) ∧ BrS w A1 n1 c1 k1 A2 n2 c2 k2 A3 n3 c3 k3 A4 n4 c4 k4 w') := Lib.hid (fun W u v hu hv hS => by
  refine (orderZ4_any u v _ _ W hu hv (Nat.le_trans (wl4_mulZ _ _) (by have a := hx.1;have b := gz_den hy;omega)) (Nat.le_trans (wl4_mulZ _ _) (by have a := hy.1;have b := gz_den hx;omega))).mono ?_
  rintro e w' ⟨he,hb⟩
  exact ⟨he,brS_step hS hb⟩)
 have hS0 := brS_start w A1 n1 c1 k1 A2 n2 c2 k2 A3 n3 c3 k3 A4 n4 c4 k4
 obtain ⟨C,hC⟩ : ∃ C,C = cmpQ x y := ⟨_,rfl⟩
 rw [← hC] at HL ⊢
 clear h1 h2 hx hy hK hv1 hv2 hv3 hv4 hC
 go_enter Tryz.func66,Tryz.ntmps66
 go_wp2_with fail
 have hS1 := brS_drew hS0
 clear hS0
 go_region_held3 (fun W => (Below w.heap.size w W) ∧ W.cell? ⟨w.heap.size,0,none⟩ = some (.bool k1) ∧ W.cell? ⟨w.heap.size,1,none⟩ = some (.slice A1 n1 c1) ∧ W.cell? ⟨w.heap.size,2,none⟩ = some (.bool k2) ∧ W.cell? ⟨w.heap.size,3,none⟩ = some (.slice A2 n2 c2) ∧ W.cell? ⟨w.heap.size + 1,0,none⟩ = some (.bool k3) ∧ W.cell? ⟨w.heap.size + 1,1,none⟩ = some (.slice A3 n3 c3) ∧ W.cell? ⟨w.heap.size + 1,2,none⟩ = some (.bool k4) ∧ W.cell? ⟨w.heap.size + 1,3,none⟩ = some (.slice A4 n4 c4)) (first | with_reducible assumption | exact ⟨hS1.1,hS1.2⟩)
  (first
   | (go_at_call 119;with_reducible refine (HT1.out _ ?_).mono ?_;with_reducible assumption;rintro e w5 ⟨A5,n5,c5,k5,rfl,hq5,hb5,hS5⟩)
   | (go_at_call 119;with_reducible refine (HT2.out _ ?_).mono ?_;with_reducible assumption;rintro e w6 ⟨A6,n6,c6,k6,rfl,hq6,hb6,hS6⟩;have hq5b := hq5.below hb6)
   | (go_at_call 118;with_reducible refine (HL.out _ _ _ ?_ ?_ ?_).mono ?_;with_reducible assumption;with_reducible assumption;with_reducible assumption;rintro e w7 ⟨rfl,hS7⟩))
 have hbel := hS7.1
 go_wp2_with fail
 go_ret
 exact ⟨rfl,hbel⟩
end Go.Proofs.YtlfgpmnjnpdkdaaGreatDoor
