/- Contracts: the reference's fractions: Lowest over what is not 0; Draft.Frac. -/
import Derived.Test.YtlfgpmnjnpdkdaaGreatDoorFrdB
import Derived.Test.YtlfgpmnjnpdkdaaGreatDoorFrcA
import Derived.Deep.DeepCutAuto
namespace Go.Proofs.YtlfgpmnjnpdkdaaGreatDoor
open Go.RowKit Vd
attribute [local go_sem ↓] Go.wp_at_zero Go.wp_at_succ
theorem rlow_any (v1 v2 : Value) (x y : Int) (w : World) (h1 : PlV w v1 x) (h2 : PlV w v2 y) (b1 : wlen B4 x.natAbs ≤ 1000000) (b2 : wlen B4 y.natAbs ≤ 1000000) (hy : y ≠ 0) :
 Calls Tryz.prog 61 #[v1,v2] w fun e w' => ∃ v,e = .returned v ∧ RtV w' v (Rat.divInt x y).num ((Rat.divInt x y).den : Int) ∧ Below w.heap.size w w' := by
 have hdp := div_parts x y hy _ rfl
 rcases (show y < 0 ∨ 0 < y by omega) with h | h
 · have L := rlow_neg v1 v2 x y w h1 h2 b1 b2 h
   rw [if_pos h] at hdp
   have gx : ((Nat.gcd x.natAbs y.natAbs : Nat) : Int) ∣ x := Int.ofNat_dvd_left.2 (Nat.gcd_dvd_left _ _)
   have gy : ((Nat.gcd x.natAbs y.natAbs : Nat) : Int) ∣ y := Int.ofNat_dvd_left.2 (Nat.gcd_dvd_right _ _)
   rw [Int.ediv_neg,← Int.neg_ediv_of_dvd gx] at hdp
   rw [Int.ediv_neg,← Int.neg_ediv_of_dvd gy] at hdp
   rw [hdp.2.1,hdp.2.2]
   exact L
 · have L := rlow_pos v1 v2 x y w h1 h2 b1 b2 h
   rw [if_neg (by omega)] at hdp
   rw [hdp.2.1,hdp.2.2]
   exact L
theorem Fr.fillD {W : World} {b : Nat} {x y z : Value} (h : Fr W b #[.bool false,.slice none 0 0,.int .u16 0] 28) : Fr (((W.setCell ⟨b,0,none⟩ x).setCell ⟨b,1,none⟩ y).setCell ⟨b,2,none⟩ z) b #[x,y,z] 28 := h.set.set.set
theorem Fr.fillP {W : World} {b : Nat} {x y : Value} (h : Fr W b #[.bool false,.slice none 0 0] 88) : Fr ((W.setCell ⟨b,0,none⟩ x).setCell ⟨b,1,none⟩ y) b #[x,y] 88 := h.set2
theorem PlV.fillP {W : World} {b : Nat} {k : Bool} {y v : Value} {z : Int} (h : Fr W b #[.bool false,.slice none 0 0] 88) (hv : PlV W v z) : PlV ((W.setCell ⟨b,0,none⟩ (.bool k)).setCell ⟨b,1,none⟩ y) v z := PlV.set2 h rfl hv
theorem PlV.callB {W W' : World} {v : Value} {z : Int} (hb : Below W.heap.size W W') (hv : PlV W v z) : PlV W' v z := hv.below hb
theorem PlV.drewB {W : World} {v : Value} {z : Int} (hv : PlV W v z) : PlV W.drew v z := hv
theorem wlen_39 {n : Nat} (h : n < 10 ^ 39) : wlen B4 n ≤ 1000000 := by
 refine Nat.le_trans ((wlen_le_iff (b := B4) two_le_B4 n 10).2 ?_) (by omega)
 exact Nat.lt_of_lt_of_le h (by decide)
theorem wlen_39b {n : Nat} (h : n ≤ 10 ^ 39) : wlen B4 n ≤ 1000000 := by
 refine Nat.le_trans ((wlen_le_iff (b := B4) two_le_B4 n 10).2 ?_) (by omega)
 exact Nat.lt_of_le_of_lt h (by decide)
theorem dpart_any {w : World} {b : Bool} {A : Option Addr} {n c z q : Nat} {xs : List Nat} (hq : q = z % 4) (h : DraftIn w b A n c z xs) (W : World) (hb : Below w.heap.size w W) :
 Calls Tryz.prog 87 #[.agg #[.bool b,.slice A n c,.int .u16 (q : Int)]] W fun e w' => ∃ l : List UInt8,e = .returned (.string ⟨l.toArray⟩) ∧ (∃ x : Int,x.natAbs < 10 ^ 39 ∧ rd l = some x) ∧ Below W.heap.size W w' := by
 subst hq
 have e := h.below hb
 refine (draft_any b A n c (z % 4) xs W e.sl e.ok (by omega) e.n).mono ?_
 rintro e w' ⟨x,rfl,hx,hbw⟩
 have h12 := Nat.min_le_right n 12
 have h3 : z % 4 % 501 ≤ 3 := by omega
 have hx2 : x.natAbs < 10 ^ 39 := Nat.lt_of_lt_of_le hx (Nat.pow_le_pow_right (by omega) (by omega))
 exact ⟨_,rfl,⟨x,hx2,rd_wr (show small x from Nat.lt_of_lt_of_le hx2 (Nat.pow_le_pow_right (by omega) (by rw [maxDigits_eq];omega)))⟩,hbw⟩
set_option maxRecDepth 100000 in
set_option maxHeartbeats 8000000 in
theorem ffrac_any (b1 : Bool) (A1 : Option Addr) (n1 c1 z1 : Nat) (xs1 : List Nat) (b2 : Bool) (A2 : Option Addr) (n2 c2 z2 : Nat) (xs2 : List Nat) (w : World) (D1 : DraftIn w b1 A1 n1 c1 z1 xs1) (D2 : DraftIn w b2 A2 n2 c2 z2 xs2) :
 Calls Tryz.prog 38 #[.agg #[.bool b1,.slice A1 n1 c1,.int .u16 (z1 : Int),.bool b2,.slice A2 n2 c2,.int .u16 (z2 : Int)]] w fun e w' => ∃ q : Rat,Bq q 39 ∧ e = .returned (qV (tN q) (tD q)) ∧ Below w.heap.size w w' := by
 obtain ⟨V,hV⟩ : ∃ V,V = (w.alloc (.cells #[.bool b1,.slice A1 n1 c1,.int .u16 (z1 : Int),.bool b2,.slice A2 n2 c2,.int .u16 (z2 : Int)] 30)).alloc (.cells #[.string ⟨#[]⟩,.string ⟨#[]⟩] 24) := ⟨_,rfl⟩
 have hb0 : Below w.heap.size w V := by rw [hV];exact ((Below.refl _ _).alloc (Nat.le_refl _) _).alloc (by simp) _
 have F1 : Fr V w.heap.size #[.bool b1,.slice A1 n1 c1,.int .u16 (z1 : Int),.bool b2,.slice A2 n2 c2,.int .u16 (z2 : Int)] 30 := by rw [hV];exact (Fr.new rfl).old
 have F2 : Fr V (w.heap.size + 1) #[.string ⟨#[]⟩,.string ⟨#[]⟩] 24 := by rw [hV];exact Fr.new (by simp)
 have hlt : w.heap.size + 1 < V.heap.size := F2.lt
 have e0 : V.cell? ⟨w.heap.size,0,none⟩ = some (.bool b1) := F1.cell 0
 have e1 : V.cell? ⟨w.heap.size,1,none⟩ = some (.slice A1 n1 c1) := F1.cell 1
 have e2 : V.cell? ⟨w.heap.size,2,none⟩ = some (.int .u16 (z1 : Int)) := F1.cell 2
 have e3 : V.cell? ⟨w.heap.size,3,none⟩ = some (.bool b2) := F1.cell 3
 have e4 : V.cell? ⟨w.heap.size,4,none⟩ = some (.slice A2 n2 c2) := F1.cell 4
 have e5 : V.cell? ⟨w.heap.size,5,none⟩ = some (.int .u16 (z2 : Int)) := F1.cell 5
 have H := Lib.hid (And.intro hb0 (And.intro F1 (And.intro F2 (And.intro D1 D2))))
 clear F1 F2 hb0 D1 D2
 obtain ⟨q1,hq1⟩ : ∃ q,q = z1 % 4 := ⟨_,rfl⟩
 obtain ⟨q2,hq2⟩ : ∃ q,q = z2 % 4 := ⟨_,rfl⟩
 go_enter Tryz.func38,Tryz.ntmps38
 go_upto_region 1 with fail
 rw [← hV]
 clear hV
 have hK1 : ∀ W,Below V.heap.size V W → Below V.heap.size V W ∧ W.cell? ⟨w.heap.size,0,none⟩ = some (.bool b1) ∧ W.cell? ⟨w.heap.size,1,none⟩ = some (.slice A1 n1 c1) ∧ W.cell? ⟨w.heap.size,2,none⟩ = some (.int .u16 (z1 : Int)) ∧ W.cell? ⟨w.heap.size,3,none⟩ = some (.bool b2) ∧ W.cell? ⟨w.heap.size,4,none⟩ = some (.slice A2 n2 c2) ∧ W.cell? ⟨w.heap.size,5,none⟩ = some (.int .u16 (z2 : Int)) := fun W hb => ⟨hb,keepc hb e0,keepc hb e1,keepc hb e2,keepc hb e3,keepc hb e4,keepc hb e5⟩
 go_cut [3,4] (fun s3 s4 wx => ∃ g3 g4 : Nat,s3 = .pointer (some ⟨g3,0,none⟩) ∧ s4 = .pointer (some ⟨g4,0,none⟩) ∧ g3 ≠ g4 ∧ V.heap.size ≤ g3 ∧ V.heap.size ≤ g4 ∧ Fr wx g3 #[.bool b1,.slice A1 n1 c1,.int .u16 (z1 : Int)] 28 ∧ Fr wx g4 #[.bool b2,.slice A2 n2 c2,.int .u16 (z2 : Int)] 28 ∧ Below V.heap.size V wx)
 case first =>
  go_region_held3 (fun W => Below V.heap.size V W ∧ W.cell? ⟨w.heap.size,0,none⟩ = some (.bool b1) ∧ W.cell? ⟨w.heap.size,1,none⟩ = some (.slice A1 n1 c1) ∧ W.cell? ⟨w.heap.size,2,none⟩ = some (.int .u16 (z1 : Int)) ∧ W.cell? ⟨w.heap.size,3,none⟩ = some (.bool b2) ∧ W.cell? ⟨w.heap.size,4,none⟩ = some (.slice A2 n2 c2) ∧ W.cell? ⟨w.heap.size,5,none⟩ = some (.int .u16 (z2 : Int)))
   (first | with_reducible assumption | (refine hK1 _ ?_;(repeat (first | with_reducible assumption | with_reducible exact Below.refl _ _ | with_reducible refine Below.drew ?_ | with_reducible refine Below.alloc ?_ (by first | omega | (simp;done) | (simp;omega)) _ | with_reducible refine Below.setCell ?_ (by first | (simp;done) | (simp;omega) | omega) _))))
   (fail)
  all_goals
   go_wp2_with fail
   go_meet
   refine ⟨_,_,rfl,rfl,?_,?_,?_,?_,?_,?_⟩
   all_goals (first
    | omega
    | (simp;done)
    | (simp;omega)
    | (repeat (first
      | (with_reducible refine Fr.new ?_;focus (first | rfl | (simp;done) | omega | (simp;omega))) | (with_reducible refine Fr.fillD ?_) | (with_reducible refine Fr.old ?_) | (with_reducible refine Fr.drew ?_) | ((with_reducible refine Fr.far ?_ (Fr.far ?_ (Fr.far ?_ ?_)));(focus (first | omega | (simp;done) | (simp;omega)));(focus (first | omega | (simp;done) | (simp;omega)));(focus (first | omega | (simp;done) | (simp;omega)))))
       done)
    | (repeat (first | with_reducible exact Below.refl _ _ | with_reducible assumption | with_reducible refine Below.drew ?_ | with_reducible refine Below.alloc ?_ (by first | omega | (simp;done) | (simp;omega)) _ | with_reducible refine Below.setCell ?_ (by first | (simp;done) | (simp;omega) | omega) _)
       done))
 case rest =>
  obtain ⟨g3,g4,rfl,rfl,hne,l3,l4,F3,F4,hbw⟩ := hcut
  have H3 := Lib.hid (And.intro F3 (And.intro F4 hbw))
  have hne2 := hne.symm
  have hz1 : (z1 : Int).tmod 4 = (q1 : Int) := by rw [Int.tmod_eq_emod_of_nonneg (by omega)];omega
  have hz2 : (z2 : Int).tmod 4 = (q2 : Int) := by rw [Int.tmod_eq_emod_of_nonneg (by omega)];omega
  clear e0 e1 e2 e3 e4 e5 hK1 hbw
  have e2 : wc.cell? ⟨g3,2,none⟩ = some (.int .u16 (z1 : Int)) := F3.cell 2
  have e5 : wc.cell? ⟨g4,2,none⟩ = some (.int .u16 (z2 : Int)) := F4.cell 2
  have y2 := F3.frozen 2
  have y5 := F4.frozen 2
  clear F3 F4
  go_upto_region 2 with fail
  go_cut [] (fun wx => Fr wx g3 #[.bool b1,.slice A1 n1 c1,.int .u16 (q1 : Int)] 28 ∧ Fr wx g4 #[.bool b2,.slice A2 n2 c2,.int .u16 (q2 : Int)] 28 ∧ Below V.heap.size V wx)
  case first =>
   go_region
   all_goals
    go_wp2_with fail
    go_meet
    obtain ⟨F3,F4,hbw⟩ := H3.out
    try rw [show (z1 : Int) % 4 = (q1 : Int) by omega,show (z2 : Int) % 4 = (q2 : Int) by omega]
    exact ⟨Fr.drew (Fr.far hne (Fr.set F3)),Fr.drew (Fr.set (Fr.far hne2 F4)),((hbw.setCell l3 _).setCell l4 _).drew⟩
  case rest =>
   obtain ⟨F3,F4,hbw⟩ := hcut
   clear e2 e5 y2 y5 hz1 hz2 H3
   have hbwc : Below w.heap.size w wc := belowt H.out.1 H.out.1.size hbw
   have g3c := F3.lt
   have g4c := F4.lt
   have hbV2 := hbw
   have FF := Lib.hid (And.intro F3 (And.intro F4 hbwc))
   have hK3 : ∀ W,Below wc.heap.size wc W → Below wc.heap.size wc W ∧ W.cell? ⟨g3,0,none⟩ = some (.bool b1) ∧ W.cell? ⟨g3,1,none⟩ = some (.slice A1 n1 c1) ∧ W.cell? ⟨g3,2,none⟩ = some (.int .u16 (q1 : Int)) ∧ W.cell? ⟨g4,0,none⟩ = some (.bool b2) ∧ W.cell? ⟨g4,1,none⟩ = some (.slice A2 n2 c2) ∧ W.cell? ⟨g4,2,none⟩ = some (.int .u16 (q2 : Int)) := fun W hb => ⟨hb,keepc hb (F3.cell 0),keepc hb (F3.cell 1),keepc hb (F3.cell 2),keepc hb (F4.cell 0),keepc hb (F4.cell 1),keepc hb (F4.cell 2)⟩
   have GA : Hid (∀ W,Below wc.heap.size wc W ∧ W.cell? ⟨g3,0,none⟩ = some (.bool b1) ∧ W.cell? ⟨g3,1,none⟩ = some (.slice A1 n1 c1) ∧ W.cell? ⟨g3,2,none⟩ = some (.int .u16 (q1 : Int)) ∧ W.cell? ⟨g4,0,none⟩ = some (.bool b2) ∧ W.cell? ⟨g4,1,none⟩ = some (.slice A2 n2 c2) ∧ W.cell? ⟨g4,2,none⟩ = some (.int .u16 (q2 : Int)) → Calls Tryz.prog 87 #[.agg #[.bool b1,.slice A1 n1 c1,.int .u16 (q1 : Int)]] W fun e w' => ∃ l : List UInt8,e = .returned (.string ⟨l.toArray⟩) ∧ (∃ x : Int,x.natAbs < 10 ^ 39 ∧ rd l = some x) ∧ Below W.heap.size W w' ∧ Below wc.heap.size wc w' ∧ w'.cell? ⟨g3,0,none⟩ = some (.bool b1) ∧ w'.cell? ⟨g3,1,none⟩ = some (.slice A1 n1 c1) ∧ w'.cell? ⟨g3,2,none⟩ = some (.int .u16 (q1 : Int)) ∧ w'.cell? ⟨g4,0,none⟩ = some (.bool b2) ∧ w'.cell? ⟨g4,1,none⟩ = some (.slice A2 n2 c2) ∧ w'.cell? ⟨g4,2,none⟩ = some (.int .u16 (q2 : Int))) := Lib.hid (fun W hS => (dpart_any hq1 H.out.2.2.2.1 W (belowt hbwc hbwc.size hS.1)).mono fun e w' ⟨l,he,hx,hb⟩ => ⟨l,he,hx,hb,hK3 _ (hS.1.trans (hb.mono hS.1.size))⟩)
   have GB : Hid (∀ W,Below wc.heap.size wc W ∧ W.cell? ⟨g3,0,none⟩ = some (.bool b1) ∧ W.cell? ⟨g3,1,none⟩ = some (.slice A1 n1 c1) ∧ W.cell? ⟨g3,2,none⟩ = some (.int .u16 (q1 : Int)) ∧ W.cell? ⟨g4,0,none⟩ = some (.bool b2) ∧ W.cell? ⟨g4,1,none⟩ = some (.slice A2 n2 c2) ∧ W.cell? ⟨g4,2,none⟩ = some (.int .u16 (q2 : Int)) → Calls Tryz.prog 87 #[.agg #[.bool b2,.slice A2 n2 c2,.int .u16 (q2 : Int)]] W fun e w' => ∃ l : List UInt8,e = .returned (.string ⟨l.toArray⟩) ∧ (∃ x : Int,x.natAbs < 10 ^ 39 ∧ rd l = some x) ∧ Below W.heap.size W w' ∧ Below wc.heap.size wc w' ∧ w'.cell? ⟨g3,0,none⟩ = some (.bool b1) ∧ w'.cell? ⟨g3,1,none⟩ = some (.slice A1 n1 c1) ∧ w'.cell? ⟨g3,2,none⟩ = some (.int .u16 (q1 : Int)) ∧ w'.cell? ⟨g4,0,none⟩ = some (.bool b2) ∧ w'.cell? ⟨g4,1,none⟩ = some (.slice A2 n2 c2) ∧ w'.cell? ⟨g4,2,none⟩ = some (.int .u16 (q2 : Int))) := Lib.hid (fun W hS => (dpart_any hq2 H.out.2.2.2.2 W (belowt hbwc hbwc.size hS.1)).mono fun e w' ⟨l,he,hx,hb⟩ => ⟨l,he,hx,hb,hK3 _ (hS.1.trans (hb.mono hS.1.size))⟩)
   have GI : Hid (∀ (l : List UInt8) W,Below wc.heap.size wc W ∧ W.cell? ⟨g3,0,none⟩ = some (.bool b1) ∧ W.cell? ⟨g3,1,none⟩ = some (.slice A1 n1 c1) ∧ W.cell? ⟨g3,2,none⟩ = some (.int .u16 (q1 : Int)) ∧ W.cell? ⟨g4,0,none⟩ = some (.bool b2) ∧ W.cell? ⟨g4,1,none⟩ = some (.slice A2 n2 c2) ∧ W.cell? ⟨g4,2,none⟩ = some (.int .u16 (q2 : Int)) → (∃ x : Int,x.natAbs < 10 ^ 39 ∧ rd l = some x) → Calls Tryz.prog 62 #[.string ⟨l.toArray⟩] W fun e w' => ∃ (A : Option Addr) (n c : Nat) (k : Bool),e = .returned (.agg #[.bool k,.slice A n c]) ∧ (∃ x : Int,x.natAbs < 10 ^ 39 ∧ PlV w' (.agg #[.bool k,.slice A n c]) x) ∧ Below W.heap.size W w' ∧ Below wc.heap.size wc w' ∧ w'.cell? ⟨g3,0,none⟩ = some (.bool b1) ∧ w'.cell? ⟨g3,1,none⟩ = some (.slice A1 n1 c1) ∧ w'.cell? ⟨g3,2,none⟩ = some (.int .u16 (q1 : Int)) ∧ w'.cell? ⟨g4,0,none⟩ = some (.bool b2) ∧ w'.cell? ⟨g4,1,none⟩ = some (.slice A2 n2 c2) ∧ w'.cell? ⟨g4,2,none⟩ = some (.int .u16 (q2 : Int))) := Lib.hid (fun l W hS ⟨x,hx,hr⟩ => (in_any l x W hr).mono fun e w' ⟨v,he,hv,hb⟩ => by
    obtain ⟨A,n,c,k,rfl⟩ := hv.open
    exact ⟨A,n,c,k,he,⟨x,hx,hv⟩,hb,hK3 _ (hS.1.trans (hb.mono hS.1.size))⟩)
   clear F3 F4 hq1 hq2
   go_upto_region 3 with fail
   go_cut [5,6] (fun s5 s6 wx => ∃ (g5 g6 : Nat) (A5 : Option Addr) (n5 c5 : Nat) (k5 : Bool) (A6 : Option Addr) (n6 c6 : Nat) (k6 : Bool),s5 = .pointer (some ⟨g5,0,none⟩) ∧ s6 = .pointer (some ⟨g6,0,none⟩) ∧ g5 ≠ g6 ∧ wc.heap.size ≤ g5 ∧ wc.heap.size ≤ g6 ∧ Fr wx g5 #[.bool k5,.slice A5 n5 c5] 88 ∧ Fr wx g6 #[.bool k6,.slice A6 n6 c6] 88 ∧ (∃ x : Int,x.natAbs < 10 ^ 39 ∧ PlV wx (.agg #[.bool k5,.slice A5 n5 c5]) x) ∧ (∃ x : Int,x.natAbs < 10 ^ 39 ∧ PlV wx (.agg #[.bool k6,.slice A6 n6 c6]) x) ∧ Below wc.heap.size wc wx)
   case first =>
    go_region_held3 (fun W => Below wc.heap.size wc W ∧ W.cell? ⟨g3,0,none⟩ = some (.bool b1) ∧ W.cell? ⟨g3,1,none⟩ = some (.slice A1 n1 c1) ∧ W.cell? ⟨g3,2,none⟩ = some (.int .u16 (q1 : Int)) ∧ W.cell? ⟨g4,0,none⟩ = some (.bool b2) ∧ W.cell? ⟨g4,1,none⟩ = some (.slice A2 n2 c2) ∧ W.cell? ⟨g4,2,none⟩ = some (.int .u16 (q2 : Int)))
     (first | with_reducible assumption | (refine hK3 _ ?_;(repeat (first | with_reducible assumption | with_reducible exact Below.refl _ _ | with_reducible refine Below.drew ?_ | with_reducible refine Below.alloc ?_ (by first | omega | (simp;done) | (simp;omega)) _ | with_reducible refine Below.setCell ?_ (by first | (simp;done) | (simp;omega) | omega) _))))
     (first
      | (go_at_call 87;with_reducible refine (GA.out _ ?_).mono ?_;with_reducible assumption;rintro e w30 ⟨l30,rfl,hx30,hb30,hS30⟩;have hB30 := hS30.1;have hs30 := hB30.size;have hz30 := hb30.size;(try simp at hz30);obtain ⟨hk301,hk302⟩ := kept2 hb30;(try (have e3000 := hk301 (wc.heap.size) 0 ?se3000;case se3000 => (first | omega | (simp;done) | (simp;omega))));(try (have f3000 := hk302 (wc.heap.size) 0 ?sf3000;case sf3000 => (first | omega | (simp;done) | (simp;omega))));(try (have e3001 := hk301 (wc.heap.size) 1 ?se3001;case se3001 => (first | omega | (simp;done) | (simp;omega))));(try (have f3001 := hk302 (wc.heap.size) 1 ?sf3001;case sf3001 => (first | omega | (simp;done) | (simp;omega))));(try (have c300 : wc.heap.size < w30.heap.size := ?sc300;case sc300 => omega));(try (have d300 := Nat.ne_of_lt c300));(try (have e3010 := hk301 (wc.heap.size + 1) 0 ?se3010;case se3010 => (first | omega | (simp;done) | (simp;omega))));(try (have f3010 := hk302 (wc.heap.size + 1) 0 ?sf3010;case sf3010 => (first | omega | (simp;done) | (simp;omega))));(try (have e3011 := hk301 (wc.heap.size + 1) 1 ?se3011;case se3011 => (first | omega | (simp;done) | (simp;omega))));(try (have f3011 := hk302 (wc.heap.size + 1) 1 ?sf3011;case sf3011 => (first | omega | (simp;done) | (simp;omega))));(try (have c301 : wc.heap.size + 1 < w30.heap.size := ?sc301;case sc301 => omega));(try (have d301 := Nat.ne_of_lt c301));clear hk301 hk302)
      | (go_at_call 62;with_reducible refine (GI.out l30 _ ?_ hx30).mono ?_;with_reducible assumption;rintro e w32 ⟨A32,n32,c32,k32,rfl,hi32,hb32,hS32⟩;have hB32 := hS32.1;have hs32 := hB32.size;have hz32 := hb32.size;(try simp at hz32);obtain ⟨hk321,hk322⟩ := kept2 hb32;(try (have e3200 := hk321 (wc.heap.size) 0 ?se3200;case se3200 => (first | omega | (simp;done) | (simp;omega))));(try (have f3200 := hk322 (wc.heap.size) 0 ?sf3200;case sf3200 => (first | omega | (simp;done) | (simp;omega))));(try (have e3201 := hk321 (wc.heap.size) 1 ?se3201;case se3201 => (first | omega | (simp;done) | (simp;omega))));(try (have f3201 := hk322 (wc.heap.size) 1 ?sf3201;case sf3201 => (first | omega | (simp;done) | (simp;omega))));(try (have c320 : wc.heap.size < w32.heap.size := ?sc320;case sc320 => omega));(try (have d320 := Nat.ne_of_lt c320));(try (have e3210 := hk321 (wc.heap.size + 1) 0 ?se3210;case se3210 => (first | omega | (simp;done) | (simp;omega))));(try (have f3210 := hk322 (wc.heap.size + 1) 0 ?sf3210;case sf3210 => (first | omega | (simp;done) | (simp;omega))));(try (have e3211 := hk321 (wc.heap.size + 1) 1 ?se3211;case se3211 => (first | omega | (simp;done) | (simp;omega))));(try (have f3211 := hk322 (wc.heap.size + 1) 1 ?sf3211;case sf3211 => (first | omega | (simp;done) | (simp;omega))));(try (have c321 : wc.heap.size + 1 < w32.heap.size := ?sc321;case sc321 => omega));(try (have d321 := Nat.ne_of_lt c321));(try (have e3220 := hk321 (w30.heap.size) 0 ?se3220;case se3220 => (first | omega | (simp;done) | (simp;omega))));(try (have f3220 := hk322 (w30.heap.size) 0 ?sf3220;case sf3220 => (first | omega | (simp;done) | (simp;omega))));(try (have e3221 := hk321 (w30.heap.size) 1 ?se3221;case se3221 => (first | omega | (simp;done) | (simp;omega))));(try (have f3221 := hk322 (w30.heap.size) 1 ?sf3221;case sf3221 => (first | omega | (simp;done) | (simp;omega))));(try (have c322 : w30.heap.size < w32.heap.size := ?sc322;case sc322 => omega));(try (have d322 := Nat.ne_of_lt c322));(try (have e3230 := hk321 (w30.heap.size + 1) 0 ?se3230;case se3230 => (first | omega | (simp;done) | (simp;omega))));(try (have f3230 := hk322 (w30.heap.size + 1) 0 ?sf3230;case sf3230 => (first | omega | (simp;done) | (simp;omega))));(try (have e3231 := hk321 (w30.heap.size + 1) 1 ?se3231;case se3231 => (first | omega | (simp;done) | (simp;omega))));(try (have f3231 := hk322 (w30.heap.size + 1) 1 ?sf3231;case sf3231 => (first | omega | (simp;done) | (simp;omega))));(try (have c323 : w30.heap.size + 1 < w32.heap.size := ?sc323;case sc323 => omega));(try (have d323 := Nat.ne_of_lt c323));clear hk321 hk322)
      | (go_at_call 87;with_reducible refine (GB.out _ ?_).mono ?_;with_reducible assumption;rintro e w31 ⟨l31,rfl,hx31,hb31,hS31⟩;have hB31 := hS31.1;have hs31 := hB31.size;have hz31 := hb31.size;(try simp at hz31);obtain ⟨hk311,hk312⟩ := kept2 hb31;(try (have e3100 := hk311 (wc.heap.size) 0 ?se3100;case se3100 => (first | omega | (simp;done) | (simp;omega))));(try (have f3100 := hk312 (wc.heap.size) 0 ?sf3100;case sf3100 => (first | omega | (simp;done) | (simp;omega))));(try (have e3101 := hk311 (wc.heap.size) 1 ?se3101;case se3101 => (first | omega | (simp;done) | (simp;omega))));(try (have f3101 := hk312 (wc.heap.size) 1 ?sf3101;case sf3101 => (first | omega | (simp;done) | (simp;omega))));(try (have c310 : wc.heap.size < w31.heap.size := ?sc310;case sc310 => omega));(try (have d310 := Nat.ne_of_lt c310));(try (have e3110 := hk311 (wc.heap.size + 1) 0 ?se3110;case se3110 => (first | omega | (simp;done) | (simp;omega))));(try (have f3110 := hk312 (wc.heap.size + 1) 0 ?sf3110;case sf3110 => (first | omega | (simp;done) | (simp;omega))));(try (have e3111 := hk311 (wc.heap.size + 1) 1 ?se3111;case se3111 => (first | omega | (simp;done) | (simp;omega))));(try (have f3111 := hk312 (wc.heap.size + 1) 1 ?sf3111;case sf3111 => (first | omega | (simp;done) | (simp;omega))));(try (have c311 : wc.heap.size + 1 < w31.heap.size := ?sc311;case sc311 => omega));(try (have d311 := Nat.ne_of_lt c311));(try (have e3120 := hk311 (w30.heap.size) 0 ?se3120;case se3120 => (first | omega | (simp;done) | (simp;omega))));(try (have f3120 := hk312 (w30.heap.size) 0 ?sf3120;case sf3120 => (first | omega | (simp;done) | (simp;omega))));(try (have e3121 := hk311 (w30.heap.size) 1 ?se3121;case se3121 => (first | omega | (simp;done) | (simp;omega))));(try (have f3121 := hk312 (w30.heap.size) 1 ?sf3121;case sf3121 => (first | omega | (simp;done) | (simp;omega))));(try (have c312 : w30.heap.size < w31.heap.size := ?sc312;case sc312 => omega));(try (have d312 := Nat.ne_of_lt c312));(try (have e3130 := hk311 (w30.heap.size + 1) 0 ?se3130;case se3130 => (first | omega | (simp;done) | (simp;omega))));(try (have f3130 := hk312 (w30.heap.size + 1) 0 ?sf3130;case sf3130 => (first | omega | (simp;done) | (simp;omega))));(try (have e3131 := hk311 (w30.heap.size + 1) 1 ?se3131;case se3131 => (first | omega | (simp;done) | (simp;omega))));(try (have f3131 := hk312 (w30.heap.size + 1) 1 ?sf3131;case sf3131 => (first | omega | (simp;done) | (simp;omega))));(try (have c313 : w30.heap.size + 1 < w31.heap.size := ?sc313;case sc313 => omega));(try (have d313 := Nat.ne_of_lt c313));(try (have e3140 := hk311 (w32.heap.size) 0 ?se3140;case se3140 => (first | omega | (simp;done) | (simp;omega))));(try (have f3140 := hk312 (w32.heap.size) 0 ?sf3140;case sf3140 => (first | omega | (simp;done) | (simp;omega))));(try (have e3141 := hk311 (w32.heap.size) 1 ?se3141;case se3141 => (first | omega | (simp;done) | (simp;omega))));(try (have f3141 := hk312 (w32.heap.size) 1 ?sf3141;case sf3141 => (first | omega | (simp;done) | (simp;omega))));(try (have c314 : w32.heap.size < w31.heap.size := ?sc314;case sc314 => omega));(try (have d314 := Nat.ne_of_lt c314));(try (have e3150 := hk311 (w32.heap.size + 1) 0 ?se3150;case se3150 => (first | omega | (simp;done) | (simp;omega))));(try (have f3150 := hk312 (w32.heap.size + 1) 0 ?sf3150;case sf3150 => (first | omega | (simp;done) | (simp;omega))));(try (have e3151 := hk311 (w32.heap.size + 1) 1 ?se3151;case se3151 => (first | omega | (simp;done) | (simp;omega))));(try (have f3151 := hk312 (w32.heap.size + 1) 1 ?sf3151;case sf3151 => (first | omega | (simp;done) | (simp;omega))));(try (have c315 : w32.heap.size + 1 < w31.heap.size := ?sc315;case sc315 => omega));(try (have d315 := Nat.ne_of_lt c315));clear hk311 hk312)
      | (go_at_call 62;with_reducible refine (GI.out l31 _ ?_ hx31).mono ?_;with_reducible assumption;rintro e w33 ⟨A33,n33,c33,k33,rfl,hi33,hb33,hS33⟩;have hB33 := hS33.1;have hs33 := hB33.size;have hz33 := hb33.size;(try simp at hz33);obtain ⟨hk331,hk332⟩ := kept2 hb33;(try (have e3300 := hk331 (wc.heap.size) 0 ?se3300;case se3300 => (first | omega | (simp;done) | (simp;omega))));(try (have f3300 := hk332 (wc.heap.size) 0 ?sf3300;case sf3300 => (first | omega | (simp;done) | (simp;omega))));(try (have e3301 := hk331 (wc.heap.size) 1 ?se3301;case se3301 => (first | omega | (simp;done) | (simp;omega))));(try (have f3301 := hk332 (wc.heap.size) 1 ?sf3301;case sf3301 => (first | omega | (simp;done) | (simp;omega))));(try (have c330 : wc.heap.size < w33.heap.size := ?sc330;case sc330 => omega));(try (have d330 := Nat.ne_of_lt c330));(try (have e3310 := hk331 (wc.heap.size + 1) 0 ?se3310;case se3310 => (first | omega | (simp;done) | (simp;omega))));(try (have f3310 := hk332 (wc.heap.size + 1) 0 ?sf3310;case sf3310 => (first | omega | (simp;done) | (simp;omega))));(try (have e3311 := hk331 (wc.heap.size + 1) 1 ?se3311;case se3311 => (first | omega | (simp;done) | (simp;omega))));(try (have f3311 := hk332 (wc.heap.size + 1) 1 ?sf3311;case sf3311 => (first | omega | (simp;done) | (simp;omega))));(try (have c331 : wc.heap.size + 1 < w33.heap.size := ?sc331;case sc331 => omega));(try (have d331 := Nat.ne_of_lt c331));(try (have e3320 := hk331 (w30.heap.size) 0 ?se3320;case se3320 => (first | omega | (simp;done) | (simp;omega))));(try (have f3320 := hk332 (w30.heap.size) 0 ?sf3320;case sf3320 => (first | omega | (simp;done) | (simp;omega))));(try (have e3321 := hk331 (w30.heap.size) 1 ?se3321;case se3321 => (first | omega | (simp;done) | (simp;omega))));(try (have f3321 := hk332 (w30.heap.size) 1 ?sf3321;case sf3321 => (first | omega | (simp;done) | (simp;omega))));(try (have c332 : w30.heap.size < w33.heap.size := ?sc332;case sc332 => omega));(try (have d332 := Nat.ne_of_lt c332));(try (have e3330 := hk331 (w30.heap.size + 1) 0 ?se3330;case se3330 => (first | omega | (simp;done) | (simp;omega))));(try (have f3330 := hk332 (w30.heap.size + 1) 0 ?sf3330;case sf3330 => (first | omega | (simp;done) | (simp;omega))));(try (have e3331 := hk331 (w30.heap.size + 1) 1 ?se3331;case se3331 => (first | omega | (simp;done) | (simp;omega))));(try (have f3331 := hk332 (w30.heap.size + 1) 1 ?sf3331;case sf3331 => (first | omega | (simp;done) | (simp;omega))));(try (have c333 : w30.heap.size + 1 < w33.heap.size := ?sc333;case sc333 => omega));(try (have d333 := Nat.ne_of_lt c333));(try (have e3340 := hk331 (w32.heap.size) 0 ?se3340;case se3340 => (first | omega | (simp;done) | (simp;omega))));(try (have f3340 := hk332 (w32.heap.size) 0 ?sf3340;case sf3340 => (first | omega | (simp;done) | (simp;omega))));(try (have e3341 := hk331 (w32.heap.size) 1 ?se3341;case se3341 => (first | omega | (simp;done) | (simp;omega))));(try (have f3341 := hk332 (w32.heap.size) 1 ?sf3341;case sf3341 => (first | omega | (simp;done) | (simp;omega))));(try (have c334 : w32.heap.size < w33.heap.size := ?sc334;case sc334 => omega));(try (have d334 := Nat.ne_of_lt c334));(try (have e3350 := hk331 (w32.heap.size + 1) 0 ?se3350;case se3350 => (first | omega | (simp;done) | (simp;omega))));(try (have f3350 := hk332 (w32.heap.size + 1) 0 ?sf3350;case sf3350 => (first | omega | (simp;done) | (simp;omega))));(try (have e3351 := hk331 (w32.heap.size + 1) 1 ?se3351;case se3351 => (first | omega | (simp;done) | (simp;omega))));(try (have f3351 := hk332 (w32.heap.size + 1) 1 ?sf3351;case sf3351 => (first | omega | (simp;done) | (simp;omega))));(try (have c335 : w32.heap.size + 1 < w33.heap.size := ?sc335;case sc335 => omega));(try (have d335 := Nat.ne_of_lt c335));(try (have e3360 := hk331 (w31.heap.size) 0 ?se3360;case se3360 => (first | omega | (simp;done) | (simp;omega))));(try (have f3360 := hk332 (w31.heap.size) 0 ?sf3360;case sf3360 => (first | omega | (simp;done) | (simp;omega))));(try (have e3361 := hk331 (w31.heap.size) 1 ?se3361;case se3361 => (first | omega | (simp;done) | (simp;omega))));(try (have f3361 := hk332 (w31.heap.size) 1 ?sf3361;case sf3361 => (first | omega | (simp;done) | (simp;omega))));(try (have c336 : w31.heap.size < w33.heap.size := ?sc336;case sc336 => omega));(try (have d336 := Nat.ne_of_lt c336));(try (have e3370 := hk331 (w31.heap.size + 1) 0 ?se3370;case se3370 => (first | omega | (simp;done) | (simp;omega))));(try (have f3370 := hk332 (w31.heap.size + 1) 0 ?sf3370;case sf3370 => (first | omega | (simp;done) | (simp;omega))));(try (have e3371 := hk331 (w31.heap.size + 1) 1 ?se3371;case se3371 => (first | omega | (simp;done) | (simp;omega))));(try (have f3371 := hk332 (w31.heap.size + 1) 1 ?sf3371;case sf3371 => (first | omega | (simp;done) | (simp;omega))));(try (have c337 : w31.heap.size + 1 < w33.heap.size := ?sc337;case sc337 => omega));(try (have d337 := Nat.ne_of_lt c337));clear hk331 hk332))
    all_goals
     obtain ⟨x32,hx32,hp32⟩ := hi32
     obtain ⟨x33,hx33,hp33⟩ := hi33
     go_wp2_with fail
     go_meet
     refine ⟨_,_,A32,n32,c32,k32,A33,n33,c33,k33,rfl,rfl,?_,?_,?_,?_,?_,⟨x32,hx32,?_⟩,⟨x33,hx33,?_⟩,?_⟩
     all_goals (first
      | omega
      | (simp;done)
      | (simp;omega)
      | (repeat (first
        | with_reducible assumption
        | (with_reducible refine Fr.new ?_;focus (first | rfl | (simp;done) | omega | (simp;omega))) | (with_reducible refine Fr.fillP ?_) | (with_reducible refine Fr.old ?_) | (with_reducible refine Fr.drew ?_) | (with_reducible refine Fr.call hb33 ?_) | (with_reducible refine Fr.call hb31 ?_) | (with_reducible refine Fr.call hb32 ?_) | (with_reducible refine Fr.call hb30 ?_) | ((with_reducible refine Fr.far ?_ (Fr.far ?_ ?_));(focus (first | omega | (simp;done) | (simp;omega)));(focus (first | omega | (simp;done) | (simp;omega))))
        | (with_reducible refine PlV.fillP ?_ ?_) | (with_reducible refine PlV.old ?_) | (with_reducible refine PlV.drewB ?_) | (with_reducible refine PlV.callB hb33 ?_) | (with_reducible refine PlV.callB hb31 ?_) | (with_reducible refine PlV.callB hb32 ?_) | (with_reducible refine PlV.callB hb30 ?_))
         done)
      | (repeat (first | with_reducible exact Below.refl _ _ | with_reducible assumption | with_reducible refine Below.drew ?_ | with_reducible refine Below.alloc ?_ (by first | omega | (simp;done) | (simp;omega)) _ | with_reducible refine Below.setCell ?_ (by first | (simp;done) | (simp;omega) | omega) _)
         done))
   case rest =>
    obtain ⟨g5,g6,A5,n5,c5,k5,A6,n6,c6,k6,rfl,rfl,hne5,l5,l6,F5,F6,⟨x,hx,p5⟩,⟨y,hy,p6⟩,hbx⟩ := hcut
    clear hK3 GA GB GI FF
    have F2 := ((H.out.2.2.1.call hbV2).call hbx)
    have hZ : Below w.heap.size w wc := belowt hbwc hbwc.size hbx
    have hn6 : n6 = wlen B4 y.natAbs := by
     obtain ⟨m,e,A,c,e2,_⟩ := p6
     simp only [Value.agg.injEq,Array.mk.injEq,List.cons.injEq,and_true] at e
     rw [← e.2] at e2
     injection e2
    have lw6 : w.heap.size ≤ g6 := Nat.le_trans hbwc.size l6
    have ne26 : w.heap.size + 1 ≠ g6 := by have := hbV2.size;omega
    obtain ⟨d0,d1,-,-⟩ := F5.cells2
    obtain ⟨f0,f1,z0,z1⟩ := F6.cells2
    by_cases hy0 : y = 0
    · have hn0 : n6 = 0 := by rw [hn6,hy0];exact (wlen_eq_zero (b := B4) two_le_B4).2 rfl
      clear hn6
      subst hn0
      have I1 := fun W => integerZ_any 1 W (by decide) (by decide)
      have HK := Lib.hid (And.intro F5 (And.intro F6 (And.intro p5 (And.intro F2 (And.intro hZ hx)))))
      clear F5 F6 p5 F2 hZ hx p6 hy hy0
      go_wp2_with fail
      refine (I1 _).mono ?_
      rintro e w7 ⟨v7,rfl,p7,hb7⟩
      obtain ⟨A7,n7,c7,k7,rfl⟩ := p7.open
      clear d0 d1 f0 f1 z0 z1 I1
      have F5 := HK.out.1.call hb7
      have F6 := HK.out.2.1.call hb7
      have p5 := HK.out.2.2.1.below hb7
      obtain ⟨d0,d1,-,-⟩ := F5.cells2
      obtain ⟨f0,f1,z0,z1⟩ := F6.cells2
      have hx := HK.out.2.2.2.2.2
      have q5 : PlV ((w7.setCell ⟨g6,0,none⟩ (.bool k7)).setCell ⟨g6,1,none⟩ (.slice A7 n7 c7)) _ x := PlV.set2 F6 rfl p5
      have q7 : PlV ((w7.setCell ⟨g6,0,none⟩ (.bool k7)).setCell ⟨g6,1,none⟩ (.slice A7 n7 c7)) _ 1 := PlV.set2 F6 rfl p7
      have F2 : Fr ((w7.setCell ⟨g6,0,none⟩ (.bool k7)).setCell ⟨g6,1,none⟩ (.slice A7 n7 c7)) (w.heap.size + 1) _ _ := Fr.far ne26 (Fr.far ne26 (HK.out.2.2.2.1.call hb7))
      have hZ : Below w.heap.size w ((w7.setCell ⟨g6,0,none⟩ (.bool k7)).setCell ⟨g6,1,none⟩ (.slice A7 n7 c7)) := ((belowt HK.out.2.2.2.2.1 HK.out.2.2.2.2.1.size hb7).setCell lw6 _).setCell lw6 _
      have HM := Lib.hid (And.intro q5 (And.intro q7 (And.intro F2 (And.intro hZ hx))))
      clear F5 F6 p5 p7 q5 q7 F2 hZ hx hb7
      go_wp2_with fail
      obtain ⟨q5,q7,F2,hZ,hx⟩ := HM.out
      have hB : Bq (Rat.divInt x (1 : Int)) 39 := Bq.divInt (by decide) (Nat.le_of_lt hx) (Nat.le_of_lt (show (1 : Int).natAbs < 10 ^ 39 by decide))
      have ho : Hid (∀ W v,RtV W v (Rat.divInt x (1 : Int)).num ((Rat.divInt x (1 : Int)).den : Int) → Calls Tryz.prog 55 #[v] W fun e w' => e = .returned (okV (tN (Rat.divInt x (1 : Int))) (tD (Rat.divInt x (1 : Int)))) ∧ Below W.heap.size W w') := Lib.hid (fun W v hv => by
       have h := rout_any v _ W hv (wlen_39b hB.1) (wlen_39b hB.2)
       rwa [outF_t (hB.small (by omega))] at h)
      have hlo := rlow_any _ _ x (1 : Int) _ q5 q7 (wlen_39 hx) (wlen_39 (show (1 : Int).natAbs < 10 ^ 39 by decide)) (by decide)
      have HB := Lib.hid hB
      obtain ⟨s,hs⟩ : ∃ s,s = tN (Rat.divInt x (1 : Int)) := ⟨_,rfl⟩
      obtain ⟨t,ht⟩ : ∃ t,t = tD (Rat.divInt x (1 : Int)) := ⟨_,rfl⟩
      rw [← hs,← ht] at ho
      have HS := Lib.hid (And.intro hs ht)
      clear hB hs ht
      refine hlo.mono ?_
      rintro e w8 ⟨v8,rfl,hr8,hb8⟩
      have HO := Lib.hid (ho.out w8 v8 hr8)
      obtain ⟨kA,AA,nA,cA,kB,AB,nB,cB,rfl,_,_⟩ := hr8
      have F2 := F2.call hb8
      have hZ := belowt hZ hZ.size hb8
      clear hlo hb8 ho
      have HF := Lib.hid (And.intro F2 hZ)
      clear F2 hZ
      go_wp2_with fail
      refine HO.out.mono ?_
      rintro e w9 ⟨rfl,hb9⟩
      have F2 := HF.out.1.call hb9
      have hZ := belowt HF.out.2 HF.out.2.size hb9
      obtain ⟨y0,y1,y2,y3⟩ := F2.cells2a
      have HF2 := Lib.hid hZ
      clear F2 hZ hb9 HO
      go_wp2_with fail
      exact bodyPost_ret (v := qV s t) (by simp [results,Tryz.results38,go_sem,y0,y1]) rfl ⟨Rat.divInt x (1 : Int),HB.out,by rw [HS.out.1,HS.out.2],((HF2.out.alloc HF2.out.size _).setCell (by simp) _).setCell (by simp) _⟩
    · have hn0 : ¬ n6 = 0 := fun e => hy0 (by have := (wlen_eq_zero (b := B4) two_le_B4).1 (hn6.symm.trans e);omega)
      have hn1 : ¬ ((n6 : Int) = 0) := by omega
      have HK := Lib.hid (And.intro p5 (And.intro p6 (And.intro F2 (And.intro hZ (And.intro hx (And.intro hy hy0))))))
      clear F5 F6 p5 p6 F2 hZ hx hy hy0 hn6
      go_wp2_with fail
      obtain ⟨p5,p6,F2,hZ,hx,hy,hy0⟩ := HK.out
      have hB : Bq (Rat.divInt x y) 39 := Bq.divInt hy0 (Nat.le_of_lt hx) (Nat.le_of_lt hy)
      have ho : Hid (∀ W v,RtV W v (Rat.divInt x y).num ((Rat.divInt x y).den : Int) → Calls Tryz.prog 55 #[v] W fun e w' => e = .returned (okV (tN (Rat.divInt x y)) (tD (Rat.divInt x y))) ∧ Below W.heap.size W w') := Lib.hid (fun W v hv => by
       have h := rout_any v _ W hv (wlen_39b hB.1) (wlen_39b hB.2)
       rwa [outF_t (hB.small (by omega))] at h)
      have hlo := rlow_any _ _ x y _ p5 p6 (wlen_39 hx) (wlen_39 hy) hy0
      have HB := Lib.hid hB
      obtain ⟨s,hs⟩ : ∃ s,s = tN (Rat.divInt x y) := ⟨_,rfl⟩
      obtain ⟨t,ht⟩ : ∃ t,t = tD (Rat.divInt x y) := ⟨_,rfl⟩
      rw [← hs,← ht] at ho
      have HS := Lib.hid (And.intro hs ht)
      clear hB hs ht
      refine hlo.mono ?_
      rintro e w8 ⟨v8,rfl,hr8,hb8⟩
      have HO := Lib.hid (ho.out w8 v8 hr8)
      obtain ⟨kA,AA,nA,cA,kB,AB,nB,cB,rfl,_,_⟩ := hr8
      have F2 := F2.call hb8
      have hZ := belowt hZ hZ.size hb8
      clear hlo hb8 ho
      have HF := Lib.hid (And.intro F2 hZ)
      clear F2 hZ
      go_wp2_with fail
      refine HO.out.mono ?_
      rintro e w9 ⟨rfl,hb9⟩
      have F2 := HF.out.1.call hb9
      have hZ := belowt HF.out.2 HF.out.2.size hb9
      obtain ⟨y0,y1,y2,y3⟩ := F2.cells2a
      have HF2 := Lib.hid hZ
      clear F2 hZ hb9 HO
      go_wp2_with fail
      exact bodyPost_ret (v := qV s t) (by simp [results,Tryz.results38,go_sem,y0,y1]) rfl ⟨Rat.divInt x y,HB.out,by rw [HS.out.1,HS.out.2],((HF2.out.alloc HF2.out.size _).setCell (by simp) _).setCell (by simp) _⟩
theorem frac_q {i : World} {b1 : Bool} {A1 : Option Addr} {n1 c1 z1 : Nat} {xs1 : List Nat} {b2 : Bool} {A2 : Option Addr} {n2 c2 z2 : Nat} {xs2 : List Nat} (h1 : DraftIn i b1 A1 n1 c1 z1 xs1) (h2 : DraftIn i b2 A2 n2 c2 z2 xs2) (W : World) (hb : Below i.heap.size i W) :
 Calls Tryz.prog 38 #[.agg #[.bool b1,.slice A1 n1 c1,.int .u16 (z1 : Int),.bool b2,.slice A2 n2 c2,.int .u16 (z2 : Int)]] W fun e w' => ∃ l m : List UInt8,e = .returned (qV l m) ∧ (∃ x : Rat,Bq x 39 ∧ l = tN x ∧ m = tD x) ∧ Below W.heap.size W w' := by
 refine (ffrac_any b1 A1 n1 c1 z1 xs1 b2 A2 n2 c2 z2 xs2 W (h1.below hb) (h2.below hb)).mono ?_
 rintro e w' ⟨q,hq,he,hbw⟩
 exact ⟨_,_,he,⟨q,hq,rfl,rfl⟩,hbw⟩
end Go.Proofs.YtlfgpmnjnpdkdaaGreatDoor
