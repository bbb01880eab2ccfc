/- Contracts: the reference's fractions: Right. -/
import Derived.Test.YtlfgpmnjnpdkdaaGreatDoorFrfB
namespace Go.Proofs.YtlfgpmnjnpdkdaaGreatDoor
open Go.RowKit Vd
attribute [local go_sem ↓] Go.wp_at_zero Go.wp_at_succ
theorem rdF_no1 {l1 l2 : List UInt8} (h : rd l1 = none) : rdF l1 l2 = none := by unfold rdF;rw [h]
theorem rdF_no2 {l1 l2 : List UInt8} (h : rd l2 = none) : rdF l1 l2 = none := by unfold rdF;rw [h];cases rd l1 <;> rfl
theorem rdF_two {l1 l2 : List UInt8} {n d : Int} (h1 : rd l1 = some n) (h2 : rd l2 = some d) : (rdF l1 l2).isSome = decide (0 < d ∧ Nat.gcd n.natAbs d.natAbs = 1) := by
 unfold rdF;rw [h1,h2]
 simp only
 split
 · rename_i h;rw [decide_eq_true h];rfl
 · rename_i h;rw [decide_eq_false h];rfl
theorem wr_one : wr 1 = [49] := (rd_some (s := [49]) (z := 1) (by decide)).1
theorem wr_ne_one {z : Int} (hs : small z) (h : z ≠ 1) : wr z ≠ [49] := by
 intro e
 have h1 := rd_wr hs
 rw [e,show rd [49] = some 1 from by decide] at h1
 exact h (Option.some.inj h1).symm
theorem small_w4 {z : Int} (h : small z) : wlen B4 z.natAbs ≤ 1000000 := by
 unfold small at h
 rw [maxDigits_eq] at h
 exact Nat.le_trans (w4_one h) (by omega)
theorem small_gcd {x y : Int} (h : small y) (hy : y ≠ 0) : small ((Nat.gcd x.natAbs y.natAbs : Nat) : Int) := by
 unfold small
 rw [Int.natAbs_natCast]
 exact Nat.lt_of_le_of_lt (Nat.gcd_le_right _ (by omega)) h
theorem plv_parts {w : World} {A : Option Addr} {n c : Nat} {k : Bool} {z : Int} (h : PlV w (.agg #[.bool k,.slice A n c]) z) : k = decide (z < 0) ∧ n = wlen B4 z.natAbs := order4z_cells h
set_option maxRecDepth 100000 in
set_option maxHeartbeats 4000000 in
theorem rright_no1 (l1 l2 : List UInt8) (h1 : l1.length ≤ 1000000) (w : World) (h : rd l1 = none) :
 Calls Tryz.prog 65 #[.agg #[.string ⟨l1.toArray⟩,.string ⟨l2.toArray⟩]] w fun e w' => e = .returned (.bool false) ∧ Below w.heap.size w w' := by
 have R1 := fun W => right_any l1 h1 W
 rw [rd_noB h] at R1
 go_enter Tryz.func65,Tryz.ntmps65
 go_wp2_with fail
 refine (R1 _).mono ?_
 rintro e w1 ⟨rfl,hw⟩
 subst hw
 clear R1 h h1
 go_wp2_with fail
 go_ret
 exact ⟨rfl,(Below.refl _ _).alloc (Nat.le_refl _) _⟩
set_option maxRecDepth 100000 in
set_option maxHeartbeats 4000000 in
theorem rright_no2 (l1 l2 : List UInt8) (h1 : l1.length ≤ 1000000) (h2 : l2.length ≤ 1000000) (w : World) (ho : okB l1 = true) (h : rd l2 = none) :
 Calls Tryz.prog 65 #[.agg #[.string ⟨l1.toArray⟩,.string ⟨l2.toArray⟩]] w fun e w' => e = .returned (.bool false) ∧ Below w.heap.size w w' := by
 have R1 := fun W => right_any l1 h1 W
 have R2 := fun W => right_any l2 h2 W
 rw [ho] at R1
 rw [rd_noB h] at R2
 go_enter Tryz.func65,Tryz.ntmps65
 go_wp2_with fail
 refine (R1 _).mono ?_
 rintro e w1 ⟨rfl,hw⟩
 subst hw
 clear R1
 go_wp2_with fail
 refine (R2 _).mono ?_
 rintro e w2 ⟨rfl,hw⟩
 subst hw
 clear R2 h h1 h2 ho
 go_wp2_with fail
 go_ret
 exact ⟨rfl,(Below.refl _ _).alloc (Nat.le_refl _) _⟩
set_option maxRecDepth 100000 in
set_option maxHeartbeats 4000000 in
theorem rright_two (l1 l2 : List UInt8) (x y : Int) (h1 : rd l1 = some x) (h2 : rd l2 = some y) (w : World) :
 Calls Tryz.prog 65 #[.agg #[.string ⟨l1.toArray⟩,.string ⟨l2.toArray⟩]] w fun e w' => e = .returned (.bool (rdF l1 l2).isSome) ∧ Below w.heap.size w w' := by
 have R1 := fun W => right_any l1 (rd_len h1) W
 have R2 := fun W => right_any l2 (rd_len h2) W
 rw [rd_okB h1] at R1
 rw [rd_okB h2] at R2
 obtain ⟨bq,hbq⟩ : ∃ b,b = decide (0 < y ∧ Nat.gcd x.natAbs y.natAbs = 1) := ⟨_,rfl⟩
 rw [rdF_two h1 h2,← hbq]
 have HB := Lib.hid hbq
 clear hbq
 have s1 := (rd_some h1).2
 have s2 := (rd_some h2).2
 obtain ⟨V,hV⟩ : ∃ V,V = w.alloc (.cells #[.string ⟨l1.toArray⟩,.string ⟨l2.toArray⟩] 24) := ⟨_,rfl⟩
 have hb0 : Below w.heap.size w V := by rw [hV];exact (Below.refl _ _).alloc (Nat.le_refl _) _
 have r0 : Fr V w.heap.size #[.string ⟨l1.toArray⟩,.string ⟨l2.toArray⟩] 24 := by rw [hV];exact Fr.new rfl
 have hK1 : ∀ W,Below V.heap.size V W → Below V.heap.size V W ∧ W.cell? ⟨w.heap.size,0,none⟩ = some (.string ⟨l1.toArray⟩) ∧ W.cell? ⟨w.heap.size,1,none⟩ = some (.string ⟨l2.toArray⟩) := fun W hb => ⟨hb,keepc hb r0.cells2.1,keepc hb r0.cells2.2.1⟩
 have H1 : Hid (∀ W,Below V.heap.size V W ∧ W.cell? ⟨w.heap.size,0,none⟩ = some (.string ⟨l1.toArray⟩) ∧ W.cell? ⟨w.heap.size,1,none⟩ = some (.string ⟨l2.toArray⟩) → Calls Tryz.prog 62 #[.string ⟨l1.toArray⟩] W fun e w' => ∃ (A : Option Addr) (n c : Nat) (k : Bool),e = .returned (.agg #[.bool k,.slice A n c]) ∧ PlV w' (.agg #[.bool k,.slice A n c]) (x) ∧ Below W.heap.size W w' ∧ Below V.heap.size V w' ∧ w'.cell? ⟨w.heap.size,0,none⟩ = some (.string ⟨l1.toArray⟩) ∧ w'.cell? ⟨w.heap.size,1,none⟩ = some (.string ⟨l2.toArray⟩)) := Lib.hid (fun W hS => (in_any l1 x W h1).mono fun e w' ⟨v,he,hv,hb⟩ => by
  obtain ⟨A,n,c,k,rfl⟩ := hv.open
  exact ⟨A,n,c,k,he,hv,hb,hK1 _ (hS.1.trans (hb.mono hS.1.size))⟩)
 have H2 : Hid (∀ W,Below V.heap.size V W ∧ W.cell? ⟨w.heap.size,0,none⟩ = some (.string ⟨l1.toArray⟩) ∧ W.cell? ⟨w.heap.size,1,none⟩ = some (.string ⟨l2.toArray⟩) → Calls Tryz.prog 62 #[.string ⟨l2.toArray⟩] W fun e w' => ∃ (A : Option Addr) (n c : Nat) (k : Bool),e = .returned (.agg #[.bool k,.slice A n c]) ∧ PlV w' (.agg #[.bool k,.slice A n c]) (y) ∧ Below W.heap.size W w' ∧ Below V.heap.size V w' ∧ w'.cell? ⟨w.heap.size,0,none⟩ = some (.string ⟨l1.toArray⟩) ∧ w'.cell? ⟨w.heap.size,1,none⟩ = some (.string ⟨l2.toArray⟩)) := Lib.hid (fun W hS => (in_any l2 y W h2).mono fun e w' ⟨v,he,hv,hb⟩ => by
  obtain ⟨A,n,c,k,rfl⟩ := hv.open
  exact ⟨A,n,c,k,he,hv,hb,hK1 _ (hS.1.trans (hb.mono hS.1.size))⟩)
 have H := Lib.hid (And.intro hb0 (And.intro r0 (And.intro s1 s2)))
 clear h1 h2 r0 s1 s2
 go_enter Tryz.func65,Tryz.ntmps65
 go_wp2_with fail
 refine (R1 _).mono ?_
 rintro e w1 ⟨rfl,hw⟩
 subst hw
 clear R1
 go_wp2_with fail
 refine (R2 _).mono ?_
 rintro e w2 ⟨rfl,hw⟩
 subst hw
 clear R2
 go_upto_region 3 with fail
 rw [← hV]
 clear hV
 go_cut [3,4] (fun s3 s4 wx => ∃ (g3 g4 : Nat) (A3 : Option Addr) (n3 c3 : Nat) (k3 : Bool) (A4 : Option Addr) (n4 c4 : Nat) (k4 : Bool),s3 = .pointer (some ⟨g3,0,none⟩) ∧ s4 = .pointer (some ⟨g4,0,none⟩) ∧ Fr wx g3 #[.bool k3,.slice A3 n3 c3] 88 ∧ Fr wx g4 #[.bool k4,.slice A4 n4 c4] 88 ∧ PlV wx (.agg #[.bool k3,.slice A3 n3 c3]) x ∧ PlV wx (.agg #[.bool k4,.slice A4 n4 c4]) y ∧ Below V.heap.size V wx)
 case first =>
  go_region_held3 (fun W => Below V.heap.size V W ∧ W.cell? ⟨w.heap.size,0,none⟩ = some (.string ⟨l1.toArray⟩) ∧ W.cell? ⟨w.heap.size,1,none⟩ = some (.string ⟨l2.toArray⟩))
   (first | with_reducible assumption | (refine hK1 _ ?_;(repeat (first | with_reducible assumption | with_reducible exact Below.refl _ _ | with_reducible refine Below.drew ?_ | with_reducible refine Below.alloc ?_ (by first | omega | (simp;done) | (simp;omega)) _ | with_reducible refine Below.setCell ?_ (by first | (simp;done) | (simp;omega) | omega) _))))
   (first
    | (go_at_call 62;with_reducible refine (H1.out _ ?_).mono ?_;with_reducible assumption;rintro e w11 ⟨A11,n11,c11,k11,rfl,hq11,hb11,hS11⟩;have hB11 := hS11.1;have hs11 := hB11.size;have hz11 := hb11.size;(try simp at hz11);obtain ⟨hk111,hk112⟩ := kept2 hb11;(try (have e1100 := hk111 (V.heap.size) 0 ?se1100;case se1100 => (first | omega | (simp;done) | (simp;omega))));(try (have f1100 := hk112 (V.heap.size) 0 ?sf1100;case sf1100 => (first | omega | (simp;done) | (simp;omega))));(try (have e1101 := hk111 (V.heap.size) 1 ?se1101;case se1101 => (first | omega | (simp;done) | (simp;omega))));(try (have f1101 := hk112 (V.heap.size) 1 ?sf1101;case sf1101 => (first | omega | (simp;done) | (simp;omega))));(try (have c110 : V.heap.size < w11.heap.size := ?sc110;case sc110 => omega));(try (have d110 := Nat.ne_of_lt c110));(try (have e1110 := hk111 (V.heap.size + 1) 0 ?se1110;case se1110 => (first | omega | (simp;done) | (simp;omega))));(try (have f1110 := hk112 (V.heap.size + 1) 0 ?sf1110;case sf1110 => (first | omega | (simp;done) | (simp;omega))));(try (have e1111 := hk111 (V.heap.size + 1) 1 ?se1111;case se1111 => (first | omega | (simp;done) | (simp;omega))));(try (have f1111 := hk112 (V.heap.size + 1) 1 ?sf1111;case sf1111 => (first | omega | (simp;done) | (simp;omega))));(try (have c111 : V.heap.size + 1 < w11.heap.size := ?sc111;case sc111 => omega));(try (have d111 := Nat.ne_of_lt c111));clear hk111 hk112)
    | (go_at_call 62;with_reducible refine (H2.out _ ?_).mono ?_;with_reducible assumption;rintro e w12 ⟨A12,n12,c12,k12,rfl,hq12,hb12,hS12⟩;have hB12 := hS12.1;have hs12 := hB12.size;have hz12 := hb12.size;(try simp at hz12);obtain ⟨hk121,hk122⟩ := kept2 hb12;(try (have e1200 := hk121 (V.heap.size) 0 ?se1200;case se1200 => (first | omega | (simp;done) | (simp;omega))));(try (have f1200 := hk122 (V.heap.size) 0 ?sf1200;case sf1200 => (first | omega | (simp;done) | (simp;omega))));(try (have e1201 := hk121 (V.heap.size) 1 ?se1201;case se1201 => (first | omega | (simp;done) | (simp;omega))));(try (have f1201 := hk122 (V.heap.size) 1 ?sf1201;case sf1201 => (first | omega | (simp;done) | (simp;omega))));(try (have c120 : V.heap.size < w12.heap.size := ?sc120;case sc120 => omega));(try (have d120 := Nat.ne_of_lt c120));(try (have e1210 := hk121 (V.heap.size + 1) 0 ?se1210;case se1210 => (first | omega | (simp;done) | (simp;omega))));(try (have f1210 := hk122 (V.heap.size + 1) 0 ?sf1210;case sf1210 => (first | omega | (simp;done) | (simp;omega))));(try (have e1211 := hk121 (V.heap.size + 1) 1 ?se1211;case se1211 => (first | omega | (simp;done) | (simp;omega))));(try (have f1211 := hk122 (V.heap.size + 1) 1 ?sf1211;case sf1211 => (first | omega | (simp;done) | (simp;omega))));(try (have c121 : V.heap.size + 1 < w12.heap.size := ?sc121;case sc121 => omega));(try (have d121 := Nat.ne_of_lt c121));(try (have e1220 := hk121 (w11.heap.size) 0 ?se1220;case se1220 => (first | omega | (simp;done) | (simp;omega))));(try (have f1220 := hk122 (w11.heap.size) 0 ?sf1220;case sf1220 => (first | omega | (simp;done) | (simp;omega))));(try (have e1221 := hk121 (w11.heap.size) 1 ?se1221;case se1221 => (first | omega | (simp;done) | (simp;omega))));(try (have f1221 := hk122 (w11.heap.size) 1 ?sf1221;case sf1221 => (first | omega | (simp;done) | (simp;omega))));(try (have c122 : w11.heap.size < w12.heap.size := ?sc122;case sc122 => omega));(try (have d122 := Nat.ne_of_lt c122));(try (have e1230 := hk121 (w11.heap.size + 1) 0 ?se1230;case se1230 => (first | omega | (simp;done) | (simp;omega))));(try (have f1230 := hk122 (w11.heap.size + 1) 0 ?sf1230;case sf1230 => (first | omega | (simp;done) | (simp;omega))));(try (have e1231 := hk121 (w11.heap.size + 1) 1 ?se1231;case se1231 => (first | omega | (simp;done) | (simp;omega))));(try (have f1231 := hk122 (w11.heap.size + 1) 1 ?sf1231;case sf1231 => (first | omega | (simp;done) | (simp;omega))));(try (have c123 : w11.heap.size + 1 < w12.heap.size := ?sc123;case sc123 => omega));(try (have d123 := Nat.ne_of_lt c123));clear hk121 hk122))
  all_goals
   go_wp2_with fail
   go_meet
   refine ⟨_,_,A11,n11,c11,k11,A12,n12,c12,k12,rfl,rfl,?_,?_,?_,?_,?_⟩
   all_goals (first
    | (repeat (first
     | with_reducible assumption
     | (with_reducible refine Fr.new ?_;focus (first | rfl | (simp;done) | omega | (simp;omega))) | (with_reducible refine Fr.fillP ?_) | (with_reducible refine Fr.old ?_) | (with_reducible refine Fr.drew ?_) | (with_reducible refine Fr.call hb12 ?_) | (with_reducible refine Fr.call hb11 ?_) | ((with_reducible refine Fr.far ?_ (Fr.far ?_ ?_));(focus (first | omega | (simp;done) | (simp;omega)));(focus (first | omega | (simp;done) | (simp;omega))))
     | (with_reducible refine PlV.fillP ?_ ?_) | (with_reducible refine PlV.old ?_) | (with_reducible refine PlV.drewB ?_) | (with_reducible refine PlV.callB hb12 ?_) | (with_reducible refine PlV.callB hb11 ?_))
       done)
    | (repeat (first | with_reducible assumption | with_reducible refine Below.drew ?_ | with_reducible refine Below.alloc ?_ (by first | omega | (simp;done) | (simp;omega)) _ | with_reducible refine Below.setCell ?_ (by first | (simp;done) | (simp;omega) | omega) _)
       done))
 case rest =>
  rename World => wq
  obtain ⟨g3,g4,A3,n3,c3,k3,A4,n4,c4,k4,rfl,rfl,F3,F4,p3,p4,hbw⟩ := hcut
  obtain ⟨hk4,hn4⟩ := plv_parts p4
  have hZ := belowt H.out.1 H.out.1.size hbw
  obtain ⟨a0,a1,-,-⟩ := F3.cells2
  obtain ⟨b0,b1,-,-⟩ := F4.cells2
  clear hK1 H1 H2 hbw F3 F4
  rcases (show y < 0 ∨ y = 0 ∨ 0 < y by omega) with hy | hy | hy
  · rw [decide_eq_true hy] at hk4
    subst hk4
    have HY := Lib.hid hy
    have hz := Lib.hid hZ
    clear hZ p3 p4 hn4 hy H
    go_wp2_with fail
    go_ret
    have hq : bq = false := by rw [HB.out,decide_eq_false (show ¬ (0 < y ∧ Nat.gcd x.natAbs y.natAbs = 1) by have := HY.out;omega)]
    exact ⟨by rw [hq];rfl,hz.out⟩
  · have hn0 : n4 = 0 := by rw [hn4,hy];exact (wlen_eq_zero (b := B4) two_le_B4).2 rfl
    rw [decide_eq_false (show ¬ y < 0 by omega)] at hk4
    subst hk4 hn0
    have HY := Lib.hid hy
    have hz := Lib.hid hZ
    clear hZ p3 p4 hn4 hy H
    go_wp2_with fail
    go_ret
    have hq : bq = false := by rw [HB.out,decide_eq_false (show ¬ (0 < y ∧ Nat.gcd x.natAbs y.natAbs = 1) by have := HY.out;omega)]
    exact ⟨by rw [hq];rfl,hz.out⟩
  · have hn0 : ¬ n4 = 0 := fun e => by have := (wlen_eq_zero (b := B4) two_le_B4).1 (hn4.symm.trans e);omega
    have hn1 : ¬ ((n4 : Int) = 0) := by omega
    rw [decide_eq_false (show ¬ y < 0 by omega)] at hk4
    subst hk4
    have hx6 := H.out.2.2.1
    have hy6 := H.out.2.2.2
    obtain ⟨g,hg⟩ : ∃ g,g = Nat.gcd x.natAbs y.natAbs := ⟨_,rfl⟩
    have hgs : small (g : Int) := by
     rw [hg]
     exact small_gcd hy6 (by omega)
    have hD := divisor4_any _ _ x y wq p3 p4 (small_w4 hx6) (small_w4 hy6)
    have hT := fun W v (hv : PlV W v (g : Int)) => text4_any v (g : Int) W hv (small_w4 hgs)
    have hbg : bq = decide (0 < y ∧ g = 1) := by rw [HB.out,hg]
    rw [← hg] at hD
    have HT := Lib.hid hT
    have hz := Lib.hid hZ
    have HG := Lib.hid (And.intro hgs (And.intro hy hbg))
    clear hT hZ hbg hgs hx6 hy6 hg p3 p4 hn4 hy H
    go_wp2_with fail
    refine hD.mono ?_
    rintro e w7 ⟨v7,rfl,p7,hb7⟩
    have hT7 := HT.out w7 v7 p7
    obtain ⟨A7,n7,c7,k7,rfl⟩ := p7.open
    have hz7 := Lib.hid (belowt hz.out hz.out.size hb7)
    clear hD p7 hb7 a0 a1 b0 b1
    go_wp2_with fail
    refine hT7.mono ?_
    rintro e w8 ⟨rfl,hb8⟩
    have hz8 := Lib.hid (belowt hz7.out hz7.out.size hb8)
    clear hT7 hb8
    obtain ⟨t,ht⟩ : ∃ t,t = wr (g : Int) := ⟨_,rfl⟩
    by_cases h1 : g = 1
    · have hq : bq = true := by rw [HG.out.2.2,decide_eq_true (show 0 < y ∧ g = 1 from ⟨HG.out.2.1,h1⟩)]
      obtain rfl : t = [49] := by rw [ht,h1];exact wr_one
      rw [← ht]
      clear ht h1
      go_wp2_with fail
      go_ret
      exact ⟨by rw [hq];rfl,hz8.out⟩
    · have hq : bq = false := by rw [HG.out.2.2,decide_eq_false (show ¬ (0 < y ∧ g = 1) from fun h => h1 h.2)]
      have hne : ¬ t = [49] := by rw [ht];exact wr_ne_one HG.out.1 (by omega)
      rw [← ht]
      clear ht h1
      go_wp2_with fail
      go_ret
      exact ⟨by first | (rw [hq];rfl) | (rw [hq];simp [hne]),hz8.out⟩
set_option maxRecDepth 100000 in
set_option maxHeartbeats 4000000 in
theorem rright_any (l1 l2 : List UInt8) (h1 : l1.length ≤ 1000000) (h2 : l2.length ≤ 1000000) (w : World) :
 Calls Tryz.prog 65 #[.agg #[.string ⟨l1.toArray⟩,.string ⟨l2.toArray⟩]] w fun e w' => e = .returned (.bool (rdF l1 l2).isSome) ∧ Below w.heap.size w w' := by
 cases e1 : rd l1 with
 | none => rw [rdF_no1 e1];exact rright_no1 l1 l2 h1 w e1
 | some x =>
   cases e2 : rd l2 with
   | none => rw [rdF_no2 e2];exact rright_no2 l1 l2 h1 h2 w (rd_okB e1) e2
   | some y => exact rright_two l1 l2 x y e1 e2 w
end Go.Proofs.YtlfgpmnjnpdkdaaGreatDoor
