/- Contracts: the nearest whole number of a fraction times a scale. Contracts: package frac: Text, Near. -/
import Derived.Test.YtlfgpmnjnpdkdaaGreatDoorFraQ
import Derived.Test.YtlfgpmnjnpdkdaaGreatDoorText
import Derived.Deep.DeepCutAuto
import Derived.Test.YtlfgpmnjnpdkdaaGreatDoorFrbE
import Derived.Test.YtlfgpmnjnpdkdaaGreatDoorWhoG
namespace Go.Proofs.YtlfgpmnjnpdkdaaGreatDoor
open Go.RowKit Vd
attribute [local go_sem ↓] Go.wp_at_zero Go.wp_at_succ
abbrev NeS (V : World) (b g5 : Nat) (A2 : Option Addr) (n2 c2 : Nat) (k2 : Bool) (A5 : Option Addr) (n5 c5 : Nat) (k5 : Bool) (W : World) : Prop := (Below V.heap.size V W) ∧ W.cell? ⟨b,2,none⟩ = some (.slice A2 n2 c2) ∧ W.cell? ⟨b,3,none⟩ = some (.bool k2) ∧ W.cell? ⟨g5,0,none⟩ = some (.slice A5 n5 c5) ∧ W.cell? ⟨g5,1,none⟩ = some (.bool k5)
theorem neS_step {V : World} {b g5 : Nat} {A2 : Option Addr} {n2 c2 : Nat} {k2 : Bool} {A5 : Option Addr} {n5 c5 : Nat} {k5 : Bool} {W W' : World} (h : NeS V b g5 A2 n2 c2 k2 A5 n5 c5 k5 W) (hb : Below W.heap.size W W') : NeS V b g5 A2 n2 c2 k2 A5 n5 c5 k5 W' := by
 obtain ⟨hb0,e0,e1,e2,e3⟩ := h
 exact ⟨belowt hb0 hb0.size hb,keepc hb e0,keepc hb e1,keepc hb e2,keepc hb e3⟩
set_option maxRecDepth 100000 in
set_option maxHeartbeats 8000000 in
theorem ranear_any (v1 v2 : Value) (x : Rat) (s : Int) (K : Nat) (w : World) (h1 : RaV w v1 x) (h2 : SgV w v2 s) (hx : Fz x K) (hs : wlen B64 s.natAbs ≤ K) (hK : 2 * K + 8 ≤ maxW) :
 Calls Tryz.prog 95 #[v1,v2] w fun e w' => ∃ v,e = .returned v ∧ SgV w' v (nearZ x s) ∧ Below w.heap.size w w' := by
 obtain ⟨A1,n1,c1,k1,A2,n2,c2,k2,rfl,hv1,hv2⟩ := h1.open
 obtain ⟨A3,n3,c3,k3,rfl⟩ := h2.open
 obtain ⟨a,ha⟩ : ∃ a : Int,a = x.num * s := ⟨_,rfl⟩
 obtain ⟨d,hd⟩ : ∃ d : Int,d = (x.den : Int) := ⟨_,rfl⟩
 have hN : nearZ x s = (a + a + d) / (d + d) := by rw [ha,hd];rfl
 have hd0 : d + d ≠ 0 := by have := x.den_pos;omega
 have wa : wlen B64 a.natAbs ≤ 2 * K := by rw [ha];exact Nat.le_trans (wlen_mulZ _ _) (by have := hx.1;omega)
 have wd : wlen B64 d.natAbs ≤ K := by rw [hd];exact fz_den hx
 have waa : wlen B64 (a + a).natAbs ≤ 2 * K + 1 := Nat.le_trans (wlen_addZ _ _) (by omega)
 have wad : wlen B64 (a + a + d).natAbs ≤ 2 * K + 2 := Nat.le_trans (wlen_addZ _ _) (by omega)
 have wdd : wlen B64 (d + d).natAbs ≤ K + 1 := Nat.le_trans (wlen_addZ _ _) (by omega)
 rw [← hd] at hv2
 obtain ⟨W0,hW0⟩ : ∃ W0,W0 = ((w.alloc (.cells #[.slice A1 n1 c1,.bool k1,.slice A2 n2 c2,.bool k2] 82)).alloc (.cells #[.slice A3 n3 c3,.bool k3] 80)).alloc (.cells #[.slice none 0 0,.bool false] 80) := ⟨_,rfl⟩
 have hbW : Below w.heap.size w W0 := by rw [hW0];exact (((Below.refl _ _).alloc (Nat.le_refl _) _).alloc (by simp) _).alloc (by simp;omega) _
 have hE0 : Fr W0 w.heap.size #[.slice A1 n1 c1,.bool k1,.slice A2 n2 c2,.bool k2] 82 := by rw [hW0];exact (Fr.new rfl).old.old
 have hE2 : BoxT W0 (w.heap.size + 1 + 1) := by rw [hW0];exact Fr.boxT (Fr.new (by simp))
 have hT := times_any _ _ x.num s W0 (hv1.below hbW) (h2.below hbW) (Nat.le_trans hx.1 (by omega)) (Nat.le_trans hs (by omega))
 rw [← ha,hW0] at hT
 rw [hN]
 have HW := Lib.hid (And.intro hK (And.intro wa (And.intro wd (And.intro waa (And.intro wad (And.intro wdd hd0))))))
 have HB := Lib.hid (And.intro hbW (And.intro hE0 (And.intro hE2 hv2)))
 clear h1 h2 hx hs hK wa wd waa wad wdd hd0 hv1 hv2 hbW hE0 hE2 hN ha hd
 go_enter Tryz.func95,Tryz.ntmps95
 go_upto_region 2 with (go_at_call 121;refine hT.mono ?_;rw [← hW0];rintro e w1 ⟨dv,rfl,hdv,hb1⟩;obtain ⟨A5,n5,c5,k5,rfl⟩ := hdv.open)
 have hG0 := HB.out.2.1.call hb1
 have hG2 := HB.out.2.2.1.call hb1
 have hbw1 := belowt HB.out.1 HB.out.1.size hb1
 obtain ⟨V,hV⟩ : ∃ V,V = w1.alloc (.cells #[.slice A5 n5 c5,.bool k5] 80) := ⟨_,rfl⟩
 have hbV1 : Below w1.heap.size w1 V := by rw [hV];exact (Below.refl _ _).alloc (Nat.le_refl _) _
 have hF5 : Fr V w1.heap.size #[.slice A5 n5 c5,.bool k5] 80 := by rw [hV];exact Fr.new rfl
 have hl5 : w.heap.size + 1 + 1 < w1.heap.size := hG2.lt
 have hdV := hdv.below hbV1
 have hGV := hG0.call hbV1
 have hbwV := belowt hbw1 hbw1.size hbV1
 have hB2V := hG2.call hbV1
 have hv2V := HB.out.2.2.2.below hbwV
 rw [← hV]
 obtain ⟨g5,hg5⟩ : ∃ g,g = w1.heap.size := ⟨_,rfl⟩
 rw [← hg5] at hF5 hl5 ⊢
 clear hV hbV1 hG0 hG2 hbw1 hb1 hdv hT hg5 hW0
 have hK2 : ∀ W,Below V.heap.size V W → NeS V w.heap.size g5 A2 n2 c2 k2 A5 n5 c5 k5 W := fun W hb => ⟨hb,keepc hb hGV.cells4.2.2.1,keepc hb hGV.cells4.2.2.2.1,keepc hb hF5.cells2.1,keepc hb hF5.cells2.2.1⟩
 have HP1 : Hid (∀ W,NeS V w.heap.size g5 A2 n2 c2 k2 A5 n5 c5 k5 W → Calls Tryz.prog 123 #[.agg #[.slice A5 n5 c5,.bool k5],.agg #[.slice A5 n5 c5,.bool k5]] W fun e w' => ∃ (A : Option Addr) (n c : Nat) (k : Bool),e = .returned (.agg #[.slice A n c,.bool k]) ∧ SgV w' (.agg #[.slice A n c,.bool k]) (a + a) ∧ Below W.heap.size W w' ∧ NeS V w.heap.size g5 A2 n2 c2 k2 A5 n5 c5 k5 w') := Lib.hid (fun W hS => by
  refine (plus_any _ _ a a W (hdV.below hS.1) (hdV.below hS.1) (by have := HW.out.1;have := HW.out.2.1;omega) (by have := HW.out.1;have := HW.out.2.1;omega)).mono ?_
  rintro e w' ⟨v,he,hv,hb⟩
  obtain ⟨A,n,c,k,rfl⟩ := hv.open
  exact ⟨A,n,c,k,he,hv,hb,neS_step hS hb⟩)
 have HP2 : Hid (∀ W u,SgV W u (a + a) → NeS V w.heap.size g5 A2 n2 c2 k2 A5 n5 c5 k5 W → Calls Tryz.prog 123 #[u,.agg #[.slice A2 n2 c2,.bool k2]] W fun e w' => ∃ (A : Option Addr) (n c : Nat) (k : Bool),e = .returned (.agg #[.slice A n c,.bool k]) ∧ SgV w' (.agg #[.slice A n c,.bool k]) (a + a + d) ∧ Below W.heap.size W w' ∧ NeS V w.heap.size g5 A2 n2 c2 k2 A5 n5 c5 k5 w') := Lib.hid (fun W u hu hS => by
  refine (plus_any u _ (a + a) d W hu (hv2V.below hS.1) (by have := HW.out.1;have := HW.out.2.2.2.1;omega) (by have := HW.out.1;have := HW.out.2.2.1;omega)).mono ?_
  rintro e w' ⟨v,he,hv,hb⟩
  obtain ⟨A,n,c,k,rfl⟩ := hv.open
  exact ⟨A,n,c,k,he,hv,hb,neS_step hS hb⟩)
 have HP3 : Hid (∀ W,NeS V w.heap.size g5 A2 n2 c2 k2 A5 n5 c5 k5 W → Calls Tryz.prog 123 #[.agg #[.slice A2 n2 c2,.bool k2],.agg #[.slice A2 n2 c2,.bool k2]] W fun e w' => ∃ (A : Option Addr) (n c : Nat) (k : Bool),e = .returned (.agg #[.slice A n c,.bool k]) ∧ SgV w' (.agg #[.slice A n c,.bool k]) (d + d) ∧ Below W.heap.size W w' ∧ NeS V w.heap.size g5 A2 n2 c2 k2 A5 n5 c5 k5 w') := Lib.hid (fun W hS => by
  refine (plus_any _ _ d d W (hv2V.below hS.1) (hv2V.below hS.1) (by have := HW.out.1;have := HW.out.2.2.1;omega) (by have := HW.out.1;have := HW.out.2.2.1;omega)).mono ?_
  rintro e w' ⟨v,he,hv,hb⟩
  obtain ⟨A,n,c,k,rfl⟩ := hv.open
  exact ⟨A,n,c,k,he,hv,hb,neS_step hS hb⟩)
 have HP4 : Hid (∀ W u v,SgV W u (a + a + d) → SgV W v (d + d) → NeS V w.heap.size g5 A2 n2 c2 k2 A5 n5 c5 k5 W → Calls Tryz.prog 126 #[u,v] W fun e w' => ∃ (A : Option Addr) (n c : Nat) (k : Bool) (A' : Option Addr) (n' c' : Nat) (k' : Bool),e = .returned (.tuple #[.agg #[.slice A n c,.bool k],.agg #[.slice A' n' c',.bool k']]) ∧ SgV w' (.agg #[.slice A n c,.bool k]) ((a + a + d) / (d + d)) ∧ SgV w' (.agg #[.slice A' n' c',.bool k']) ((a + a + d) % (d + d)) ∧ Below W.heap.size W w' ∧ NeS V w.heap.size g5 A2 n2 c2 k2 A5 n5 c5 k5 w') := Lib.hid (fun W u v hu hv hS => by
  refine (over_any u v _ _ W hu hv (by have := HW.out.1;have := HW.out.2.2.2.2.1;omega) (by have := HW.out.1;have := HW.out.2.2.2.2.2.1;omega) HW.out.2.2.2.2.2.2).mono ?_
  rintro e w' ⟨x1,x2,he,hv1,hv2,hb⟩
  obtain ⟨A,n,c,k,rfl⟩ := hv1.open
  obtain ⟨A',n',c',k',rfl⟩ := hv2.open
  exact ⟨A,n,c,k,A',n',c',k',he,hv1,hv2,hb,neS_step hS hb⟩)
 have HS2 := Lib.hid (And.intro hbwV (And.intro hB2V hl5))
 clear hF5 hGV hdV hv2V hbwV hB2V hl5
 go_cut [6] (fun s6 wx => ∃ g6 : Nat,s6 = .pointer (some ⟨g6,0,none⟩) ∧ BoxV wx g6 ((a + a + d) / (d + d)) ∧ Below V.heap.size V wx)
 case first =>
  go_region_held3 (fun W => (Below V.heap.size V W) ∧ W.cell? ⟨w.heap.size,2,none⟩ = some (.slice A2 n2 c2) ∧ W.cell? ⟨w.heap.size,3,none⟩ = some (.bool k2) ∧ W.cell? ⟨g5,0,none⟩ = some (.slice A5 n5 c5) ∧ W.cell? ⟨g5,1,none⟩ = some (.bool k5))
   (first | with_reducible assumption | (refine hK2 _ ?_;(repeat (first | with_reducible assumption | with_reducible exact Below.refl _ _ | with_reducible refine Below.drew ?_ | with_reducible refine Below.alloc ?_ (by first | omega | (simp;done) | (simp;omega)) _ | with_reducible refine Below.setCell ?_ (by first | (simp;done) | (simp;omega) | omega) _))))
   (first
   | (go_at_call 123;with_reducible refine (HP1.out _ ?_).mono ?_;with_reducible assumption;rintro e w21 ⟨A21,n21,c21,k21,rfl,hq21,hb21,hS21⟩;have hB21 := hS21.1;have hs21 := hB21.size;have hz21 := hb21.size;(try simp at hz21);obtain ⟨hk211,hk212⟩ := kept2 hb21;(try (have e2100 := hk211 (V.heap.size) 0 ?se2100;case se2100 => (first | omega | (simp;done) | (simp;omega))));(try (have f2100 := hk212 (V.heap.size) 0 ?sf2100;case sf2100 => (first | omega | (simp;done) | (simp;omega))));(try (have e2101 := hk211 (V.heap.size) 1 ?se2101;case se2101 => (first | omega | (simp;done) | (simp;omega))));(try (have f2101 := hk212 (V.heap.size) 1 ?sf2101;case sf2101 => (first | omega | (simp;done) | (simp;omega))));(try (have c210 : V.heap.size < w21.heap.size := ?sc210;case sc210 => omega));(try (have d210 := Nat.ne_of_lt c210));(try (have e2110 := hk211 (V.heap.size + 1) 0 ?se2110;case se2110 => (first | omega | (simp;done) | (simp;omega))));(try (have f2110 := hk212 (V.heap.size + 1) 0 ?sf2110;case sf2110 => (first | omega | (simp;done) | (simp;omega))));(try (have e2111 := hk211 (V.heap.size + 1) 1 ?se2111;case se2111 => (first | omega | (simp;done) | (simp;omega))));(try (have f2111 := hk212 (V.heap.size + 1) 1 ?sf2111;case sf2111 => (first | omega | (simp;done) | (simp;omega))));(try (have c211 : V.heap.size + 1 < w21.heap.size := ?sc211;case sc211 => omega));(try (have d211 := Nat.ne_of_lt c211));clear hk211 hk212)
   | (go_at_call 123;with_reducible refine (HP2.out _ _ ?_ ?_).mono ?_;(first | with_reducible exact hq21 | with_reducible exact hq21.old | with_reducible exact hq21.old.old);with_reducible assumption;rintro e w22 ⟨A22,n22,c22,k22,rfl,hq22,hb22,hS22⟩;have hB22 := hS22.1;have hs22 := hB22.size;have hz22 := hb22.size;(try simp at hz22);obtain ⟨hk221,hk222⟩ := kept2 hb22;(try (have e2200 := hk221 (V.heap.size) 0 ?se2200;case se2200 => (first | omega | (simp;done) | (simp;omega))));(try (have f2200 := hk222 (V.heap.size) 0 ?sf2200;case sf2200 => (first | omega | (simp;done) | (simp;omega))));(try (have e2201 := hk221 (V.heap.size) 1 ?se2201;case se2201 => (first | omega | (simp;done) | (simp;omega))));(try (have f2201 := hk222 (V.heap.size) 1 ?sf2201;case sf2201 => (first | omega | (simp;done) | (simp;omega))));(try (have c220 : V.heap.size < w22.heap.size := ?sc220;case sc220 => omega));(try (have d220 := Nat.ne_of_lt c220));(try (have e2210 := hk221 (V.heap.size + 1) 0 ?se2210;case se2210 => (first | omega | (simp;done) | (simp;omega))));(try (have f2210 := hk222 (V.heap.size + 1) 0 ?sf2210;case sf2210 => (first | omega | (simp;done) | (simp;omega))));(try (have e2211 := hk221 (V.heap.size + 1) 1 ?se2211;case se2211 => (first | omega | (simp;done) | (simp;omega))));(try (have f2211 := hk222 (V.heap.size + 1) 1 ?sf2211;case sf2211 => (first | omega | (simp;done) | (simp;omega))));(try (have c221 : V.heap.size + 1 < w22.heap.size := ?sc221;case sc221 => omega));(try (have d221 := Nat.ne_of_lt c221));(try (have e2220 := hk221 (w21.heap.size) 0 ?se2220;case se2220 => (first | omega | (simp;done) | (simp;omega))));(try (have f2220 := hk222 (w21.heap.size) 0 ?sf2220;case sf2220 => (first | omega | (simp;done) | (simp;omega))));(try (have e2221 := hk221 (w21.heap.size) 1 ?se2221;case se2221 => (first | omega | (simp;done) | (simp;omega))));(try (have f2221 := hk222 (w21.heap.size) 1 ?sf2221;case sf2221 => (first | omega | (simp;done) | (simp;omega))));(try (have c222 : w21.heap.size < w22.heap.size := ?sc222;case sc222 => omega));(try (have d222 := Nat.ne_of_lt c222));(try (have e2230 := hk221 (w21.heap.size + 1) 0 ?se2230;case se2230 => (first | omega | (simp;done) | (simp;omega))));(try (have f2230 := hk222 (w21.heap.size + 1) 0 ?sf2230;case sf2230 => (first | omega | (simp;done) | (simp;omega))));(try (have e2231 := hk221 (w21.heap.size + 1) 1 ?se2231;case se2231 => (first | omega | (simp;done) | (simp;omega))));(try (have f2231 := hk222 (w21.heap.size + 1) 1 ?sf2231;case sf2231 => (first | omega | (simp;done) | (simp;omega))));(try (have c223 : w21.heap.size + 1 < w22.heap.size := ?sc223;case sc223 => omega));(try (have d223 := Nat.ne_of_lt c223));clear hk221 hk222)
   | (go_at_call 123;with_reducible refine (HP3.out _ ?_).mono ?_;with_reducible assumption;rintro e w23 ⟨A23,n23,c23,k23,rfl,hq23,hb23,hS23⟩;have hB23 := hS23.1;have hs23 := hB23.size;have hz23 := hb23.size;(try simp at hz23);obtain ⟨hk231,hk232⟩ := kept2 hb23;(try (have e2300 := hk231 (V.heap.size) 0 ?se2300;case se2300 => (first | omega | (simp;done) | (simp;omega))));(try (have f2300 := hk232 (V.heap.size) 0 ?sf2300;case sf2300 => (first | omega | (simp;done) | (simp;omega))));(try (have e2301 := hk231 (V.heap.size) 1 ?se2301;case se2301 => (first | omega | (simp;done) | (simp;omega))));(try (have f2301 := hk232 (V.heap.size) 1 ?sf2301;case sf2301 => (first | omega | (simp;done) | (simp;omega))));(try (have c230 : V.heap.size < w23.heap.size := ?sc230;case sc230 => omega));(try (have d230 := Nat.ne_of_lt c230));(try (have e2310 := hk231 (V.heap.size + 1) 0 ?se2310;case se2310 => (first | omega | (simp;done) | (simp;omega))));(try (have f2310 := hk232 (V.heap.size + 1) 0 ?sf2310;case sf2310 => (first | omega | (simp;done) | (simp;omega))));(try (have e2311 := hk231 (V.heap.size + 1) 1 ?se2311;case se2311 => (first | omega | (simp;done) | (simp;omega))));(try (have f2311 := hk232 (V.heap.size + 1) 1 ?sf2311;case sf2311 => (first | omega | (simp;done) | (simp;omega))));(try (have c231 : V.heap.size + 1 < w23.heap.size := ?sc231;case sc231 => omega));(try (have d231 := Nat.ne_of_lt c231));(try (have e2320 := hk231 (w21.heap.size) 0 ?se2320;case se2320 => (first | omega | (simp;done) | (simp;omega))));(try (have f2320 := hk232 (w21.heap.size) 0 ?sf2320;case sf2320 => (first | omega | (simp;done) | (simp;omega))));(try (have e2321 := hk231 (w21.heap.size) 1 ?se2321;case se2321 => (first | omega | (simp;done) | (simp;omega))));(try (have f2321 := hk232 (w21.heap.size) 1 ?sf2321;case sf2321 => (first | omega | (simp;done) | (simp;omega))));(try (have c232 : w21.heap.size < w23.heap.size := ?sc232;case sc232 => omega));(try (have d232 := Nat.ne_of_lt c232));(try (have e2330 := hk231 (w21.heap.size + 1) 0 ?se2330;case se2330 => (first | omega | (simp;done) | (simp;omega))));(try (have f2330 := hk232 (w21.heap.size + 1) 0 ?sf2330;case sf2330 => (first | omega | (simp;done) | (simp;omega))));(try (have e2331 := hk231 (w21.heap.size + 1) 1 ?se2331;case se2331 => (first | omega | (simp;done) | (simp;omega))));(try (have f2331 := hk232 (w21.heap.size + 1) 1 ?sf2331;case sf2331 => (first | omega | (simp;done) | (simp;omega))));(try (have c233 : w21.heap.size + 1 < w23.heap.size := ?sc233;case sc233 => omega));(try (have d233 := Nat.ne_of_lt c233));(try (have e2340 := hk231 (w22.heap.size) 0 ?se2340;case se2340 => (first | omega | (simp;done) | (simp;omega))));(try (have f2340 := hk232 (w22.heap.size) 0 ?sf2340;case sf2340 => (first | omega | (simp;done) | (simp;omega))));(try (have e2341 := hk231 (w22.heap.size) 1 ?se2341;case se2341 => (first | omega | (simp;done) | (simp;omega))));(try (have f2341 := hk232 (w22.heap.size) 1 ?sf2341;case sf2341 => (first | omega | (simp;done) | (simp;omega))));(try (have c234 : w22.heap.size < w23.heap.size := ?sc234;case sc234 => omega));(try (have d234 := Nat.ne_of_lt c234));(try (have e2350 := hk231 (w22.heap.size + 1) 0 ?se2350;case se2350 => (first | omega | (simp;done) | (simp;omega))));(try (have f2350 := hk232 (w22.heap.size + 1) 0 ?sf2350;case sf2350 => (first | omega | (simp;done) | (simp;omega))));(try (have e2351 := hk231 (w22.heap.size + 1) 1 ?se2351;case se2351 => (first | omega | (simp;done) | (simp;omega))));(try (have f2351 := hk232 (w22.heap.size + 1) 1 ?sf2351;case sf2351 => (first | omega | (simp;done) | (simp;omega))));(try (have c235 : w22.heap.size + 1 < w23.heap.size := ?sc235;case sc235 => omega));(try (have d235 := Nat.ne_of_lt c235));clear hk231 hk232;(first | have hq22c := hq22.below hb23 | have hq22c := hq22.old.below hb23 | have hq22c := hq22.old.old.below hb23))
   | (go_at_call 126;with_reducible refine (HP4.out _ _ _ ?_ ?_ ?_).mono ?_;(first | with_reducible exact hq22c | with_reducible exact hq22c.old | with_reducible exact hq22c.old.old);(first | with_reducible exact hq23 | with_reducible exact hq23.old | with_reducible exact hq23.old.old);with_reducible assumption;rintro e w24 ⟨A24,n24,c24,k24,A25,n25,c25,k25,rfl,hq24,hq25,hb24,hS24⟩;have hB24 := hS24.1;have hs24 := hB24.size;have hz24 := hb24.size;(try simp at hz24);obtain ⟨hk241,hk242⟩ := kept2 hb24;(try (have e2400 := hk241 (V.heap.size) 0 ?se2400;case se2400 => (first | omega | (simp;done) | (simp;omega))));(try (have f2400 := hk242 (V.heap.size) 0 ?sf2400;case sf2400 => (first | omega | (simp;done) | (simp;omega))));(try (have e2401 := hk241 (V.heap.size) 1 ?se2401;case se2401 => (first | omega | (simp;done) | (simp;omega))));(try (have f2401 := hk242 (V.heap.size) 1 ?sf2401;case sf2401 => (first | omega | (simp;done) | (simp;omega))));(try (have c240 : V.heap.size < w24.heap.size := ?sc240;case sc240 => omega));(try (have d240 := Nat.ne_of_lt c240));(try (have e2410 := hk241 (V.heap.size + 1) 0 ?se2410;case se2410 => (first | omega | (simp;done) | (simp;omega))));(try (have f2410 := hk242 (V.heap.size + 1) 0 ?sf2410;case sf2410 => (first | omega | (simp;done) | (simp;omega))));(try (have e2411 := hk241 (V.heap.size + 1) 1 ?se2411;case se2411 => (first | omega | (simp;done) | (simp;omega))));(try (have f2411 := hk242 (V.heap.size + 1) 1 ?sf2411;case sf2411 => (first | omega | (simp;done) | (simp;omega))));(try (have c241 : V.heap.size + 1 < w24.heap.size := ?sc241;case sc241 => omega));(try (have d241 := Nat.ne_of_lt c241));(try (have e2420 := hk241 (w21.heap.size) 0 ?se2420;case se2420 => (first | omega | (simp;done) | (simp;omega))));(try (have f2420 := hk242 (w21.heap.size) 0 ?sf2420;case sf2420 => (first | omega | (simp;done) | (simp;omega))));(try (have e2421 := hk241 (w21.heap.size) 1 ?se2421;case se2421 => (first | omega | (simp;done) | (simp;omega))));(try (have f2421 := hk242 (w21.heap.size) 1 ?sf2421;case sf2421 => (first | omega | (simp;done) | (simp;omega))));(try (have c242 : w21.heap.size < w24.heap.size := ?sc242;case sc242 => omega));(try (have d242 := Nat.ne_of_lt c242));(try (have e2430 := hk241 (w21.heap.size + 1) 0 ?se2430;case se2430 => (first | omega | (simp;done) | (simp;omega))));(try (have f2430 := hk242 (w21.heap.size + 1) 0 ?sf2430;case sf2430 => (first | omega | (simp;done) | (simp;omega))));(try (have e2431 := hk241 (w21.heap.size + 1) 1 ?se2431;case se2431 => (first | omega | (simp;done) | (simp;omega))));(try (have f2431 := hk242 (w21.heap.size + 1) 1 ?sf2431;case sf2431 => (first | omega | (simp;done) | (simp;omega))));(try (have c243 : w21.heap.size + 1 < w24.heap.size := ?sc243;case sc243 => omega));(try (have d243 := Nat.ne_of_lt c243));(try (have e2440 := hk241 (w22.heap.size) 0 ?se2440;case se2440 => (first | omega | (simp;done) | (simp;omega))));(try (have f2440 := hk242 (w22.heap.size) 0 ?sf2440;case sf2440 => (first | omega | (simp;done) | (simp;omega))));(try (have e2441 := hk241 (w22.heap.size) 1 ?se2441;case se2441 => (first | omega | (simp;done) | (simp;omega))));(try (have f2441 := hk242 (w22.heap.size) 1 ?sf2441;case sf2441 => (first | omega | (simp;done) | (simp;omega))));(try (have c244 : w22.heap.size < w24.heap.size := ?sc244;case sc244 => omega));(try (have d244 := Nat.ne_of_lt c244));(try (have e2450 := hk241 (w22.heap.size + 1) 0 ?se2450;case se2450 => (first | omega | (simp;done) | (simp;omega))));(try (have f2450 := hk242 (w22.heap.size + 1) 0 ?sf2450;case sf2450 => (first | omega | (simp;done) | (simp;omega))));(try (have e2451 := hk241 (w22.heap.size + 1) 1 ?se2451;case se2451 => (first | omega | (simp;done) | (simp;omega))));(try (have f2451 := hk242 (w22.heap.size + 1) 1 ?sf2451;case sf2451 => (first | omega | (simp;done) | (simp;omega))));(try (have c245 : w22.heap.size + 1 < w24.heap.size := ?sc245;case sc245 => omega));(try (have d245 := Nat.ne_of_lt c245));(try (have e2460 := hk241 (w23.heap.size) 0 ?se2460;case se2460 => (first | omega | (simp;done) | (simp;omega))));(try (have f2460 := hk242 (w23.heap.size) 0 ?sf2460;case sf2460 => (first | omega | (simp;done) | (simp;omega))));(try (have e2461 := hk241 (w23.heap.size) 1 ?se2461;case se2461 => (first | omega | (simp;done) | (simp;omega))));(try (have f2461 := hk242 (w23.heap.size) 1 ?sf2461;case sf2461 => (first | omega | (simp;done) | (simp;omega))));(try (have c246 : w23.heap.size < w24.heap.size := ?sc246;case sc246 => omega));(try (have d246 := Nat.ne_of_lt c246));(try (have e2470 := hk241 (w23.heap.size + 1) 0 ?se2470;case se2470 => (first | omega | (simp;done) | (simp;omega))));(try (have f2470 := hk242 (w23.heap.size + 1) 0 ?sf2470;case sf2470 => (first | omega | (simp;done) | (simp;omega))));(try (have e2471 := hk241 (w23.heap.size + 1) 1 ?se2471;case se2471 => (first | omega | (simp;done) | (simp;omega))));(try (have f2471 := hk242 (w23.heap.size + 1) 1 ?sf2471;case sf2471 => (first | omega | (simp;done) | (simp;omega))));(try (have c247 : w23.heap.size + 1 < w24.heap.size := ?sc247;case sc247 => omega));(try (have d247 := Nat.ne_of_lt c247));clear hk241 hk242))
  all_goals
   go_wp2_with fail
   go_meet
   refine ⟨_,rfl,?_,?_⟩
   all_goals (first
    | (repeat (first
      | with_reducible exact hq24
      | (with_reducible refine boxV_full ?_ ?_;focus (first | rfl | (simp;done))) | (with_reducible refine boxV_set ?_ ?_) | (with_reducible refine boxV_old ?_) | (with_reducible refine boxV_far ?_ ?_ ?_) | (with_reducible refine boxV_drew ?_)
      | (with_reducible refine boxT_full ?_;focus (first | omega | rfl | (simp;done) | (simp;omega))) | (with_reducible refine boxT_old ?_) | (with_reducible refine boxT_drew ?_) | (with_reducible refine boxT_far ?_ ?_) | (with_reducible refine boxT_call hb24 ?_) | (with_reducible refine boxT_call hb23 ?_) | (with_reducible refine boxT_call hb22 ?_) | (with_reducible refine boxT_call hb21 ?_)
      | (with_reducible refine sgv_old ?_) | (with_reducible refine sgv_set ?_ ?_) | (with_reducible refine sgv_call hb24 ?_) | (with_reducible refine sgv_call hb23 ?_) | (with_reducible refine sgv_call hb22 ?_) | (with_reducible refine sgv_call hb21 ?_)
      | focus (first | omega | rfl | (simp;done) | (simp;omega)))
       done)
    | (repeat (first | with_reducible assumption | with_reducible refine Below.drew ?_ | with_reducible refine Below.alloc ?_ (by first | omega | (simp;done) | (simp;omega)) _ | with_reducible refine Below.setCell ?_ (by first | (simp;done) | (simp;omega) | omega) _)
       done)
    | omega | (simp;omega))
 case rest =>
  obtain ⟨g6,rfl,⟨A6,n6,c6,k6,hF6,hv6⟩,hbc⟩ := hcut
  obtain ⟨hbwV,hB2V,hl5⟩ := HS2.out
  have hB3 := hB2V.call hbc
  have hbz := belowt hbwV hbwV.size hbc
  obtain ⟨⟨q0,y0⟩,⟨q1,y1⟩,y2,y3⟩ := hB3.facts
  obtain ⟨p60,p61,-,-⟩ := hF6.cells2
  have HZ := Lib.hid (And.intro hB3 (And.intro hbz hv6))
  clear hbwV hB2V hB3 hbz hv6 hbc HS2 HP4 HP1 HP2 HP3 hK2 hF6
  go_wp2_with fail
  exact bodyPost_ret (v := .agg #[.slice A6 n6 c6,.bool k6]) (by simp [results,Tryz.results95,go_sem,y0,y1]) rfl ⟨_,rfl,HZ.out.1.sg _ _ _ _ HZ.out.2.2,below_set2 HZ.out.2.1 (by omega)⟩
end Go.Proofs.YtlfgpmnjnpdkdaaGreatDoor
namespace Go.Proofs.YtlfgpmnjnpdkdaaGreatDoor
open Go.RowKit Vd
attribute [local go_sem ↓] Go.wp_at_zero Go.wp_at_succ
theorem near_lt {a b B C z : Nat} (ha : a < B) (hb : b ≤ C) (hC : 2 ≤ C) (hz : z ≤ a * b + 1) : z < B * C := by
 have h1 : a * b ≤ (B - 1) * C := Nat.mul_le_mul (by omega) hb
 have h2 : (B - 1) * C + C = B * C := by rw [← Nat.succ_mul];congr 1;omega
 omega
theorem near_dlen {x : Rat} {p m k : Nat} (hx : x.num.natAbs < 10 ^ m) (hp : p ≤ k) (hk : 1 ≤ k) (hm : m + k ≤ 620) : dlen (nearZ x (10 ^ p)).natAbs ≤ 620 := by
 have h1 := nearZ_abs x (10 ^ p)
 have hb : ((10 : Int) ^ p).natAbs ≤ 10 ^ k := by
  rw [Int.natAbs_pow];exact Nat.pow_le_pow_right (by decide) hp
 have hc : 2 ≤ 10 ^ k := Nat.le_trans (by decide) (Nat.pow_le_pow_right (n := 10) (by decide) hk)
 have h2 := near_lt hx hb hc h1
 rw [← Nat.pow_add] at h2
 exact dlen_fit h2 (by omega) hm
theorem wlen_dlen {n : Nat} (h : dlen n ≤ 620) : wlen B64 n ≤ 1000000 := Nat.le_trans (wlen_620 (lt_pow_dlen n) h) (by omega)
theorem ten_wlen {p : Nat} (h : p ≤ 20) : wlen B64 ((10 : Int) ^ p).natAbs ≤ 32 := by
 rw [Int.natAbs_pow]
 refine Nat.le_trans (wlen_mono two_le_B (Nat.pow_le_pow_right (n := 10) (by decide) h)) ?_
 rw [wlen_le_iff two_le_B]
 decide +kernel
theorem small_of {x : Int} {k : Nat} (h : x.natAbs < 10 ^ k) (hk : k ≤ 600) : small x := Nat.lt_of_lt_of_le h (Nat.pow_le_pow_right (by omega) (by rw [maxDigits_eq];exact hk))
theorem small_lt {q : Rat} (h : smallF q) : q.num.natAbs < 10 ^ maxDigits := h.1
abbrev TeS (w : World) (x : Rat) (b : Nat) (A1 : Option Addr) (n1 c1 : Nat) (k1 : Bool) (A2 : Option Addr) (n2 c2 : Nat) (k2 : Bool) (W : World) : Prop := (Below w.heap.size w W ∧ SgV W (.agg #[.slice A1 n1 c1,.bool k1]) x.num ∧ SgV W (.agg #[.slice A2 n2 c2,.bool k2]) (x.den : Int)) ∧ W.cell? ⟨b,0,none⟩ = some (.slice A1 n1 c1) ∧ W.cell? ⟨b,1,none⟩ = some (.bool k1) ∧ W.cell? ⟨b,2,none⟩ = some (.slice A2 n2 c2) ∧ W.cell? ⟨b,3,none⟩ = some (.bool k2)
theorem teS_step {w : World} {x : Rat} {b : Nat} {A1 : Option Addr} {n1 c1 : Nat} {k1 : Bool} {A2 : Option Addr} {n2 c2 : Nat} {k2 : Bool} {W W' : World} (h : TeS w x b A1 n1 c1 k1 A2 n2 c2 k2 W) (hb : Below W.heap.size W W') : TeS w x b A1 n1 c1 k1 A2 n2 c2 k2 W' := by
 obtain ⟨⟨hb0,g0,g1⟩,e0,e1,e2,e3⟩ := h
 exact ⟨⟨belowt hb0 hb0.size hb,g0.below hb,g1.below hb⟩,keepc hb e0,keepc hb e1,keepc hb e2,keepc hb e3⟩
theorem teS_drew {w : World} {x : Rat} {b : Nat} {A1 : Option Addr} {n1 c1 : Nat} {k1 : Bool} {A2 : Option Addr} {n2 c2 : Nat} {k2 : Bool} {W : World} (h : TeS w x b A1 n1 c1 k1 A2 n2 c2 k2 W) : TeS w x b A1 n1 c1 k1 A2 n2 c2 k2 W.drew := by
 obtain ⟨⟨hb0,g0,g1⟩,e0,e1,e2,e3⟩ := h
 exact ⟨⟨hb0.drew,g0,g1⟩,e0,e1,e2,e3⟩
set_option maxRecDepth 100000 in
set_option maxHeartbeats 2000000 in
theorem ftext_some (a1 a2 : List UInt8) (x : Rat) (p : Nat) (w : World) (h : rdF a1 a2 = some x) (hp : p ≤ 20) :
    Calls Tryz.prog 48 #[.agg #[.string ⟨a1.toArray⟩,.string ⟨a2.toArray⟩],.int .i64 (p : Int)] w fun e w' => e = .returned (.tuple #[.string ⟨(dtx (nearZ x (10 ^ p)) p).toArray⟩,.int .i64 0]) ∧ Below w.heap.size w w' := by
 have hb0 : Below w.heap.size w (w.alloc (.cells #[.string ⟨a1.toArray⟩,.string ⟨a2.toArray⟩] 24)) := (Below.refl _ _).alloc (Nat.le_refl _) _
 have hrd := fread_some a1 a2 x (w.alloc (.cells #[.string ⟨a1.toArray⟩,.string ⟨a2.toArray⟩] 24)) h
 have hdl := near_dlen (x := x) (small_lt (rdF_small h)) hp (by omega) (show maxDigits + 20 ≤ 620 by rw [maxDigits_eq];omega)
 obtain ⟨Z,hZ⟩ : ∃ Z,Z = nearZ x (10 ^ p) := ⟨_,rfl⟩
 rw [← hZ] at hdl ⊢
 obtain ⟨P,hP⟩ : ∃ P : Int,P = (p : Int) := ⟨_,rfl⟩
 have hd1 : decide (P < 0) = false := by simp;omega
 have hd2 : decide (20 < P) = false := by simp;omega
 obtain ⟨tx,htx⟩ : ∃ tx,tx = dtx Z p := ⟨_,rfl⟩
 rw [← htx]
 have H := Lib.hid (And.intro (rdF_fz h) (And.intro hZ (And.intro hb0 (And.intro hP (And.intro hdl (And.intro htx hp))))))
 simp only [← hP]
 clear h hb0 hp hZ hP hdl htx
 go_enter Tryz.func48,Tryz.ntmps48
 go_wp2_with fail
 refine hrd.mono ?_
 rintro e w1 ⟨v,rfl,hv,hb1⟩
 obtain ⟨A1,n1,c1,k1,A2,n2,c2,k2,rfl,hv1,hv2⟩ := hv.open
 have HT : Hid (∀ W,TeS w x w1.heap.size A1 n1 c1 k1 A2 n2 c2 k2 W → Calls Tryz.prog 100 #[.int .i64 P] W fun e w' => ∃ (A : Option Addr) (n c : Nat) (k : Bool),e = .returned (.agg #[.slice A n c,.bool k]) ∧ SgV w' (.agg #[.slice A n c,.bool k]) (10 ^ p) ∧ Below W.heap.size W w' ∧ TeS w x w1.heap.size A1 n1 c1 k1 A2 n2 c2 k2 w') := Lib.hid (fun W hS => by
  rw [H.out.2.2.2.1]
  refine (tenTo_any p W H.out.2.2.2.2.2.2).mono ?_
  rintro e w' ⟨A,n,c,k,he,hv,hb⟩
  exact ⟨A,n,c,k,he,hv,hb,teS_step hS hb⟩)
 have HN : Hid (∀ W v,SgV W v ((10 : Int) ^ p) → TeS w x w1.heap.size A1 n1 c1 k1 A2 n2 c2 k2 W → Calls Tryz.prog 95 #[.agg #[.slice A1 n1 c1,.bool k1,.slice A2 n2 c2,.bool k2],v] W fun e w' => ∃ (A : Option Addr) (n c : Nat) (k : Bool),e = .returned (.agg #[.slice A n c,.bool k]) ∧ SgV w' (.agg #[.slice A n c,.bool k]) Z ∧ Below W.heap.size W w' ∧ TeS w x w1.heap.size A1 n1 c1 k1 A2 n2 c2 k2 w') := Lib.hid (fun W v hv hS => by
  have hnr := ranear_any _ v x ((10 : Int) ^ p) 32 W ⟨_,_,_,_,_,_,_,_,rfl,hS.1.2.1,hS.1.2.2⟩ hv H.out.1 (ten_wlen H.out.2.2.2.2.2.2) (by unfold maxW;omega)
  rw [← H.out.2.1] at hnr
  refine hnr.mono ?_
  rintro e w' ⟨v,he,hv,hb⟩
  obtain ⟨A,n,c,k,rfl⟩ := hv.open
  exact ⟨A,n,c,k,he,hv,hb,teS_step hS hb⟩)
 have HD : Hid (∀ W v,SgV W v Z → TeS w x w1.heap.size A1 n1 c1 k1 A2 n2 c2 k2 W → Calls Tryz.prog 99 #[v,.int .i64 P] W fun e w' => e = .returned (.string ⟨tx.toArray⟩) ∧ TeS w x w1.heap.size A1 n1 c1 k1 A2 n2 c2 k2 w') := Lib.hid (fun W v hv hS => by
  rw [H.out.2.2.2.1,H.out.2.2.2.2.2.1]
  refine (dtext_any v Z p W hv H.out.2.2.2.2.2.2 H.out.2.2.2.2.1 (wlen_dlen H.out.2.2.2.2.1)).mono ?_
  rintro e w' ⟨he,hb⟩
  exact ⟨he,teS_step hS hb⟩)
 have hS0 : TeS w x w1.heap.size A1 n1 c1 k1 A2 n2 c2 k2 (w1.alloc (.cells #[.slice A1 n1 c1,.bool k1,.slice A2 n2 c2,.bool k2] 82)) := by
  have r0 : Fr (w1.alloc (.cells #[.slice A1 n1 c1,.bool k1,.slice A2 n2 c2,.bool k2] 82)) w1.heap.size #[.slice A1 n1 c1,.bool k1,.slice A2 n2 c2,.bool k2] 82 := Fr.new rfl
  have hbw := belowt H.out.2.2.1 H.out.2.2.1.size hb1
  exact ⟨⟨hbw.alloc hbw.size _,hv1.old,hv2.old⟩,r0.cells4.1,r0.cells4.2.1,r0.cells4.2.2.1,r0.cells4.2.2.2.1⟩
 have hS1 := teS_drew hS0
 clear hrd hb1 hv hv1 hv2 hS0
 go_wp2_with fail
 go_region_held3 (fun W => (Below w.heap.size w W ∧ SgV W (.agg #[.slice A1 n1 c1,.bool k1]) x.num ∧ SgV W (.agg #[.slice A2 n2 c2,.bool k2]) (x.den : Int)) ∧ W.cell? ⟨w1.heap.size,0,none⟩ = some (.slice A1 n1 c1) ∧ W.cell? ⟨w1.heap.size,1,none⟩ = some (.bool k1) ∧ W.cell? ⟨w1.heap.size,2,none⟩ = some (.slice A2 n2 c2) ∧ W.cell? ⟨w1.heap.size,3,none⟩ = some (.bool k2)) (first | with_reducible assumption | exact ⟨⟨hS1.1.1,hS1.1.2.1,hS1.1.2.2⟩,hS1.2⟩)
  (first
   | (go_at_call 100;with_reducible refine (HT.out _ ?_).mono ?_;with_reducible assumption;rintro e w5 ⟨A5,n5,c5,k5,rfl,hq5,hb5,hS5⟩)
   | (go_at_call 95;with_reducible refine (HN.out _ _ ?_ ?_).mono ?_;with_reducible assumption;with_reducible assumption;rintro e w6 ⟨A6,n6,c6,k6,rfl,hq6,hb6,hS6⟩)
   | (go_at_call 99;with_reducible refine (HD.out _ _ ?_ ?_).mono ?_;with_reducible assumption;with_reducible assumption;rintro e w7 ⟨rfl,hS7⟩))
 go_wp2_with fail
 go_ret2
 exact ⟨rfl,hS7.1.1⟩
set_option maxRecDepth 100000 in
set_option maxHeartbeats 2000000 in
theorem fnear_some (a1 a2 : List UInt8) (x : Rat) (s : Nat) (w : World) (hg : Gnd w) (h : rdF a1 a2 = some x) (hs0 : 1 ≤ s) (hs : s ≤ 1000000000000) (hz0 : -9223372036854775808 ≤ nearZ x (s : Int)) (hz1 : nearZ x (s : Int) ≤ 9223372036854775807) :
    Calls Tryz.prog 45 #[.agg #[.string ⟨a1.toArray⟩,.string ⟨a2.toArray⟩],.int .i64 (s : Int)] w fun e w' => e = .returned (.tuple #[.int .i64 (nearZ x (s : Int)),.int .i64 0]) ∧ Below w.heap.size w w' := by
 have hb0 : Below w.heap.size w (w.alloc (.cells #[.string ⟨a1.toArray⟩,.string ⟨a2.toArray⟩] 24)) := (Below.refl _ _).alloc (Nat.le_refl _) _
 have hrd := fread_some a1 a2 x (w.alloc (.cells #[.string ⟨a1.toArray⟩,.string ⟨a2.toArray⟩] 24)) h
 obtain ⟨Z,hZ⟩ : ∃ Z,Z = nearZ x (s : Int) := ⟨_,rfl⟩
 rw [← hZ] at hz0 hz1 ⊢
 have hzw : wlen B64 Z.natAbs ≤ 1000000 := by
  have h1 := nearZ_abs x (s : Int)
  rw [← hZ] at h1
  have h2 : Z.natAbs < 10 ^ (maxDigits + 20) := by
   rw [Nat.pow_add]
   exact near_lt (small_lt (rdF_small h)) (show (s : Int).natAbs ≤ 10 ^ 20 by rw [Int.natAbs_natCast];exact Nat.le_trans hs (by decide)) (by decide) h1
  exact Nat.le_trans (wlen_620 h2 (by rw [maxDigits_eq];omega)) (by omega)
 obtain ⟨P,hP⟩ : ∃ P : Int,P = (s : Int) := ⟨_,rfl⟩
 have hd1 : decide (P < 1) = false := by simp;omega
 have hd2 : decide (1000000000000 < P) = false := by simp;omega
 have hPw : wlen B64 P.natAbs ≤ 32 := Nat.le_trans (wlen_le_one two_le_B (by rw [hP,Int.natAbs_natCast];exact Nat.lt_of_le_of_lt hs (by decide))) (by omega)
 have hsm : small Z := small_of (k := 20) (Nat.lt_of_le_of_lt (show Z.natAbs ≤ 9223372036854775808 by omega) (by decide)) (by omega)
 obtain ⟨tx,htx⟩ : ∃ tx,tx = wr Z := ⟨_,rfl⟩
 have hoe : outV Z = .tuple #[.string ⟨tx.toArray⟩,.int .i64 0] := by rw [htx,outV_small hsm]
 have hint := fun W => wint_some tx Z W (by rw [htx];exact rd_wr hsm) hz0 hz1
 have H := Lib.hid (And.intro (rdF_fz h) (And.intro hZ (And.intro hb0 (And.intro hP (And.intro hzw (And.intro hPw (And.intro hg (And.intro (show -9223372036854775808 ≤ P ∧ P ≤ 9223372036854775807 by omega) hoe))))))))
 simp only [← hP]
 clear h hb0 hs0 hs hZ hP hPw hzw hg hz0 hz1 hsm htx hoe
 go_enter Tryz.func45,Tryz.ntmps45
 go_wp2_with fail
 refine hrd.mono ?_
 rintro e w1 ⟨v,rfl,hv,hb1⟩
 obtain ⟨A1,n1,c1,k1,A2,n2,c2,k2,rfl,hv1,hv2⟩ := hv.open
 have HT : Hid (∀ W,TeS w x w1.heap.size A1 n1 c1 k1 A2 n2 c2 k2 W → Calls Tryz.prog 54 #[.int .i64 P] W fun e w' => ∃ (A : Option Addr) (n c : Nat) (k : Bool),e = .returned (.agg #[.slice A n c,.bool k]) ∧ SgV w' (.agg #[.slice A n c,.bool k]) P ∧ Below W.heap.size W w' ∧ TeS w x w1.heap.size A1 n1 c1 k1 A2 n2 c2 k2 w') := Lib.hid (fun W hS => by
  refine (numOf_any P W H.out.2.2.2.2.2.2.2.1.1 H.out.2.2.2.2.2.2.2.1.2).mono ?_
  rintro e w' ⟨A,n,c,k,he,hv,hb⟩
  exact ⟨A,n,c,k,he,hv,hb,teS_step hS hb⟩)
 have HN : Hid (∀ W v,SgV W v P → TeS w x w1.heap.size A1 n1 c1 k1 A2 n2 c2 k2 W → Calls Tryz.prog 95 #[.agg #[.slice A1 n1 c1,.bool k1,.slice A2 n2 c2,.bool k2],v] W fun e w' => ∃ (A : Option Addr) (n c : Nat) (k : Bool),e = .returned (.agg #[.slice A n c,.bool k]) ∧ SgV w' (.agg #[.slice A n c,.bool k]) Z ∧ Below W.heap.size W w' ∧ TeS w x w1.heap.size A1 n1 c1 k1 A2 n2 c2 k2 w') := Lib.hid (fun W v hv hS => by
  have hnr := ranear_any _ v x P 32 W ⟨_,_,_,_,_,_,_,_,rfl,hS.1.2.1,hS.1.2.2⟩ hv H.out.1 H.out.2.2.2.2.2.1 (by unfold maxW;omega)
  rw [H.out.2.2.2.1,← H.out.2.1] at hnr
  refine hnr.mono ?_
  rintro e w' ⟨v,he,hv,hb⟩
  obtain ⟨A,n,c,k,rfl⟩ := hv.open
  exact ⟨A,n,c,k,he,hv,hb,teS_step hS hb⟩)
 have HD : Hid (∀ W v,SgV W v Z → TeS w x w1.heap.size A1 n1 c1 k1 A2 n2 c2 k2 W → Calls Tryz.prog 94 #[v] W fun e w' => e = .returned (.tuple #[.string ⟨tx.toArray⟩,.int .i64 0]) ∧ TeS w x w1.heap.size A1 n1 c1 k1 A2 n2 c2 k2 w') := Lib.hid (fun W v hv hS => by
  have hw := fwriteW_any v Z W hv H.out.2.2.2.2.1
  rw [H.out.2.2.2.2.2.2.2.2] at hw
  refine hw.mono ?_
  rintro e w' ⟨he,hb⟩
  exact ⟨he,teS_step hS hb⟩)
 have hS0 : TeS w x w1.heap.size A1 n1 c1 k1 A2 n2 c2 k2 (w1.alloc (.cells #[.slice A1 n1 c1,.bool k1,.slice A2 n2 c2,.bool k2] 82)) := by
  have r0 : Fr (w1.alloc (.cells #[.slice A1 n1 c1,.bool k1,.slice A2 n2 c2,.bool k2] 82)) w1.heap.size #[.slice A1 n1 c1,.bool k1,.slice A2 n2 c2,.bool k2] 82 := Fr.new rfl
  have hbw := belowt H.out.2.2.1 H.out.2.2.1.size hb1
  exact ⟨⟨hbw.alloc hbw.size _,hv1.old,hv2.old⟩,r0.cells4.1,r0.cells4.2.1,r0.cells4.2.2.1,r0.cells4.2.2.2.1⟩
 have hS1 := teS_drew hS0
 clear hrd hb1 hv hv1 hv2 hS0
 go_wp2_with fail
 go_region_held3 (fun W => (Below w.heap.size w W ∧ SgV W (.agg #[.slice A1 n1 c1,.bool k1]) x.num ∧ SgV W (.agg #[.slice A2 n2 c2,.bool k2]) (x.den : Int)) ∧ W.cell? ⟨w1.heap.size,0,none⟩ = some (.slice A1 n1 c1) ∧ W.cell? ⟨w1.heap.size,1,none⟩ = some (.bool k1) ∧ W.cell? ⟨w1.heap.size,2,none⟩ = some (.slice A2 n2 c2) ∧ W.cell? ⟨w1.heap.size,3,none⟩ = some (.bool k2)) (first | with_reducible assumption | exact ⟨⟨hS1.1.1,hS1.1.2.1,hS1.1.2.2⟩,hS1.2⟩)
  (first
   | (go_at_call 54;with_reducible refine (HT.out _ ?_).mono ?_;with_reducible assumption;rintro e w5 ⟨A5,n5,c5,k5,rfl,hq5,hb5,hS5⟩)
   | (go_at_call 95;with_reducible refine (HN.out _ _ ?_ ?_).mono ?_;with_reducible assumption;with_reducible assumption;rintro e w6 ⟨A6,n6,c6,k6,rfl,hq6,hb6,hS6⟩)
   | (go_at_call 94;with_reducible refine (HD.out _ _ ?_ ?_).mono ?_;with_reducible assumption;with_reducible assumption;rintro e w7 ⟨rfl,hS7⟩))
 go_wp2_with fail
 refine (hint _).mono ?_
 rintro e w8 ⟨rfl,hb8⟩
 go_wp2_with fail
 go_ret2
 exact ⟨rfl,belowt hS7.1.1 hS7.1.1.size hb8⟩
set_option maxRecDepth 100000 in
set_option maxHeartbeats 2000000 in
theorem fnear_arg (a1 a2 : List UInt8) (x : Rat) (s : Int) (w : World) (h : rdF a1 a2 = some x) (hs : s < 1) :
    Calls Tryz.prog 45 #[.agg #[.string ⟨a1.toArray⟩,.string ⟨a2.toArray⟩],.int .i64 s] w fun e w' => e = .returned (.tuple #[.int .i64 0,.int .i64 2]) ∧ Below w.heap.size w w' := by
 have hb0 : Below w.heap.size w (w.alloc (.cells #[.string ⟨a1.toArray⟩,.string ⟨a2.toArray⟩] 24)) := (Below.refl _ _).alloc (Nat.le_refl _) _
 have hrd := fread_some a1 a2 x (w.alloc (.cells #[.string ⟨a1.toArray⟩,.string ⟨a2.toArray⟩] 24)) h
 have hd1 : decide (s < 1) = true := by simpa using hs
 have H := Lib.hid hb0
 clear h hb0 hs
 go_enter Tryz.func45,Tryz.ntmps45
 go_wp2_with fail
 refine hrd.mono ?_
 rintro e w1 ⟨v,rfl,hv,hb1⟩
 obtain ⟨A1,n1,c1,k1,A2,n2,c2,k2,rfl,hv1,hv2⟩ := hv.open
 have hbw := belowt H.out H.out.size hb1
 have HB := Lib.hid hbw
 clear hrd hb1 hv hv1 hv2 hbw
 go_wp2_with fail
 go_ret2
 exact ⟨rfl,HB.out.alloc HB.out.size _⟩
end Go.Proofs.YtlfgpmnjnpdkdaaGreatDoor
