/- Contracts: the reference's draft: Short. Contracts: the reference's draft: Unit. Contracts of the fraction laws' small closures. -/
import Derived.Test.YtlfgpmnjnpdkdaaGreatDoorFraS
import Derived.Test.YtlfgpmnjnpdkdaaGreatDoorWhoG
namespace Go.Proofs.YtlfgpmnjnpdkdaaGreatDoor
open Go.RowKit Vd
attribute [local go_sem ↓] Go.wp_at_zero Go.wp_at_succ
theorem tmod_bound (k : Int) : -1000 < Int.tmod k 1000 ∧ Int.tmod k 1000 < 1000 := by
 have h := Int.natAbs_tmod k 1000
 have h2 : k.natAbs % (1000 : Int).natAbs < 1000 := Nat.mod_lt _ (by decide)
 omega
theorem divInt_sizes (m d : Int) (hm : -1000 < m ∧ m < 1000) (hd0 : 0 < d) (hd : d ≤ 60) : smallF (Rat.divInt m d) ∧ wlen B4 (Rat.divInt m d).num.natAbs ≤ 1000000 ∧ wlen B4 (Rat.divInt m d).den ≤ 1000000 := by
 obtain ⟨hg,h1,h2⟩ := div_parts m d (by omega) _ rfl
 rw [if_neg (by omega)] at hg h1 h2
 have a1 : (Rat.divInt m d).num.natAbs ≤ 1000 := by
  rw [h1,Int.natAbs_ediv_of_dvd (Int.ofNat_dvd_left.2 (Nat.gcd_dvd_left _ _))]
  exact Nat.le_trans (Nat.div_le_self _ _) (by omega)
 have a2 : (Rat.divInt m d).den ≤ 1000 := by
  have : ((Rat.divInt m d).den : Int) ≤ d := by rw [h2];exact Int.ediv_le_self _ (by omega)
  omega
 have hk : ∀ e : Nat,4 ≤ e → ∀ n : Nat,n ≤ 1000 → n < 10 ^ e := fun e he n h => Nat.lt_of_le_of_lt h (Nat.lt_of_lt_of_le (show 1000 < 10 ^ 4 by decide) (Nat.pow_le_pow_right (by omega) he))
 have hw : ∀ n : Nat,n ≤ 1000 → wlen B4 n ≤ 1000000 := fun n h => Nat.le_trans (wlen_le_one two_le_B4 (Nat.lt_of_le_of_lt h (by decide))) (by omega)
 refine ⟨⟨?_,?_⟩,hw _ a1,hw _ a2⟩
 · show (Rat.divInt m d).num.natAbs < _
   refine hk _ ?_ _ a1
   rw [maxDigits_eq];omega
 · show (((Rat.divInt m d).den : Int)).natAbs < _
   refine hk _ ?_ _ (by omega)
   rw [maxDigits_eq];omega
set_option maxRecDepth 100000 in
set_option maxHeartbeats 2000000 in
theorem fshort_any (b1 : Bool) (A1 : Option Addr) (n1 c1 z1 : Nat) (xs : List Nat) (b2 : Bool) (A2 : Option Addr) (n2 c2 z2 : Nat) (ys : List Nat) (w : World) (hx : Sl w U16 A1 n1 xs) (ox : Ok 65536 xs) (hn1 : n1 ≤ 9223372036854775807) (hy : Sl w U16 A2 n2 ys) (oy : Ok 65536 ys) (hn2 : n2 ≤ 9223372036854775807) :
 Calls Tryz.prog 24 #[.agg #[.bool b1,.slice A1 n1 c1,.int .u16 (z1 : Int),.bool b2,.slice A2 n2 c2,.int .u16 (z2 : Int)]] w fun e w' => ∃ (m d : Int),-1000 < m ∧ m < 1000 ∧ 0 < d ∧ d ≤ 60 ∧ e = .returned (frV (Rat.divInt m d)) ∧ Below w.heap.size w w' := by
 have hb0 : Below w.heap.size w ((w.alloc (.cells #[.bool b1,.slice A1 n1 c1,.int .u16 (z1 : Int),.bool b2,.slice A2 n2 c2,.int .u16 (z2 : Int)] 30)).alloc (.cells #[.string ⟨#[]⟩,.string ⟨#[]⟩] 24)) := ((Below.refl _ _).alloc (Nat.le_refl _) _).alloc (by simp) _
 have hF0 : Fr ((w.alloc (.cells #[.bool b1,.slice A1 n1 c1,.int .u16 (z1 : Int),.bool b2,.slice A2 n2 c2,.int .u16 (z2 : Int)] 30)).alloc (.cells #[.string ⟨#[]⟩,.string ⟨#[]⟩] 24)) w.heap.size #[.bool b1,.slice A1 n1 c1,.int .u16 (z1 : Int),.bool b2,.slice A2 n2 c2,.int .u16 (z2 : Int)] 30 := (Fr.new rfl).old
 have hB0 : Fr ((w.alloc (.cells #[.bool b1,.slice A1 n1 c1,.int .u16 (z1 : Int),.bool b2,.slice A2 n2 c2,.int .u16 (z2 : Int)] 30)).alloc (.cells #[.string ⟨#[]⟩,.string ⟨#[]⟩] 24)) (w.heap.size + 1) #[.string ⟨#[]⟩,.string ⟨#[]⟩] 24 := Fr.new (by simp)
 have S1 := fun W (hb : Below w.heap.size w W) => dsmall_any b1 A1 n1 c1 z1 xs W (hx.below hb) ox hn1
 have S2 := fun W (hb : Below w.heap.size w W) => dsmall_any b2 A2 n2 c2 z2 ys W (hy.below hb) oy hn2
 have HS1 := Lib.hid S1
 have HS2 := Lib.hid S2
 have H := Lib.hid (And.intro hb0 (And.intro hF0 hB0))
 clear S1 S2 hx ox hn1 hy oy hn2 hb0 hF0 hB0
 go_enter Tryz.func24,Tryz.ntmps24
 go_wp2_with fail
 refine (HS2.out _ H.out.1).mono ?_
 rintro e w1 ⟨k2,rfl,hk1,hk2,hb1⟩
 have hF1 := H.out.2.1.call hb1
 have e0 : w1.cell? ⟨w.heap.size,0,none⟩ = some (.bool b1) := hF1.cell 0
 have e1 : w1.cell? ⟨w.heap.size,1,none⟩ = some (.slice A1 n1 c1) := hF1.cell 1
 have e2 : w1.cell? ⟨w.heap.size,2,none⟩ = some (.int .u16 (z1 : Int)) := hF1.cell 2
 have HB := Lib.hid (And.intro (belowt H.out.1 H.out.1.size hb1) (H.out.2.2.call hb1))
 clear hF1 hb1
 rcases (show (∃ j : Nat,k2 = -(j : Int) ∧ 0 < j) ∨ ∃ j : Nat,k2 = (j : Int) from by
  by_cases h : k2 < 0
  · exact .inl ⟨k2.natAbs,by omega,by omega⟩
  · exact .inr ⟨k2.natAbs,by omega⟩) with ⟨j,rfl,hj⟩ | ⟨j,rfl⟩
 · have hneg : -(j : Int) < 0 := by omega
   have ew : IntKind.i64.wrap (- -(j : Int)) = (j : Int) := by rw [IntKind.wrap_i64];omega
   have ew2 : IntKind.i64.wrap (j : Int) = (j : Int) := by rw [IntKind.wrap_i64];omega
   go_wp2_with fail
   refine (HS1.out _ HB.out.1).mono ?_
   rintro e w2 ⟨k1,rfl,hp1,hp2,hb2⟩
   clear e0 e1 e2
   have HD := Lib.hid (And.intro (belowt HB.out.1 HB.out.1.size hb2) (HB.out.2.call hb2))
   obtain ⟨s,t,hs⟩ : ∃ s t : ByteArray,frV (Rat.divInt (Int.tmod k1 1000) (1 + (j : Int) % 60)) = .agg #[.string s,.string t] := ⟨_,_,rfl⟩
   have hq : ∀ W,Calls Tryz.prog 56 #[.int .i64 (Int.tmod k1 1000),.int .i64 (1 + (j : Int) % 60)] W fun e w' => ∃ v,e = .returned v ∧ RtV w' v (Rat.divInt (Int.tmod k1 1000) (1 + (j : Int) % 60)).num ((Rat.divInt (Int.tmod k1 1000) (1 + (j : Int) % 60)).den : Int) ∧ Below W.heap.size W w' := fun W => rquick_pos _ _ W (by have := tmod_bound k1;omega) (by have := tmod_bound k1;omega) (by omega) (by omega)
   have ho : ∀ W v,RtV W v (Rat.divInt (Int.tmod k1 1000) (1 + (j : Int) % 60)).num ((Rat.divInt (Int.tmod k1 1000) (1 + (j : Int) % 60)).den : Int) → Calls Tryz.prog 55 #[v] W fun e w' => e = .returned (.tuple #[.agg #[.string s,.string t],.int .i64 0]) ∧ Below W.heap.size W w' := by
    intro W v hv
    have hsz := divInt_sizes (Int.tmod k1 1000) (1 + (j : Int) % 60) (by have := tmod_bound k1;omega) (by omega) (by omega)
    have h := rout_any v _ W hv hsz.2.1 hsz.2.2
    rw [show outF (Rat.divInt (Int.tmod k1 1000) (1 + (j : Int) % 60)) = .tuple #[.agg #[.string s,.string t],.int .i64 0] from by unfold outF;rw [if_pos hsz.1,hs]] at h
    exact h
   have HQ := Lib.hid hq
   have HO := Lib.hid ho
   have HS := Lib.hid hs
   clear hb2 hq ho hs
   go_wp2_with fail
   refine (HQ.out _).mono ?_
   rintro e w3 ⟨v,rfl,hv,hb3⟩
   have HO2 := Lib.hid (HO.out w3 v hv)
   obtain ⟨kA,AA,nA,cA,kB,AB,nB,cB,rfl,_,_⟩ := hv
   have HE := Lib.hid (And.intro (belowt HD.out.1 HD.out.1.size hb3) (HD.out.2.call hb3))
   clear hb3
   go_wp2_with fail
   refine HO2.out.mono ?_
   rintro e w4 ⟨rfl,hb4⟩
   have HF := Lib.hid (belowt HE.out.1 HE.out.1.size hb4)
   obtain ⟨y0,y1,y2,y3⟩ := (HE.out.2.call hb4).cells2a
   clear hb4 HO2
   go_wp2_with fail
   exact bodyPost_ret (v := .agg #[.string s,.string t]) (by simp [results,Tryz.results24,go_sem,y0,y1]) rfl ⟨Int.tmod k1 1000,1 + (j : Int) % 60,by have := tmod_bound k1;omega,by have := tmod_bound k1;omega,by omega,by omega,by rw [HS.out],((HF.out.alloc HF.out.size _).setCell (by simp) _).setCell (by simp) _⟩
 · have hd : decide ((j : Int) < 0) = false := by simp
   go_wp2_with fail
   refine (HS1.out _ HB.out.1).mono ?_
   rintro e w2 ⟨k1,rfl,hp1,hp2,hb2⟩
   clear e0 e1 e2
   have HD := Lib.hid (And.intro (belowt HB.out.1 HB.out.1.size hb2) (HB.out.2.call hb2))
   obtain ⟨s,t,hs⟩ : ∃ s t : ByteArray,frV (Rat.divInt (Int.tmod k1 1000) (1 + (j : Int) % 60)) = .agg #[.string s,.string t] := ⟨_,_,rfl⟩
   have hq : ∀ W,Calls Tryz.prog 56 #[.int .i64 (Int.tmod k1 1000),.int .i64 (1 + (j : Int) % 60)] W fun e w' => ∃ v,e = .returned v ∧ RtV w' v (Rat.divInt (Int.tmod k1 1000) (1 + (j : Int) % 60)).num ((Rat.divInt (Int.tmod k1 1000) (1 + (j : Int) % 60)).den : Int) ∧ Below W.heap.size W w' := fun W => rquick_pos _ _ W (by have := tmod_bound k1;omega) (by have := tmod_bound k1;omega) (by omega) (by omega)
   have ho : ∀ W v,RtV W v (Rat.divInt (Int.tmod k1 1000) (1 + (j : Int) % 60)).num ((Rat.divInt (Int.tmod k1 1000) (1 + (j : Int) % 60)).den : Int) → Calls Tryz.prog 55 #[v] W fun e w' => e = .returned (.tuple #[.agg #[.string s,.string t],.int .i64 0]) ∧ Below W.heap.size W w' := by
    intro W v hv
    have hsz := divInt_sizes (Int.tmod k1 1000) (1 + (j : Int) % 60) (by have := tmod_bound k1;omega) (by omega) (by omega)
    have h := rout_any v _ W hv hsz.2.1 hsz.2.2
    rw [show outF (Rat.divInt (Int.tmod k1 1000) (1 + (j : Int) % 60)) = .tuple #[.agg #[.string s,.string t],.int .i64 0] from by unfold outF;rw [if_pos hsz.1,hs]] at h
    exact h
   have HQ := Lib.hid hq
   have HO := Lib.hid ho
   have HS := Lib.hid hs
   clear hb2 hq ho hs
   go_wp2_with fail
   refine (HQ.out _).mono ?_
   rintro e w3 ⟨v,rfl,hv,hb3⟩
   have HO2 := Lib.hid (HO.out w3 v hv)
   obtain ⟨kA,AA,nA,cA,kB,AB,nB,cB,rfl,_,_⟩ := hv
   have HE := Lib.hid (And.intro (belowt HD.out.1 HD.out.1.size hb3) (HD.out.2.call hb3))
   clear hb3
   go_wp2_with fail
   refine HO2.out.mono ?_
   rintro e w4 ⟨rfl,hb4⟩
   have HF := Lib.hid (belowt HE.out.1 HE.out.1.size hb4)
   obtain ⟨y0,y1,y2,y3⟩ := (HE.out.2.call hb4).cells2a
   clear hb4 HO2
   go_wp2_with fail
   exact bodyPost_ret (v := .agg #[.string s,.string t]) (by simp [results,Tryz.results24,go_sem,y0,y1]) rfl ⟨Int.tmod k1 1000,1 + (j : Int) % 60,by have := tmod_bound k1;omega,by have := tmod_bound k1;omega,by omega,by omega,by rw [HS.out],((HF.out.alloc HF.out.size _).setCell (by simp) _).setCell (by simp) _⟩
end Go.Proofs.YtlfgpmnjnpdkdaaGreatDoor
namespace Go.Proofs.YtlfgpmnjnpdkdaaGreatDoor
open Go.RowKit Vd
attribute [local go_sem ↓] Go.wp_at_zero Go.wp_at_succ
theorem divInt_sizes2 (m d : Int) (hm : -1000000 < m ∧ m < 1000000) (hd0 : 0 < d) (hd : d ≤ 65535) : smallF (Rat.divInt m d) ∧ wlen B4 (Rat.divInt m d).num.natAbs ≤ 1000000 ∧ wlen B4 (Rat.divInt m d).den ≤ 1000000 := by
 obtain ⟨hg,h1,h2⟩ := div_parts m d (by omega) _ rfl
 rw [if_neg (by omega)] at hg h1 h2
 have a1 : (Rat.divInt m d).num.natAbs ≤ 1000000 := by
  rw [h1,Int.natAbs_ediv_of_dvd (Int.ofNat_dvd_left.2 (Nat.gcd_dvd_left _ _))]
  exact Nat.le_trans (Nat.div_le_self _ _) (by omega)
 have a2 : (Rat.divInt m d).den ≤ 1000000 := by
  have : ((Rat.divInt m d).den : Int) ≤ d := by rw [h2];exact Int.ediv_le_self _ (by omega)
  omega
 have hk : ∀ e : Nat,7 ≤ e → ∀ n : Nat,n ≤ 1000000 → n < 10 ^ e := fun e he n h => Nat.lt_of_le_of_lt h (Nat.lt_of_lt_of_le (show 1000000 < 10 ^ 7 by decide) (Nat.pow_le_pow_right (by omega) he))
 have hw : ∀ n : Nat,n ≤ 1000000 → wlen B4 n ≤ 1000000 := fun n h => Nat.le_trans ((wlen_le_iff (b := B4) two_le_B4 n 2).2 (Nat.lt_of_le_of_lt h (by decide))) (by omega)
 refine ⟨⟨?_,?_⟩,hw _ a1,hw _ a2⟩
 · show (Rat.divInt m d).num.natAbs < _
   refine hk _ ?_ _ a1
   rw [maxDigits_eq];omega
 · show (((Rat.divInt m d).den : Int)).natAbs < _
   refine hk _ ?_ _ (by omega)
   rw [maxDigits_eq];omega
abbrev UtS (w : World) (b1 : Bool) (A1 : Option Addr) (n1 c1 z1 : Nat) (b2 : Bool) (A2 : Option Addr) (n2 c2 z2 : Nat) (W : World) : Prop := (Below w.heap.size w W ∧ BoxF W (w.heap.size + 1)) ∧ W.cell? ⟨w.heap.size,0,none⟩ = some (.bool b1) ∧ W.cell? ⟨w.heap.size,1,none⟩ = some (.slice A1 n1 c1) ∧ W.cell? ⟨w.heap.size,2,none⟩ = some (.int .u16 (z1 : Int)) ∧ W.cell? ⟨w.heap.size,3,none⟩ = some (.bool b2) ∧ W.cell? ⟨w.heap.size,4,none⟩ = some (.slice A2 n2 c2) ∧ W.cell? ⟨w.heap.size,5,none⟩ = some (.int .u16 (z2 : Int))
theorem utS_step {w : World} {b1 : Bool} {A1 : Option Addr} {n1 c1 z1 : Nat} {b2 : Bool} {A2 : Option Addr} {n2 c2 z2 : Nat} {W W' : World} (h : UtS w b1 A1 n1 c1 z1 b2 A2 n2 c2 z2 W) (hb : Below W.heap.size W W') : UtS w b1 A1 n1 c1 z1 b2 A2 n2 c2 z2 W' := by
 obtain ⟨⟨hb0,hB⟩,e0,e1,e2,e3,e4,e5⟩ := h
 exact ⟨⟨belowt hb0 hb0.size hb,hB.call hb⟩,keepc hb e0,keepc hb e1,keepc hb e2,keepc hb e3,keepc hb e4,keepc hb e5⟩
theorem utS_drew {w : World} {b1 : Bool} {A1 : Option Addr} {n1 c1 z1 : Nat} {b2 : Bool} {A2 : Option Addr} {n2 c2 z2 : Nat} {W : World} (h : UtS w b1 A1 n1 c1 z1 b2 A2 n2 c2 z2 W) : UtS w b1 A1 n1 c1 z1 b2 A2 n2 c2 z2 W.drew := by
 obtain ⟨⟨hb0,hB⟩,e0,e1,e2,e3,e4,e5⟩ := h
 exact ⟨⟨hb0.drew,hB⟩,e0,e1,e2,e3,e4,e5⟩
set_option maxRecDepth 100000 in
set_option maxHeartbeats 4000000 in
theorem unit_any (b1 : Bool) (A1 : Option Addr) (n1 c1 z1 : Nat) (xs : List Nat) (b2 : Bool) (A2 : Option Addr) (n2 c2 z2 : Nat) (ys : List Nat) (w : World) (hx : Sl w U16 A1 n1 xs) (ox : Ok 65536 xs) (hn1 : n1 ≤ 9223372036854775807) (hy : Sl w U16 A2 n2 ys) (oy : Ok 65536 ys) (hn2 : n2 ≤ 9223372036854775807) :
    Calls Tryz.prog 39 #[.agg #[.bool b1,.slice A1 n1 c1,.int .u16 (z1 : Int),.bool b2,.slice A2 n2 c2,.int .u16 (z2 : Int)]] w fun e w' => ∃ (m d : Int),0 ≤ m ∧ m < 65536 ∧ 0 < d ∧ d ≤ 65535 ∧ e = .returned (frV (Rat.divInt m d)) ∧ Below w.heap.size w w' := by
 have hb0 : Below w.heap.size w ((w.alloc (.cells #[.bool b1,.slice A1 n1 c1,.int .u16 (z1 : Int),.bool b2,.slice A2 n2 c2,.int .u16 (z2 : Int)] 30)).alloc (.cells #[.string ⟨#[]⟩,.string ⟨#[]⟩] 24)) := ((Below.refl _ _).alloc (Nat.le_refl _) _).alloc (by simp) _
 have hF0 : Fr ((w.alloc (.cells #[.bool b1,.slice A1 n1 c1,.int .u16 (z1 : Int),.bool b2,.slice A2 n2 c2,.int .u16 (z2 : Int)] 30)).alloc (.cells #[.string ⟨#[]⟩,.string ⟨#[]⟩] 24)) w.heap.size #[.bool b1,.slice A1 n1 c1,.int .u16 (z1 : Int),.bool b2,.slice A2 n2 c2,.int .u16 (z2 : Int)] 30 := (Fr.new rfl).old
 have hB0 : BoxF ((w.alloc (.cells #[.bool b1,.slice A1 n1 c1,.int .u16 (z1 : Int),.bool b2,.slice A2 n2 c2,.int .u16 (z2 : Int)] 30)).alloc (.cells #[.string ⟨#[]⟩,.string ⟨#[]⟩] 24)) (w.heap.size + 1) := Fr.boxF (Fr.new (by simp))
 have hS0 : UtS w b1 A1 n1 c1 z1 b2 A2 n2 c2 z2 ((w.alloc (.cells #[.bool b1,.slice A1 n1 c1,.int .u16 (z1 : Int),.bool b2,.slice A2 n2 c2,.int .u16 (z2 : Int)] 30)).alloc (.cells #[.string ⟨#[]⟩,.string ⟨#[]⟩] 24)) := ⟨⟨hb0,hB0⟩,hF0.cell 0,hF0.cell 1,hF0.cell 2,hF0.cell 3,hF0.cell 4,hF0.cell 5⟩
 have HS1 : Hid (∀ W,UtS w b1 A1 n1 c1 z1 b2 A2 n2 c2 z2 W → Calls Tryz.prog 72 #[.agg #[.bool b1,.slice A1 n1 c1,.int .u16 (z1 : Int)]] W fun e w' => ∃ k : Int,e = .returned (.int .i64 k) ∧ (-1000000 < k ∧ k < 1000000) ∧ UtS w b1 A1 n1 c1 z1 b2 A2 n2 c2 z2 w') := Lib.hid (fun W hS => by
  refine (dsmall_any b1 A1 n1 c1 z1 xs W (hx.below hS.1.1) ox hn1).mono ?_
  rintro e w' ⟨k,he,g1,g2,hb⟩
  exact ⟨k,he,⟨g1,g2⟩,utS_step hS hb⟩)
 have HS2 : Hid (∀ W,UtS w b1 A1 n1 c1 z1 b2 A2 n2 c2 z2 W → Calls Tryz.prog 72 #[.agg #[.bool b2,.slice A2 n2 c2,.int .u16 (z2 : Int)]] W fun e w' => ∃ k : Int,e = .returned (.int .i64 k) ∧ (-1000000 < k ∧ k < 1000000) ∧ UtS w b1 A1 n1 c1 z1 b2 A2 n2 c2 z2 w') := Lib.hid (fun W hS => by
  refine (dsmall_any b2 A2 n2 c2 z2 ys W (hy.below hS.1.1) oy hn2).mono ?_
  rintro e w' ⟨k,he,g1,g2,hb⟩
  exact ⟨k,he,⟨g1,g2⟩,utS_step hS hb⟩)
 have hS1 := utS_drew hS0
 clear hx ox hn1 hy oy hn2 hb0 hF0 hB0 hS0
 go_enter Tryz.func39,Tryz.ntmps39
 go_wp2_with fail
 go_region_held3 (fun W => (Below w.heap.size w W ∧ BoxF W (w.heap.size + 1)) ∧ W.cell? ⟨w.heap.size,0,none⟩ = some (.bool b1) ∧ W.cell? ⟨w.heap.size,1,none⟩ = some (.slice A1 n1 c1) ∧ W.cell? ⟨w.heap.size,2,none⟩ = some (.int .u16 (z1 : Int)) ∧ W.cell? ⟨w.heap.size,3,none⟩ = some (.bool b2) ∧ W.cell? ⟨w.heap.size,4,none⟩ = some (.slice A2 n2 c2) ∧ W.cell? ⟨w.heap.size,5,none⟩ = some (.int .u16 (z2 : Int))) (first | with_reducible assumption)
  (first
   | (go_at_call 72;with_reducible refine (HS1.out _ ?_).mono ?_;with_reducible assumption;rintro e w5 ⟨k1,rfl,hk1,hS5⟩)
   | (go_at_call 72;with_reducible refine (HS2.out _ ?_).mono ?_;with_reducible assumption;rintro e w6 ⟨k2,rfl,hk2,hS6⟩))
 have HD := Lib.hid hS6
 obtain ⟨hk1a,hk1b⟩ := hk1
 obtain ⟨hk2a,hk2b⟩ := hk2
 clear hS1 hS5 hS6
 rcases (show (∃ i : Nat,k1 = -(i : Int) ∧ 0 < i) ∨ ∃ i : Nat,k1 = (i : Int) from by
  by_cases h : k1 < 0
  · exact .inl ⟨k1.natAbs,by omega,by omega⟩
  · exact .inr ⟨k1.natAbs,by omega⟩) with ⟨i,rfl,hi⟩ | ⟨i,rfl⟩
 · have hneg1 : -(i : Int) < 0 := by omega
   have ew : IntKind.i64.wrap (- -(i : Int)) = (i : Int) := by rw [IntKind.wrap_i64];omega
   rcases (show (∃ j : Nat,k2 = -(j : Int) ∧ 0 < j) ∨ ∃ j : Nat,k2 = (j : Int) from by
    by_cases h : k2 < 0
    · exact .inl ⟨k2.natAbs,by omega,by omega⟩
    · exact .inr ⟨k2.natAbs,by omega⟩) with ⟨j,rfl,hj⟩ | ⟨j,rfl⟩
   · have hneg2 : -(j : Int) < 0 := by omega
     obtain ⟨s,t,hs⟩ : ∃ s t : ByteArray,frV (Rat.divInt ((i : Int) % 65536) 65535) = .agg #[.string s,.string t] := ⟨_,_,rfl⟩
     have hq : ∀ W,Calls Tryz.prog 56 #[.int .i64 ((i : Int) % 65536),.int .i64 65535] W fun e w' => ∃ v,e = .returned v ∧ RtV w' v (Rat.divInt ((i : Int) % 65536) 65535).num ((Rat.divInt ((i : Int) % 65536) 65535).den : Int) ∧ Below W.heap.size W w' := fun W => rquick_pos _ _ W (by have := (show 0 ≤ (i : Int) % 65536 ∧ (i : Int) % 65536 < 65536 from by omega);omega) (by have := (show 0 ≤ (i : Int) % 65536 ∧ (i : Int) % 65536 < 65536 from by omega);omega) (by omega) (by omega)
     have ho : ∀ W v,RtV W v (Rat.divInt ((i : Int) % 65536) 65535).num ((Rat.divInt ((i : Int) % 65536) 65535).den : Int) → Calls Tryz.prog 55 #[v] W fun e w' => e = .returned (.tuple #[.agg #[.string s,.string t],.int .i64 0]) ∧ Below W.heap.size W w' := by
      intro W v hv
      have hsz := divInt_sizes2 ((i : Int) % 65536) 65535 (by have := (show 0 ≤ (i : Int) % 65536 ∧ (i : Int) % 65536 < 65536 from by omega);omega) (by omega) (by omega)
      have h := rout_any v _ W hv hsz.2.1 hsz.2.2
      rw [show outF (Rat.divInt ((i : Int) % 65536) 65535) = .tuple #[.agg #[.string s,.string t],.int .i64 0] from by unfold outF;rw [if_pos hsz.1,hs]] at h
      exact h
     have HQ := Lib.hid hq
     have HO := Lib.hid ho
     have HS := Lib.hid hs
     have HBN := Lib.hid (show 0 ≤ (i : Int) % 65536 ∧ (i : Int) % 65536 < 65536 from by omega)
     clear hq ho hs
     go_wp2_with fail
     refine (HQ.out _).mono ?_
     rintro e w3 ⟨v,rfl,hv,hb3⟩
     have HO2 := Lib.hid (HO.out w3 v hv)
     obtain ⟨kA,AA,nA,cA,kB,AB,nB,cB,rfl,_,_⟩ := hv
     have HE := Lib.hid (And.intro (belowt HD.out.1.1 HD.out.1.1.size hb3) (HD.out.1.2.call hb3))
     clear hb3
     go_wp2_with fail
     refine HO2.out.mono ?_
     rintro e w4 ⟨rfl,hb4⟩
     have HF := Lib.hid (belowt HE.out.1 HE.out.1.size hb4)
     obtain ⟨s0,t0,hBx⟩ := HE.out.2.call hb4
     obtain ⟨y0,y1,y2,y3⟩ := hBx.cells2a
     clear hb4 HO2
     go_wp2_with fail
     exact bodyPost_ret (v := .agg #[.string s,.string t]) (by simp [results,Tryz.results39,go_sem,y0,y1]) rfl ⟨(i : Int) % 65536,65535,by omega,by have := HBN.out;omega,by omega,by omega,by rw [HS.out],((HF.out.alloc HF.out.size _).setCell (by simp) _).setCell (by simp) _⟩
   · have hd2 : decide ((j : Int) < 0) = false := by simp
     have HM : 0 ≤ (i : Int) % (1 + (j : Int) % 60 + 1) ∧ (i : Int) % (1 + (j : Int) % 60 + 1) < 62 := by
      have h0 : 0 < (1 + (j : Int) % 60 + 1) := by omega
      have h1 := Int.emod_nonneg (i : Int) (show (1 + (j : Int) % 60 + 1) ≠ 0 by omega)
      have h2 := Int.emod_lt_of_pos (i : Int) h0
      omega
     have hdz : (1 + (j : Int) % 60 + 1) ≠ 0 := by omega
     obtain ⟨s,t,hs⟩ : ∃ s t : ByteArray,frV (Rat.divInt ((i : Int) % (1 + (j : Int) % 60 + 1)) (1 + (j : Int) % 60)) = .agg #[.string s,.string t] := ⟨_,_,rfl⟩
     have hq : ∀ W,Calls Tryz.prog 56 #[.int .i64 ((i : Int) % (1 + (j : Int) % 60 + 1)),.int .i64 (1 + (j : Int) % 60)] W fun e w' => ∃ v,e = .returned v ∧ RtV w' v (Rat.divInt ((i : Int) % (1 + (j : Int) % 60 + 1)) (1 + (j : Int) % 60)).num ((Rat.divInt ((i : Int) % (1 + (j : Int) % 60 + 1)) (1 + (j : Int) % 60)).den : Int) ∧ Below W.heap.size W w' := fun W => rquick_pos _ _ W (by have := HM;omega) (by have := HM;omega) (by omega) (by omega)
     have ho : ∀ W v,RtV W v (Rat.divInt ((i : Int) % (1 + (j : Int) % 60 + 1)) (1 + (j : Int) % 60)).num ((Rat.divInt ((i : Int) % (1 + (j : Int) % 60 + 1)) (1 + (j : Int) % 60)).den : Int) → Calls Tryz.prog 55 #[v] W fun e w' => e = .returned (.tuple #[.agg #[.string s,.string t],.int .i64 0]) ∧ Below W.heap.size W w' := by
      intro W v hv
      have hsz := divInt_sizes2 ((i : Int) % (1 + (j : Int) % 60 + 1)) (1 + (j : Int) % 60) (by have := HM;omega) (by omega) (by omega)
      have h := rout_any v _ W hv hsz.2.1 hsz.2.2
      rw [show outF (Rat.divInt ((i : Int) % (1 + (j : Int) % 60 + 1)) (1 + (j : Int) % 60)) = .tuple #[.agg #[.string s,.string t],.int .i64 0] from by unfold outF;rw [if_pos hsz.1,hs]] at h
      exact h
     have HQ := Lib.hid hq
     have HO := Lib.hid ho
     have HS := Lib.hid hs
     have HBN := Lib.hid HM
     clear hq ho hs
     go_wp2_with fail
     refine (HQ.out _).mono ?_
     rintro e w3 ⟨v,rfl,hv,hb3⟩
     have HO2 := Lib.hid (HO.out w3 v hv)
     obtain ⟨kA,AA,nA,cA,kB,AB,nB,cB,rfl,_,_⟩ := hv
     have HE := Lib.hid (And.intro (belowt HD.out.1.1 HD.out.1.1.size hb3) (HD.out.1.2.call hb3))
     clear hb3
     go_wp2_with fail
     refine HO2.out.mono ?_
     rintro e w4 ⟨rfl,hb4⟩
     have HF := Lib.hid (belowt HE.out.1 HE.out.1.size hb4)
     obtain ⟨s0,t0,hBx⟩ := HE.out.2.call hb4
     obtain ⟨y0,y1,y2,y3⟩ := hBx.cells2a
     clear hb4 HO2
     go_wp2_with fail
     exact bodyPost_ret (v := .agg #[.string s,.string t]) (by simp [results,Tryz.results39,go_sem,y0,y1]) rfl ⟨((i : Int) % (1 + (j : Int) % 60 + 1)),(1 + (j : Int) % 60),by omega,by have := HBN.out;omega,by omega,by omega,by rw [HS.out],((HF.out.alloc HF.out.size _).setCell (by simp) _).setCell (by simp) _⟩
 · have hd1 : decide ((i : Int) < 0) = false := by simp
   rcases (show (∃ j : Nat,k2 = -(j : Int) ∧ 0 < j) ∨ ∃ j : Nat,k2 = (j : Int) from by
    by_cases h : k2 < 0
    · exact .inl ⟨k2.natAbs,by omega,by omega⟩
    · exact .inr ⟨k2.natAbs,by omega⟩) with ⟨j,rfl,hj⟩ | ⟨j,rfl⟩
   · have hneg2 : -(j : Int) < 0 := by omega
     obtain ⟨s,t,hs⟩ : ∃ s t : ByteArray,frV (Rat.divInt ((i : Int) % 65536) 65535) = .agg #[.string s,.string t] := ⟨_,_,rfl⟩
     have hq : ∀ W,Calls Tryz.prog 56 #[.int .i64 ((i : Int) % 65536),.int .i64 65535] W fun e w' => ∃ v,e = .returned v ∧ RtV w' v (Rat.divInt ((i : Int) % 65536) 65535).num ((Rat.divInt ((i : Int) % 65536) 65535).den : Int) ∧ Below W.heap.size W w' := fun W => rquick_pos _ _ W (by have := (show 0 ≤ (i : Int) % 65536 ∧ (i : Int) % 65536 < 65536 from by omega);omega) (by have := (show 0 ≤ (i : Int) % 65536 ∧ (i : Int) % 65536 < 65536 from by omega);omega) (by omega) (by omega)
     have ho : ∀ W v,RtV W v (Rat.divInt ((i : Int) % 65536) 65535).num ((Rat.divInt ((i : Int) % 65536) 65535).den : Int) → Calls Tryz.prog 55 #[v] W fun e w' => e = .returned (.tuple #[.agg #[.string s,.string t],.int .i64 0]) ∧ Below W.heap.size W w' := by
      intro W v hv
      have hsz := divInt_sizes2 ((i : Int) % 65536) 65535 (by have := (show 0 ≤ (i : Int) % 65536 ∧ (i : Int) % 65536 < 65536 from by omega);omega) (by omega) (by omega)
      have h := rout_any v _ W hv hsz.2.1 hsz.2.2
      rw [show outF (Rat.divInt ((i : Int) % 65536) 65535) = .tuple #[.agg #[.string s,.string t],.int .i64 0] from by unfold outF;rw [if_pos hsz.1,hs]] at h
      exact h
     have HQ := Lib.hid hq
     have HO := Lib.hid ho
     have HS := Lib.hid hs
     have HBN := Lib.hid (show 0 ≤ (i : Int) % 65536 ∧ (i : Int) % 65536 < 65536 from by omega)
     clear hq ho hs
     go_wp2_with fail
     refine (HQ.out _).mono ?_
     rintro e w3 ⟨v,rfl,hv,hb3⟩
     have HO2 := Lib.hid (HO.out w3 v hv)
     obtain ⟨kA,AA,nA,cA,kB,AB,nB,cB,rfl,_,_⟩ := hv
     have HE := Lib.hid (And.intro (belowt HD.out.1.1 HD.out.1.1.size hb3) (HD.out.1.2.call hb3))
     clear hb3
     go_wp2_with fail
     refine HO2.out.mono ?_
     rintro e w4 ⟨rfl,hb4⟩
     have HF := Lib.hid (belowt HE.out.1 HE.out.1.size hb4)
     obtain ⟨s0,t0,hBx⟩ := HE.out.2.call hb4
     obtain ⟨y0,y1,y2,y3⟩ := hBx.cells2a
     clear hb4 HO2
     go_wp2_with fail
     exact bodyPost_ret (v := .agg #[.string s,.string t]) (by simp [results,Tryz.results39,go_sem,y0,y1]) rfl ⟨(i : Int) % 65536,65535,by omega,by have := HBN.out;omega,by omega,by omega,by rw [HS.out],((HF.out.alloc HF.out.size _).setCell (by simp) _).setCell (by simp) _⟩
   · have hd2 : decide ((j : Int) < 0) = false := by simp
     have HM : 0 ≤ (i : Int) % (1 + (j : Int) % 60 + 1) ∧ (i : Int) % (1 + (j : Int) % 60 + 1) < 62 := by
      have h0 : 0 < (1 + (j : Int) % 60 + 1) := by omega
      have h1 := Int.emod_nonneg (i : Int) (show (1 + (j : Int) % 60 + 1) ≠ 0 by omega)
      have h2 := Int.emod_lt_of_pos (i : Int) h0
      omega
     have hdz : (1 + (j : Int) % 60 + 1) ≠ 0 := by omega
     obtain ⟨s,t,hs⟩ : ∃ s t : ByteArray,frV (Rat.divInt ((i : Int) % (1 + (j : Int) % 60 + 1)) (1 + (j : Int) % 60)) = .agg #[.string s,.string t] := ⟨_,_,rfl⟩
     have hq : ∀ W,Calls Tryz.prog 56 #[.int .i64 ((i : Int) % (1 + (j : Int) % 60 + 1)),.int .i64 (1 + (j : Int) % 60)] W fun e w' => ∃ v,e = .returned v ∧ RtV w' v (Rat.divInt ((i : Int) % (1 + (j : Int) % 60 + 1)) (1 + (j : Int) % 60)).num ((Rat.divInt ((i : Int) % (1 + (j : Int) % 60 + 1)) (1 + (j : Int) % 60)).den : Int) ∧ Below W.heap.size W w' := fun W => rquick_pos _ _ W (by have := HM;omega) (by have := HM;omega) (by omega) (by omega)
     have ho : ∀ W v,RtV W v (Rat.divInt ((i : Int) % (1 + (j : Int) % 60 + 1)) (1 + (j : Int) % 60)).num ((Rat.divInt ((i : Int) % (1 + (j : Int) % 60 + 1)) (1 + (j : Int) % 60)).den : Int) → Calls Tryz.prog 55 #[v] W fun e w' => e = .returned (.tuple #[.agg #[.string s,.string t],.int .i64 0]) ∧ Below W.heap.size W w' := by
      intro W v hv
      have hsz := divInt_sizes2 ((i : Int) % (1 + (j : Int) % 60 + 1)) (1 + (j : Int) % 60) (by have := HM;omega) (by omega) (by omega)
      have h := rout_any v _ W hv hsz.2.1 hsz.2.2
      rw [show outF (Rat.divInt ((i : Int) % (1 + (j : Int) % 60 + 1)) (1 + (j : Int) % 60)) = .tuple #[.agg #[.string s,.string t],.int .i64 0] from by unfold outF;rw [if_pos hsz.1,hs]] at h
      exact h
     have HQ := Lib.hid hq
     have HO := Lib.hid ho
     have HS := Lib.hid hs
     have HBN := Lib.hid HM
     clear hq ho hs
     go_wp2_with fail
     refine (HQ.out _).mono ?_
     rintro e w3 ⟨v,rfl,hv,hb3⟩
     have HO2 := Lib.hid (HO.out w3 v hv)
     obtain ⟨kA,AA,nA,cA,kB,AB,nB,cB,rfl,_,_⟩ := hv
     have HE := Lib.hid (And.intro (belowt HD.out.1.1 HD.out.1.1.size hb3) (HD.out.1.2.call hb3))
     clear hb3
     go_wp2_with fail
     refine HO2.out.mono ?_
     rintro e w4 ⟨rfl,hb4⟩
     have HF := Lib.hid (belowt HE.out.1 HE.out.1.size hb4)
     obtain ⟨s0,t0,hBx⟩ := HE.out.2.call hb4
     obtain ⟨y0,y1,y2,y3⟩ := hBx.cells2a
     clear hb4 HO2
     go_wp2_with fail
     exact bodyPost_ret (v := .agg #[.string s,.string t]) (by simp [results,Tryz.results39,go_sem,y0,y1]) rfl ⟨((i : Int) % (1 + (j : Int) % 60 + 1)),(1 + (j : Int) % 60),by omega,by have := HBN.out;omega,by omega,by omega,by rw [HS.out],((HF.out.alloc HF.out.size _).setCell (by simp) _).setCell (by simp) _⟩
end Go.Proofs.YtlfgpmnjnpdkdaaGreatDoor
namespace Go.Proofs.YtlfgpmnjnpdkdaaGreatDoor
open Go.RowKit Vd
attribute [local go_sem ↓] Go.wp_at_zero Go.wp_at_succ
set_option maxHeartbeats 400000 in
theorem says2_any (w : World) (n : Int) (W : World) (hS : Wk w W) :
    Calls Tryz.prog 43 #[.int .i64 n] W fun e w' => ∃ p : Addr,e = .returned (.func (.func 91) #[] #[.pointer (some p)]) ∧ w'.cell? p = some (.int .i64 n) ∧ Wk w w' := by
 have hmf := mkf
 have hS2 := hS.step ((Below.refl W.heap.size W).alloc (Nat.le_refl _) (.cells #[.int .i64 n] 3))
 go_enter Tryz.func43,Tryz.ntmps43
 go_wp2_with fail
 go_ret
 exact ⟨⟨W.heap.size,0,none⟩,rfl,by simp [go_sem],hS2⟩
set_option maxHeartbeats 400000 in
theorem says2_fn (n : Int) (p : Addr) (W : World) (hc : W.cell? p = some (.int .i64 n)) :
    Calls Tryz.prog 91 #[.int .i64 n,.int .i64 0,.pointer (some p)] W fun e w' => e = .returned (.bool true) ∧ W = w' := by
 go_enter Tryz.func91,Tryz.ntmps91
 go_wp2_with fail
 go_ret
 exact ⟨rfl,rfl⟩
set_option maxHeartbeats 400000 in
theorem stops2_any (w : World) (n : Int) (W : World) (hS : Wk w W) :
    Calls Tryz.prog 46 #[.int .i64 n] W fun e w' => ∃ p : Addr,e = .returned (.func (.func 97) #[] #[.pointer (some p)]) ∧ w'.cell? p = some (.int .i64 n) ∧ Wk w w' := by
 have hmf := mkf
 have hS2 := hS.step ((Below.refl W.heap.size W).alloc (Nat.le_refl _) (.cells #[.int .i64 n] 37))
 go_enter Tryz.func46,Tryz.ntmps46
 go_wp2_with fail
 go_ret
 exact ⟨⟨W.heap.size,0,none⟩,rfl,by simp [go_sem],hS2⟩
set_option maxHeartbeats 400000 in
theorem stops2_fn (n : Int) (p : Addr) (W : World) (hc : W.cell? p = some (.int .i64 n)) :
    Calls Tryz.prog 97 #[.int .i64 0,.int .i64 n,.pointer (some p)] W fun e w' => e = .returned (.bool true) ∧ W = w' := by
 go_enter Tryz.func97,Tryz.ntmps97
 go_wp2_with fail
 go_ret
 exact ⟨rfl,rfl⟩
set_option maxHeartbeats 400000 in
theorem tells2_any (w : World) (s : ByteArray) (W : World) (hS : Wk w W) :
    Calls Tryz.prog 47 #[.string s] W fun e w' => ∃ p : Addr,e = .returned (.func (.func 98) #[] #[.pointer (some p)]) ∧ w'.cell? p = some (.string s) ∧ Wk w w' := by
 have hmf := mkf
 have hS2 := hS.step ((Below.refl W.heap.size W).alloc (Nat.le_refl _) (.cells #[.string s] 9))
 go_enter Tryz.func47,Tryz.ntmps47
 go_wp2_with fail
 go_ret
 exact ⟨⟨W.heap.size,0,none⟩,rfl,by simp [go_sem],hS2⟩
set_option maxHeartbeats 400000 in
theorem tells2_fn (s : ByteArray) (p : Addr) (W : World) (hc : W.cell? p = some (.string s)) :
    Calls Tryz.prog 98 #[.string s,.int .i64 0,.pointer (some p)] W fun e w' => e = .returned (.bool true) ∧ W = w' := by
 go_enter Tryz.func98,Tryz.ntmps98
 go_wp2_with fail
 go_ret
 exact ⟨rfl,rfl⟩
set_option maxHeartbeats 400000 in
theorem fails2_any (w : World) (n : Int) (W : World) (hS : Wk w W) :
    Calls Tryz.prog 40 #[.int .i64 n] W fun e w' => ∃ p : Addr,e = .returned (.func (.func 89) #[] #[.pointer (some p)]) ∧ w'.cell? p = some (.int .i64 n) ∧ Wk w w' := by
 have hmf := mkf
 have hS2 := hS.step ((Below.refl W.heap.size W).alloc (Nat.le_refl _) (.cells #[.int .i64 n] 37))
 go_enter Tryz.func40,Tryz.ntmps40
 go_wp2_with fail
 go_ret
 exact ⟨⟨W.heap.size,0,none⟩,rfl,by simp [go_sem],hS2⟩
theorem fr_built2 (s t : ByteArray) (W : World) : (Instr.build 24 #[(0,.string s),(1,.string t)]).run Tryz.prog W = .ok (.agg #[.string s,.string t]) W :=
 run_build W _ _ _ (by kernel_rfl)
set_option maxHeartbeats 400000 in
theorem fails2_fn (w : World) (n : Int) (p : Addr) (W : World) (hc : W.cell? p = some (.int .i64 n)) (hS : Wk w W) :
    Calls Tryz.prog 89 #[.agg #[.string ⟨#[]⟩,.string ⟨#[]⟩],.int .i64 n,.pointer (some p)] W fun e w' => e = .returned (.bool true) ∧ Wk w w' := by
 have hb : Below W.heap.size W (W.alloc (.cells #[.string ⟨#[]⟩,.string ⟨#[]⟩] 24)) := (Below.refl W.heap.size W).alloc (Nat.le_refl _) _
 have hS2 := hS.step hb
 have hc2 := (hb.cell (World.block_lt_of_cell? W _ hc)).trans hc
 have hf0 := fr_built0
 go_enter Tryz.func89,Tryz.ntmps89
 go_wp2_with fail
 go_ret
 exact ⟨rfl,hS2⟩
set_option maxHeartbeats 400000 in
theorem is2_any (w : World) (s t : ByteArray) (W : World) (hS : Wk w W) :
    Calls Tryz.prog 41 #[.string s,.string t] W fun e w' => ∃ p q : Addr,e = .returned (.func (.func 90) #[] #[.pointer (some p),.pointer (some q)]) ∧ w'.cell? p = some (.string s) ∧ w'.cell? q = some (.string t) ∧ Wk w w' := by
 have hmf := mkf
 have hS2 := hS.step (((Below.refl W.heap.size W).alloc (Nat.le_refl _) (.cells #[.string s] 22)).alloc (by simp) (.cells #[.string t] 22))
 go_enter Tryz.func41,Tryz.ntmps41
 go_wp2_with fail
 go_ret
 exact ⟨⟨W.heap.size,0,none⟩,⟨W.heap.size + 1,0,none⟩,rfl,by simp [go_sem],by simp [go_sem],hS2⟩
set_option maxHeartbeats 400000 in
theorem is2_fn (w : World) (s t : ByteArray) (p q : Addr) (W : World) (hc : W.cell? p = some (.string s)) (hd : W.cell? q = some (.string t)) (hS : Wk w W) :
    Calls Tryz.prog 90 #[.agg #[.string s,.string t],.int .i64 0,.pointer (some p),.pointer (some q)] W fun e w' => e = .returned (.bool true) ∧ Wk w w' := by
 have hb : Below W.heap.size W (W.alloc (.cells #[.string s,.string t] 24)) := (Below.refl W.heap.size W).alloc (Nat.le_refl _) _
 have hS2 := hS.step hb
 have hc2 := (hb.cell (World.block_lt_of_cell? W _ hc)).trans hc
 have hd2 := (hb.cell (World.block_lt_of_cell? W _ hd)).trans hd
 have hf0 := fr_built2
 go_enter Tryz.func90,Tryz.ntmps90
 go_wp2_with fail
 go_ret
 exact ⟨rfl,hS2⟩
end Go.Proofs.YtlfgpmnjnpdkdaaGreatDoor
