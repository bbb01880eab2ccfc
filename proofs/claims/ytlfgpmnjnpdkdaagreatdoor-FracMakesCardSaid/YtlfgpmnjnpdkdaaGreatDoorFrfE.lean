/- Contracts: the reference's fractions: Div, Neg, Cmp, Min, Max, Check, Of, Make. -/
import Derived.Test.YtlfgpmnjnpdkdaaGreatDoorFrfD
import Derived.Test.YtlfgpmnjnpdkdaaGreatDoorFraK
import Derived.Test.YtlfgpmnjnpdkdaaGreatDoorFrcA
import Derived.Test.YtlfgpmnjnpdkdaaGreatDoorFrcG
namespace Go.Proofs.YtlfgpmnjnpdkdaaGreatDoor
open Go.RowKit Vd
attribute [local go_sem ↓] Go.wp_at_zero Go.wp_at_succ
set_option maxRecDepth 100000 in
set_option maxHeartbeats 4000000 in
theorem rcheck_none0 (a1 a2 : List UInt8) (w : World)  (la : a1.length ≤ 1000000 ∧ a2.length ≤ 1000000) (hn : rdF a1 a2 = none) :
 Calls Tryz.prog 16 #[.agg #[.string ⟨a1.toArray⟩,.string ⟨a2.toArray⟩]] w fun e w' => e = .returned (.int .i64 20) ∧ Below w.heap.size w w' := by
 obtain ⟨V,hV⟩ : ∃ V,V = (w.alloc (.cells #[.string ⟨a1.toArray⟩,.string ⟨a2.toArray⟩] 24)) := ⟨_,rfl⟩
 have hb0 : Below w.heap.size w V := by rw [hV];exact (Below.refl _ _).alloc (Nat.le_refl _) _
 have r0 : Fr V (w.heap.size) #[.string ⟨a1.toArray⟩,.string ⟨a2.toArray⟩] 24 := by rw [hV];exact (Fr.new rfl)
 have Ra := fun W => rright_not la hn W
 have H := Lib.hid (And.intro hb0 r0)
 obtain ⟨ea0,ea1,-,-⟩ := r0.cells2
 clear hb0 hn r0  la
 go_enter Tryz.func16,Tryz.ntmps16
 go_wp2_with fail
 rw [← hV]
 clear hV
 refine (Ra _).mono ?_
 rintro e w1 ⟨rfl,hb⟩
 obtain ⟨hb0,r0⟩ := H.out
 have hbn := belowt hb0 hb0.size hb
 have s0 := r0.call hb
 have H1 := Lib.hid (And.intro hbn s0)
 clear hb0 hb hbn r0 ea0 ea1 Ra
 obtain ⟨ea0,ea1,-,-⟩ := s0.cells2
 clear s0
 go_wp2_with fail
 go_ret
 exact ⟨rfl,H1.out.1⟩
set_option maxRecDepth 100000 in
set_option maxHeartbeats 4000000 in
theorem rcheckF_some (a1 a2 : List UInt8) (x : Rat) (w : World) (ha : rdF a1 a2 = some x) :
 Calls Tryz.prog 16 #[.agg #[.string ⟨a1.toArray⟩,.string ⟨a2.toArray⟩]] w fun e w' => e = .returned (.int .i64 0) ∧ Below w.heap.size w w' := by
 have Ra := fun W => rright_yes ha W
 have hb0 : Below w.heap.size w ((w.alloc (.cells #[.string ⟨a1.toArray⟩,.string ⟨a2.toArray⟩] 24))) := (Below.refl _ _).alloc (Nat.le_refl _) _
 have H := Lib.hid hb0
 clear hb0 ha
 go_enter Tryz.func16,Tryz.ntmps16
 go_wp2_with fail
 refine (Ra _).mono ?_
 rintro e w1 ⟨rfl,hb⟩
 have hbn := Lib.hid (belowt H.out H.out.size hb)
 clear hb Ra
 go_wp2_with fail
 go_ret
 exact ⟨rfl,hbn.out⟩
end Go.Proofs.YtlfgpmnjnpdkdaaGreatDoor
namespace Go.Proofs.YtlfgpmnjnpdkdaaGreatDoor
open Go.RowKit Vd
attribute [local go_sem ↓] Go.wp_at_zero Go.wp_at_succ
set_option maxRecDepth 100000 in
set_option maxHeartbeats 4000000 in
theorem rquick_any (n d : Int) (w : World) (hn0 : -9223372036854775808 ≤ n) (hn1 : n ≤ 9223372036854775807) (hd0 : -9223372036854775808 ≤ d) (hd1 : d ≤ 9223372036854775807) (hd : d ≠ 0) :
 Calls Tryz.prog 56 #[.int .i64 n,.int .i64 d] w fun e w' => ∃ v,e = .returned v ∧ RqV w' v (Rat.divInt n d) ∧ Below w.heap.size w w' := by
 have I1 := fun W => integerZ_any n W hn0 hn1
 have I2 := fun W => integerZ_any d W hd0 hd1
 have L := fun W u v (hu : PlV W u n) (hv : PlV W v d) => rlow_any u v n d W hu hv (wlen_i64 hn0 hn1) (wlen_i64 hd0 hd1) hd
 have HL := Lib.hid L
 have hb0 : Below w.heap.size w (w.alloc (.cells #[.bool false,.slice none 0 0,.bool false,.slice none 0 0] 90)) := (Below.refl _ _).alloc (Nat.le_refl _) _
 have hF0 : Fr (w.alloc (.cells #[.bool false,.slice none 0 0,.bool false,.slice none 0 0] 90)) w.heap.size #[.bool false,.slice none 0 0,.bool false,.slice none 0 0] 90 := Fr.new rfl
 have H := Lib.hid (And.intro hb0 hF0)
 clear L hb0 hF0 hn0 hn1 hd0 hd1 hd
 go_enter Tryz.func56,Tryz.ntmps56
 go_wp2_with fail
 refine (I1 _).mono ?_
 rintro e w1 ⟨va,rfl,ha,hb1⟩
 obtain ⟨A1,n1,c1,k1,rfl⟩ := ha.open
 have HA := Lib.hid (And.intro (belowt H.out.1 H.out.1.size hb1) (And.intro (H.out.2.call hb1) ha))
 clear ha hb1
 go_wp2_with fail
 refine (I2 _).mono ?_
 rintro e w2 ⟨vb,rfl,hb,hb2⟩
 obtain ⟨A2,n2,c2,k2,rfl⟩ := hb.open
 have HB := Lib.hid (And.intro (belowt HA.out.1 HA.out.1.size hb2) (And.intro (HA.out.2.1.call hb2) (And.intro (HA.out.2.2.below hb2) hb)))
 clear hb hb2 I1 I2
 go_wp2_with fail
 refine (HL.out _ _ _ HB.out.2.2.1 HB.out.2.2.2).mono ?_
 rintro e w3 ⟨v,rfl,⟨ka,Aa,na,ca,kx,Ax,nx,cx,rfl,ga,gx⟩,hb3⟩
 have hR := HB.out.2.1.call hb3
 obtain ⟨y0,y1,y2,y3,z0,z1,z2,z3⟩ := hR.cells4
 have HZ := Lib.hid (And.intro (belowt HB.out.1 HB.out.1.size hb3) (And.intro hR (And.intro ga gx)))
 clear hb3 hR ga gx
 go_wp2_with fail
 exact bodyPost_ret (v := .agg #[.bool ka,.slice Aa na ca,.bool kx,.slice Ax nx cx]) (by simp [results,Tryz.results56,go_sem,y0,y1,y2,y3]) rfl ⟨_,rfl,RqV.fin HZ.out.2.1.boxQ HZ.out.2.2.1 HZ.out.2.2.2,below_set4 HZ.out.1 (by omega)⟩
theorem gz_i64 {n d : Int} (h0 : -9223372036854775808 ≤ n) (h1 : n ≤ 9223372036854775807) (h2 : -9223372036854775808 ≤ d) (h3 : d ≤ 9223372036854775807) (hd : d ≠ 0) : Gz (Rat.divInt n d) 1000000 := Gz.divInt hd (wlen_i64 h0 h1) (wlen_i64 h2 h3)
set_option maxRecDepth 100000 in
set_option maxHeartbeats 4000000 in
theorem rofF_zero (n : Int) (w : World) :
 Calls Tryz.prog 9 #[.int .i64 n,.int .i64 0] w fun e w' => e = .returned (noF 7) ∧ Below w.heap.size w w' := by
 have hf0 := fr_built0
 go_enter Tryz.func9,Tryz.ntmps9
 go_wp2_with fail
 exact bodyPost_ret (v := noF 7) (by simp [results,Tryz.results9,go_sem]) rfl ⟨rfl,by first | exact (Below.refl _ _).alloc (Nat.le_refl _) _ | exact (((Below.refl _ _).alloc (Nat.le_refl _) _).setCell (by simp) _).setCell (by simp) _⟩
set_option maxRecDepth 100000 in
set_option maxHeartbeats 4000000 in
theorem rofF_some (n d : Int) (w : World) (hn0 : -9223372036854775808 ≤ n) (hn1 : n ≤ 9223372036854775807) (hd0 : -9223372036854775808 ≤ d) (hd1 : d ≤ 9223372036854775807) (hd : d ≠ 0) :
 Calls Tryz.prog 9 #[.int .i64 n,.int .i64 d] w fun e w' => e = .returned (outF (Rat.divInt n d)) ∧ Below w.heap.size w w' := by
 obtain ⟨s,t,k,hsk⟩ := outF_open (Rat.divInt n d)
 have hg := gz_i64 hn0 hn1 hd0 hd1 hd
 have O := fun W v (hv : RqV W v (Rat.divInt n d)) => rout_any v (Rat.divInt n d) W hv hg.1 hg.2
 rw [hsk] at O ⊢
 have Q := fun W => rquick_any n d W hn0 hn1 hd0 hd1 hd
 have HO := Lib.hid O
 have hb0 : Below w.heap.size w (w.alloc (.cells #[.string ⟨#[]⟩,.string ⟨#[]⟩] 24)) := (Below.refl _ _).alloc (Nat.le_refl _) _
 have hF0 : Fr (w.alloc (.cells #[.string ⟨#[]⟩,.string ⟨#[]⟩] 24)) w.heap.size #[.string ⟨#[]⟩,.string ⟨#[]⟩] 24 := Fr.new rfl
 have H := Lib.hid (And.intro hb0 hF0)
 clear O hg hb0 hF0 hn0 hn1 hd0 hd1 hsk
 go_enter Tryz.func9,Tryz.ntmps9
 go_wp2_with fail
 refine (Q _).mono ?_
 rintro e w1 ⟨v1,rfl,q1,hb⟩
 have hO := HO.out w1 v1 q1
 obtain ⟨A4,n4,c4,k4,A5,n5,c5,k5,rfl,-,-⟩ := RqV.open q1
 have HC := Lib.hid (And.intro (belowt H.out.1 H.out.1.size hb) (H.out.2.call hb))
 clear hb q1 Q hd
 go_wp2_with fail
 refine hO.mono ?_
 rintro e w4 ⟨rfl,hb⟩
 have hbn := Lib.hid (belowt HC.out.1 HC.out.1.size hb)
 obtain ⟨y0,y1,z0,z1⟩ := (HC.out.2.call hb).cells2
 clear hb hO
 go_wp2_with fail
 exact bodyPost_ret (v := .tuple #[.agg #[.string s,.string t],.int .i64 k]) (by simp [results,Tryz.results9,go_sem,y0,y1]) rfl ⟨rfl,below_set2 hbn.out (by omega)⟩
set_option maxRecDepth 100000 in
set_option maxHeartbeats 4000000 in
theorem rmakeF_none1 (l1 l2 : List UInt8) (h1 : l1.length ≤ 1000000) (hn : rd l1 = none) (w : World) :
 Calls Tryz.prog 12 #[.string ⟨l1.toArray⟩,.string ⟨l2.toArray⟩] w fun e w' => e = .returned (noF 10) ∧ Below w.heap.size w w' := by
 have R1 := fun W => right_any l1 h1 W
 rw [rd_noB hn] at R1
 clear h1 hn
 have hb0 : Below w.heap.size w (w.alloc (.cells #[.string ⟨#[]⟩,.string ⟨#[]⟩] 24)) := (Below.refl _ _).alloc (Nat.le_refl _) _
 have hF0 : Fr (w.alloc (.cells #[.string ⟨#[]⟩,.string ⟨#[]⟩] 24)) w.heap.size #[.string ⟨#[]⟩,.string ⟨#[]⟩] 24 := Fr.new rfl
 have H := Lib.hid (And.intro hb0 hF0)
 obtain ⟨y0,y1,z0,z1⟩ := hF0.cells2
 have hf0 := fr_built0
 clear hb0 hF0
 go_enter Tryz.func12,Tryz.ntmps12
 go_wp2_with fail
 refine (R1 _).mono ?_
 rintro e w1 ⟨rfl,hw⟩
 subst hw
 clear R1
 go_wp2_with fail
 exact bodyPost_ret (v := noF 10) (by simp [results,Tryz.results12,go_sem,y0,y1]) rfl ⟨rfl,by first | exact H.out.1 | exact below_set2 H.out.1 (by omega)⟩
set_option maxRecDepth 100000 in
set_option maxHeartbeats 4000000 in
theorem rmakeF_none2 (l1 l2 : List UInt8) (x : Int) (hx : rd l1 = some x) (h2 : l2.length ≤ 1000000) (hn : rd l2 = none) (w : World) :
 Calls Tryz.prog 12 #[.string ⟨l1.toArray⟩,.string ⟨l2.toArray⟩] w fun e w' => e = .returned (noF 10) ∧ Below w.heap.size w w' := by
 have R1 := fun W => right_any l1 (rd_len hx) W
 have R2 := fun W => right_any l2 h2 W
 rw [rd_okB hx] at R1
 rw [rd_noB hn] at R2
 clear h2 hn hx
 have hb0 : Below w.heap.size w (w.alloc (.cells #[.string ⟨#[]⟩,.string ⟨#[]⟩] 24)) := (Below.refl _ _).alloc (Nat.le_refl _) _
 have hF0 : Fr (w.alloc (.cells #[.string ⟨#[]⟩,.string ⟨#[]⟩] 24)) w.heap.size #[.string ⟨#[]⟩,.string ⟨#[]⟩] 24 := Fr.new rfl
 have H := Lib.hid (And.intro hb0 hF0)
 obtain ⟨y0,y1,z0,z1⟩ := hF0.cells2
 have hf0 := fr_built0
 clear hb0 hF0
 go_enter Tryz.func12,Tryz.ntmps12
 go_wp2_with fail
 refine (R1 _).mono ?_
 rintro e w1 ⟨rfl,hw⟩
 subst hw
 clear R1
 go_wp2_with fail
 refine (R2 _).mono ?_
 rintro e w2 ⟨rfl,hw⟩
 subst hw
 clear R2
 go_wp2_with fail
 exact bodyPost_ret (v := noF 10) (by simp [results,Tryz.results12,go_sem,y0,y1]) rfl ⟨rfl,by first | exact H.out.1 | exact below_set2 H.out.1 (by omega)⟩
set_option maxRecDepth 100000 in
set_option maxHeartbeats 4000000 in
theorem rmakeF_zero (l1 l2 : List UInt8) (x : Int) (hx : rd l1 = some x) (hy : rd l2 = some 0) (w : World) :
 Calls Tryz.prog 12 #[.string ⟨l1.toArray⟩,.string ⟨l2.toArray⟩] w fun e w' => e = .returned (noF 7) ∧ Below w.heap.size w w' := by
 have R1 := fun W => right_any l1 (rd_len hx) W
 have R2 := fun W => right_any l2 (rd_len hy) W
 rw [rd_okB hx] at R1
 rw [rd_okB hy] at R2
 have HZ := Lib.hid ((rd_some hy).1.symm.trans (rd_some (s := [48]) (z := 0) (by decide)).1)
 clear hx hy
 have hb0 : Below w.heap.size w (w.alloc (.cells #[.string ⟨#[]⟩,.string ⟨#[]⟩] 24)) := (Below.refl _ _).alloc (Nat.le_refl _) _
 have hF0 : Fr (w.alloc (.cells #[.string ⟨#[]⟩,.string ⟨#[]⟩] 24)) w.heap.size #[.string ⟨#[]⟩,.string ⟨#[]⟩] 24 := Fr.new rfl
 have H := Lib.hid (And.intro hb0 hF0)
 obtain ⟨y0,y1,z0,z1⟩ := hF0.cells2
 have hf0 := fr_built0
 clear hb0 hF0
 go_enter Tryz.func12,Tryz.ntmps12
 go_wp2_with fail
 refine (R1 _).mono ?_
 rintro e w1 ⟨rfl,hw⟩
 subst hw
 clear R1
 go_wp2_with fail
 refine (R2 _).mono ?_
 rintro e w2 ⟨rfl,hw⟩
 subst hw
 clear R2
 have hz : (l2 == [48]) = true := by rw [HZ.out];rfl
 go_wp2_with fail
 exact bodyPost_ret (v := noF 7) (by simp [results,Tryz.results12,go_sem,y0,y1]) rfl ⟨rfl,by first | exact H.out.1 | exact below_set2 H.out.1 (by omega)⟩
set_option maxRecDepth 100000 in
set_option maxHeartbeats 4000000 in
theorem rmakeF_some (l1 l2 : List UInt8) (x y : Int) (hx : rd l1 = some x) (hy : rd l2 = some y) (hy0 : y ≠ 0) (w : World) :
 Calls Tryz.prog 12 #[.string ⟨l1.toArray⟩,.string ⟨l2.toArray⟩] w fun e w' => e = .returned (outF (Rat.divInt x y)) ∧ Below w.heap.size w w' := by
 obtain ⟨s,t,k,hsk⟩ := outF_open (Rat.divInt x y)
 have sx := small_w4 (rd_some hx).2
 have sy := small_w4 (rd_some hy).2
 have hg : Gz (Rat.divInt x y) 1000000 := Gz.divInt hy0 sx sy
 have O := fun W v (hv : RqV W v (Rat.divInt x y)) => rout_any v (Rat.divInt x y) W hv hg.1 hg.2
 rw [hsk] at O ⊢
 have HO := Lib.hid O
 have HL := Lib.hid (fun W u v (hu : PlV W u x) (hv : PlV W v y) => rlow_any u v x y W hu hv sx sy hy0)
 have I1 := fun W => in_any l1 x W hx
 have I2 := fun W => in_any l2 y W hy
 have R1 := fun W => right_any l1 (rd_len hx) W
 have R2 := fun W => right_any l2 (rd_len hy) W
 rw [rd_okB hx] at R1
 rw [rd_okB hy] at R2
 have HZ : Hid (¬ l2 = [48]) := Lib.hid (fun e => hy0 (by rw [e,show rd [48] = some 0 from by decide] at hy;exact (Option.some.inj hy).symm))
 clear O hg sx sy hsk hx hy hy0
 have hb0 : Below w.heap.size w (w.alloc (.cells #[.string ⟨#[]⟩,.string ⟨#[]⟩] 24)) := (Below.refl _ _).alloc (Nat.le_refl _) _
 have hF0 : Fr (w.alloc (.cells #[.string ⟨#[]⟩,.string ⟨#[]⟩] 24)) w.heap.size #[.string ⟨#[]⟩,.string ⟨#[]⟩] 24 := Fr.new rfl
 have H := Lib.hid (And.intro hb0 hF0)
 obtain ⟨y0,y1,z0,z1⟩ := hF0.cells2
 have hf0 := fr_built0
 clear hb0 hF0
 go_enter Tryz.func12,Tryz.ntmps12
 go_wp2_with fail
 refine (R1 _).mono ?_
 rintro e w1 ⟨rfl,hw⟩
 subst hw
 clear R1
 go_wp2_with fail
 refine (R2 _).mono ?_
 rintro e w2 ⟨rfl,hw⟩
 subst hw
 clear R2
 have hz : (l2 == [48]) = false := beq_eq_false_iff_ne.2 HZ.out
 go_wp2_with fail
 refine (I1 _).mono ?_
 rintro e w3 ⟨v3,rfl,p3,hb⟩
 obtain ⟨A3,n3,c3,k3,rfl⟩ := p3.open
 have HA := Lib.hid (And.intro (belowt H.out.1 H.out.1.size hb) (And.intro (H.out.2.call hb) p3))
 clear hb p3 I1 y0 y1 z0 z1 hz
 go_wp2_with fail
 refine (I2 _).mono ?_
 rintro e w4 ⟨v4,rfl,p4,hb⟩
 obtain ⟨A4,n4,c4,k4,rfl⟩ := p4.open
 have HB := Lib.hid (And.intro (belowt HA.out.1 HA.out.1.size hb) (And.intro (HA.out.2.1.call hb) (And.intro (HA.out.2.2.below hb) p4)))
 clear hb p4 I2
 go_wp2_with fail
 refine (HL.out _ _ _ HB.out.2.2.1 HB.out.2.2.2).mono ?_
 rintro e w5 ⟨v5,rfl,q5,hb⟩
 have hO := HO.out w5 v5 q5
 obtain ⟨A6,n6,c6,k6,A7,n7,c7,k7,rfl,-,-⟩ := RqV.open (show RqV w5 v5 (Rat.divInt x y) from q5)
 have HC := Lib.hid (And.intro (belowt HB.out.1 HB.out.1.size hb) (HB.out.2.1.call hb))
 clear hb q5
 go_wp2_with fail
 refine hO.mono ?_
 rintro e w6 ⟨rfl,hb⟩
 have hbn := Lib.hid (belowt HC.out.1 HC.out.1.size hb)
 obtain ⟨y0,y1,z0,z1⟩ := (HC.out.2.call hb).cells2
 clear hb hO
 go_wp2_with fail
 exact bodyPost_ret (v := .tuple #[.agg #[.string s,.string t],.int .i64 k]) (by simp [results,Tryz.results12,go_sem,y0,y1]) rfl ⟨rfl,below_set2 hbn.out (by omega)⟩
theorem cmpQ_sign (x : Rat) : cmpQ x (Rat.divInt 0 1) = signZ x.num := by
 have e : Rat.divInt 0 1 = 0 := by decide +kernel
 rw [e]
 unfold cmpQ cmpZ signZ
 simp only [show (0 : Rat).num = 0 from rfl,show (0 : Rat).den = 1 from rfl]
 split <;> (try split) <;> (try split) <;> omega
set_option maxRecDepth 100000 in
set_option maxHeartbeats 4000000 in
theorem rsignF_none0 (a1 a2 : List UInt8) (w : World)  (la : a1.length ≤ 1000000 ∧ a2.length ≤ 1000000) (hn : rdF a1 a2 = none) :
 Calls Tryz.prog 14 #[.agg #[.string ⟨a1.toArray⟩,.string ⟨a2.toArray⟩]] w fun e w' => e = .returned (.tuple #[.int .i64 0,.int .i64 20]) ∧ Below w.heap.size w w' := by
 obtain ⟨V,hV⟩ : ∃ V,V = (w.alloc (.cells #[.string ⟨a1.toArray⟩,.string ⟨a2.toArray⟩] 24)) := ⟨_,rfl⟩
 have hb0 : Below w.heap.size w V := by rw [hV];exact (Below.refl _ _).alloc (Nat.le_refl _) _
 have r0 : Fr V (w.heap.size) #[.string ⟨a1.toArray⟩,.string ⟨a2.toArray⟩] 24 := by rw [hV];exact (Fr.new rfl)
 have Ra := fun W => rright_not la hn W
 have H := Lib.hid (And.intro hb0 r0)
 obtain ⟨ea0,ea1,-,-⟩ := r0.cells2
 clear hb0 hn r0  la
 go_enter Tryz.func14,Tryz.ntmps14
 go_wp2_with fail
 rw [← hV]
 clear hV
 refine (Ra _).mono ?_
 rintro e w1 ⟨rfl,hb⟩
 obtain ⟨hb0,r0⟩ := H.out
 have hbn := belowt hb0 hb0.size hb
 have s0 := r0.call hb
 have H1 := Lib.hid (And.intro hbn s0)
 clear hb0 hb hbn r0 ea0 ea1 Ra
 obtain ⟨ea0,ea1,-,-⟩ := s0.cells2
 clear s0
 go_wp2_with fail
 exact bodyPost_ret (v := .tuple #[.int .i64 0,.int .i64 20]) (by simp [results,Tryz.results14,go_sem]) rfl ⟨rfl,H1.out.1⟩
set_option maxRecDepth 100000 in
set_option maxHeartbeats 4000000 in
theorem rsignF_some (a1 a2 : List UInt8) (x : Rat) (w : World) (ha : rdF a1 a2 = some x) :
 Calls Tryz.prog 14 #[.agg #[.string ⟨a1.toArray⟩,.string ⟨a2.toArray⟩]] w fun e w' => e = .returned (.tuple #[.int .i64 (signZ x.num),.int .i64 0]) ∧ Below w.heap.size w w' := by
 obtain ⟨C,hC⟩ : ∃ C,C = signZ x.num := ⟨_,rfl⟩
 rw [← hC]
 obtain ⟨V,hV⟩ : ∃ V,V = (w.alloc (.cells #[.string ⟨a1.toArray⟩,.string ⟨a2.toArray⟩] 24)) := ⟨_,rfl⟩
 have hb0 : Below w.heap.size w V := by rw [hV];exact (Below.refl _ _).alloc (Nat.le_refl _) _
 have r0 : Fr V (w.heap.size) #[.string ⟨a1.toArray⟩,.string ⟨a2.toArray⟩] 24 := by rw [hV];exact Fr.new rfl
 have Ra := fun W => rright_yes ha W
 have Ia := fun W => rin_any a1 a2 x W ha
 have Q := fun W => rquick_any 0 1 W (by omega) (by omega) (by omega) (by omega) (by omega)
 have HO := Lib.hid (fun W u v (hu : RqV W u x) (hv : RqV W v (Rat.divInt 0 1)) => rqorder_any u v x (Rat.divInt 0 1) 600 600 W hu hv (gz_rd ha) (Gz.divInt (by omega) (show wlen B4 (0 : Int).natAbs ≤ 600 from by rw [show wlen B4 (0 : Int).natAbs = 0 from (wlen_eq_zero (b := B4) two_le_B4).2 rfl];omega) (show wlen B4 (1 : Int).natAbs ≤ 600 from Nat.le_trans ((wlen_le_iff (b := B4) two_le_B4 1 1).2 (by decide)) (by omega))) (by omega))
 have HC := Lib.hid (hC.trans (cmpQ_sign x).symm)
 have H := Lib.hid (And.intro hb0 r0)
 obtain ⟨ea0,ea1,-,-⟩ := r0.cells2
 clear ha hb0 r0 hC
 go_enter Tryz.func14,Tryz.ntmps14
 go_wp2_with fail
 rw [← hV]
 clear hV
 refine (Ra _).mono ?_
 rintro e w1 ⟨rfl,hb⟩
 have s0 := H.out.2.call hb
 have HA := Lib.hid (belowt H.out.1 H.out.1.size hb)
 clear hb ea0 ea1 Ra
 obtain ⟨ea0,ea1,-,-⟩ := s0.cells2
 clear s0
 go_wp2_with fail
 refine (Ia _).mono ?_
 rintro e w2 ⟨v2,rfl,q2,hb⟩
 have HB := Lib.hid (And.intro (belowt HA.out HA.out.size hb) q2)
 obtain ⟨A2,n2,c2,k2,A3,n3,c3,k3,rfl,-,-⟩ := RqV.open q2
 clear hb ea0 ea1 Ia q2
 go_wp2_with fail
 refine (Q _).mono ?_
 rintro e w3 ⟨v3,rfl,q3,hb⟩
 have hO := HO.out w3 _ v3 (RqV.below HB.out.2 hb) q3
 have HD := Lib.hid (belowt HB.out.1 HB.out.1.size hb)
 obtain ⟨A4,n4,c4,k4,A5,n5,c5,k5,rfl,-,-⟩ := RqV.open q3
 clear hb q3 Q
 go_wp2_with fail
 refine hO.mono ?_
 rintro e w4 ⟨he,hb⟩
 rw [← HC.out] at he
 subst he
 have hbn := Lib.hid (belowt HD.out HD.out.size hb)
 clear hb hO
 go_wp2_with fail
 exact bodyPost_ret (v := .tuple #[.int .i64 C,.int .i64 0]) (by simp [results,Tryz.results14,go_sem]) rfl ⟨rfl,hbn.out⟩
end Go.Proofs.YtlfgpmnjnpdkdaaGreatDoor
namespace Go.Proofs.YtlfgpmnjnpdkdaaGreatDoor
open Go.RowKit Vd
attribute [local go_sem ↓] Go.wp_at_zero Go.wp_at_succ
end Go.Proofs.YtlfgpmnjnpdkdaaGreatDoor
namespace Go.Proofs.YtlfgpmnjnpdkdaaGreatDoor
open Go.RowKit Vd
attribute [local go_sem ↓] Go.wp_at_zero Go.wp_at_succ
set_option maxRecDepth 100000 in
set_option maxHeartbeats 2000000 in
theorem fmake_some (l1 l2 : List UInt8) (x y : Int) (w : World) (h1 : rd l1 = some x) (h2 : rd l2 = some y) (hy : y ≠ 0) :
 Calls Tryz.prog 11 #[.string ⟨l1.toArray⟩,.string ⟨l2.toArray⟩] w fun e w' => e = .returned (outF (Rat.divInt x y)) ∧ Below w.heap.size w w' := by
 have r1 := fun W => frw_some l1 x W h1
 have r2 := fun W => frw_some l2 y W h2
 have hbW : Below w.heap.size w (w.alloc (.cells #[.string ⟨#[]⟩,.string ⟨#[]⟩] 24)) := (Below.refl _ _).alloc (Nat.le_refl _) _
 have hE1 : Fr (w.alloc (.cells #[.string ⟨#[]⟩,.string ⟨#[]⟩] 24)) w.heap.size #[.string ⟨#[]⟩,.string ⟨#[]⟩] 24 := Fr.new rfl
 have wn := rd_wlen h1
 have wd := rd_wlen h2
 have hF : Fz (Rat.divInt x y) 1000000 := (Fz.divInt (K := 1000000) hy (by omega) (by omega))
 have hk : decide (wlen B64 y.natAbs = 0) = false := by
  simp;intro h;exact hy (by have := (wlen_eq_zero (b := B64) two_le_B).1 h;omega)
 have hz := fun A c W => isZero_any A (wlen B64 y.natAbs) c W
 rw [hk] at hz
 obtain ⟨L,hL⟩ : ∃ L,L = wlen B64 y.natAbs := ⟨_,rfl⟩
 rw [← hL] at hz
 obtain ⟨s,t,k,hsk⟩ := outF_open (Rat.divInt x y)
 rw [hsk]
 have HB := Lib.hid (And.intro hbW (And.intro hE1 (And.intro wn (And.intro wd (And.intro hF (And.intro hsk (And.intro hy hL)))))))
 clear h1 h2 hbW hE1 wn wd hF hsk hk hL hy
 go_enter Tryz.func11,Tryz.ntmps11
 go_wp2_with fail
 refine (r1 _).mono ?_
 rintro e w1 ⟨A1,n1,c1,k1,rfl,hv1,hb1⟩
 have HB1 := Lib.hid (And.intro hb1 hv1)
 clear r1 hb1 hv1
 go_wp2_with fail
 refine (r2 _).mono ?_
 rintro e w2 ⟨A2,n2,c2,k2,rfl,hv2,hb2⟩
 have hb1 := HB1.out.1
 have hba : Below w1.heap.size w1 (w1.alloc (.cells #[.slice A1 n1 c1,.bool k1] 80)) := (Below.refl _ _).alloc (Nat.le_refl _) _
 have hn2 : n2 = L := by
  obtain ⟨m,e,A,c,e2,_⟩ := hv2
  rw [HB.out.2.2.2.2.2.2.2]
  injection e with e
  simp at e
  rw [← e.1] at e2
  injection e2
 subst hn2
 have F6 : Fr w2 w1.heap.size #[.slice A1 n1 c1,.bool k1] 80 := (Fr.new rfl).call hb2
 have hlt : w1.heap.size < w2.heap.size := F6.lt
 have hne : w1.heap.size ≠ w2.heap.size := Nat.ne_of_lt hlt
 obtain ⟨p6,q6,-,-⟩ := F6.cells2a
 have hlo := lowest_any _ _ x y (w2.alloc (.cells #[.slice A2 n2 c2,.bool k2] 80)) ((HB1.out.2.old.below hb2).old) hv2.old (Nat.le_trans (Nat.add_le_add_right HB.out.2.2.1 2) (by unfold maxW;omega)) (Nat.le_trans (Nat.add_le_add_right HB.out.2.2.2.1 2) (by unfold maxW;omega)) HB.out.2.2.2.2.2.2.1
 have hE2 := (((HB.out.2.1.call hb1).old (u := .cells #[.slice A1 n1 c1,.bool k1] 80)).call hb2).old (u := .cells #[.slice A2 n2 c2,.bool k2] 80)
 have hB2 : Below w.heap.size w (w2.alloc (.cells #[.slice A2 n2 c2,.bool k2] 80)) := by
  have s0 := HB.out.1.size
  have s1 := hb1.size
  have s2 := hb2.size
  have s3 := hba.size
  exact belowt (belowt (belowt (belowt HB.out.1 s0 hb1) (by omega) hba) (by omega) hb2) (by omega) ((Below.refl _ _).alloc (Nat.le_refl _) _)
 have HB2 := Lib.hid (And.intro hE2 hB2)
 clear r2 hb2 hv2 hb1 hba F6 hE2 hB2
 go_wp2_with (go_at_call 59;refine (hz _ _ _).mono ?_;rintro e w9 ⟨rfl,rfl⟩)
 refine hlo.mono ?_
 rintro e w3 ⟨v,rfl,hv,hb3⟩
 have hw := fwrite_any v _ w3 hv HB.out.2.2.2.2.1
 rw [HB.out.2.2.2.2.2.1] at hw
 obtain ⟨A3,n3,c3,k3,A4,n4,c4,k4,rfl,_,_⟩ := hv.open
 have HB3 := Lib.hid hb3
 clear hlo hb3 hv
 go_wp2_with fail
 refine hw.mono ?_
 rintro e w4 ⟨rfl,hb4⟩
 have hF1 := (HB2.out.1.call HB3.out).call hb4
 obtain ⟨p0,p1,z0,z1⟩ := hF1.cells2
 have s2 := HB2.out.2.size
 have s3 := HB3.out.size
 have hbel := belowt (belowt HB2.out.2 s2 HB3.out) (by omega) hb4
 have HZ := Lib.hid hbel
 clear hw hb4 hF1 s2 s3 hbel
 go_wp2_with fail
 exact bodyPost_ret (v := .tuple #[.agg #[.string s,.string t],.int .i64 k]) (by simp [results,Tryz.results11,go_sem,p0,p1]) rfl ⟨rfl,(HZ.out.setCell (by simp) _).setCell (by simp) _⟩
set_option maxRecDepth 100000 in
set_option maxHeartbeats 2000000 in
theorem fmake_zero (l1 l2 : List UInt8) (x : Int) (w : World) (h1 : rd l1 = some x) (h2 : rd l2 = some 0) :
 Calls Tryz.prog 11 #[.string ⟨l1.toArray⟩,.string ⟨l2.toArray⟩] w fun e w' => e = .returned (noF 7) ∧ Below w.heap.size w w' := by
 have r1 := fun W => frw_some l1 x W h1
 have r2 := fun W => frw_some l2 0 W h2
 have hf0 := fr_built0
 have hbW : Below w.heap.size w (w.alloc (.cells #[.string ⟨#[]⟩,.string ⟨#[]⟩] 24)) := (Below.refl _ _).alloc (Nat.le_refl _) _
 have hE1 : Fr (w.alloc (.cells #[.string ⟨#[]⟩,.string ⟨#[]⟩] 24)) w.heap.size #[.string ⟨#[]⟩,.string ⟨#[]⟩] 24 := Fr.new rfl
 have hz := fun A c W => isZero_any A 0 c W
 rw [show decide ((0 : Nat) = 0) = true from rfl] at hz
 have HB := Lib.hid (And.intro hbW hE1)
 clear h1 h2 hbW hE1
 go_enter Tryz.func11,Tryz.ntmps11
 go_wp2_with fail
 refine (r1 _).mono ?_
 rintro e w1 ⟨A1,n1,c1,k1,rfl,-,hb1⟩
 have HB1 := Lib.hid hb1
 clear r1 hb1
 go_wp2_with fail
 refine (r2 _).mono ?_
 rintro e w2 ⟨A2,n2,c2,k2,rfl,hv2,hb2⟩
 have hb1 := HB1.out
 have hba : Below w1.heap.size w1 (w1.alloc (.cells #[.slice A1 n1 c1,.bool k1] 80)) := (Below.refl _ _).alloc (Nat.le_refl _) _
 have hn2 : n2 = 0 := by
  obtain ⟨m,e,A,c,e2,_⟩ := hv2
  injection e with e
  simp at e
  rw [← e.1] at e2
  injection e2 with _ e3 _
  rw [e3]
  exact (wlen_eq_zero (b := B64) two_le_B).2 rfl
 subst hn2
 have hF2 := (((HB.out.2.call hb1).old (u := .cells #[.slice A1 n1 c1,.bool k1] 80)).call hb2).old (u := .cells #[.slice A2 0 c2,.bool k2] 80)
 obtain ⟨p0,p1,z0,z1⟩ := hF2.cells2
 have hB2 : Below w.heap.size w (w2.alloc (.cells #[.slice A2 0 c2,.bool k2] 80)) := by
  have s0 := HB.out.1.size
  have s1 := hb1.size
  have s2 := hb2.size
  have s3 := hba.size
  exact belowt (belowt (belowt (belowt HB.out.1 s0 hb1) (by omega) hba) (by omega) hb2) (by omega) ((Below.refl _ _).alloc (Nat.le_refl _) _)
 have HB2 := Lib.hid hB2
 clear r2 hb2 hv2 hb1 hba hF2 hB2
 go_wp2_with (go_at_call 59;refine (hz _ _ _).mono ?_;rintro e w9 ⟨rfl,rfl⟩)
 exact bodyPost_ret (v := noF 7) (by simp [results,Tryz.results11,go_sem,p0,p1]) rfl ⟨rfl,by first | exact HB2.out | exact (HB2.out.setCell (by simp) _).setCell (by simp) _⟩
set_option maxRecDepth 100000 in
set_option maxHeartbeats 2000000 in
theorem fmake_none1 (l1 l2 : List UInt8) (w : World) (h1 : rd l1 = none) :
 Calls Tryz.prog 11 #[.string ⟨l1.toArray⟩,.string ⟨l2.toArray⟩] w fun e w' => e = .returned (noF 10) ∧ Below w.heap.size w w' := by
 have r1 := fun W => frw_none l1 W h1
 have r2 : ∃ ok2 : Bool,∀ W,Calls Tryz.prog 58 #[.string ⟨l2.toArray⟩] W fun e w' => ∃ (A : Option Addr) (n c : Nat) (k : Bool),e = .returned (.tuple #[.agg #[.slice A n c,.bool k],.bool ok2]) ∧ Below W.heap.size W w' := by
  cases h2 : rd l2 with
  | none => exact ⟨false,fun W => frw_none l2 W h2⟩
  | some y => exact ⟨true,fun W => (frw_some l2 y W h2).mono fun e w' ⟨A,n,c,k,he,_,hb⟩ => ⟨A,n,c,k,he,hb⟩⟩
 obtain ⟨ok2,r2⟩ := r2
 have hf0 := fr_built0
 have hbW : Below w.heap.size w (w.alloc (.cells #[.string ⟨#[]⟩,.string ⟨#[]⟩] 24)) := (Below.refl _ _).alloc (Nat.le_refl _) _
 have hE1 : Fr (w.alloc (.cells #[.string ⟨#[]⟩,.string ⟨#[]⟩] 24)) w.heap.size #[.string ⟨#[]⟩,.string ⟨#[]⟩] 24 := Fr.new rfl
 have HB := Lib.hid (And.intro hbW hE1)
 clear h1 hbW hE1
 go_enter Tryz.func11,Tryz.ntmps11
 go_wp2_with fail
 refine (r1 _).mono ?_
 rintro e w1 ⟨A1,n1,c1,k1,rfl,hb1⟩
 have HB1 := Lib.hid hb1
 clear r1 hb1
 go_wp2_with fail
 refine (r2 _).mono ?_
 rintro e w2 ⟨A2,n2,c2,k2,rfl,hb2⟩
 have hb1 := HB1.out
 have hba : Below w1.heap.size w1 (w1.alloc (.cells #[.slice A1 n1 c1,.bool k1] 80)) := (Below.refl _ _).alloc (Nat.le_refl _) _
 have hF2 := (((HB.out.2.call hb1).old (u := .cells #[.slice A1 n1 c1,.bool k1] 80)).call hb2).old (u := .cells #[.slice A2 n2 c2,.bool k2] 80)
 obtain ⟨p0,p1,z0,z1⟩ := hF2.cells2
 have hB2 : Below w.heap.size w (w2.alloc (.cells #[.slice A2 n2 c2,.bool k2] 80)) := by
  have s0 := HB.out.1.size
  have s1 := hb1.size
  have s2 := hb2.size
  have s3 := hba.size
  exact belowt (belowt (belowt (belowt HB.out.1 s0 hb1) (by omega) hba) (by omega) hb2) (by omega) ((Below.refl _ _).alloc (Nat.le_refl _) _)
 have HB2 := Lib.hid hB2
 clear r2 hb2 hb1 hba hF2 hB2
 go_wp2_with fail
 exact bodyPost_ret (v := noF 10) (by simp [results,Tryz.results11,go_sem,p0,p1]) rfl ⟨rfl,by first | exact HB2.out | exact (HB2.out.setCell (by simp) _).setCell (by simp) _⟩
set_option maxRecDepth 100000 in
set_option maxHeartbeats 2000000 in
theorem fmake_none2 (l1 l2 : List UInt8) (x : Int) (w : World) (h1 : rd l1 = some x) (h2 : rd l2 = none) :
 Calls Tryz.prog 11 #[.string ⟨l1.toArray⟩,.string ⟨l2.toArray⟩] w fun e w' => e = .returned (noF 10) ∧ Below w.heap.size w w' := by
 have r1 := fun W => frw_some l1 x W h1
 have r2 := fun W => frw_none l2 W h2
 have hf0 := fr_built0
 have hbW : Below w.heap.size w (w.alloc (.cells #[.string ⟨#[]⟩,.string ⟨#[]⟩] 24)) := (Below.refl _ _).alloc (Nat.le_refl _) _
 have hE1 : Fr (w.alloc (.cells #[.string ⟨#[]⟩,.string ⟨#[]⟩] 24)) w.heap.size #[.string ⟨#[]⟩,.string ⟨#[]⟩] 24 := Fr.new rfl
 have HB := Lib.hid (And.intro hbW hE1)
 clear h1 h2 hbW hE1
 go_enter Tryz.func11,Tryz.ntmps11
 go_wp2_with fail
 refine (r1 _).mono ?_
 rintro e w1 ⟨A1,n1,c1,k1,rfl,-,hb1⟩
 have HB1 := Lib.hid hb1
 clear r1 hb1
 go_wp2_with fail
 refine (r2 _).mono ?_
 rintro e w2 ⟨A2,n2,c2,k2,rfl,hb2⟩
 have hb1 := HB1.out
 have hba : Below w1.heap.size w1 (w1.alloc (.cells #[.slice A1 n1 c1,.bool k1] 80)) := (Below.refl _ _).alloc (Nat.le_refl _) _
 have hF2 := (((HB.out.2.call hb1).old (u := .cells #[.slice A1 n1 c1,.bool k1] 80)).call hb2).old (u := .cells #[.slice A2 n2 c2,.bool k2] 80)
 obtain ⟨p0,p1,z0,z1⟩ := hF2.cells2
 have hB2 : Below w.heap.size w (w2.alloc (.cells #[.slice A2 n2 c2,.bool k2] 80)) := by
  have s0 := HB.out.1.size
  have s1 := hb1.size
  have s2 := hb2.size
  have s3 := hba.size
  exact belowt (belowt (belowt (belowt HB.out.1 s0 hb1) (by omega) hba) (by omega) hb2) (by omega) ((Below.refl _ _).alloc (Nat.le_refl _) _)
 have HB2 := Lib.hid hB2
 clear r2 hb2 hb1 hba hF2 hB2
 go_wp2_with fail
 exact bodyPost_ret (v := noF 10) (by simp [results,Tryz.results11,go_sem,p0,p1]) rfl ⟨rfl,by first | exact HB2.out | exact (HB2.out.setCell (by simp) _).setCell (by simp) _⟩
end Go.Proofs.YtlfgpmnjnpdkdaaGreatDoor
namespace Go.Proofs.YtlfgpmnjnpdkdaaGreatDoor
open Go.RowKit Vd
theorem nearZ_abs (x : Rat) (s : Int) : (nearZ x s).natAbs ≤ 2 * (x.num.natAbs * s.natAbs) + x.den := by
 unfold nearZ
 refine Nat.le_trans (Int.natAbs_ediv_le_natAbs _ _) ?_
 have h1 := Int.natAbs_add_le (x.num * s + x.num * s) (x.den : Int)
 have h2 := Int.natAbs_add_le (x.num * s) (x.num * s)
 rw [Int.natAbs_mul] at h2
 rw [Int.natAbs_natCast] at h1
 omega
end Go.Proofs.YtlfgpmnjnpdkdaaGreatDoor
namespace Go.Proofs.YtlfgpmnjnpdkdaaGreatDoor
open Go.RowKit Vd
theorem kept4 {V V' : World} (h : Below V.heap.size V V') (g : Nat) (hg : g < V.heap.size) : V'.cell? ⟨g,0,none⟩ = V.cell? ⟨g,0,none⟩ ∧ V'.frozen? ⟨g,0,none⟩ = V.frozen? ⟨g,0,none⟩ ∧ V'.cell? ⟨g,1,none⟩ = V.cell? ⟨g,1,none⟩ ∧ V'.frozen? ⟨g,1,none⟩ = V.frozen? ⟨g,1,none⟩ ∧ g < V'.heap.size ∧ g ≠ V'.heap.size :=
 ⟨(kept2 h).1 g 0 hg,(kept2 h).2 g 0 hg,(kept2 h).1 g 1 hg,(kept2 h).2 g 1 hg,Nat.lt_of_lt_of_le hg h.size,Nat.ne_of_lt (Nat.lt_of_lt_of_le hg h.size)⟩
end Go.Proofs.YtlfgpmnjnpdkdaaGreatDoor
namespace Go.Proofs.YtlfgpmnjnpdkdaaGreatDoor
open Go.RowKit Vd
attribute [local go_sem ↓] Go.wp_at_zero Go.wp_at_succ
end Go.Proofs.YtlfgpmnjnpdkdaaGreatDoor
namespace Go.Proofs.YtlfgpmnjnpdkdaaGreatDoor
open Go.RowKit Vd
attribute [local go_sem ↓] Go.wp_at_zero Go.wp_at_succ
theorem ext_takeF (l : List UInt8) (m : Nat) : (⟨l.toArray⟩ : ByteArray).extract 0 m = ⟨(l.take m).toArray⟩ := by
 apply ByteArray.ext
 simp
theorem len_takeF (l : List UInt8) : (l.take (min (l.length : Int) 620).toNat).length ≤ 620 := by rw [List.length_take];omega
set_option maxRecDepth 100000 in
set_option maxHeartbeats 4000000 in
theorem cutF_any (a1 a2 : List UInt8) (w : World) :
 Calls Tryz.prog 57 #[.agg #[.string ⟨a1.toArray⟩,.string ⟨a2.toArray⟩]] w fun e w' => ∃ t1 t2 : List UInt8,e = .returned (qV t1 t2) ∧ t1.length ≤ 620 ∧ t2.length ≤ 620 ∧ Below w.heap.size w w' := by
 obtain ⟨V,hV⟩ : ∃ V,V = ((w.alloc (.cells #[.string ⟨a1.toArray⟩,.string ⟨a2.toArray⟩] 24)).alloc (.cells #[.string ⟨#[]⟩,.string ⟨#[]⟩] 24)) := ⟨_,rfl⟩
 have hb0 : Below w.heap.size w V := by rw [hV];exact ((Below.refl _ _).alloc (Nat.le_refl _) _).alloc (by simp) _
 have r0 : Fr V (w.heap.size) #[.string ⟨a1.toArray⟩,.string ⟨a2.toArray⟩] 24 := by rw [hV];exact (Fr.new rfl).old
 have r1 : Fr V (w.heap.size + 1) #[.string ⟨#[]⟩,.string ⟨#[]⟩] 24 := by rw [hV];exact Fr.new (by simp)
 obtain ⟨ea0,ea1,-,-⟩ := r0.cells2
 obtain ⟨y0,y1,z0,z1⟩ := r1.cells2
 have H := Lib.hid (And.intro hb0 r1)
 have hf2 := fr_built2
 have l1 := len_takeF a1
 have l2 := len_takeF a2
 have HL := Lib.hid (And.intro l1 l2)
 clear hb0 r0 r1 l1 l2
 go_enter Tryz.func57,Tryz.ntmps57
 go_wp2_with fail
 rw [← hV]
 clear hV
 go_region
 go_wp2_with fail
 exact bodyPost_ret (v := qV (a1.take (min (a1.length : Int) 620).toNat) (a2.take (min (a2.length : Int) 620).toNat)) (by simp [results,Tryz.results57,go_sem,y0,y1,ext_takeF]) rfl ⟨_,_,rfl,HL.out.1,HL.out.2,(below_set2 H.out.1 (by omega)).drew⟩
end Go.Proofs.YtlfgpmnjnpdkdaaGreatDoor
