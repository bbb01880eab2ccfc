/- Contracts: the reference's fractions: Div, Neg, Cmp, Min, Max, Check, Of, Make. -/
import Derived.Test.YtlfgpmnjnpdkdaaGreatDoorFrfD
import Derived.Test.YtlfgpmnjnpdkdaaGreatDoorFraK
import Derived.Test.YtlfgpmnjnpdkdaaGreatDoorFrcA
import Derived.Test.YtlfgpmnjnpdkdaaGreatDoorFrcG
namespace Go.Proofs.YtlfgpmnjnpdkdaaGreatDoor
open Go.RowKit Vd
attribute [local go_sem ↓] Go.wp_at_zero Go.wp_at_succ
theorem n48_zero {l1 l2 : List UInt8} {q : Rat} (h : rdF l1 l2 = some q) : l1 = [48] ↔ q = 0 := by
 have e1 := (rdF_some h).1
 constructor
 · intro e
   rw [e,show rd [48] = some 0 from by decide] at e1
   exact Rat.num_eq_zero.1 (Option.some.inj e1).symm
 · intro e
   have := (rd_some e1).1
   rw [e] at this
   rw [← this]
   exact (rd_some (s := [48]) (z := 0) (by decide)).1
set_option maxRecDepth 100000 in
set_option maxHeartbeats 4000000 in
theorem rdiv_none0 (a1 a2 b1 b2 : List UInt8) (w : World)  (la : a1.length ≤ 1000000 ∧ a2.length ≤ 1000000) (hn : rdF a1 a2 = none) :
 Calls Tryz.prog 33 #[.agg #[.string ⟨a1.toArray⟩,.string ⟨a2.toArray⟩],.agg #[.string ⟨b1.toArray⟩,.string ⟨b2.toArray⟩]] w fun e w' => e = .returned (noF 20) ∧ Below w.heap.size w w' := by
 obtain ⟨V,hV⟩ : ∃ V,V = (((w.alloc (.cells #[.string ⟨a1.toArray⟩,.string ⟨a2.toArray⟩] 24)).alloc (.cells #[.string ⟨b1.toArray⟩,.string ⟨b2.toArray⟩] 24)).alloc (.cells #[.string ⟨#[]⟩,.string ⟨#[]⟩] 24)) := ⟨_,rfl⟩
 have hb0 : Below w.heap.size w V := by rw [hV];exact (((Below.refl _ _).alloc (Nat.le_refl _) _).alloc (by simp) _).alloc (by simp;omega) _
 have r0 : Fr V (w.heap.size) #[.string ⟨a1.toArray⟩,.string ⟨a2.toArray⟩] 24 := by rw [hV];exact (Fr.new rfl).old.old
 have r1 : Fr V (w.heap.size + 1) #[.string ⟨b1.toArray⟩,.string ⟨b2.toArray⟩] 24 := by rw [hV];exact (Fr.new (by simp)).old
 have r2 : Fr V (w.heap.size + 1 + 1) #[.string ⟨#[]⟩,.string ⟨#[]⟩] 24 := by rw [hV];exact (Fr.new (by simp))
 have Ra := fun W => rright_not la hn W
 have H := Lib.hid (And.intro hb0 (And.intro r0 (And.intro r1 r2)))
 obtain ⟨ea0,ea1,-,-⟩ := r0.cells2
 obtain ⟨eb0,eb1,-,-⟩ := r1.cells2
 have hf0 := fr_built0
 clear hb0 hn r0 r1 r2  la
 go_enter Tryz.func33,Tryz.ntmps33
 go_wp2_with fail
 rw [← hV]
 clear hV
 refine (Ra _).mono ?_
 rintro e w1 ⟨rfl,hb⟩
 obtain ⟨hb0,r0,r1,r2⟩ := H.out
 have hbn := belowt hb0 hb0.size hb
 have s0 := r0.call hb
 have s1 := r1.call hb
 have s2 := r2.call hb
 have H1 := Lib.hid (And.intro hbn (And.intro s0 (And.intro s1 s2)))
 clear hb0 hb hbn r0 r1 r2 ea0 ea1 eb0 eb1 Ra
 obtain ⟨ea0,ea1,-,-⟩ := s0.cells2
 obtain ⟨eb0,eb1,-,-⟩ := s1.cells2
 obtain ⟨y0,y1,z0,z1⟩ := s2.cells2
 clear s0 s1 s2
 go_wp2_with fail
 exact bodyPost_ret (v := noF 20) (by simp [results,Tryz.results33,go_sem,y0,y1]) rfl ⟨rfl,below_set2 H1.out.1 (by omega)⟩
set_option maxRecDepth 100000 in
set_option maxHeartbeats 4000000 in
theorem rdiv_none1 (a1 a2 b1 b2 : List UInt8) (x : Rat) (w : World) (ha : rdF a1 a2 = some x) (lb : b1.length ≤ 1000000 ∧ b2.length ≤ 1000000) (hn : rdF b1 b2 = none) :
 Calls Tryz.prog 33 #[.agg #[.string ⟨a1.toArray⟩,.string ⟨a2.toArray⟩],.agg #[.string ⟨b1.toArray⟩,.string ⟨b2.toArray⟩]] w fun e w' => e = .returned (noF 20) ∧ Below w.heap.size w w' := by
 obtain ⟨V,hV⟩ : ∃ V,V = (((w.alloc (.cells #[.string ⟨a1.toArray⟩,.string ⟨a2.toArray⟩] 24)).alloc (.cells #[.string ⟨b1.toArray⟩,.string ⟨b2.toArray⟩] 24)).alloc (.cells #[.string ⟨#[]⟩,.string ⟨#[]⟩] 24)) := ⟨_,rfl⟩
 have hb0 : Below w.heap.size w V := by rw [hV];exact (((Below.refl _ _).alloc (Nat.le_refl _) _).alloc (by simp) _).alloc (by simp;omega) _
 have r0 : Fr V (w.heap.size) #[.string ⟨a1.toArray⟩,.string ⟨a2.toArray⟩] 24 := by rw [hV];exact (Fr.new rfl).old.old
 have r1 : Fr V (w.heap.size + 1) #[.string ⟨b1.toArray⟩,.string ⟨b2.toArray⟩] 24 := by rw [hV];exact (Fr.new (by simp)).old
 have r2 : Fr V (w.heap.size + 1 + 1) #[.string ⟨#[]⟩,.string ⟨#[]⟩] 24 := by rw [hV];exact (Fr.new (by simp))
 have Ra := fun W => rright_yes ha W
 have Rb := fun W => rright_not lb hn W
 have H := Lib.hid (And.intro hb0 (And.intro r0 (And.intro r1 r2)))
 obtain ⟨ea0,ea1,-,-⟩ := r0.cells2
 obtain ⟨eb0,eb1,-,-⟩ := r1.cells2
 have hf0 := fr_built0
 clear hb0 hn r0 r1 r2 ha lb
 go_enter Tryz.func33,Tryz.ntmps33
 go_wp2_with fail
 rw [← hV]
 clear hV
 refine (Ra _).mono ?_
 rintro e w1 ⟨rfl,hb⟩
 obtain ⟨hb0,r0,r1,r2⟩ := H.out
 have hbn := belowt hb0 hb0.size hb
 have s0 := r0.call hb
 have s1 := r1.call hb
 have s2 := r2.call hb
 have H1 := Lib.hid (And.intro hbn (And.intro s0 (And.intro s1 s2)))
 clear hb0 hb hbn r0 r1 r2 ea0 ea1 eb0 eb1 Ra
 obtain ⟨ea0,ea1,-,-⟩ := s0.cells2
 obtain ⟨eb0,eb1,-,-⟩ := s1.cells2
 clear s0 s1 s2
 go_wp2_with fail
 refine (Rb _).mono ?_
 rintro e w2 ⟨rfl,hb⟩
 obtain ⟨hb0,r0,r1,r2⟩ := H1.out
 have hbn := belowt hb0 hb0.size hb
 have s0 := r0.call hb
 have s1 := r1.call hb
 have s2 := r2.call hb
 have H2 := Lib.hid (And.intro hbn (And.intro s0 (And.intro s1 s2)))
 clear hb0 hb hbn r0 r1 r2 ea0 ea1 eb0 eb1 Rb
 obtain ⟨ea0,ea1,-,-⟩ := s0.cells2
 obtain ⟨eb0,eb1,-,-⟩ := s1.cells2
 obtain ⟨y0,y1,z0,z1⟩ := s2.cells2
 clear s0 s1 s2
 go_wp2_with fail
 exact bodyPost_ret (v := noF 20) (by simp [results,Tryz.results33,go_sem,y0,y1]) rfl ⟨rfl,below_set2 H2.out.1 (by omega)⟩
set_option maxRecDepth 100000 in
set_option maxHeartbeats 4000000 in
theorem rqdiv_some (a1 a2 b1 b2 : List UInt8) (x y : Rat) (w : World) (ha : rdF a1 a2 = some x) (hb : rdF b1 b2 = some y) (hy0 : y ≠ 0) :
 Calls Tryz.prog 33 #[.agg #[.string ⟨a1.toArray⟩,.string ⟨a2.toArray⟩],.agg #[.string ⟨b1.toArray⟩,.string ⟨b2.toArray⟩]] w fun e w' => e = .returned (outF (x / y)) ∧ Below w.heap.size w w' := by
 have hg := Gz.over (gz_rd ha) (gz_rd hb) hy0
 obtain ⟨s,t,k,hsk⟩ := outF_open (x / y)
 rw [hsk]
 obtain ⟨V,hV⟩ : ∃ V,V = (((w.alloc (.cells #[.string ⟨a1.toArray⟩,.string ⟨a2.toArray⟩] 24)).alloc (.cells #[.string ⟨b1.toArray⟩,.string ⟨b2.toArray⟩] 24)).alloc (.cells #[.string ⟨#[]⟩,.string ⟨#[]⟩] 24)) := ⟨_,rfl⟩
 have hb0 : Below w.heap.size w V := by rw [hV];exact (((Below.refl _ _).alloc (Nat.le_refl _) _).alloc (by simp) _).alloc (by simp;omega) _
 have r0 : Fr V (w.heap.size) #[.string ⟨a1.toArray⟩,.string ⟨a2.toArray⟩] 24 := by rw [hV];exact (Fr.new rfl).old.old
 have r1 : Fr V (w.heap.size + 1) #[.string ⟨b1.toArray⟩,.string ⟨b2.toArray⟩] 24 := by rw [hV];exact (Fr.new (by simp)).old
 have r2 : Fr V (w.heap.size + 1 + 1) #[.string ⟨#[]⟩,.string ⟨#[]⟩] 24 := by rw [hV];exact Fr.new (by simp)
 have Ra := fun W => rright_yes ha W
 have Rb := fun W => rright_yes hb W
 have H1 : Hid (∀ W,AdS w a1 a2 b1 b2 W → Calls Tryz.prog 67 #[.agg #[.string ⟨a1.toArray⟩,.string ⟨a2.toArray⟩]] W fun e w' => ∃ (A : Option Addr) (n c : Nat) (k : Bool) (A' : Option Addr) (n' c' : Nat) (k' : Bool),e = .returned (.agg #[.bool k,.slice A n c,.bool k',.slice A' n' c']) ∧ RqV w' (.agg #[.bool k,.slice A n c,.bool k',.slice A' n' c']) (x) ∧ Below W.heap.size W w' ∧ AdS w a1 a2 b1 b2 w') := Lib.hid (fun W hS => (rin_any a1 a2 x W ha).mono fun e w' ⟨v,he,hv,hb⟩ => by
  obtain ⟨A,n,c,k,A',n',c',k',rfl,_,_⟩ := RqV.open hv
  exact ⟨A,n,c,k,A',n',c',k',he,hv,hb,adS_step hS hb⟩)
 have H2 : Hid (∀ W,AdS w a1 a2 b1 b2 W → Calls Tryz.prog 67 #[.agg #[.string ⟨b1.toArray⟩,.string ⟨b2.toArray⟩]] W fun e w' => ∃ (A : Option Addr) (n c : Nat) (k : Bool) (A' : Option Addr) (n' c' : Nat) (k' : Bool),e = .returned (.agg #[.bool k,.slice A n c,.bool k',.slice A' n' c']) ∧ RqV w' (.agg #[.bool k,.slice A n c,.bool k',.slice A' n' c']) (y) ∧ Below W.heap.size W w' ∧ AdS w a1 a2 b1 b2 w') := Lib.hid (fun W hS => (rin_any b1 b2 y W hb).mono fun e w' ⟨v,he,hv,hb⟩ => by
  obtain ⟨A,n,c,k,A',n',c',k',rfl,_,_⟩ := RqV.open hv
  exact ⟨A,n,c,k,A',n',c',k',he,hv,hb,adS_step hS hb⟩)
 have H3 : Hid (∀ W u z,RqV W u (x) → RqV W z (y) → AdS w a1 a2 b1 b2 W → Calls Tryz.prog 82 #[u,z] W fun e w' => ∃ (A : Option Addr) (n c : Nat) (k : Bool) (A' : Option Addr) (n' c' : Nat) (k' : Bool),e = .returned (.agg #[.bool k,.slice A n c,.bool k',.slice A' n' c']) ∧ RqV w' (.agg #[.bool k,.slice A n c,.bool k',.slice A' n' c']) (x / y) ∧ Below W.heap.size W w' ∧ AdS w a1 a2 b1 b2 w') := Lib.hid (fun W u z hu hz hS => (rqover_any u z x y 600 600 W hu hz (gz_rd ha) (gz_rd hb) (by omega) hy0).mono fun e w' ⟨v,he,hv,hb⟩ => by
  obtain ⟨A,n,c,k,A',n',c',k',rfl,_,_⟩ := RqV.open hv
  exact ⟨A,n,c,k,A',n',c',k',he,hv,hb,adS_step hS hb⟩)
 have H4 : Hid (∀ W u,RqV W u (x / y) → AdS w a1 a2 b1 b2 W → Calls Tryz.prog 55 #[u] W fun e w' => e = .returned (.tuple #[.agg #[.string s,.string t],.int .i64 k]) ∧ Below W.heap.size W w' ∧ AdS w a1 a2 b1 b2 w') := Lib.hid (fun W u hu hS => (hsk ▸ rout_any u (x / y) W hu (Nat.le_trans hg.1 (by omega)) (Nat.le_trans hg.2 (by omega))).mono fun e w' ⟨he,hb⟩ => ⟨he,hb,adS_step hS hb⟩)
 have H := Lib.hid (And.intro hb0 (And.intro r0 (And.intro r1 r2)))
 obtain ⟨ea0,ea1,-,-⟩ := r0.cells2
 obtain ⟨eb0,eb1,-,-⟩ := r1.cells2
 have HZ := Lib.hid (fun e => hy0 ((n48_zero hb).1 e))
 clear ha hb hg hsk hb0 r0 r1 r2 hy0
 go_enter Tryz.func33,Tryz.ntmps33
 go_wp2_with fail
 rw [← hV]
 clear hV
 refine (Ra _).mono ?_
 rintro e w1 ⟨rfl,hb⟩
 obtain ⟨hb0,r0,r1,r2⟩ := H.out
 have s0 := r0.call hb
 have s1 := r1.call hb
 have HA := Lib.hid (And.intro (belowt hb0 hb0.size hb) (And.intro s0 (And.intro s1 (r2.call hb))))
 clear hb0 r0 r1 r2 hb ea0 ea1 eb0 eb1 Ra
 obtain ⟨ea0,ea1,-,-⟩ := s0.cells2
 obtain ⟨eb0,eb1,-,-⟩ := s1.cells2
 clear s0 s1
 go_wp2_with fail
 refine (Rb _).mono ?_
 rintro e w2 ⟨rfl,hb⟩
 obtain ⟨hb0,r0,r1,r2⟩ := HA.out
 have s0 := r0.call hb
 have s1 := r1.call hb
 clear ea0 ea1 eb0 eb1 Rb
 obtain ⟨ea0,ea1,-,-⟩ := s0.cells2
 obtain ⟨eb0,eb1,-,-⟩ := s1.cells2
 have hS0 : AdS w a1 a2 b1 b2 w2 := ⟨⟨belowt hb0 hb0.size hb,(r2.call hb).boxF⟩,ea0,ea1,eb0,eb1⟩
 clear hb0 r0 r1 r2 hb s0 s1
 have hz : (b1 == [48]) = false := beq_eq_false_iff_ne.2 HZ.out
 go_wp2_with fail
 clear ea0 ea1 eb0 eb1
 have hS1 := adS_drew hS0
 clear hS0
 go_region_held3 (fun W => (Below w.heap.size w W ∧ BoxF W (w.heap.size + 1 + 1)) ∧ W.cell? ⟨w.heap.size,0,none⟩ = some (.string ⟨a1.toArray⟩) ∧ W.cell? ⟨w.heap.size,1,none⟩ = some (.string ⟨a2.toArray⟩) ∧ W.cell? ⟨w.heap.size + 1,0,none⟩ = some (.string ⟨b1.toArray⟩) ∧ W.cell? ⟨w.heap.size + 1,1,none⟩ = some (.string ⟨b2.toArray⟩)) (first | with_reducible assumption | exact ⟨⟨hS1.1.1,hS1.1.2⟩,hS1.2⟩ | (refine adS_store ?_ _ _;with_reducible assumption))
  (first
   | (go_at_call 67;with_reducible refine (H1.out _ ?_).mono ?_;with_reducible assumption;rintro e w3 ⟨A3,n3,c3,k3,Ax3,nx3,cx3,kx3,rfl,hq3,hb3,hS3⟩)
   | (go_at_call 67;with_reducible refine (H2.out _ ?_).mono ?_;with_reducible assumption;rintro e w4 ⟨A4,n4,c4,k4,Ax4,nx4,cx4,kx4,rfl,hq4,hb4,hS4⟩;(first | have hq3 := hq3.below hb4 | have hq3 := (PlV.old hq3).below hb4))
   | (go_at_call 82;with_reducible refine (H3.out _ _ _ ?_ ?_ ?_).mono ?_;(first | with_reducible assumption | (with_reducible refine PlV.old ?_;with_reducible assumption));(first | with_reducible assumption | (with_reducible refine PlV.old ?_;with_reducible assumption));with_reducible assumption;rintro e w5 ⟨A5,n5,c5,k5,Ax5,nx5,cx5,kx5,rfl,hq5,hb5,hS5⟩)
   | (go_at_call 55;with_reducible refine (H4.out _ _ ?_ ?_).mono ?_;(first | with_reducible assumption | (with_reducible refine PlV.old ?_;with_reducible assumption));with_reducible assumption;rintro e w6 ⟨rfl,hb6,hS6⟩;obtain ⟨⟨q0,y0⟩,⟨q1,y1⟩,y2,y3⟩ := hS6.1.2.facts))
 go_wp2_with fail
 exact bodyPost_ret (v := .tuple #[.agg #[.string s,.string t],.int .i64 k]) (by simp [results,Tryz.results33,go_sem,y0,y1]) rfl ⟨rfl,below_set2 hS6.1.1 (by omega)⟩
set_option maxRecDepth 100000 in
set_option maxHeartbeats 4000000 in
theorem rqdiv_zero (a1 a2 b1 b2 : List UInt8) (x : Rat) (w : World) (ha : rdF a1 a2 = some x) (hb : rdF b1 b2 = some 0) :
 Calls Tryz.prog 33 #[.agg #[.string ⟨a1.toArray⟩,.string ⟨a2.toArray⟩],.agg #[.string ⟨b1.toArray⟩,.string ⟨b2.toArray⟩]] w fun e w' => e = .returned (noF 7) ∧ Below w.heap.size w w' := by
 have HZ := Lib.hid ((n48_zero hb).2 rfl)
 obtain ⟨V,hV⟩ : ∃ V,V = (((w.alloc (.cells #[.string ⟨a1.toArray⟩,.string ⟨a2.toArray⟩] 24)).alloc (.cells #[.string ⟨b1.toArray⟩,.string ⟨b2.toArray⟩] 24)).alloc (.cells #[.string ⟨#[]⟩,.string ⟨#[]⟩] 24)) := ⟨_,rfl⟩
 have hb0 : Below w.heap.size w V := by rw [hV];exact (((Below.refl _ _).alloc (Nat.le_refl _) _).alloc (by simp) _).alloc (by simp;omega) _
 have r0 : Fr V (w.heap.size) #[.string ⟨a1.toArray⟩,.string ⟨a2.toArray⟩] 24 := by rw [hV];exact (Fr.new rfl).old.old
 have r1 : Fr V (w.heap.size + 1) #[.string ⟨b1.toArray⟩,.string ⟨b2.toArray⟩] 24 := by rw [hV];exact (Fr.new (by simp)).old
 have r2 : Fr V (w.heap.size + 1 + 1) #[.string ⟨#[]⟩,.string ⟨#[]⟩] 24 := by rw [hV];exact Fr.new (by simp)
 have Ra := fun W => rright_yes ha W
 have Rb := fun W => rright_yes hb W
 have H := Lib.hid (And.intro hb0 (And.intro r0 (And.intro r1 r2)))
 obtain ⟨ea0,ea1,-,-⟩ := r0.cells2
 obtain ⟨eb0,eb1,-,-⟩ := r1.cells2
 have hf0 := fr_built0
 clear ha hb hb0 r0 r1 r2
 go_enter Tryz.func33,Tryz.ntmps33
 go_wp2_with fail
 rw [← hV]
 clear hV
 refine (Ra _).mono ?_
 rintro e w1 ⟨rfl,hb⟩
 obtain ⟨hb0,r0,r1,r2⟩ := H.out
 have s0 := r0.call hb
 have s1 := r1.call hb
 have HA := Lib.hid (And.intro (belowt hb0 hb0.size hb) (And.intro s0 (And.intro s1 (r2.call hb))))
 clear hb0 r0 r1 r2 hb ea0 ea1 eb0 eb1 Ra
 obtain ⟨ea0,ea1,-,-⟩ := s0.cells2
 obtain ⟨eb0,eb1,-,-⟩ := s1.cells2
 clear s0 s1
 go_wp2_with fail
 refine (Rb _).mono ?_
 rintro e w2 ⟨rfl,hb⟩
 obtain ⟨hb0,r0,r1,r2⟩ := HA.out
 have s1 := r1.call hb
 have hbn := Lib.hid (belowt hb0 hb0.size hb)
 clear ea0 ea1 eb0 eb1 Rb
 obtain ⟨eb0,eb1,-,-⟩ := s1.cells2
 obtain ⟨y0,y1,z0,z1⟩ := (r2.call hb).cells2
 have hz : b1 = [48] := HZ.out
 clear hb0 r0 r1 r2 hb s1
 go_wp2_with fail
 exact bodyPost_ret (v := noF 7) (by simp [results,Tryz.results33,go_sem,y0,y1]) rfl ⟨rfl,below_set2 hbn.out (by omega)⟩
set_option maxRecDepth 100000 in
set_option maxHeartbeats 4000000 in
theorem rneg_none0 (a1 a2 : List UInt8) (w : World)  (la : a1.length ≤ 1000000 ∧ a2.length ≤ 1000000) (hn : rdF a1 a2 = none) :
 Calls Tryz.prog 35 #[.agg #[.string ⟨a1.toArray⟩,.string ⟨a2.toArray⟩]] w fun e w' => e = .returned (noF 20) ∧ Below w.heap.size w w' := by
 obtain ⟨V,hV⟩ : ∃ V,V = ((w.alloc (.cells #[.string ⟨a1.toArray⟩,.string ⟨a2.toArray⟩] 24)).alloc (.cells #[.string ⟨#[]⟩,.string ⟨#[]⟩] 24)) := ⟨_,rfl⟩
 have hb0 : Below w.heap.size w V := by rw [hV];exact ((Below.refl _ _).alloc (Nat.le_refl _) _).alloc (by simp) _
 have r0 : Fr V (w.heap.size) #[.string ⟨a1.toArray⟩,.string ⟨a2.toArray⟩] 24 := by rw [hV];exact (Fr.new rfl).old
 have r1 : Fr V (w.heap.size + 1) #[.string ⟨#[]⟩,.string ⟨#[]⟩] 24 := by rw [hV];exact (Fr.new (by simp))
 have Ra := fun W => rright_not la hn W
 have H := Lib.hid (And.intro hb0 (And.intro r0 r1))
 obtain ⟨ea0,ea1,-,-⟩ := r0.cells2
 have hf0 := fr_built0
 clear hb0 hn r0 r1  la
 go_enter Tryz.func35,Tryz.ntmps35
 go_wp2_with fail
 rw [← hV]
 clear hV
 refine (Ra _).mono ?_
 rintro e w1 ⟨rfl,hb⟩
 obtain ⟨hb0,r0,r1⟩ := H.out
 have hbn := belowt hb0 hb0.size hb
 have s0 := r0.call hb
 have s1 := r1.call hb
 have H1 := Lib.hid (And.intro hbn (And.intro s0 s1))
 clear hb0 hb hbn r0 r1 ea0 ea1 Ra
 obtain ⟨ea0,ea1,-,-⟩ := s0.cells2
 obtain ⟨y0,y1,z0,z1⟩ := s1.cells2
 clear s0 s1
 go_wp2_with fail
 exact bodyPost_ret (v := noF 20) (by simp [results,Tryz.results35,go_sem,y0,y1]) rfl ⟨rfl,below_set2 H1.out.1 (by omega)⟩
set_option maxRecDepth 100000 in
set_option maxHeartbeats 4000000 in
theorem rqneg_some (a1 a2 : List UInt8) (x : Rat) (w : World) (ha : rdF a1 a2 = some x) :
 Calls Tryz.prog 35 #[.agg #[.string ⟨a1.toArray⟩,.string ⟨a2.toArray⟩]] w fun e w' => e = .returned (outF (-x)) ∧ Below w.heap.size w w' := by
 have hg := (gz_rd ha).neg
 obtain ⟨s,t,k,hsk⟩ := outF_open (-x)
 rw [hsk]
 have O := fun W v (hv : RqV W v (-x)) => rout_any v (-x) W hv (Nat.le_trans hg.1 (by omega)) (Nat.le_trans hg.2 (by omega))
 rw [hsk] at O
 have HO := Lib.hid O
 clear hg O hsk
 obtain ⟨V,hV⟩ : ∃ V,V = ((w.alloc (.cells #[.string ⟨a1.toArray⟩,.string ⟨a2.toArray⟩] 24)).alloc (.cells #[.string ⟨#[]⟩,.string ⟨#[]⟩] 24)) := ⟨_,rfl⟩
 have hb0 : Below w.heap.size w V := by rw [hV];exact ((Below.refl _ _).alloc (Nat.le_refl _) _).alloc (by simp) _
 have r0 : Fr V (w.heap.size) #[.string ⟨a1.toArray⟩,.string ⟨a2.toArray⟩] 24 := by rw [hV];exact (Fr.new rfl).old
 have r1 : Fr V (w.heap.size + 1) #[.string ⟨#[]⟩,.string ⟨#[]⟩] 24 := by rw [hV];exact Fr.new (by simp)
 have Ra := fun W => rright_yes ha W
 have Ia := fun W => rin_any a1 a2 x W ha
 have H := Lib.hid (And.intro hb0 (And.intro r0 r1))
 obtain ⟨ea0,ea1,-,-⟩ := r0.cells2
 clear ha hb0 r0 r1
 go_enter Tryz.func35,Tryz.ntmps35
 go_wp2_with fail
 rw [← hV]
 clear hV
 refine (Ra _).mono ?_
 rintro e w1 ⟨rfl,hb⟩
 obtain ⟨hb0,r0,r1⟩ := H.out
 have s0 := r0.call hb
 have HA := Lib.hid (And.intro (belowt hb0 hb0.size hb) (r1.call hb))
 clear hb0 r0 r1 hb ea0 ea1 Ra
 obtain ⟨ea0,ea1,-,-⟩ := s0.cells2
 clear s0
 go_wp2_with fail
 refine (Ia _).mono ?_
 rintro e w2 ⟨v2,rfl,q2,hb⟩
 obtain ⟨A2,n2,c2,k2,A3,n3,c3,k3,rfl,-,-⟩ := RqV.open q2
 have HB := Lib.hid (And.intro (belowt HA.out.1 HA.out.1.size hb) (HA.out.2.call hb))
 clear hb ea0 ea1 Ia
 have hT := rqturn_any _ x w2 q2
 clear q2
 go_wp2_with fail
 refine hT.mono ?_
 rintro e w3 ⟨v3,rfl,q3,hb⟩
 have hO := HO.out w3 v3 q3
 obtain ⟨A4,n4,c4,k4,A5,n5,c5,k5,rfl,-,-⟩ := RqV.open q3
 have HC := Lib.hid (And.intro (belowt HB.out.1 HB.out.1.size hb) (HB.out.2.call hb))
 clear hb hT q3
 go_wp2_with fail
 refine hO.mono ?_
 rintro e w4 ⟨rfl,hb⟩
 have hbn := Lib.hid (belowt HC.out.1 HC.out.1.size hb)
 obtain ⟨y0,y1,z0,z1⟩ := (HC.out.2.call hb).cells2
 clear hb hO
 go_wp2_with fail
 exact bodyPost_ret (v := .tuple #[.agg #[.string s,.string t],.int .i64 k]) (by simp [results,Tryz.results35,go_sem,y0,y1]) rfl ⟨rfl,below_set2 hbn.out (by omega)⟩
end Go.Proofs.YtlfgpmnjnpdkdaaGreatDoor
namespace Go.Proofs.YtlfgpmnjnpdkdaaGreatDoor
open Go.RowKit Vd
attribute [local go_sem ↓] Go.wp_at_zero Go.wp_at_succ
end Go.Proofs.YtlfgpmnjnpdkdaaGreatDoor
namespace Go.Proofs.YtlfgpmnjnpdkdaaGreatDoor
open Go.RowKit Vd
attribute [local go_sem ↓] Go.wp_at_zero Go.wp_at_succ
end Go.Proofs.YtlfgpmnjnpdkdaaGreatDoor
namespace Go.Proofs.YtlfgpmnjnpdkdaaGreatDoor
open Go.RowKit Vd
attribute [local go_sem ↓] Go.wp_at_zero Go.wp_at_succ
end Go.Proofs.YtlfgpmnjnpdkdaaGreatDoor
namespace Go.Proofs.YtlfgpmnjnpdkdaaGreatDoor
open Go.RowKit Vd
theorem absQ_eq (x : Rat) : mkRat (x.num.natAbs : Int) x.den = if 0 ≤ x.num then x else -x := by
 by_cases h : 0 ≤ x.num
 · rw [if_pos h,Int.natAbs_of_nonneg h];exact Rat.mkRat_self x
 · rw [if_neg h,show (x.num.natAbs : Int) = (-x).num from by rw [show (-x).num = -x.num from rfl];omega]
   exact Rat.mkRat_self (-x)
theorem nearZ_abs (x : Rat) (s : Int) : (nearZ x s).natAbs ≤ 2 * (x.num.natAbs * s.natAbs) + x.den := by
 unfold nearZ
 refine Nat.le_trans (Int.natAbs_ediv_le_natAbs _ _) ?_
 have h1 := Int.natAbs_add_le (x.num * s + x.num * s) (x.den : Int)
 have h2 := Int.natAbs_add_le (x.num * s) (x.num * s)
 rw [Int.natAbs_mul] at h2
 rw [Int.natAbs_natCast] at h1
 omega
end Go.Proofs.YtlfgpmnjnpdkdaaGreatDoor
namespace Go.Proofs.YtlfgpmnjnpdkdaaGreatDoor
open Go.RowKit Vd
theorem kept4 {V V' : World} (h : Below V.heap.size V V') (g : Nat) (hg : g < V.heap.size) : V'.cell? ⟨g,0,none⟩ = V.cell? ⟨g,0,none⟩ ∧ V'.frozen? ⟨g,0,none⟩ = V.frozen? ⟨g,0,none⟩ ∧ V'.cell? ⟨g,1,none⟩ = V.cell? ⟨g,1,none⟩ ∧ V'.frozen? ⟨g,1,none⟩ = V.frozen? ⟨g,1,none⟩ ∧ g < V'.heap.size ∧ g ≠ V'.heap.size :=
 ⟨(kept2 h).1 g 0 hg,(kept2 h).2 g 0 hg,(kept2 h).1 g 1 hg,(kept2 h).2 g 1 hg,Nat.lt_of_lt_of_le hg h.size,Nat.ne_of_lt (Nat.lt_of_lt_of_le hg h.size)⟩
end Go.Proofs.YtlfgpmnjnpdkdaaGreatDoor
namespace Go.Proofs.YtlfgpmnjnpdkdaaGreatDoor
open Go.RowKit Vd
attribute [local go_sem ↓] Go.wp_at_zero Go.wp_at_succ
theorem absQ_parts (x : Rat) : (mkRat (x.num.natAbs : Int) x.den).num = (x.num.natAbs : Int) ∧ (mkRat (x.num.natAbs : Int) x.den).den = x.den := by
 rw [absQ_eq]
 by_cases h : 0 ≤ x.num
 · rw [if_pos h];exact ⟨(Int.natAbs_of_nonneg h).symm,rfl⟩
 · rw [if_neg h];exact ⟨by rw [show (-x).num = -x.num from rfl];omega,rfl⟩
theorem PlV.absZ {w : World} {A : Option Addr} {n c : Nat} {k : Bool} {z : Int} (h : PlV w (.agg #[.bool k,.slice A n c]) z) : PlV w (.agg #[.bool false,.slice A n c]) (z.natAbs : Int) := by
 obtain ⟨m,e,hm⟩ := h
 simp only [Value.agg.injEq,Array.mk.injEq,List.cons.injEq,and_true] at e
 refine ⟨m,?_,by rw [Int.natAbs_natCast];exact hm⟩
 rw [← e.2,decide_eq_false (show ¬ ((z.natAbs : Int) < 0) by omega)]
set_option maxRecDepth 100000 in
set_option maxHeartbeats 4000000 in
theorem rabsF_none0 (a1 a2 : List UInt8) (w : World)  (la : a1.length ≤ 1000000 ∧ a2.length ≤ 1000000) (hn : rdF a1 a2 = none) :
 Calls Tryz.prog 37 #[.agg #[.string ⟨a1.toArray⟩,.string ⟨a2.toArray⟩]] w fun e w' => e = .returned (noF 20) ∧ Below w.heap.size w w' := by
 obtain ⟨V,hV⟩ : ∃ V,V = ((w.alloc (.cells #[.string ⟨a1.toArray⟩,.string ⟨a2.toArray⟩] 24)).alloc (.cells #[.string ⟨#[]⟩,.string ⟨#[]⟩] 24)) := ⟨_,rfl⟩
 have hb0 : Below w.heap.size w V := by rw [hV];exact ((Below.refl _ _).alloc (Nat.le_refl _) _).alloc (by simp) _
 have r0 : Fr V (w.heap.size) #[.string ⟨a1.toArray⟩,.string ⟨a2.toArray⟩] 24 := by rw [hV];exact (Fr.new rfl).old
 have r1 : Fr V (w.heap.size + 1) #[.string ⟨#[]⟩,.string ⟨#[]⟩] 24 := by rw [hV];exact (Fr.new (by simp))
 have Ra := fun W => rright_not la hn W
 have H := Lib.hid (And.intro hb0 (And.intro r0 r1))
 obtain ⟨ea0,ea1,-,-⟩ := r0.cells2
 have hf0 := fr_built0
 clear hb0 hn r0 r1  la
 go_enter Tryz.func37,Tryz.ntmps37
 go_wp2_with fail
 rw [← hV]
 clear hV
 refine (Ra _).mono ?_
 rintro e w1 ⟨rfl,hb⟩
 obtain ⟨hb0,r0,r1⟩ := H.out
 have hbn := belowt hb0 hb0.size hb
 have s0 := r0.call hb
 have s1 := r1.call hb
 have H1 := Lib.hid (And.intro hbn (And.intro s0 s1))
 clear hb0 hb hbn r0 r1 ea0 ea1 Ra
 obtain ⟨ea0,ea1,-,-⟩ := s0.cells2
 obtain ⟨y0,y1,z0,z1⟩ := s1.cells2
 clear s0 s1
 go_wp2_with fail
 exact bodyPost_ret (v := noF 20) (by simp [results,Tryz.results37,go_sem,y0,y1]) rfl ⟨rfl,below_set2 H1.out.1 (by omega)⟩
set_option maxRecDepth 100000 in
set_option maxHeartbeats 4000000 in
theorem rabsF_some (a1 a2 : List UInt8) (x : Rat) (w : World) (ha : rdF a1 a2 = some x) :
 Calls Tryz.prog 37 #[.agg #[.string ⟨a1.toArray⟩,.string ⟨a2.toArray⟩]] w fun e w' => e = .returned (outF (mkRat (x.num.natAbs : Int) x.den)) ∧ Below w.heap.size w w' := by
 have hg := gz_rd ha
 obtain ⟨e1,e2⟩ := absQ_parts x
 obtain ⟨y,hy⟩ : ∃ y,y = mkRat (x.num.natAbs : Int) x.den := ⟨_,rfl⟩
 rw [← hy] at e1 e2 ⊢
 have hgy : Gz y 600 := ⟨by rw [e1,Int.natAbs_natCast];exact hg.1,by rw [e2];exact hg.2⟩
 obtain ⟨s,t,k,hsk⟩ := outF_open y
 rw [hsk]
 have O := fun W v (hv : RqV W v y) => rout_any v y W hv (Nat.le_trans hgy.1 (by omega)) (Nat.le_trans hgy.2 (by omega))
 rw [hsk] at O
 have HO := Lib.hid O
 have HE := Lib.hid (And.intro e1 e2)
 clear hg hgy O hsk e1 e2 hy
 obtain ⟨V,hV⟩ : ∃ V,V = ((w.alloc (.cells #[.string ⟨a1.toArray⟩,.string ⟨a2.toArray⟩] 24)).alloc (.cells #[.string ⟨#[]⟩,.string ⟨#[]⟩] 24)) := ⟨_,rfl⟩
 have hb0 : Below w.heap.size w V := by rw [hV];exact ((Below.refl _ _).alloc (Nat.le_refl _) _).alloc (by simp) _
 have r0 : Fr V (w.heap.size) #[.string ⟨a1.toArray⟩,.string ⟨a2.toArray⟩] 24 := by rw [hV];exact (Fr.new rfl).old
 have r1 : Fr V (w.heap.size + 1) #[.string ⟨#[]⟩,.string ⟨#[]⟩] 24 := by rw [hV];exact Fr.new (by simp)
 have Ra := fun W => rright_yes ha W
 have Ia := fun W => rin_any a1 a2 x W ha
 have H := Lib.hid (And.intro hb0 (And.intro r0 r1))
 obtain ⟨ea0,ea1,-,-⟩ := r0.cells2
 clear ha hb0 r0 r1
 go_enter Tryz.func37,Tryz.ntmps37
 go_wp2_with fail
 rw [← hV]
 clear hV
 refine (Ra _).mono ?_
 rintro e w1 ⟨rfl,hb⟩
 obtain ⟨hb0,r0,r1⟩ := H.out
 have s0 := r0.call hb
 have HA := Lib.hid (And.intro (belowt hb0 hb0.size hb) (r1.call hb))
 clear hb0 r0 r1 hb ea0 ea1 Ra
 obtain ⟨ea0,ea1,-,-⟩ := s0.cells2
 clear s0
 go_wp2_with fail
 refine (Ia _).mono ?_
 rintro e w2 ⟨v2,rfl,q2,hb⟩
 obtain ⟨A2,n2,c2,k2,A3,n3,c3,k3,rfl,-,-⟩ := RqV.open q2
 have HB := Lib.hid (And.intro (belowt HA.out.1 HA.out.1.size hb) (HA.out.2.call hb))
 clear hb ea0 ea1 Ia
 obtain ⟨p2,p3⟩ := RqV.parts q2
 have p2' := p2.absZ
 rw [← HE.out.1] at p2'
 rw [← HE.out.2] at p3
 obtain ⟨W,hW⟩ : ∃ W,W = w2.alloc (.cells #[.bool false,.slice A2 n2 c2,.bool k3,.slice A3 n3 c3] 90) := ⟨_,rfl⟩
 have hbW : Below w2.heap.size w2 W := by rw [hW];exact (Below.refl _ _).alloc (Nat.le_refl _) _
 have hO := HO.out W (.agg #[.bool false,.slice A2 n2 c2,.bool k3,.slice A3 n3 c3]) ⟨_,_,_,_,_,_,_,_,rfl,p2'.below hbW,p3.below hbW⟩
 have HC := Lib.hid (And.intro (belowt HB.out.1 HB.out.1.size hbW) (HB.out.2.call hbW))
 clear q2 p2 p3 p2' hbW
 go_wp2_with fail
 rw [← hW]
 refine hO.mono ?_
 rintro e w4 ⟨rfl,hb⟩
 have hbn := Lib.hid (belowt HC.out.1 HC.out.1.size hb)
 obtain ⟨y0,y1,z0,z1⟩ := (HC.out.2.call hb).cells2
 clear hb hO hW
 go_wp2_with fail
 exact bodyPost_ret (v := .tuple #[.agg #[.string s,.string t],.int .i64 k]) (by simp [results,Tryz.results37,go_sem,y0,y1]) rfl ⟨rfl,below_set2 hbn.out (by omega)⟩
end Go.Proofs.YtlfgpmnjnpdkdaaGreatDoor
namespace Go.Proofs.YtlfgpmnjnpdkdaaGreatDoor
open Go.RowKit Vd
attribute [local go_sem ↓] Go.wp_at_zero Go.wp_at_succ
theorem ext_takeF (l : List UInt8) (m : Nat) : (⟨l.toArray⟩ : ByteArray).extract 0 m = ⟨(l.take m).toArray⟩ := by
 apply ByteArray.ext
 simp
theorem len_takeF (l : List UInt8) : (l.take (min (l.length : Int) 620).toNat).length ≤ 620 := by rw [List.length_take];omega
set_option maxRecDepth 100000 in
set_option maxHeartbeats 4000000 in
theorem cutF_any (a1 a2 : List UInt8) (w : World) :
 Calls Tryz.prog 57 #[.agg #[.string ⟨a1.toArray⟩,.string ⟨a2.toArray⟩]] w fun e w' => ∃ t1 t2 : List UInt8,e = .returned (qV t1 t2) ∧ t1.length ≤ 620 ∧ t2.length ≤ 620 ∧ Below w.heap.size w w' := by
 obtain ⟨V,hV⟩ : ∃ V,V = ((w.alloc (.cells #[.string ⟨a1.toArray⟩,.string ⟨a2.toArray⟩] 24)).alloc (.cells #[.string ⟨#[]⟩,.string ⟨#[]⟩] 24)) := ⟨_,rfl⟩
 have hb0 : Below w.heap.size w V := by rw [hV];exact ((Below.refl _ _).alloc (Nat.le_refl _) _).alloc (by simp) _
 have r0 : Fr V (w.heap.size) #[.string ⟨a1.toArray⟩,.string ⟨a2.toArray⟩] 24 := by rw [hV];exact (Fr.new rfl).old
 have r1 : Fr V (w.heap.size + 1) #[.string ⟨#[]⟩,.string ⟨#[]⟩] 24 := by rw [hV];exact Fr.new (by simp)
 obtain ⟨ea0,ea1,-,-⟩ := r0.cells2
 obtain ⟨y0,y1,z0,z1⟩ := r1.cells2
 have H := Lib.hid (And.intro hb0 r1)
 have hf2 := fr_built2
 have l1 := len_takeF a1
 have l2 := len_takeF a2
 have HL := Lib.hid (And.intro l1 l2)
 clear hb0 r0 r1 l1 l2
 go_enter Tryz.func57,Tryz.ntmps57
 go_wp2_with fail
 rw [← hV]
 clear hV
 go_region
 go_wp2_with fail
 exact bodyPost_ret (v := qV (a1.take (min (a1.length : Int) 620).toNat) (a2.take (min (a2.length : Int) 620).toNat)) (by simp [results,Tryz.results57,go_sem,y0,y1,ext_takeF]) rfl ⟨_,_,rfl,HL.out.1,HL.out.2,(below_set2 H.out.1 (by omega)).drew⟩
end Go.Proofs.YtlfgpmnjnpdkdaaGreatDoor
