/- Contracts: the reference's fractions: Add, Sub, Mul, Div, Neg, Cmp, Min, Max, Clamp, Check, Sign, Of, Make. -/
import Derived.Test.YtlfgpmnjnpdkdaaGreatDoorFrfC
namespace Go.Proofs.YtlfgpmnjnpdkdaaGreatDoor
open Go.RowKit Vd
attribute [local go_sem ↓] Go.wp_at_zero Go.wp_at_succ
theorem gz_rd {l1 l2 : List UInt8} {q : Rat} (h : rdF l1 l2 = some q) : Gz q 600 := by
 have h1 := rdF_small h
 obtain ⟨e1,e2⟩ := h1
 unfold small at e1 e2
 rw [maxDigits_eq] at e1 e2
 rw [Int.natAbs_natCast] at e2
 exact ⟨w4_one e1,by have := w4_one (z := (q.den : Int)) (by rw [Int.natAbs_natCast];exact e2);rwa [Int.natAbs_natCast] at this⟩
theorem Gz.add {x y : Rat} {K L : Nat} (hx : Gz x K) (hy : Gz y L) : Gz (x + y) (K + L + 1) := by
 rw [← add_divInt]
 refine Gz.divInt (Int.mul_ne_zero (by have := x.den_pos;omega) (by have := y.den_pos;omega)) ?_ ?_
 · refine Nat.le_trans (wlen_mono two_le_B4 (Int.natAbs_add_le _ _)) ?_
   have := wlen_add two_le_B4 (x.num * (y.den : Int)).natAbs (y.num * (x.den : Int)).natAbs
   have h1 := Nat.le_trans (wl4_mulZ x.num (y.den : Int)) (Nat.add_le_add hx.1 (gz_den hy))
   have h2 := Nat.le_trans (wl4_mulZ y.num (x.den : Int)) (Nat.add_le_add hy.1 (gz_den hx))
   omega
 · have := Nat.le_trans (wl4_mulZ (x.den : Int) (y.den : Int)) (Nat.add_le_add (gz_den hx) (gz_den hy));omega
theorem Gz.sub {x y : Rat} {K L : Nat} (hx : Gz x K) (hy : Gz y L) : Gz (x - y) (K + L + 1) := by
 rw [Rat.sub_eq_add_neg];exact hx.add hy.neg
theorem Gz.mul {x y : Rat} {K L : Nat} (hx : Gz x K) (hy : Gz y L) : Gz (x * y) (K + L + 1) := by
 rw [← mul_divInt]
 refine Gz.divInt (Int.mul_ne_zero (by have := x.den_pos;omega) (by have := y.den_pos;omega)) ?_ ?_
 · have := Nat.le_trans (wl4_mulZ x.num y.num) (Nat.add_le_add hx.1 hy.1);omega
 · have := Nat.le_trans (wl4_mulZ (x.den : Int) (y.den : Int)) (Nat.add_le_add (gz_den hx) (gz_den hy));omega
theorem Gz.over {x y : Rat} {K L : Nat} (hx : Gz x K) (hy : Gz y L) (h : y ≠ 0) : Gz (x / y) (K + L + 1) := by
 rw [← over_divInt]
 refine Gz.divInt (Int.mul_ne_zero (by have := x.den_pos;omega) (fun e => h (Rat.num_eq_zero.1 e))) ?_ ?_
 · have := Nat.le_trans (wl4_mulZ x.num (y.den : Int)) (Nat.add_le_add hx.1 (gz_den hy));omega
 · have := Nat.le_trans (wl4_mulZ (x.den : Int) y.num) (Nat.add_le_add (gz_den hx) hy.1);omega
theorem rd_lens {l1 l2 : List UInt8} {q : Rat} (h : rdF l1 l2 = some q) : l1.length ≤ 1000000 ∧ l2.length ≤ 1000000 := ⟨rd_len (rdF_some h).1,rd_len (rdF_some h).2⟩
theorem rright_yes {l1 l2 : List UInt8} {q : Rat} (h : rdF l1 l2 = some q) (w : World) :
 Calls Tryz.prog 65 #[.agg #[.string ⟨l1.toArray⟩,.string ⟨l2.toArray⟩]] w fun e w' => e = .returned (.bool true) ∧ Below w.heap.size w w' := by
 have := rright_any l1 l2 (rd_lens h).1 (rd_lens h).2 w
 rwa [h] at this
theorem rright_not {l1 l2 : List UInt8} (hl : l1.length ≤ 1000000 ∧ l2.length ≤ 1000000) (h : rdF l1 l2 = none) (w : World) :
 Calls Tryz.prog 65 #[.agg #[.string ⟨l1.toArray⟩,.string ⟨l2.toArray⟩]] w fun e w' => e = .returned (.bool false) ∧ Below w.heap.size w w' := by
 have := rright_any l1 l2 hl.1 hl.2 w
 rwa [h] at this
abbrev AdS (w : World) (a1 a2 b1 b2 : List UInt8) (W : World) : Prop := (Below w.heap.size w W ∧ BoxF W (w.heap.size + 1 + 1)) ∧ W.cell? ⟨w.heap.size,0,none⟩ = some (.string ⟨a1.toArray⟩) ∧ W.cell? ⟨w.heap.size,1,none⟩ = some (.string ⟨a2.toArray⟩) ∧ W.cell? ⟨w.heap.size + 1,0,none⟩ = some (.string ⟨b1.toArray⟩) ∧ W.cell? ⟨w.heap.size + 1,1,none⟩ = some (.string ⟨b2.toArray⟩)
theorem adS_step {w : World} {a1 a2 b1 b2 : List UInt8} {W W' : World} (h : AdS w a1 a2 b1 b2 W) (hb : Below W.heap.size W W') : AdS w a1 a2 b1 b2 W' := by
 obtain ⟨⟨hb0,hB⟩,e0,e1,e2,e3⟩ := h
 exact ⟨⟨belowt hb0 hb0.size hb,hB.call hb⟩,keepc hb e0,keepc hb e1,keepc hb e2,keepc hb e3⟩
theorem adS_drew {w : World} {a1 a2 b1 b2 : List UInt8} {W : World} (h : AdS w a1 a2 b1 b2 W) : AdS w a1 a2 b1 b2 W.drew := by
 obtain ⟨⟨hb0,hB⟩,e0,e1,e2,e3⟩ := h
 exact ⟨⟨hb0.drew,hB⟩,e0,e1,e2,e3⟩
theorem adS_store {w : World} {a1 a2 b1 b2 : List UInt8} {W : World} (h : AdS w a1 a2 b1 b2 W) (s t : ByteArray) : AdS w a1 a2 b1 b2 (sto2 W (w.heap.size + 1 + 1) (.string s) (.string t)) := by
 obtain ⟨⟨hb0,hB⟩,e0,e1,e2,e3⟩ := h
 exact ⟨⟨below_set2 hb0 (by omega),hB.sets _ _⟩,(cell_set2 (by omega)).trans e0,(cell_set2 (by omega)).trans e1,(cell_set2 (by omega)).trans e2,(cell_set2 (by omega)).trans e3⟩
set_option maxRecDepth 100000 in
set_option maxHeartbeats 4000000 in
theorem radd_none0 (a1 a2 b1 b2 : List UInt8) (w : World)  (la : a1.length ≤ 1000000 ∧ a2.length ≤ 1000000) (hn : rdF a1 a2 = none) :
 Calls Tryz.prog 30 #[.agg #[.string ⟨a1.toArray⟩,.string ⟨a2.toArray⟩],.agg #[.string ⟨b1.toArray⟩,.string ⟨b2.toArray⟩]] w fun e w' => e = .returned (noF 20) ∧ Below w.heap.size w w' := by
 obtain ⟨V,hV⟩ : ∃ V,V = (((w.alloc (.cells #[.string ⟨a1.toArray⟩,.string ⟨a2.toArray⟩] 24)).alloc (.cells #[.string ⟨b1.toArray⟩,.string ⟨b2.toArray⟩] 24)).alloc (.cells #[.string ⟨#[]⟩,.string ⟨#[]⟩] 24)) := ⟨_,rfl⟩
 have hb0 : Below w.heap.size w V := by rw [hV];exact (((Below.refl _ _).alloc (Nat.le_refl _) _).alloc (by simp) _).alloc (by simp;omega) _
 have r0 : Fr V (w.heap.size) #[.string ⟨a1.toArray⟩,.string ⟨a2.toArray⟩] 24 := by rw [hV];exact (Fr.new rfl).old.old
 have r1 : Fr V (w.heap.size + 1) #[.string ⟨b1.toArray⟩,.string ⟨b2.toArray⟩] 24 := by rw [hV];exact (Fr.new (by simp)).old
 have r2 : Fr V (w.heap.size + 1 + 1) #[.string ⟨#[]⟩,.string ⟨#[]⟩] 24 := by rw [hV];exact (Fr.new (by simp))
 have Ra := fun W => rright_not la hn W
 have H := Lib.hid (And.intro hb0 (And.intro r0 (And.intro r1 r2)))
 obtain ⟨ea0,ea1,-,-⟩ := r0.cells2
 obtain ⟨eb0,eb1,-,-⟩ := r1.cells2
 have hf0 := fr_built0
 clear hb0 hn r0 r1 r2  la
 go_enter Tryz.func30,Tryz.ntmps30
 go_wp2_with fail
 rw [← hV]
 clear hV
 refine (Ra _).mono ?_
 rintro e w1 ⟨rfl,hb⟩
 obtain ⟨hb0,r0,r1,r2⟩ := H.out
 have hbn := belowt hb0 hb0.size hb
 have s0 := r0.call hb
 have s1 := r1.call hb
 have s2 := r2.call hb
 have H1 := Lib.hid (And.intro hbn (And.intro s0 (And.intro s1 s2)))
 clear hb0 hb hbn r0 r1 r2 ea0 ea1 eb0 eb1 Ra
 obtain ⟨ea0,ea1,-,-⟩ := s0.cells2
 obtain ⟨eb0,eb1,-,-⟩ := s1.cells2
 obtain ⟨y0,y1,z0,z1⟩ := s2.cells2
 clear s0 s1 s2
 go_wp2_with fail
 exact bodyPost_ret (v := noF 20) (by simp [results,Tryz.results30,go_sem,y0,y1]) rfl ⟨rfl,below_set2 H1.out.1 (by omega)⟩
set_option maxRecDepth 100000 in
set_option maxHeartbeats 4000000 in
theorem radd_none1 (a1 a2 b1 b2 : List UInt8) (x : Rat) (w : World) (ha : rdF a1 a2 = some x) (lb : b1.length ≤ 1000000 ∧ b2.length ≤ 1000000) (hn : rdF b1 b2 = none) :
 Calls Tryz.prog 30 #[.agg #[.string ⟨a1.toArray⟩,.string ⟨a2.toArray⟩],.agg #[.string ⟨b1.toArray⟩,.string ⟨b2.toArray⟩]] w fun e w' => e = .returned (noF 20) ∧ Below w.heap.size w w' := by
 obtain ⟨V,hV⟩ : ∃ V,V = (((w.alloc (.cells #[.string ⟨a1.toArray⟩,.string ⟨a2.toArray⟩] 24)).alloc (.cells #[.string ⟨b1.toArray⟩,.string ⟨b2.toArray⟩] 24)).alloc (.cells #[.string ⟨#[]⟩,.string ⟨#[]⟩] 24)) := ⟨_,rfl⟩
 have hb0 : Below w.heap.size w V := by rw [hV];exact (((Below.refl _ _).alloc (Nat.le_refl _) _).alloc (by simp) _).alloc (by simp;omega) _
 have r0 : Fr V (w.heap.size) #[.string ⟨a1.toArray⟩,.string ⟨a2.toArray⟩] 24 := by rw [hV];exact (Fr.new rfl).old.old
 have r1 : Fr V (w.heap.size + 1) #[.string ⟨b1.toArray⟩,.string ⟨b2.toArray⟩] 24 := by rw [hV];exact (Fr.new (by simp)).old
 have r2 : Fr V (w.heap.size + 1 + 1) #[.string ⟨#[]⟩,.string ⟨#[]⟩] 24 := by rw [hV];exact (Fr.new (by simp))
 have Ra := fun W => rright_yes ha W
 have Rb := fun W => rright_not lb hn W
 have H := Lib.hid (And.intro hb0 (And.intro r0 (And.intro r1 r2)))
 obtain ⟨ea0,ea1,-,-⟩ := r0.cells2
 obtain ⟨eb0,eb1,-,-⟩ := r1.cells2
 have hf0 := fr_built0
 clear hb0 hn r0 r1 r2 ha lb
 go_enter Tryz.func30,Tryz.ntmps30
 go_wp2_with fail
 rw [← hV]
 clear hV
 refine (Ra _).mono ?_
 rintro e w1 ⟨rfl,hb⟩
 obtain ⟨hb0,r0,r1,r2⟩ := H.out
 have hbn := belowt hb0 hb0.size hb
 have s0 := r0.call hb
 have s1 := r1.call hb
 have s2 := r2.call hb
 have H1 := Lib.hid (And.intro hbn (And.intro s0 (And.intro s1 s2)))
 clear hb0 hb hbn r0 r1 r2 ea0 ea1 eb0 eb1 Ra
 obtain ⟨ea0,ea1,-,-⟩ := s0.cells2
 obtain ⟨eb0,eb1,-,-⟩ := s1.cells2
 clear s0 s1 s2
 go_wp2_with fail
 refine (Rb _).mono ?_
 rintro e w2 ⟨rfl,hb⟩
 obtain ⟨hb0,r0,r1,r2⟩ := H1.out
 have hbn := belowt hb0 hb0.size hb
 have s0 := r0.call hb
 have s1 := r1.call hb
 have s2 := r2.call hb
 have H2 := Lib.hid (And.intro hbn (And.intro s0 (And.intro s1 s2)))
 clear hb0 hb hbn r0 r1 r2 ea0 ea1 eb0 eb1 Rb
 obtain ⟨ea0,ea1,-,-⟩ := s0.cells2
 obtain ⟨eb0,eb1,-,-⟩ := s1.cells2
 obtain ⟨y0,y1,z0,z1⟩ := s2.cells2
 clear s0 s1 s2
 go_wp2_with fail
 exact bodyPost_ret (v := noF 20) (by simp [results,Tryz.results30,go_sem,y0,y1]) rfl ⟨rfl,below_set2 H2.out.1 (by omega)⟩
set_option maxRecDepth 100000 in
set_option maxHeartbeats 4000000 in
theorem rqadd_some (a1 a2 b1 b2 : List UInt8) (x y : Rat) (w : World) (ha : rdF a1 a2 = some x) (hb : rdF b1 b2 = some y) :
 Calls Tryz.prog 30 #[.agg #[.string ⟨a1.toArray⟩,.string ⟨a2.toArray⟩],.agg #[.string ⟨b1.toArray⟩,.string ⟨b2.toArray⟩]] w fun e w' => e = .returned (outF (x + y)) ∧ Below w.heap.size w w' := by
 have hg := Gz.add (gz_rd ha) (gz_rd hb)
 obtain ⟨s,t,k,hsk⟩ := outF_open (x + y)
 rw [hsk]
 obtain ⟨V,hV⟩ : ∃ V,V = (((w.alloc (.cells #[.string ⟨a1.toArray⟩,.string ⟨a2.toArray⟩] 24)).alloc (.cells #[.string ⟨b1.toArray⟩,.string ⟨b2.toArray⟩] 24)).alloc (.cells #[.string ⟨#[]⟩,.string ⟨#[]⟩] 24)) := ⟨_,rfl⟩
 have hb0 : Below w.heap.size w V := by rw [hV];exact (((Below.refl _ _).alloc (Nat.le_refl _) _).alloc (by simp) _).alloc (by simp;omega) _
 have r0 : Fr V (w.heap.size) #[.string ⟨a1.toArray⟩,.string ⟨a2.toArray⟩] 24 := by rw [hV];exact (Fr.new rfl).old.old
 have r1 : Fr V (w.heap.size + 1) #[.string ⟨b1.toArray⟩,.string ⟨b2.toArray⟩] 24 := by rw [hV];exact (Fr.new (by simp)).old
 have r2 : Fr V (w.heap.size + 1 + 1) #[.string ⟨#[]⟩,.string ⟨#[]⟩] 24 := by rw [hV];exact Fr.new (by simp)
 have Ra := fun W => rright_yes ha W
 have Rb := fun W => rright_yes hb W
 have H1 : Hid (∀ W,AdS w a1 a2 b1 b2 W → Calls Tryz.prog 67 #[.agg #[.string ⟨a1.toArray⟩,.string ⟨a2.toArray⟩]] W fun e w' => ∃ (A : Option Addr) (n c : Nat) (k : Bool) (A' : Option Addr) (n' c' : Nat) (k' : Bool),e = .returned (.agg #[.bool k,.slice A n c,.bool k',.slice A' n' c']) ∧ RqV w' (.agg #[.bool k,.slice A n c,.bool k',.slice A' n' c']) (x) ∧ Below W.heap.size W w' ∧ AdS w a1 a2 b1 b2 w') := Lib.hid (fun W hS => (rin_any a1 a2 x W ha).mono fun e w' ⟨v,he,hv,hb⟩ => by
  obtain ⟨A,n,c,k,A',n',c',k',rfl,_,_⟩ := RqV.open hv
  exact ⟨A,n,c,k,A',n',c',k',he,hv,hb,adS_step hS hb⟩)
 have H2 : Hid (∀ W,AdS w a1 a2 b1 b2 W → Calls Tryz.prog 67 #[.agg #[.string ⟨b1.toArray⟩,.string ⟨b2.toArray⟩]] W fun e w' => ∃ (A : Option Addr) (n c : Nat) (k : Bool) (A' : Option Addr) (n' c' : Nat) (k' : Bool),e = .returned (.agg #[.bool k,.slice A n c,.bool k',.slice A' n' c']) ∧ RqV w' (.agg #[.bool k,.slice A n c,.bool k',.slice A' n' c']) (y) ∧ Below W.heap.size W w' ∧ AdS w a1 a2 b1 b2 w') := Lib.hid (fun W hS => (rin_any b1 b2 y W hb).mono fun e w' ⟨v,he,hv,hb⟩ => by
  obtain ⟨A,n,c,k,A',n',c',k',rfl,_,_⟩ := RqV.open hv
  exact ⟨A,n,c,k,A',n',c',k',he,hv,hb,adS_step hS hb⟩)
 have H3 : Hid (∀ W u z,RqV W u (x) → RqV W z (y) → AdS w a1 a2 b1 b2 W → Calls Tryz.prog 79 #[u,z] W fun e w' => ∃ (A : Option Addr) (n c : Nat) (k : Bool) (A' : Option Addr) (n' c' : Nat) (k' : Bool),e = .returned (.agg #[.bool k,.slice A n c,.bool k',.slice A' n' c']) ∧ RqV w' (.agg #[.bool k,.slice A n c,.bool k',.slice A' n' c']) (x + y) ∧ Below W.heap.size W w' ∧ AdS w a1 a2 b1 b2 w') := Lib.hid (fun W u z hu hz hS => (rqplus_any u z x y 600 600 W hu hz (gz_rd ha) (gz_rd hb) (by omega)).mono fun e w' ⟨v,he,hv,hb⟩ => by
  obtain ⟨A,n,c,k,A',n',c',k',rfl,_,_⟩ := RqV.open hv
  exact ⟨A,n,c,k,A',n',c',k',he,hv,hb,adS_step hS hb⟩)
 have H4 : Hid (∀ W u,RqV W u (x + y) → AdS w a1 a2 b1 b2 W → Calls Tryz.prog 55 #[u] W fun e w' => e = .returned (.tuple #[.agg #[.string s,.string t],.int .i64 k]) ∧ Below W.heap.size W w' ∧ AdS w a1 a2 b1 b2 w') := Lib.hid (fun W u hu hS => (hsk ▸ rout_any u (x + y) W hu (Nat.le_trans hg.1 (by omega)) (Nat.le_trans hg.2 (by omega))).mono fun e w' ⟨he,hb⟩ => ⟨he,hb,adS_step hS hb⟩)
 have H := Lib.hid (And.intro hb0 (And.intro r0 (And.intro r1 r2)))
 obtain ⟨ea0,ea1,-,-⟩ := r0.cells2
 obtain ⟨eb0,eb1,-,-⟩ := r1.cells2
 clear ha hb hg hsk hb0 r0 r1 r2
 go_enter Tryz.func30,Tryz.ntmps30
 go_wp2_with fail
 rw [← hV]
 clear hV
 refine (Ra _).mono ?_
 rintro e w1 ⟨rfl,hb⟩
 obtain ⟨hb0,r0,r1,r2⟩ := H.out
 have s0 := r0.call hb
 have s1 := r1.call hb
 have HA := Lib.hid (And.intro (belowt hb0 hb0.size hb) (And.intro s0 (And.intro s1 (r2.call hb))))
 clear hb0 r0 r1 r2 hb ea0 ea1 eb0 eb1 Ra
 obtain ⟨ea0,ea1,-,-⟩ := s0.cells2
 obtain ⟨eb0,eb1,-,-⟩ := s1.cells2
 clear s0 s1
 go_wp2_with fail
 refine (Rb _).mono ?_
 rintro e w2 ⟨rfl,hb⟩
 obtain ⟨hb0,r0,r1,r2⟩ := HA.out
 have s0 := r0.call hb
 have s1 := r1.call hb
 clear ea0 ea1 eb0 eb1 Rb
 obtain ⟨ea0,ea1,-,-⟩ := s0.cells2
 obtain ⟨eb0,eb1,-,-⟩ := s1.cells2
 have hS0 : AdS w a1 a2 b1 b2 w2 := ⟨⟨belowt hb0 hb0.size hb,(r2.call hb).boxF⟩,ea0,ea1,eb0,eb1⟩
 clear hb0 r0 r1 r2 hb s0 s1
 go_wp2_with fail
 clear ea0 ea1 eb0 eb1
 have hS1 := adS_drew hS0
 clear hS0
 go_region_held3 (fun W => (Below w.heap.size w W ∧ BoxF W (w.heap.size + 1 + 1)) ∧ W.cell? ⟨w.heap.size,0,none⟩ = some (.string ⟨a1.toArray⟩) ∧ W.cell? ⟨w.heap.size,1,none⟩ = some (.string ⟨a2.toArray⟩) ∧ W.cell? ⟨w.heap.size + 1,0,none⟩ = some (.string ⟨b1.toArray⟩) ∧ W.cell? ⟨w.heap.size + 1,1,none⟩ = some (.string ⟨b2.toArray⟩)) (first | with_reducible assumption | exact ⟨⟨hS1.1.1,hS1.1.2⟩,hS1.2⟩ | (refine adS_store ?_ _ _;with_reducible assumption))
  (first
   | (go_at_call 67;with_reducible refine (H1.out _ ?_).mono ?_;with_reducible assumption;rintro e w3 ⟨A3,n3,c3,k3,Ax3,nx3,cx3,kx3,rfl,hq3,hb3,hS3⟩)
   | (go_at_call 67;with_reducible refine (H2.out _ ?_).mono ?_;with_reducible assumption;rintro e w4 ⟨A4,n4,c4,k4,Ax4,nx4,cx4,kx4,rfl,hq4,hb4,hS4⟩;(first | have hq3 := hq3.below hb4 | have hq3 := (PlV.old hq3).below hb4))
   | (go_at_call 79;with_reducible refine (H3.out _ _ _ ?_ ?_ ?_).mono ?_;(first | with_reducible assumption | (with_reducible refine PlV.old ?_;with_reducible assumption));(first | with_reducible assumption | (with_reducible refine PlV.old ?_;with_reducible assumption));with_reducible assumption;rintro e w5 ⟨A5,n5,c5,k5,Ax5,nx5,cx5,kx5,rfl,hq5,hb5,hS5⟩)
   | (go_at_call 55;with_reducible refine (H4.out _ _ ?_ ?_).mono ?_;(first | with_reducible assumption | (with_reducible refine PlV.old ?_;with_reducible assumption));with_reducible assumption;rintro e w6 ⟨rfl,hb6,hS6⟩;obtain ⟨⟨q0,y0⟩,⟨q1,y1⟩,y2,y3⟩ := hS6.1.2.facts))
 go_wp2_with fail
 exact bodyPost_ret (v := .tuple #[.agg #[.string s,.string t],.int .i64 k]) (by simp [results,Tryz.results30,go_sem,y0,y1]) rfl ⟨rfl,below_set2 hS6.1.1 (by omega)⟩
set_option maxRecDepth 100000 in
set_option maxHeartbeats 4000000 in
theorem rsub_none0 (a1 a2 b1 b2 : List UInt8) (w : World)  (la : a1.length ≤ 1000000 ∧ a2.length ≤ 1000000) (hn : rdF a1 a2 = none) :
 Calls Tryz.prog 31 #[.agg #[.string ⟨a1.toArray⟩,.string ⟨a2.toArray⟩],.agg #[.string ⟨b1.toArray⟩,.string ⟨b2.toArray⟩]] w fun e w' => e = .returned (noF 20) ∧ Below w.heap.size w w' := by
 obtain ⟨V,hV⟩ : ∃ V,V = (((w.alloc (.cells #[.string ⟨a1.toArray⟩,.string ⟨a2.toArray⟩] 24)).alloc (.cells #[.string ⟨b1.toArray⟩,.string ⟨b2.toArray⟩] 24)).alloc (.cells #[.string ⟨#[]⟩,.string ⟨#[]⟩] 24)) := ⟨_,rfl⟩
 have hb0 : Below w.heap.size w V := by rw [hV];exact (((Below.refl _ _).alloc (Nat.le_refl _) _).alloc (by simp) _).alloc (by simp;omega) _
 have r0 : Fr V (w.heap.size) #[.string ⟨a1.toArray⟩,.string ⟨a2.toArray⟩] 24 := by rw [hV];exact (Fr.new rfl).old.old
 have r1 : Fr V (w.heap.size + 1) #[.string ⟨b1.toArray⟩,.string ⟨b2.toArray⟩] 24 := by rw [hV];exact (Fr.new (by simp)).old
 have r2 : Fr V (w.heap.size + 1 + 1) #[.string ⟨#[]⟩,.string ⟨#[]⟩] 24 := by rw [hV];exact (Fr.new (by simp))
 have Ra := fun W => rright_not la hn W
 have H := Lib.hid (And.intro hb0 (And.intro r0 (And.intro r1 r2)))
 obtain ⟨ea0,ea1,-,-⟩ := r0.cells2
 obtain ⟨eb0,eb1,-,-⟩ := r1.cells2
 have hf0 := fr_built0
 clear hb0 hn r0 r1 r2  la
 go_enter Tryz.func31,Tryz.ntmps31
 go_wp2_with fail
 rw [← hV]
 clear hV
 refine (Ra _).mono ?_
 rintro e w1 ⟨rfl,hb⟩
 obtain ⟨hb0,r0,r1,r2⟩ := H.out
 have hbn := belowt hb0 hb0.size hb
 have s0 := r0.call hb
 have s1 := r1.call hb
 have s2 := r2.call hb
 have H1 := Lib.hid (And.intro hbn (And.intro s0 (And.intro s1 s2)))
 clear hb0 hb hbn r0 r1 r2 ea0 ea1 eb0 eb1 Ra
 obtain ⟨ea0,ea1,-,-⟩ := s0.cells2
 obtain ⟨eb0,eb1,-,-⟩ := s1.cells2
 obtain ⟨y0,y1,z0,z1⟩ := s2.cells2
 clear s0 s1 s2
 go_wp2_with fail
 exact bodyPost_ret (v := noF 20) (by simp [results,Tryz.results31,go_sem,y0,y1]) rfl ⟨rfl,below_set2 H1.out.1 (by omega)⟩
set_option maxRecDepth 100000 in
set_option maxHeartbeats 4000000 in
theorem rsub_none1 (a1 a2 b1 b2 : List UInt8) (x : Rat) (w : World) (ha : rdF a1 a2 = some x) (lb : b1.length ≤ 1000000 ∧ b2.length ≤ 1000000) (hn : rdF b1 b2 = none) :
 Calls Tryz.prog 31 #[.agg #[.string ⟨a1.toArray⟩,.string ⟨a2.toArray⟩],.agg #[.string ⟨b1.toArray⟩,.string ⟨b2.toArray⟩]] w fun e w' => e = .returned (noF 20) ∧ Below w.heap.size w w' := by
 obtain ⟨V,hV⟩ : ∃ V,V = (((w.alloc (.cells #[.string ⟨a1.toArray⟩,.string ⟨a2.toArray⟩] 24)).alloc (.cells #[.string ⟨b1.toArray⟩,.string ⟨b2.toArray⟩] 24)).alloc (.cells #[.string ⟨#[]⟩,.string ⟨#[]⟩] 24)) := ⟨_,rfl⟩
 have hb0 : Below w.heap.size w V := by rw [hV];exact (((Below.refl _ _).alloc (Nat.le_refl _) _).alloc (by simp) _).alloc (by simp;omega) _
 have r0 : Fr V (w.heap.size) #[.string ⟨a1.toArray⟩,.string ⟨a2.toArray⟩] 24 := by rw [hV];exact (Fr.new rfl).old.old
 have r1 : Fr V (w.heap.size + 1) #[.string ⟨b1.toArray⟩,.string ⟨b2.toArray⟩] 24 := by rw [hV];exact (Fr.new (by simp)).old
 have r2 : Fr V (w.heap.size + 1 + 1) #[.string ⟨#[]⟩,.string ⟨#[]⟩] 24 := by rw [hV];exact (Fr.new (by simp))
 have Ra := fun W => rright_yes ha W
 have Rb := fun W => rright_not lb hn W
 have H := Lib.hid (And.intro hb0 (And.intro r0 (And.intro r1 r2)))
 obtain ⟨ea0,ea1,-,-⟩ := r0.cells2
 obtain ⟨eb0,eb1,-,-⟩ := r1.cells2
 have hf0 := fr_built0
 clear hb0 hn r0 r1 r2 ha lb
 go_enter Tryz.func31,Tryz.ntmps31
 go_wp2_with fail
 rw [← hV]
 clear hV
 refine (Ra _).mono ?_
 rintro e w1 ⟨rfl,hb⟩
 obtain ⟨hb0,r0,r1,r2⟩ := H.out
 have hbn := belowt hb0 hb0.size hb
 have s0 := r0.call hb
 have s1 := r1.call hb
 have s2 := r2.call hb
 have H1 := Lib.hid (And.intro hbn (And.intro s0 (And.intro s1 s2)))
 clear hb0 hb hbn r0 r1 r2 ea0 ea1 eb0 eb1 Ra
 obtain ⟨ea0,ea1,-,-⟩ := s0.cells2
 obtain ⟨eb0,eb1,-,-⟩ := s1.cells2
 clear s0 s1 s2
 go_wp2_with fail
 refine (Rb _).mono ?_
 rintro e w2 ⟨rfl,hb⟩
 obtain ⟨hb0,r0,r1,r2⟩ := H1.out
 have hbn := belowt hb0 hb0.size hb
 have s0 := r0.call hb
 have s1 := r1.call hb
 have s2 := r2.call hb
 have H2 := Lib.hid (And.intro hbn (And.intro s0 (And.intro s1 s2)))
 clear hb0 hb hbn r0 r1 r2 ea0 ea1 eb0 eb1 Rb
 obtain ⟨ea0,ea1,-,-⟩ := s0.cells2
 obtain ⟨eb0,eb1,-,-⟩ := s1.cells2
 obtain ⟨y0,y1,z0,z1⟩ := s2.cells2
 clear s0 s1 s2
 go_wp2_with fail
 exact bodyPost_ret (v := noF 20) (by simp [results,Tryz.results31,go_sem,y0,y1]) rfl ⟨rfl,below_set2 H2.out.1 (by omega)⟩
set_option maxRecDepth 100000 in
set_option maxHeartbeats 4000000 in
theorem rqsub_some (a1 a2 b1 b2 : List UInt8) (x y : Rat) (w : World) (ha : rdF a1 a2 = some x) (hb : rdF b1 b2 = some y) :
 Calls Tryz.prog 31 #[.agg #[.string ⟨a1.toArray⟩,.string ⟨a2.toArray⟩],.agg #[.string ⟨b1.toArray⟩,.string ⟨b2.toArray⟩]] w fun e w' => e = .returned (outF (x - y)) ∧ Below w.heap.size w w' := by
 have hg := Gz.sub (gz_rd ha) (gz_rd hb)
 obtain ⟨s,t,k,hsk⟩ := outF_open (x - y)
 rw [hsk]
 obtain ⟨V,hV⟩ : ∃ V,V = (((w.alloc (.cells #[.string ⟨a1.toArray⟩,.string ⟨a2.toArray⟩] 24)).alloc (.cells #[.string ⟨b1.toArray⟩,.string ⟨b2.toArray⟩] 24)).alloc (.cells #[.string ⟨#[]⟩,.string ⟨#[]⟩] 24)) := ⟨_,rfl⟩
 have hb0 : Below w.heap.size w V := by rw [hV];exact (((Below.refl _ _).alloc (Nat.le_refl _) _).alloc (by simp) _).alloc (by simp;omega) _
 have r0 : Fr V (w.heap.size) #[.string ⟨a1.toArray⟩,.string ⟨a2.toArray⟩] 24 := by rw [hV];exact (Fr.new rfl).old.old
 have r1 : Fr V (w.heap.size + 1) #[.string ⟨b1.toArray⟩,.string ⟨b2.toArray⟩] 24 := by rw [hV];exact (Fr.new (by simp)).old
 have r2 : Fr V (w.heap.size + 1 + 1) #[.string ⟨#[]⟩,.string ⟨#[]⟩] 24 := by rw [hV];exact Fr.new (by simp)
 have Ra := fun W => rright_yes ha W
 have Rb := fun W => rright_yes hb W
 have H1 : Hid (∀ W,AdS w a1 a2 b1 b2 W → Calls Tryz.prog 67 #[.agg #[.string ⟨a1.toArray⟩,.string ⟨a2.toArray⟩]] W fun e w' => ∃ (A : Option Addr) (n c : Nat) (k : Bool) (A' : Option Addr) (n' c' : Nat) (k' : Bool),e = .returned (.agg #[.bool k,.slice A n c,.bool k',.slice A' n' c']) ∧ RqV w' (.agg #[.bool k,.slice A n c,.bool k',.slice A' n' c']) (x) ∧ Below W.heap.size W w' ∧ AdS w a1 a2 b1 b2 w') := Lib.hid (fun W hS => (rin_any a1 a2 x W ha).mono fun e w' ⟨v,he,hv,hb⟩ => by
  obtain ⟨A,n,c,k,A',n',c',k',rfl,_,_⟩ := RqV.open hv
  exact ⟨A,n,c,k,A',n',c',k',he,hv,hb,adS_step hS hb⟩)
 have H2 : Hid (∀ W,AdS w a1 a2 b1 b2 W → Calls Tryz.prog 67 #[.agg #[.string ⟨b1.toArray⟩,.string ⟨b2.toArray⟩]] W fun e w' => ∃ (A : Option Addr) (n c : Nat) (k : Bool) (A' : Option Addr) (n' c' : Nat) (k' : Bool),e = .returned (.agg #[.bool k,.slice A n c,.bool k',.slice A' n' c']) ∧ RqV w' (.agg #[.bool k,.slice A n c,.bool k',.slice A' n' c']) (y) ∧ Below W.heap.size W w' ∧ AdS w a1 a2 b1 b2 w') := Lib.hid (fun W hS => (rin_any b1 b2 y W hb).mono fun e w' ⟨v,he,hv,hb⟩ => by
  obtain ⟨A,n,c,k,A',n',c',k',rfl,_,_⟩ := RqV.open hv
  exact ⟨A,n,c,k,A',n',c',k',he,hv,hb,adS_step hS hb⟩)
 have H3 : Hid (∀ W u z,RqV W u (x) → RqV W z (y) → AdS w a1 a2 b1 b2 W → Calls Tryz.prog 80 #[u,z] W fun e w' => ∃ (A : Option Addr) (n c : Nat) (k : Bool) (A' : Option Addr) (n' c' : Nat) (k' : Bool),e = .returned (.agg #[.bool k,.slice A n c,.bool k',.slice A' n' c']) ∧ RqV w' (.agg #[.bool k,.slice A n c,.bool k',.slice A' n' c']) (x - y) ∧ Below W.heap.size W w' ∧ AdS w a1 a2 b1 b2 w') := Lib.hid (fun W u z hu hz hS => (rqminus_any u z x y 600 600 W hu hz (gz_rd ha) (gz_rd hb) (by omega)).mono fun e w' ⟨v,he,hv,hb⟩ => by
  obtain ⟨A,n,c,k,A',n',c',k',rfl,_,_⟩ := RqV.open hv
  exact ⟨A,n,c,k,A',n',c',k',he,hv,hb,adS_step hS hb⟩)
 have H4 : Hid (∀ W u,RqV W u (x - y) → AdS w a1 a2 b1 b2 W → Calls Tryz.prog 55 #[u] W fun e w' => e = .returned (.tuple #[.agg #[.string s,.string t],.int .i64 k]) ∧ Below W.heap.size W w' ∧ AdS w a1 a2 b1 b2 w') := Lib.hid (fun W u hu hS => (hsk ▸ rout_any u (x - y) W hu (Nat.le_trans hg.1 (by omega)) (Nat.le_trans hg.2 (by omega))).mono fun e w' ⟨he,hb⟩ => ⟨he,hb,adS_step hS hb⟩)
 have H := Lib.hid (And.intro hb0 (And.intro r0 (And.intro r1 r2)))
 obtain ⟨ea0,ea1,-,-⟩ := r0.cells2
 obtain ⟨eb0,eb1,-,-⟩ := r1.cells2
 clear ha hb hg hsk hb0 r0 r1 r2
 go_enter Tryz.func31,Tryz.ntmps31
 go_wp2_with fail
 rw [← hV]
 clear hV
 refine (Ra _).mono ?_
 rintro e w1 ⟨rfl,hb⟩
 obtain ⟨hb0,r0,r1,r2⟩ := H.out
 have s0 := r0.call hb
 have s1 := r1.call hb
 have HA := Lib.hid (And.intro (belowt hb0 hb0.size hb) (And.intro s0 (And.intro s1 (r2.call hb))))
 clear hb0 r0 r1 r2 hb ea0 ea1 eb0 eb1 Ra
 obtain ⟨ea0,ea1,-,-⟩ := s0.cells2
 obtain ⟨eb0,eb1,-,-⟩ := s1.cells2
 clear s0 s1
 go_wp2_with fail
 refine (Rb _).mono ?_
 rintro e w2 ⟨rfl,hb⟩
 obtain ⟨hb0,r0,r1,r2⟩ := HA.out
 have s0 := r0.call hb
 have s1 := r1.call hb
 clear ea0 ea1 eb0 eb1 Rb
 obtain ⟨ea0,ea1,-,-⟩ := s0.cells2
 obtain ⟨eb0,eb1,-,-⟩ := s1.cells2
 have hS0 : AdS w a1 a2 b1 b2 w2 := ⟨⟨belowt hb0 hb0.size hb,(r2.call hb).boxF⟩,ea0,ea1,eb0,eb1⟩
 clear hb0 r0 r1 r2 hb s0 s1
 go_wp2_with fail
 clear ea0 ea1 eb0 eb1
 have hS1 := adS_drew hS0
 clear hS0
 go_region_held3 (fun W => (Below w.heap.size w W ∧ BoxF W (w.heap.size + 1 + 1)) ∧ W.cell? ⟨w.heap.size,0,none⟩ = some (.string ⟨a1.toArray⟩) ∧ W.cell? ⟨w.heap.size,1,none⟩ = some (.string ⟨a2.toArray⟩) ∧ W.cell? ⟨w.heap.size + 1,0,none⟩ = some (.string ⟨b1.toArray⟩) ∧ W.cell? ⟨w.heap.size + 1,1,none⟩ = some (.string ⟨b2.toArray⟩)) (first | with_reducible assumption | exact ⟨⟨hS1.1.1,hS1.1.2⟩,hS1.2⟩ | (refine adS_store ?_ _ _;with_reducible assumption))
  (first
   | (go_at_call 67;with_reducible refine (H1.out _ ?_).mono ?_;with_reducible assumption;rintro e w3 ⟨A3,n3,c3,k3,Ax3,nx3,cx3,kx3,rfl,hq3,hb3,hS3⟩)
   | (go_at_call 67;with_reducible refine (H2.out _ ?_).mono ?_;with_reducible assumption;rintro e w4 ⟨A4,n4,c4,k4,Ax4,nx4,cx4,kx4,rfl,hq4,hb4,hS4⟩;(first | have hq3 := hq3.below hb4 | have hq3 := (PlV.old hq3).below hb4))
   | (go_at_call 80;with_reducible refine (H3.out _ _ _ ?_ ?_ ?_).mono ?_;(first | with_reducible assumption | (with_reducible refine PlV.old ?_;with_reducible assumption));(first | with_reducible assumption | (with_reducible refine PlV.old ?_;with_reducible assumption));with_reducible assumption;rintro e w5 ⟨A5,n5,c5,k5,Ax5,nx5,cx5,kx5,rfl,hq5,hb5,hS5⟩)
   | (go_at_call 55;with_reducible refine (H4.out _ _ ?_ ?_).mono ?_;(first | with_reducible assumption | (with_reducible refine PlV.old ?_;with_reducible assumption));with_reducible assumption;rintro e w6 ⟨rfl,hb6,hS6⟩;obtain ⟨⟨q0,y0⟩,⟨q1,y1⟩,y2,y3⟩ := hS6.1.2.facts))
 go_wp2_with fail
 exact bodyPost_ret (v := .tuple #[.agg #[.string s,.string t],.int .i64 k]) (by simp [results,Tryz.results31,go_sem,y0,y1]) rfl ⟨rfl,below_set2 hS6.1.1 (by omega)⟩
set_option maxRecDepth 100000 in
set_option maxHeartbeats 4000000 in
theorem rmul_none0 (a1 a2 b1 b2 : List UInt8) (w : World)  (la : a1.length ≤ 1000000 ∧ a2.length ≤ 1000000) (hn : rdF a1 a2 = none) :
 Calls Tryz.prog 32 #[.agg #[.string ⟨a1.toArray⟩,.string ⟨a2.toArray⟩],.agg #[.string ⟨b1.toArray⟩,.string ⟨b2.toArray⟩]] w fun e w' => e = .returned (noF 20) ∧ Below w.heap.size w w' := by
 obtain ⟨V,hV⟩ : ∃ V,V = (((w.alloc (.cells #[.string ⟨a1.toArray⟩,.string ⟨a2.toArray⟩] 24)).alloc (.cells #[.string ⟨b1.toArray⟩,.string ⟨b2.toArray⟩] 24)).alloc (.cells #[.string ⟨#[]⟩,.string ⟨#[]⟩] 24)) := ⟨_,rfl⟩
 have hb0 : Below w.heap.size w V := by rw [hV];exact (((Below.refl _ _).alloc (Nat.le_refl _) _).alloc (by simp) _).alloc (by simp;omega) _
 have r0 : Fr V (w.heap.size) #[.string ⟨a1.toArray⟩,.string ⟨a2.toArray⟩] 24 := by rw [hV];exact (Fr.new rfl).old.old
 have r1 : Fr V (w.heap.size + 1) #[.string ⟨b1.toArray⟩,.string ⟨b2.toArray⟩] 24 := by rw [hV];exact (Fr.new (by simp)).old
 have r2 : Fr V (w.heap.size + 1 + 1) #[.string ⟨#[]⟩,.string ⟨#[]⟩] 24 := by rw [hV];exact (Fr.new (by simp))
 have Ra := fun W => rright_not la hn W
 have H := Lib.hid (And.intro hb0 (And.intro r0 (And.intro r1 r2)))
 obtain ⟨ea0,ea1,-,-⟩ := r0.cells2
 obtain ⟨eb0,eb1,-,-⟩ := r1.cells2
 have hf0 := fr_built0
 clear hb0 hn r0 r1 r2  la
 go_enter Tryz.func32,Tryz.ntmps32
 go_wp2_with fail
 rw [← hV]
 clear hV
 refine (Ra _).mono ?_
 rintro e w1 ⟨rfl,hb⟩
 obtain ⟨hb0,r0,r1,r2⟩ := H.out
 have hbn := belowt hb0 hb0.size hb
 have s0 := r0.call hb
 have s1 := r1.call hb
 have s2 := r2.call hb
 have H1 := Lib.hid (And.intro hbn (And.intro s0 (And.intro s1 s2)))
 clear hb0 hb hbn r0 r1 r2 ea0 ea1 eb0 eb1 Ra
 obtain ⟨ea0,ea1,-,-⟩ := s0.cells2
 obtain ⟨eb0,eb1,-,-⟩ := s1.cells2
 obtain ⟨y0,y1,z0,z1⟩ := s2.cells2
 clear s0 s1 s2
 go_wp2_with fail
 exact bodyPost_ret (v := noF 20) (by simp [results,Tryz.results32,go_sem,y0,y1]) rfl ⟨rfl,below_set2 H1.out.1 (by omega)⟩
set_option maxRecDepth 100000 in
set_option maxHeartbeats 4000000 in
theorem rmul_none1 (a1 a2 b1 b2 : List UInt8) (x : Rat) (w : World) (ha : rdF a1 a2 = some x) (lb : b1.length ≤ 1000000 ∧ b2.length ≤ 1000000) (hn : rdF b1 b2 = none) :
 Calls Tryz.prog 32 #[.agg #[.string ⟨a1.toArray⟩,.string ⟨a2.toArray⟩],.agg #[.string ⟨b1.toArray⟩,.string ⟨b2.toArray⟩]] w fun e w' => e = .returned (noF 20) ∧ Below w.heap.size w w' := by
 obtain ⟨V,hV⟩ : ∃ V,V = (((w.alloc (.cells #[.string ⟨a1.toArray⟩,.string ⟨a2.toArray⟩] 24)).alloc (.cells #[.string ⟨b1.toArray⟩,.string ⟨b2.toArray⟩] 24)).alloc (.cells #[.string ⟨#[]⟩,.string ⟨#[]⟩] 24)) := ⟨_,rfl⟩
 have hb0 : Below w.heap.size w V := by rw [hV];exact (((Below.refl _ _).alloc (Nat.le_refl _) _).alloc (by simp) _).alloc (by simp;omega) _
 have r0 : Fr V (w.heap.size) #[.string ⟨a1.toArray⟩,.string ⟨a2.toArray⟩] 24 := by rw [hV];exact (Fr.new rfl).old.old
 have r1 : Fr V (w.heap.size + 1) #[.string ⟨b1.toArray⟩,.string ⟨b2.toArray⟩] 24 := by rw [hV];exact (Fr.new (by simp)).old
 have r2 : Fr V (w.heap.size + 1 + 1) #[.string ⟨#[]⟩,.string ⟨#[]⟩] 24 := by rw [hV];exact (Fr.new (by simp))
 have Ra := fun W => rright_yes ha W
 have Rb := fun W => rright_not lb hn W
 have H := Lib.hid (And.intro hb0 (And.intro r0 (And.intro r1 r2)))
 obtain ⟨ea0,ea1,-,-⟩ := r0.cells2
 obtain ⟨eb0,eb1,-,-⟩ := r1.cells2
 have hf0 := fr_built0
 clear hb0 hn r0 r1 r2 ha lb
 go_enter Tryz.func32,Tryz.ntmps32
 go_wp2_with fail
 rw [← hV]
 clear hV
 refine (Ra _).mono ?_
 rintro e w1 ⟨rfl,hb⟩
 obtain ⟨hb0,r0,r1,r2⟩ := H.out
 have hbn := belowt hb0 hb0.size hb
 have s0 := r0.call hb
 have s1 := r1.call hb
 have s2 := r2.call hb
 have H1 := Lib.hid (And.intro hbn (And.intro s0 (And.intro s1 s2)))
 clear hb0 hb hbn r0 r1 r2 ea0 ea1 eb0 eb1 Ra
 obtain ⟨ea0,ea1,-,-⟩ := s0.cells2
 obtain ⟨eb0,eb1,-,-⟩ := s1.cells2
 clear s0 s1 s2
 go_wp2_with fail
 refine (Rb _).mono ?_
 rintro e w2 ⟨rfl,hb⟩
 obtain ⟨hb0,r0,r1,r2⟩ := H1.out
 have hbn := belowt hb0 hb0.size hb
 have s0 := r0.call hb
 have s1 := r1.call hb
 have s2 := r2.call hb
 have H2 := Lib.hid (And.intro hbn (And.intro s0 (And.intro s1 s2)))
 clear hb0 hb hbn r0 r1 r2 ea0 ea1 eb0 eb1 Rb
 obtain ⟨ea0,ea1,-,-⟩ := s0.cells2
 obtain ⟨eb0,eb1,-,-⟩ := s1.cells2
 obtain ⟨y0,y1,z0,z1⟩ := s2.cells2
 clear s0 s1 s2
 go_wp2_with fail
 exact bodyPost_ret (v := noF 20) (by simp [results,Tryz.results32,go_sem,y0,y1]) rfl ⟨rfl,below_set2 H2.out.1 (by omega)⟩
set_option maxRecDepth 100000 in
set_option maxHeartbeats 4000000 in
theorem rqmul_some (a1 a2 b1 b2 : List UInt8) (x y : Rat) (w : World) (ha : rdF a1 a2 = some x) (hb : rdF b1 b2 = some y) :
 Calls Tryz.prog 32 #[.agg #[.string ⟨a1.toArray⟩,.string ⟨a2.toArray⟩],.agg #[.string ⟨b1.toArray⟩,.string ⟨b2.toArray⟩]] w fun e w' => e = .returned (outF (x * y)) ∧ Below w.heap.size w w' := by
 have hg := Gz.mul (gz_rd ha) (gz_rd hb)
 obtain ⟨s,t,k,hsk⟩ := outF_open (x * y)
 rw [hsk]
 obtain ⟨V,hV⟩ : ∃ V,V = (((w.alloc (.cells #[.string ⟨a1.toArray⟩,.string ⟨a2.toArray⟩] 24)).alloc (.cells #[.string ⟨b1.toArray⟩,.string ⟨b2.toArray⟩] 24)).alloc (.cells #[.string ⟨#[]⟩,.string ⟨#[]⟩] 24)) := ⟨_,rfl⟩
 have hb0 : Below w.heap.size w V := by rw [hV];exact (((Below.refl _ _).alloc (Nat.le_refl _) _).alloc (by simp) _).alloc (by simp;omega) _
 have r0 : Fr V (w.heap.size) #[.string ⟨a1.toArray⟩,.string ⟨a2.toArray⟩] 24 := by rw [hV];exact (Fr.new rfl).old.old
 have r1 : Fr V (w.heap.size + 1) #[.string ⟨b1.toArray⟩,.string ⟨b2.toArray⟩] 24 := by rw [hV];exact (Fr.new (by simp)).old
 have r2 : Fr V (w.heap.size + 1 + 1) #[.string ⟨#[]⟩,.string ⟨#[]⟩] 24 := by rw [hV];exact Fr.new (by simp)
 have Ra := fun W => rright_yes ha W
 have Rb := fun W => rright_yes hb W
 have H1 : Hid (∀ W,AdS w a1 a2 b1 b2 W → Calls Tryz.prog 67 #[.agg #[.string ⟨a1.toArray⟩,.string ⟨a2.toArray⟩]] W fun e w' => ∃ (A : Option Addr) (n c : Nat) (k : Bool) (A' : Option Addr) (n' c' : Nat) (k' : Bool),e = .returned (.agg #[.bool k,.slice A n c,.bool k',.slice A' n' c']) ∧ RqV w' (.agg #[.bool k,.slice A n c,.bool k',.slice A' n' c']) (x) ∧ Below W.heap.size W w' ∧ AdS w a1 a2 b1 b2 w') := Lib.hid (fun W hS => (rin_any a1 a2 x W ha).mono fun e w' ⟨v,he,hv,hb⟩ => by
  obtain ⟨A,n,c,k,A',n',c',k',rfl,_,_⟩ := RqV.open hv
  exact ⟨A,n,c,k,A',n',c',k',he,hv,hb,adS_step hS hb⟩)
 have H2 : Hid (∀ W,AdS w a1 a2 b1 b2 W → Calls Tryz.prog 67 #[.agg #[.string ⟨b1.toArray⟩,.string ⟨b2.toArray⟩]] W fun e w' => ∃ (A : Option Addr) (n c : Nat) (k : Bool) (A' : Option Addr) (n' c' : Nat) (k' : Bool),e = .returned (.agg #[.bool k,.slice A n c,.bool k',.slice A' n' c']) ∧ RqV w' (.agg #[.bool k,.slice A n c,.bool k',.slice A' n' c']) (y) ∧ Below W.heap.size W w' ∧ AdS w a1 a2 b1 b2 w') := Lib.hid (fun W hS => (rin_any b1 b2 y W hb).mono fun e w' ⟨v,he,hv,hb⟩ => by
  obtain ⟨A,n,c,k,A',n',c',k',rfl,_,_⟩ := RqV.open hv
  exact ⟨A,n,c,k,A',n',c',k',he,hv,hb,adS_step hS hb⟩)
 have H3 : Hid (∀ W u z,RqV W u (x) → RqV W z (y) → AdS w a1 a2 b1 b2 W → Calls Tryz.prog 81 #[u,z] W fun e w' => ∃ (A : Option Addr) (n c : Nat) (k : Bool) (A' : Option Addr) (n' c' : Nat) (k' : Bool),e = .returned (.agg #[.bool k,.slice A n c,.bool k',.slice A' n' c']) ∧ RqV w' (.agg #[.bool k,.slice A n c,.bool k',.slice A' n' c']) (x * y) ∧ Below W.heap.size W w' ∧ AdS w a1 a2 b1 b2 w') := Lib.hid (fun W u z hu hz hS => (rqtimes_any u z x y 600 600 W hu hz (gz_rd ha) (gz_rd hb) (by omega)).mono fun e w' ⟨v,he,hv,hb⟩ => by
  obtain ⟨A,n,c,k,A',n',c',k',rfl,_,_⟩ := RqV.open hv
  exact ⟨A,n,c,k,A',n',c',k',he,hv,hb,adS_step hS hb⟩)
 have H4 : Hid (∀ W u,RqV W u (x * y) → AdS w a1 a2 b1 b2 W → Calls Tryz.prog 55 #[u] W fun e w' => e = .returned (.tuple #[.agg #[.string s,.string t],.int .i64 k]) ∧ Below W.heap.size W w' ∧ AdS w a1 a2 b1 b2 w') := Lib.hid (fun W u hu hS => (hsk ▸ rout_any u (x * y) W hu (Nat.le_trans hg.1 (by omega)) (Nat.le_trans hg.2 (by omega))).mono fun e w' ⟨he,hb⟩ => ⟨he,hb,adS_step hS hb⟩)
 have H := Lib.hid (And.intro hb0 (And.intro r0 (And.intro r1 r2)))
 obtain ⟨ea0,ea1,-,-⟩ := r0.cells2
 obtain ⟨eb0,eb1,-,-⟩ := r1.cells2
 clear ha hb hg hsk hb0 r0 r1 r2
 go_enter Tryz.func32,Tryz.ntmps32
 go_wp2_with fail
 rw [← hV]
 clear hV
 refine (Ra _).mono ?_
 rintro e w1 ⟨rfl,hb⟩
 obtain ⟨hb0,r0,r1,r2⟩ := H.out
 have s0 := r0.call hb
 have s1 := r1.call hb
 have HA := Lib.hid (And.intro (belowt hb0 hb0.size hb) (And.intro s0 (And.intro s1 (r2.call hb))))
 clear hb0 r0 r1 r2 hb ea0 ea1 eb0 eb1 Ra
 obtain ⟨ea0,ea1,-,-⟩ := s0.cells2
 obtain ⟨eb0,eb1,-,-⟩ := s1.cells2
 clear s0 s1
 go_wp2_with fail
 refine (Rb _).mono ?_
 rintro e w2 ⟨rfl,hb⟩
 obtain ⟨hb0,r0,r1,r2⟩ := HA.out
 have s0 := r0.call hb
 have s1 := r1.call hb
 clear ea0 ea1 eb0 eb1 Rb
 obtain ⟨ea0,ea1,-,-⟩ := s0.cells2
 obtain ⟨eb0,eb1,-,-⟩ := s1.cells2
 have hS0 : AdS w a1 a2 b1 b2 w2 := ⟨⟨belowt hb0 hb0.size hb,(r2.call hb).boxF⟩,ea0,ea1,eb0,eb1⟩
 clear hb0 r0 r1 r2 hb s0 s1
 go_wp2_with fail
 clear ea0 ea1 eb0 eb1
 have hS1 := adS_drew hS0
 clear hS0
 go_region_held3 (fun W => (Below w.heap.size w W ∧ BoxF W (w.heap.size + 1 + 1)) ∧ W.cell? ⟨w.heap.size,0,none⟩ = some (.string ⟨a1.toArray⟩) ∧ W.cell? ⟨w.heap.size,1,none⟩ = some (.string ⟨a2.toArray⟩) ∧ W.cell? ⟨w.heap.size + 1,0,none⟩ = some (.string ⟨b1.toArray⟩) ∧ W.cell? ⟨w.heap.size + 1,1,none⟩ = some (.string ⟨b2.toArray⟩)) (first | with_reducible assumption | exact ⟨⟨hS1.1.1,hS1.1.2⟩,hS1.2⟩ | (refine adS_store ?_ _ _;with_reducible assumption))
  (first
   | (go_at_call 67;with_reducible refine (H1.out _ ?_).mono ?_;with_reducible assumption;rintro e w3 ⟨A3,n3,c3,k3,Ax3,nx3,cx3,kx3,rfl,hq3,hb3,hS3⟩)
   | (go_at_call 67;with_reducible refine (H2.out _ ?_).mono ?_;with_reducible assumption;rintro e w4 ⟨A4,n4,c4,k4,Ax4,nx4,cx4,kx4,rfl,hq4,hb4,hS4⟩;(first | have hq3 := hq3.below hb4 | have hq3 := (PlV.old hq3).below hb4))
   | (go_at_call 81;with_reducible refine (H3.out _ _ _ ?_ ?_ ?_).mono ?_;(first | with_reducible assumption | (with_reducible refine PlV.old ?_;with_reducible assumption));(first | with_reducible assumption | (with_reducible refine PlV.old ?_;with_reducible assumption));with_reducible assumption;rintro e w5 ⟨A5,n5,c5,k5,Ax5,nx5,cx5,kx5,rfl,hq5,hb5,hS5⟩)
   | (go_at_call 55;with_reducible refine (H4.out _ _ ?_ ?_).mono ?_;(first | with_reducible assumption | (with_reducible refine PlV.old ?_;with_reducible assumption));with_reducible assumption;rintro e w6 ⟨rfl,hb6,hS6⟩;obtain ⟨⟨q0,y0⟩,⟨q1,y1⟩,y2,y3⟩ := hS6.1.2.facts))
 go_wp2_with fail
 exact bodyPost_ret (v := .tuple #[.agg #[.string s,.string t],.int .i64 k]) (by simp [results,Tryz.results32,go_sem,y0,y1]) rfl ⟨rfl,below_set2 hS6.1.1 (by omega)⟩
end Go.Proofs.YtlfgpmnjnpdkdaaGreatDoor
