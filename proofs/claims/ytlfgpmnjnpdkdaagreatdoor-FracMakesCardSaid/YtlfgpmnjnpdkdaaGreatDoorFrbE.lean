/- Contracts: decimal texts read: units, tenTo, Parse. Contracts: decimal texts written: decimalText. -/
import Derived.Test.YtlfgpmnjnpdkdaaGreatDoorFrbC
import Derived.Test.YtlfgpmnjnpdkdaaGreatDoorFraQ
namespace Go.Proofs.YtlfgpmnjnpdkdaaGreatDoor
open Go.RowKit Vd
attribute [local go_sem ↓] Go.wp_at_zero Go.wp_at_succ
def unitZ (b : Bool) (x y : List UInt8) : Int := if b then -(dval (x ++ y) : Int) else (dval (x ++ y) : Int)
theorem dlen_fit {n k m : Nat} (h : n < 10 ^ k) (h1 : 1 ≤ m) (hk : k ≤ m) : dlen n ≤ m := (dlen_le_iff _ _ h1).2 (Nat.lt_of_lt_of_le h (Nat.pow_le_pow_right (by omega) hk))
theorem rd_units (b : Bool) (x y : List UInt8) (hd : (x ++ y).all isDig = true) (hx : x.length ≤ 600) (hy : y.length ≤ 20) (hb : b = true → dval (x ++ y) ≠ 0) :
    rdMost 620 (wr (unitZ b x y)) = some (unitZ b x y) := by
 apply rdMost_some _ (rdAny_wr _)
 rw [cutm_wr]
 show (digs (unitZ b x y).natAbs).length ≤ 620
 have hn : (unitZ b x y).natAbs = dval (x ++ y) := by unfold unitZ;cases b <;> simp
 rw [hn,digs_length]
 exact dlen_fit (dval_lt hd) (by omega) (by rw [List.length_append];omega)
theorem wr_units (b : Bool) (x y : List UInt8) (hd : (x ++ y).all isDig = true) (hb : b = true → dval (x ++ y) ≠ 0) :
    wr (unitZ b x y) = if strip (x ++ y) = [] then [48] else if b then 45 :: strip (x ++ y) else strip (x ++ y) := by
 rw [strip_digs hd]
 unfold unitZ
 by_cases h0 : dval (x ++ y) = 0
 · have hb' : b = false := by cases b with | false => rfl | true => exact absurd h0 (hb rfl)
   subst hb'
   simp [h0,wr,digs_zero]
 · rw [if_neg h0,if_neg (digs_ne_nil _)]
   cases b with
   | false => simp [wr]
   | true => 
     unfold wr
     rw [if_pos (by simp;omega)]
     simp
set_option maxRecDepth 100000 in
set_option maxHeartbeats 2000000 in
theorem units_any (b : Bool) (x y : List UInt8) (w : World) (hd : (x ++ y).all isDig = true) (hx : x.length ≤ 600) (hy : y.length ≤ 20) (hb : b = true → dval (x ++ y) ≠ 0) :
    Calls Tryz.prog 102 #[dV b x y] w fun e w' => ∃ (A : Option Addr) (n c : Nat) (k : Bool),e = .returned (.tuple #[.agg #[.slice A n c,.bool k],.bool true]) ∧ SgV w' (.agg #[.slice A n c,.bool k]) (unitZ b x y) ∧ Below w.heap.size w w' := by
 have hdg := fun W => digits_any b x y W (by omega) (by omega)
 have hwr := wr_units b x y hd hb
 have hrd := fun W => read_any (wr (unitZ b x y)) 620 W (by omega)
 have hrq := rd_units b x y hd hx hy hb
 obtain ⟨st,hst⟩ : ∃ st,st = strip (x ++ y) := ⟨_,rfl⟩
 rw [← hst] at hdg hwr
 have hstl : st.length ≤ 1000000 := by
  rw [hst,strip_digs hd]
  split
  · simp
  · rw [digs_length]
    exact Nat.le_trans (dlen_fit (m := 620) (dval_lt hd) (by omega) (by rw [List.length_append];omega)) (by omega)
 obtain ⟨z,hz⟩ : ∃ z,z = unitZ b x y := ⟨_,rfl⟩
 rw [← hz] at hwr hrd hrq ⊢
 obtain ⟨W0,hW0⟩ : ∃ W0,W0 = (w.alloc (.cells #[.bool b,.string ⟨x.toArray⟩,.string ⟨y.toArray⟩] 130)).alloc (.cells #[.slice none 0 0,.bool false] 80) := ⟨_,rfl⟩
 have hbW : Below w.heap.size w W0 := by rw [hW0];exact ((Below.refl _ _).alloc (Nat.le_refl _) _).alloc (by simp) _
 have hE0 : Fr W0 w.heap.size #[.bool b,.string ⟨x.toArray⟩,.string ⟨y.toArray⟩] 130 := by rw [hW0];exact (Fr.new rfl).old
 have hE1 : BoxT W0 (w.heap.size + 1) := by rw [hW0];exact Fr.boxT (Fr.new (by simp))
 have hx6 : ¬ 600 < (x.length : Int) := by omega
 have H := Lib.hid (And.intro hbW (And.intro hE0 (And.intro hE1 hrq)))
 have hdg0 := hdg W0
 rw [hW0] at hdg0
 clear hd hx hy hb hrq hz hst hbW hE0 hE1 hdg
 have hrd2 : ∀ (l : List UInt8) (W : World),l = wr z → Calls Tryz.prog 111 #[.string ⟨l.toArray⟩,.int .i64 620] W fun e w' => ∃ (A : Option Addr) (n c : Nat) (k : Bool),e = .returned (.tuple #[.agg #[.slice A n c,.bool k],.bool true]) ∧ SgV w' (.agg #[.slice A n c,.bool k]) z ∧ Below W.heap.size W w' := fun l W hl => by
  subst hl
  refine (hrd W).mono ?_
  rintro e w' ⟨v,ok,z',he,hv,hp,hb⟩
  obtain ⟨A,n,c,k,rfl⟩ := hv.open
  rcases hp with ⟨rfl,hp⟩ | ⟨_,hp,_⟩
  · rw [H.out.2.2.2] at hp
    injection hp with hp
    subst hp
    exact ⟨A,n,c,k,he,hv,hb⟩
  · rw [H.out.2.2.2] at hp;cases hp
 clear hrd
 have hcat := catB [45] st
 by_cases h0 : st = []
 · subst h0
   have HR := Lib.hid (fun W => hrd2 [48] W (by rw [hwr];rfl))
   clear hrd2 hwr
   go_enter Tryz.func102,Tryz.ntmps102
   go_wp2_with fail
   refine hdg0.mono ?_
   rw [← hW0]
   rintro e w1 ⟨rfl,hb1⟩
   have hF := H.out.2.1.call hb1
   have hT := H.out.2.2.1.call hb1
   have hbw := belowt H.out.1 H.out.1.size hb1
   have y0 := hF.cell 0
   simp only [List.getElem?_toArray,List.getElem?_cons_zero] at y0
   have HT := Lib.hid (And.intro hT hbw)
   clear hdg0 hb1 hW0 hF hT hbw
   go_wp2_with fail
   refine (HR.out _).mono ?_
   rintro e w2 ⟨A,n,c,k,rfl,hv,hb2⟩
   have hT2 := HT.out.1.call hb2
   obtain ⟨⟨q0,z0⟩,⟨q1,z1⟩,z2,z3⟩ := hT2.facts
   have HZ := Lib.hid (And.intro hT2 (And.intro hv (belowt HT.out.2 HT.out.2.size hb2)))
   clear hT2 hv hb2 y0
   go_wp2_with fail
   exact bodyPost_ret (v := .tuple #[.agg #[.slice A n c,.bool k],.bool true]) (by simp [results,Tryz.results102,go_sem,z0,z1]) rfl ⟨A,n,c,k,rfl,HZ.out.1.sg _ _ _ _ HZ.out.2.1,below_set2 HZ.out.2.2 (by omega)⟩
 ·
   have hse : st.isEmpty = false := by cases st with | nil => exact absurd rfl h0 | cons => rfl
   cases b with
   | false =>
     have HR := Lib.hid (fun W => hrd2 st W (by rw [hwr,if_neg h0];rfl))
     clear hrd2 hwr hcat h0 hstl
     go_enter Tryz.func102,Tryz.ntmps102
     go_wp2_with fail
     refine hdg0.mono ?_
     rw [← hW0]
     rintro e w1 ⟨rfl,hb1⟩
     have hF := H.out.2.1.call hb1
     have hT := H.out.2.2.1.call hb1
     have hbw := belowt H.out.1 H.out.1.size hb1
     have y0 := hF.cell 0
     simp only [List.getElem?_toArray,List.getElem?_cons_zero] at y0
     have HT := Lib.hid (And.intro hT hbw)
     clear hdg0 hb1 hW0 hF hT hbw
     go_wp2_with fail
     refine (HR.out _).mono ?_
     rintro e w2 ⟨A,n,c,k,rfl,hv,hb2⟩
     have hT2 := HT.out.1.call hb2
     obtain ⟨⟨q0,z0⟩,⟨q1,z1⟩,z2,z3⟩ := hT2.facts
     have HZ := Lib.hid (And.intro hT2 (And.intro hv (belowt HT.out.2 HT.out.2.size hb2)))
     clear hT2 hv hb2 y0
     go_wp2_with fail
     exact bodyPost_ret (v := .tuple #[.agg #[.slice A n c,.bool k],.bool true]) (by simp [results,Tryz.results102,go_sem,z0,z1]) rfl ⟨A,n,c,k,rfl,HZ.out.1.sg _ _ _ _ HZ.out.2.1,below_set2 HZ.out.2.2 (by omega)⟩
   | true =>
     have HR := Lib.hid (fun W => hrd2 (45 :: st) W (by rw [hwr,if_neg h0];rfl))
     have hcat2 : (⟨#[45]⟩ : ByteArray) ++ ⟨st.toArray⟩ = ⟨(45 :: st).toArray⟩ := hcat
     have hln : ¬ 9223372036854775807 < 1 + st.length := by omega
     clear hrd2 hwr hcat h0 hstl
     go_enter Tryz.func102,Tryz.ntmps102
     go_wp2_with fail
     refine hdg0.mono ?_
     rw [← hW0]
     rintro e w1 ⟨rfl,hb1⟩
     have hF := H.out.2.1.call hb1
     have hT := H.out.2.2.1.call hb1
     have hbw := belowt H.out.1 H.out.1.size hb1
     have y0 := hF.cell 0
     simp only [List.getElem?_toArray,List.getElem?_cons_zero] at y0
     have HT := Lib.hid (And.intro hT hbw)
     clear hdg0 hb1 hW0 hF hT hbw
     go_wp2_with fail
     refine (HR.out _).mono ?_
     rintro e w2 ⟨A,n,c,k,rfl,hv,hb2⟩
     have hT2 := HT.out.1.call hb2
     obtain ⟨⟨q0,z0⟩,⟨q1,z1⟩,z2,z3⟩ := hT2.facts
     have HZ := Lib.hid (And.intro hT2 (And.intro hv (belowt HT.out.2 HT.out.2.size hb2)))
     clear hT2 hv hb2 y0
     go_wp2_with fail
     exact bodyPost_ret (v := .tuple #[.agg #[.slice A n c,.bool k],.bool true]) (by simp [results,Tryz.results102,go_sem,z0,z1]) rfl ⟨A,n,c,k,rfl,HZ.out.1.sg _ _ _ _ HZ.out.2.1,below_set2 HZ.out.2.2 (by omega)⟩
abbrev PrsS (w : World) (b4 b6 : Nat) (y : ByteArray) (z : Int) (A6 : Option Addr) (n6 c6 : Nat) (k6 : Bool) (W : World) : Prop := (Below w.heap.size w W ∧ BoxF W (w.heap.size) ∧ SgV W (.agg #[.slice A6 n6 c6,.bool k6]) z ∧ w.heap.size < b4 ∧ w.heap.size < b6) ∧ W.cell? ⟨b4,2,none⟩ = some (.string y) ∧ W.cell? ⟨b6,0,none⟩ = some (.slice A6 n6 c6) ∧ W.cell? ⟨b6,1,none⟩ = some (.bool k6)
theorem prsS_step {w : World} {b4 b6 : Nat} {y : ByteArray} {z : Int} {A6 : Option Addr} {n6 c6 : Nat} {k6 : Bool} {W W' : World} (h : PrsS w b4 b6 y z A6 n6 c6 k6 W) (hb : Below W.heap.size W W') : PrsS w b4 b6 y z A6 n6 c6 k6 W' := by
 obtain ⟨⟨hb0,hB,g0,l0,l1⟩,e0,e1,e2⟩ := h
 exact ⟨⟨belowt hb0 hb0.size hb,hB.call hb,g0.below hb,l0,l1⟩,keepc hb e0,keepc hb e1,keepc hb e2⟩
theorem prsS_drew {w : World} {b4 b6 : Nat} {y : ByteArray} {z : Int} {A6 : Option Addr} {n6 c6 : Nat} {k6 : Bool} {W : World} (h : PrsS w b4 b6 y z A6 n6 c6 k6 W) : PrsS w b4 b6 y z A6 n6 c6 k6 W.drew := by
 obtain ⟨⟨hb0,hB,g0,l0,l1⟩,e0,e1,e2⟩ := h
 exact ⟨⟨hb0.drew,hB,g0,l0,l1⟩,e0,e1,e2⟩
theorem prsS_store {w : World} {b4 b6 : Nat} {y : ByteArray} {z : Int} {A6 : Option Addr} {n6 c6 : Nat} {k6 : Bool} {W : World} (h : PrsS w b4 b6 y z A6 n6 c6 k6 W) (s t : ByteArray) : PrsS w b4 b6 y z A6 n6 c6 k6 (sto2 W (w.heap.size) (.string s) (.string t)) := by
 obtain ⟨⟨hb0,hB,g0,l0,l1⟩,e0,e1,e2⟩ := h
 exact ⟨⟨below_set2 hb0 (by omega),hB.sets _ _,hB.sg _ _ g0,l0,l1⟩,(cell_set2 (by omega)).trans e0,(cell_set2 (by omega)).trans e1,(cell_set2 (by omega)).trans e2⟩
theorem wlen_620 {n m : Nat} (h : n < 10 ^ m) (hm : m ≤ 620) : wlen B64 n ≤ 33 := by
 refine (wlen_le_iff two_le_B _ _).2 ?_
 refine Nat.lt_of_lt_of_le h (Nat.le_trans (Nat.pow_le_pow_right (by omega) hm) ?_)
 decide +kernel
set_option maxRecDepth 100000 in
set_option maxHeartbeats 2000000 in
theorem tenTo_any (n : Nat) (w : World) (hn : n ≤ 20) :
    Calls Tryz.prog 100 #[.int .i64 (n : Int)] w fun e w' => ∃ (A : Option Addr) (l c : Nat) (k : Bool),e = .returned (.agg #[.slice A l c,.bool k]) ∧ SgV w' (.agg #[.slice A l c,.bool k]) (10 ^ n) ∧ Below w.heap.size w w' := by
 have hb0 : Below w.heap.size w (w.alloc (.cells #[.slice none 0 0,.bool false] 80)) := (Below.refl _ _).alloc (Nat.le_refl _) _
 have hB0 : BoxT (w.alloc (.cells #[.slice none 0 0,.bool false] 80)) w.heap.size := Fr.boxT (Fr.new rfl)
 have ho := fun W => numOf_any 10 W (by omega) (by omega)
 have hw10 : wlen B64 (10 : Int).natAbs ≤ 1 := wlen_le_one two_le_B (by decide)
 have hp := fun v W (hv : SgV W v 10) => toPower_any v 10 n W hv (Nat.le_trans hw10 (by unfold maxW;omega)) (Nat.le_trans (Nat.add_le_add_right (Nat.mul_le_mul_left n hw10) 1) (by unfold maxW;omega)) (by omega)
 have H := Lib.hid (And.intro hb0 hB0)
 have HP := Lib.hid hp
 clear hb0 hB0 hp hw10 hn
 go_enter Tryz.func100,Tryz.ntmps100
 go_wp2_with fail
 refine (ho _).mono ?_
 rintro e w1 ⟨A1,n1,c1,k1,rfl,hv1,hb1⟩
 have HV := Lib.hid (And.intro hv1 hb1)
 clear hv1 hb1 ho
 go_wp2_with fail
 refine (HP.out _ _ HV.out.1).mono ?_
 rintro e w2 ⟨v2,rfl,hv2,hb2⟩
 obtain ⟨A2,n2,c2,k2,rfl⟩ := hv2.open
 have hB2 := (H.out.2.call HV.out.2).call hb2
 have hbw := belowt (belowt H.out.1 H.out.1.size HV.out.2) (by have := H.out.1.size;have := HV.out.2.size;omega) hb2
 obtain ⟨⟨q0,z0⟩,⟨q1,z1⟩,z2,z3⟩ := hB2.facts
 have HZ := Lib.hid (And.intro hB2 (And.intro hv2 hbw))
 clear hB2 hv2 hbw hb2
 go_wp2_with fail
 exact bodyPost_ret (v := .agg #[.slice A2 n2 c2,.bool k2]) (by simp [results,Tryz.results100,go_sem,z0,z1]) rfl ⟨A2,n2,c2,k2,rfl,HZ.out.1.sg _ _ _ _ HZ.out.2.1,below_set2 HZ.out.2.2 (Nat.le_refl _)⟩
theorem decOk_iff (l : List UInt8) : decOk l ↔ okc (cutm l).1 = true ∧ okD (cutm l).2 (bef (cutm l).1) (beh (cutm l).1) (decide (46 ∈ (cutm l).1)) := by
 unfold decOk okD
 constructor
 · rintro ⟨h1,h2,h3,h4,h5,h6⟩
   refine ⟨h1,h2,h3,fun h => h4 (by simpa using h),h5,fun hb => ?_⟩
   have hd : (bef (cutm l).1 ++ beh (cutm l).1).all isDig = true := by rw [List.all_append];exact h1
   rw [strip_digs hd,if_neg (h6 hb)]
   exact digs_ne_nil _
 · rintro ⟨h1,h2,h3,h4,h5,h6⟩
   refine ⟨h1,h2,h3,fun h => h4 (by simpa using h),h5,fun hb h0 => ?_⟩
   have hd : (bef (cutm l).1 ++ beh (cutm l).1).all isDig = true := by rw [List.all_append];exact h1
   have := h6 hb
   rw [strip_digs hd,if_pos h0] at this
   exact this rfl
set_option maxRecDepth 100000 in
set_option maxHeartbeats 2000000 in
theorem fparse_none (l : List UInt8) (w : World) (hl : l.length ≤ 1000000) (h : ¬ decOk l) :
    Calls Tryz.prog 49 #[.string ⟨l.toArray⟩] w fun e w' => e = .returned (.tuple #[frNone,.int .i64 5]) ∧ Below w.heap.size w w' := by
 have hb0 : Below w.heap.size w (w.alloc (.cells #[.string ⟨#[]⟩,.string ⟨#[]⟩] 24)) := (Below.refl _ _).alloc (Nat.le_refl _) _
 have hB0 : BoxF (w.alloc (.cells #[.string ⟨#[]⟩,.string ⟨#[]⟩] 24)) w.heap.size := Fr.boxF (Fr.new rfl)
 have hsp := fun W => split_any l W hl
 have hE : ∃ (b : Bool) (x y : List UInt8),spV l = .tuple #[.agg #[.bool b,.string ⟨x.toArray⟩,.string ⟨y.toArray⟩],.bool false] := by
  rw [decOk_iff] at h
  unfold spV
  by_cases ho : okc (cutm l).1 = true
  · rw [if_pos ho]
    have hd : decide (okD (cutm l).2 (bef (cutm l).1) (beh (cutm l).1) (decide (46 ∈ (cutm l).1))) = false := decide_eq_false (fun e => h ⟨ho,e⟩)
    rw [hd]
    exact ⟨_,_,_,rfl⟩
  · rw [if_neg ho]
    exact ⟨_,_,_,rfl⟩
 obtain ⟨b,x,y,hE⟩ := hE
 rw [hE] at hsp
 have hf0 := fr_built0
 have H := Lib.hid (And.intro hb0 hB0)
 clear hb0 hB0 h hl hE
 unfold frNone
 go_enter Tryz.func49,Tryz.ntmps49
 go_wp2_with fail
 refine (hsp _).mono ?_
 rintro e w1 ⟨rfl,hb1⟩
 have hbw := belowt H.out.1 H.out.1.size hb1
 obtain ⟨s0,t0,hF0⟩ := H.out.2.call hb1
 obtain ⟨y0,y1,y2,y3⟩ := hF0.cells2a
 have HB := Lib.hid hbw
 clear hb1 hbw hsp hF0
 go_wp2_with fail
 exact bodyPost_ret (v := .tuple #[.agg #[.string ⟨#[]⟩,.string ⟨#[]⟩],.int .i64 5]) (by simp [results,Tryz.results49,go_sem,y0,y1]) rfl ⟨rfl,((HB.out.alloc HB.out.size _).setCell (by simp) _).setCell (by simp) _⟩
set_option maxRecDepth 100000 in
set_option maxHeartbeats 2000000 in
theorem fparse_some (l : List UInt8) (w : World) (hl : l.length ≤ 1000000) (h : decOk l) (h6 : (bef (cutm l).1).length ≤ 600) :
    Calls Tryz.prog 49 #[.string ⟨l.toArray⟩] w fun e w' => e = .returned (outF (Rat.divInt (decN l) (10 ^ decK l))) ∧ Below w.heap.size w w' := by
 have hb0 : Below w.heap.size w (w.alloc (.cells #[.string ⟨#[]⟩,.string ⟨#[]⟩] 24)) := (Below.refl _ _).alloc (Nat.le_refl _) _
 have hB0 : BoxF (w.alloc (.cells #[.string ⟨#[]⟩,.string ⟨#[]⟩] 24)) w.heap.size := Fr.boxF (Fr.new rfl)
 have hsp := fun W => split_any l W hl
 have hdg := decOk_digits h
 obtain ⟨ho,hD⟩ := (decOk_iff l).1 h
 have hE : spV l = .tuple #[.agg #[.bool (cutm l).2,.string ⟨(bef (cutm l).1).toArray⟩,.string ⟨(beh (cutm l).1).toArray⟩],.bool true] := by
  unfold spV;rw [if_pos ho,decide_eq_true hD]
 obtain ⟨t,b,hcm⟩ : ∃ t b,cutm l = (t,b) := ⟨_,_,rfl⟩
 obtain ⟨h1,h2,h3,h4,h5,h7⟩ := h
 unfold decN decK
 rw [hcm] at hE hdg h1 h2 h3 h4 h5 h6 h7 ⊢
 simp only at hE hdg h1 h2 h3 h4 h5 h6 h7 ⊢
 obtain ⟨x,hx⟩ : ∃ x,x = bef t := ⟨_,rfl⟩
 obtain ⟨y,hy⟩ : ∃ y,y = beh t := ⟨_,rfl⟩
 rw [← hx,← hy] at hE hdg h7 ⊢
 rw [← hx] at h6
 rw [← hy] at h5
 rw [hE] at hsp
 have hun := fun W => units_any b x y W hdg h6 h5 h7
 obtain ⟨z,hz⟩ : ∃ z,z = unitZ b x y := ⟨_,rfl⟩
 rw [← hz] at hun
 have hz2 : (if b = true then -(dval (x ++ y) : Int) else (dval (x ++ y) : Int)) = z := by rw [hz];rfl
 rw [hz2]
 have hzw : wlen B64 z.natAbs ≤ 33 := by
  have hn : z.natAbs = dval (x ++ y) := by rw [hz];unfold unitZ;cases b <;> simp
  rw [hn]
  exact wlen_620 (dval_lt hdg) (by rw [List.length_append];omega)
 have hten0 : (10 : Int) ^ y.length ≠ 0 := Int.pow_ne_zero (by omega)
 have htw : wlen B64 ((10 : Int) ^ y.length).natAbs ≤ 33 := by
  rw [Int.natAbs_pow]
  exact wlen_620 (m := y.length + 1) (Nat.pow_lt_pow_right (by decide) (by omega)) (by omega)
 obtain ⟨T,hT⟩ : ∃ T : Int,T = 10 ^ y.length := ⟨_,rfl⟩
 have htn := fun W => tenTo_any y.length W h5
 rw [← hT] at htw hten0 htn ⊢
 obtain ⟨s,t',k,hsk⟩ := outF_open (Rat.divInt z T)
 rw [hsk]
 have HQ := Lib.hid (And.intro hzw (And.intro hten0 (And.intro htw hsk)))
 have H := Lib.hid (And.intro hb0 hB0)
 clear hb0 hB0 ho hD hE hl hdg h1 h2 h3 h4 h5 h6 h7 hx hy hcm hz hz2 hT hzw hten0 htw hsk
 go_enter Tryz.func49,Tryz.ntmps49
 go_wp2_with fail
 refine (hsp _).mono ?_
 rintro e w1 ⟨rfl,hb1⟩
 have HB1 := Lib.hid hb1
 clear hb1 hsp
 go_wp2_with fail
 refine (hun _).mono ?_
 rintro e w2 ⟨A6,n6,c6,k6,rfl,hv6,hb2⟩
 have HB2 := Lib.hid (And.intro hb2 hv6)
 clear hb2 hv6 hun
 have HTN : Hid (∀ W,PrsS w w1.heap.size w2.heap.size ⟨y.toArray⟩ z A6 n6 c6 k6 W → Calls Tryz.prog 100 #[.int .i64 (y.length : Int)] W fun e w' => ∃ (A : Option Addr) (n c : Nat) (k : Bool),e = .returned (.agg #[.slice A n c,.bool k]) ∧ SgV w' (.agg #[.slice A n c,.bool k]) T ∧ Below W.heap.size W w' ∧ PrsS w w1.heap.size w2.heap.size ⟨y.toArray⟩ z A6 n6 c6 k6 w') := Lib.hid (fun W hS => by
  refine (htn W).mono ?_
  rintro e w' ⟨A,n,c,k,he,hv,hb⟩
  exact ⟨A,n,c,k,he,hv,hb,prsS_step hS hb⟩)
 have HLO : Hid (∀ W v,SgV W v T → PrsS w w1.heap.size w2.heap.size ⟨y.toArray⟩ z A6 n6 c6 k6 W → Calls Tryz.prog 53 #[.agg #[.slice A6 n6 c6,.bool k6],v] W fun e w' => ∃ (Ax : Option Addr) (nx cx : Nat) (kx : Bool) (Ay : Option Addr) (ny cy : Nat) (ky : Bool),e = .returned (.agg #[.slice Ax nx cx,.bool kx,.slice Ay ny cy,.bool ky]) ∧ RaV w' (.agg #[.slice Ax nx cx,.bool kx,.slice Ay ny cy,.bool ky]) (Rat.divInt z T) ∧ PrsS w w1.heap.size w2.heap.size ⟨y.toArray⟩ z A6 n6 c6 k6 w') := Lib.hid (fun W v hv hS => by
  refine (lowest_any _ v z T W hS.1.2.2.1 hv (Nat.le_trans (Nat.add_le_add_right HQ.out.1 2) (by unfold maxW;omega)) (Nat.le_trans (Nat.add_le_add_right HQ.out.2.2.1 2) (by unfold maxW;omega)) HQ.out.2.1).mono ?_
  rintro e w' ⟨v,he,hv,hb⟩
  obtain ⟨Ax,nx,cx,kx,Ay,ny,cy,ky,rfl,_,_⟩ := hv.open
  exact ⟨Ax,nx,cx,kx,Ay,ny,cy,ky,he,hv,prsS_step hS hb⟩)
 have HWR : Hid (∀ W v,RaV W v (Rat.divInt z T) → PrsS w w1.heap.size w2.heap.size ⟨y.toArray⟩ z A6 n6 c6 k6 W → Calls Tryz.prog 52 #[v] W fun e w' => e = .returned (.tuple #[.agg #[.string s,.string t'],.int .i64 k]) ∧ PrsS w w1.heap.size w2.heap.size ⟨y.toArray⟩ z A6 n6 c6 k6 w') := Lib.hid (fun W v hv hS => by
  have hw := fwrite_any v _ W hv ((Fz.divInt HQ.out.2.1 HQ.out.1 HQ.out.2.2.1).mono (by omega))
  rw [HQ.out.2.2.2] at hw
  refine hw.mono ?_
  rintro e w' ⟨he,hb⟩
  exact ⟨he,prsS_step hS hb⟩)
 have hS0 : PrsS w w1.heap.size w2.heap.size ⟨y.toArray⟩ z A6 n6 c6 k6 (w2.alloc (.cells #[.slice A6 n6 c6,.bool k6] 80)) := by
  have hbw1 := belowt H.out.1 H.out.1.size HB1.out
  have hba : Below w1.heap.size w1 (w1.alloc (.cells #[.bool b,.string ⟨x.toArray⟩,.string ⟨y.toArray⟩] 130)) := (Below.refl _ _).alloc (Nat.le_refl _) _
  have hbw2 := belowt (belowt hbw1 hbw1.size hba) (by have := hbw1.size;have := hba.size;omega) HB2.out.1
  have r4 : Fr w2 w1.heap.size #[.bool b,.string ⟨x.toArray⟩,.string ⟨y.toArray⟩] 130 := (Fr.new rfl).call HB2.out.1
  have r6 : Fr (w2.alloc (.cells #[.slice A6 n6 c6,.bool k6] 80)) w2.heap.size #[.slice A6 n6 c6,.bool k6] 80 := Fr.new rfl
  have hB2 := ((H.out.2.call HB1.out).call hba).call HB2.out.1
  have l1 : w.heap.size < w1.heap.size := by obtain ⟨_,_,hh⟩ := H.out.2.call HB1.out;exact hh.lt
  have l2 : w.heap.size < w2.heap.size := by obtain ⟨_,_,hh⟩ := hB2;exact hh.lt
  exact ⟨⟨hbw2.alloc hbw2.size _,hB2.old,HB2.out.2.old,l1,l2⟩,r4.old.cell 2,r6.cells2.1,r6.cells2.2.1⟩
 have r4 : Fr (w2.alloc (.cells #[.slice A6 n6 c6,.bool k6] 80)) w1.heap.size #[.bool b,.string ⟨x.toArray⟩,.string ⟨y.toArray⟩] 130 := ((Fr.new rfl).call HB2.out.1).old
 clear r4
 clear htn
 go_wp2_with fail
 have hS1 := prsS_drew hS0
 clear hS0
 go_region_held3 (fun W => (Below w.heap.size w W ∧ BoxF W (w.heap.size) ∧ SgV W (.agg #[.slice A6 n6 c6,.bool k6]) z ∧ w.heap.size < w1.heap.size ∧ w.heap.size < w2.heap.size) ∧ W.cell? ⟨w1.heap.size,2,none⟩ = some (.string ⟨y.toArray⟩) ∧ W.cell? ⟨w2.heap.size,0,none⟩ = some (.slice A6 n6 c6) ∧ W.cell? ⟨w2.heap.size,1,none⟩ = some (.bool k6)) (first | with_reducible assumption | (refine prsS_store ?_ _ _;with_reducible assumption))
  (first
   | (go_at_call 100;with_reducible refine (HTN.out _ ?_).mono ?_;with_reducible assumption;rintro e w5 ⟨A5,n5,c5,k5,rfl,hq5,hb5,hS5⟩)
   | (go_at_call 53;with_reducible refine (HLO.out _ _ ?_ ?_).mono ?_;with_reducible assumption;with_reducible assumption;rintro e w7 ⟨A7,n7,c7,k7,A8,n8,c8,k8,rfl,hq7,hS7⟩)
   | (go_at_call 52;with_reducible refine (HWR.out _ _ ?_ ?_).mono ?_;with_reducible assumption;with_reducible assumption;rintro e w9 ⟨rfl,hS9⟩;obtain ⟨⟨q0,y0⟩,⟨q1,y1⟩,y2,y3⟩ := hS9.1.2.1.facts))
 go_wp2_with fail
 exact bodyPost_ret (v := .tuple #[.agg #[.string s,.string t'],.int .i64 k]) (by simp [results,Tryz.results49,go_sem,y0,y1]) rfl ⟨rfl,(hS9.1.1.setCell (by simp) _).setCell (by simp) _⟩
end Go.Proofs.YtlfgpmnjnpdkdaaGreatDoor
namespace Go.Proofs.YtlfgpmnjnpdkdaaGreatDoor
open Go.RowKit Vd
attribute [local go_sem ↓] Go.wp_at_zero Go.wp_at_succ
theorem repeatZ (j : Nat) : Lib.repeatL [48] j = List.replicate j 48 := by
 induction j with
 | zero => rfl
 | succ j ih => rw [Lib.repeatL,ih];rfl
set_option maxRecDepth 100000 in
set_option maxHeartbeats 4000000 in
theorem dtext_any (v : Value) (z : Int) (p : Nat) (w : World) (hv : SgV w v z) (hp : p ≤ 20) (hd : dlen z.natAbs ≤ 620) (hb : wlen B64 z.natAbs ≤ 1000000) :
    Calls Tryz.prog 99 #[v,.int .i64 (p : Int)] w fun e w' => e = .returned (.string ⟨(dtx z p).toArray⟩) ∧ Below w.heap.size w w' := by
 obtain ⟨A,m,c,k,rfl⟩ := hv.open
 have hk := hv.neg
 have hb0 : Below w.heap.size w (w.alloc (.cells #[.slice A m c,.bool k] 80)) := (Below.refl _ _).alloc (Nat.le_refl _) _
 have hF0 : Fr (w.alloc (.cells #[.slice A m c,.bool k] 80)) w.heap.size #[.slice A m c,.bool k] 80 := Fr.new rfl
 obtain ⟨mv,em,hm⟩ := hv
 simp only [Value.agg.injEq,Array.mk.injEq,List.cons.injEq,and_true] at em
 obtain ⟨rfl,-⟩ := em
 have hdc := decimal_any _ z.natAbs 620 _ (hm.below hb0) hb (by omega) (by omega)
 rw [show decV z.natAbs 620 = .tuple #[.string ⟨(digs z.natAbs).toArray⟩,.bool true] by unfold decV;rw [if_pos hd]] at hdc
 rw [show ((620 : Nat) : Int) = 620 from rfl] at hdc
 obtain ⟨n,hn⟩ : ∃ n,n = z.natAbs := ⟨_,rfl⟩
 rw [← hn] at hd hdc
 obtain ⟨D,hD⟩ : ∃ D,D = digs n := ⟨_,rfl⟩
 obtain ⟨j,hj⟩ : ∃ j,j = p + 1 - dlen n := ⟨_,rfl⟩
 obtain ⟨M,hM⟩ : ∃ M,M = dlen (n / 10 ^ p) := ⟨_,rfl⟩
 obtain ⟨l1,l2,l3⟩ := laid_parts n p j hj
 rw [← hD,← hM] at l1 l2 l3
 obtain ⟨Rp,hRp⟩ : ∃ Rp : List UInt8,Rp = List.replicate j 48 := ⟨_,rfl⟩
 have hRl : Rp.length = j := by rw [hRp];simp
 rw [← hRp] at l1 l2 l3
 obtain ⟨X,hX⟩ : ∃ X,X = Rp ++ D := ⟨_,rfl⟩
 obtain ⟨I,hI⟩ : ∃ I,I = digs (n / 10 ^ p) := ⟨_,rfl⟩
 obtain ⟨F,hF⟩ : ∃ F,F = padd p n := ⟨_,rfl⟩
 rw [← hX] at l1 l2 l3
 rw [← hI] at l2
 rw [← hF] at l3
 have hDl : D.length = dlen n := by rw [hD,digs_length]
 have hIl : I.length = M := by rw [hI,digs_length,hM]
 have hFl : F.length = p := by rw [hF,padd_length]
 have hMl : M ≤ 1000 := by
  have := dlen_div n p
  rw [← hM] at this
  omega
 have hrep : ∀ W,Calls Tryz.prog 131 #[.string ⟨#[48]⟩,.int .i64 (j : Int)] W fun e w' => e = .returned (.string ⟨Rp.toArray⟩) ∧ Below W.heap.size W w' := fun W => by
  have h := Tryz.strings_Repeat ⟨#[48]⟩ j W (by omega) (by show 1 * j ≤ _;omega)
  rw [show Lib.repeatL (⟨#[48]⟩ : ByteArray).data.toList j = Rp from by rw [hRp];exact repeatZ j] at h
  exact h
 have hc1 : (⟨Rp.toArray⟩ : ByteArray) ++ ⟨D.toArray⟩ = ⟨X.toArray⟩ := by rw [catB,hX]
 have hx1 : (⟨X.toArray⟩ : ByteArray).extract 0 M = ⟨I.toArray⟩ := by rw [extT,l2]
 have hx2 : (⟨X.toArray⟩ : ByteArray).extract M X.length = ⟨F.toArray⟩ := by rw [extB,l3]
 have hc2 : (⟨#[46]⟩ : ByteArray) ++ ⟨F.toArray⟩ = ⟨(46 :: F).toArray⟩ := catB [46] F
 have hc3 : (⟨I.toArray⟩ : ByteArray) ++ ⟨(46 :: F).toArray⟩ = ⟨(I ++ 46 :: F).toArray⟩ := catB I (46 :: F)
 have HE : Hid (dtx z p = (if z < 0 then [45] else []) ++ (I ++ (if p = 0 then [] else 46 :: F))) := Lib.hid (by rw [hI,hF,hn];rfl)
 have hjm : max ((p : Int) + 1 - (D.length : Int)) 0 = (j : Int) := by omega
 have hper : (X.length : Int) - (p : Int) = (M : Int) := by omega
 have hML : M ≤ X.length := by omega
 have hMi : (M : Int) ≤ 1000 := by omega
 have hM0 : (0 : Int) ≤ (M : Int) := by omega
 have s1 : ¬ 9223372036854775807 < Rp.length + D.length := by omega
 have s2 : ¬ 9223372036854775807 < 1 + F.length := by omega
 have s3 : ¬ 9223372036854775807 < I.length + (F.length + 1) := by omega
 have hp1 : (p : Int) ≤ 20 := by omega
 have hp0 : (0 : Int) ≤ (p : Int) := by omega
 have hDi : (D.length : Int) ≤ 1000 := by omega
 rw [← hD] at hdc
 have H := Lib.hid (And.intro hb0 hF0)
 have HK := Lib.hid hk
 have HL := Lib.hid (show I.length ≤ 1000 ∧ F.length ≤ 20 by omega)
 clear hb0 hF0 hm hb hd hp hn hD hj hM l1 l2 l3 hX hI hF hDl hIl hFl hMl hk hRp hRl
 go_enter Tryz.func99,Tryz.ntmps99
 go_wp2_with fail
 refine hdc.mono ?_
 rintro e w1 ⟨rfl,hb1⟩
 have hF1 := H.out.2.call hb1
 have hbw1 := belowt H.out.1 H.out.1.size hb1
 have HB := Lib.hid (And.intro hF1 hbw1)
 clear hdc hb1 hF1 hbw1
 go_wp2_with fail
 refine (hrep _).mono ?_
 rintro e w2 ⟨rfl,hb2⟩
 have hF2 := HB.out.1.call hb2
 have hbw2 := belowt HB.out.2 HB.out.2.size hb2
 obtain ⟨y0,y1,-,-⟩ := hF2.cells2
 have HB2 := Lib.hid hbw2
 clear hF2 hbw2 hb2 hrep
 by_cases hp' : p = 0
 · have hpz : ¬ 0 < (p : Int) := by omega
   cases k with
   | false =>
     have HZ : Hid (dtx z p = I) := Lib.hid (by
      rw [HE.out,if_pos hp',if_neg (by have := HK.out;intro h;rw [decide_eq_true h] at this;cases this)];simp)
     clear hp'
     go_wp2_with fail
     go_ret
     exact ⟨by rw [HZ.out];rfl,HB2.out⟩
   | true =>
     have HZ : Hid (dtx z p = 45 :: I) := Lib.hid (by
      rw [HE.out,if_pos hp',if_pos (of_decide_eq_true HK.out.symm)];simp)
     have hc4 : (⟨#[45]⟩ : ByteArray) ++ ⟨I.toArray⟩ = ⟨(45 :: I).toArray⟩ := catB [45] I
     have s4 : ¬ 9223372036854775807 < 1 + I.length := by have := HL.out;omega
     clear hp'
     go_wp2_with fail
     go_ret
     exact ⟨by rw [HZ.out];rfl,HB2.out⟩
 · have hpz : 0 < (p : Int) := by omega
   cases k with
   | false =>
     have HZ : Hid (dtx z p = I ++ 46 :: F) := Lib.hid (by
      rw [HE.out,if_neg hp',if_neg (by have := HK.out;intro h;rw [decide_eq_true h] at this;cases this)];simp)
     clear hp'
     go_wp2_with fail
     go_ret
     exact ⟨by rw [HZ.out];rfl,HB2.out⟩
   | true =>
     have HZ : Hid (dtx z p = 45 :: (I ++ 46 :: F)) := Lib.hid (by
      rw [HE.out,if_neg hp',if_pos (of_decide_eq_true HK.out.symm)];simp)
     have hc4 : (⟨#[45]⟩ : ByteArray) ++ ⟨(I ++ 46 :: F).toArray⟩ = ⟨(45 :: (I ++ 46 :: F)).toArray⟩ := catB [45] (I ++ 46 :: F)
     have s4 : ¬ 9223372036854775807 < 1 + (I.length + (F.length + 1)) := by have := HL.out;omega
     clear hp'
     go_wp2_with fail
     go_ret
     exact ⟨by rw [HZ.out];rfl,HB2.out⟩
end Go.Proofs.YtlfgpmnjnpdkdaaGreatDoor
