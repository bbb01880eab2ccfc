/- Contracts: decimal texts taken apart: digits, isValid, splitDecimal. Contracts: decimal texts taken apart: splitDecimal. -/
import Derived.Test.YtlfgpmnjnpdkdaaGreatDoorFraA
import Derived.Test.YtlfgpmnjnpdkdaaGreatDoorText
import Derived.Test.YtlfgpmnjnpdkdaaGreatDoorShelfB
import Derived.Deep.RegionHeld3
import Derived.Deep.DrawnRows
import Derived.Lib.OthersKept
namespace Go.Proofs.YtlfgpmnjnpdkdaaGreatDoor
open Go.RowKit Vd
attribute [local go_sem ↓] Go.wp_at_zero Go.wp_at_succ
theorem strip_trim (l : List UInt8) : Lib.trimLeftB l 48 = strip l := by
 induction l with
 | nil => rfl
 | cons c t ih =>
   unfold Lib.trimLeftB at ih ⊢
   by_cases h : c = 48
   · subst h;simp [strip,ih]
   · simp [strip,h]
theorem catB (x y : List UInt8) : (⟨x.toArray⟩ : ByteArray) ++ ⟨y.toArray⟩ = ⟨(x ++ y).toArray⟩ := by
 apply ByteArray.ext
 rw [ByteArray.data_append]
 simp
theorem dec_built (b : Bool) (x : ByteArray) (W : World) : (Instr.build 130 #[(0,.bool b),(1,.string x)]).run Tryz.prog W = .ok (.agg #[.bool b,.string x,.string ⟨#[]⟩]) W :=
 run_build W _ _ _ (by kernel_rfl)
theorem dec_built0 (W : World) : (Instr.build 130 #[]).run Tryz.prog W = .ok (.agg #[.bool false,.string ⟨#[]⟩,.string ⟨#[]⟩]) W :=
 run_build W _ _ _ (by kernel_rfl)
abbrev dV (b : Bool) (x y : List UInt8) : Value := .agg #[.bool b,.string ⟨x.toArray⟩,.string ⟨y.toArray⟩]
set_option maxRecDepth 100000 in
set_option maxHeartbeats 1000000 in
theorem digits_any (b : Bool) (x y : List UInt8) (w : World) (hx : x.length ≤ 1000000) (hy : y.length ≤ 1000000) :
 Calls Tryz.prog 135 #[dV b x y] w fun e w' => e = .returned (.string ⟨(strip (x ++ y)).toArray⟩) ∧ Below w.heap.size w w' := by
 have htl := fun s W => Tryz.strings_TrimLeft_one s 48 (by decide) W
 have hb : Below w.heap.size w (w.alloc (.cells #[.bool b,.string ⟨x.toArray⟩,.string ⟨y.toArray⟩] 130)) := (Below.refl _ _).alloc (Nat.le_refl _) _
 have HB := Lib.hid hb
 have hc := catB x y
 clear hb
 go_enter Tryz.func135,Tryz.ntmps135
 go_wp2_with (go_at_call 169;refine (htl _ _).mono ?_;rintro e w1 ⟨rfl,rfl⟩)
 go_ret
 refine ⟨?_,HB.out⟩
 simp [strip_trim]
def okD (b : Bool) (x y : List UInt8) (p : Bool) : Prop := x ≠ [] ∧ (x.head? = some 48 → x = [48]) ∧ (p = true → y ≠ []) ∧ y.length ≤ 20 ∧ (b = true → strip (x ++ y) ≠ [])
instance (b : Bool) (x y : List UInt8) (p : Bool) : Decidable (okD b x y p) := by unfold okD;exact inferInstance
set_option maxRecDepth 100000 in
set_option maxHeartbeats 2000000 in
theorem isValid_any (b : Bool) (x y : List UInt8) (p : Bool) (w : World) (hx : x.length ≤ 1000000) (hy : y.length ≤ 1000000) :
 Calls Tryz.prog 134 #[dV b x y,.bool p] w fun e w' => e = .returned (.bool (decide (okD b x y p))) ∧ Below w.heap.size w w' := by
 have hd := fun W => digits_any b x y W hx hy
 have hb : Below w.heap.size w (w.alloc (.cells #[.bool b,.string ⟨x.toArray⟩,.string ⟨y.toArray⟩] 130)) := (Below.refl _ _).alloc (Nat.le_refl _) _
 have HB := Lib.hid hb
 clear hb
 cases x with
 | nil =>
   have HE : Hid (decide (okD b [] y p) = false) := Lib.hid (by simp [okD])
   clear hd hx hy
   go_enter Tryz.func134,Tryz.ntmps134
   go_wp2_with fail
   go_ret
   exact ⟨by rw [HE.out];rfl,HB.out⟩
 | cons c t =>
   by_cases h48 : c = 48
   · subst h48
     cases t with
     | nil =>
       by_cases hy0 : y = []
       · subst hy0
         cases p with
         | true =>
           have HE : Hid (decide (okD b ([48]) [] true) = false) := Lib.hid (by simp [okD,List.head?_cons])
           clear hd hx hy
           go_enter Tryz.func134,Tryz.ntmps134
           go_wp2_with fail
           go_ret
           exact ⟨by rw [HE.out];rfl,HB.out⟩
         | false =>
           cases b with
           | false =>
             have HE : Hid (decide (okD false ([48]) [] false) = true) := Lib.hid (by simp [okD,List.head?_cons])
             clear hd hx hy
             go_enter Tryz.func134,Tryz.ntmps134
             go_wp2_with fail
             go_ret
             exact ⟨by rw [HE.out];rfl,HB.out⟩
           | true =>
             obtain ⟨st,hst⟩ : ∃ st,st = strip ([48] ++ []) := ⟨_,rfl⟩
             rw [← hst] at hd
             have HE : Hid (decide (okD true ([48]) [] false) = !st.isEmpty) := Lib.hid (by rw [Bool.eq_iff_iff,decide_eq_true_iff];unfold okD;rw [← hst];cases st <;> simp [List.head?_cons])
             clear hx hy hst
             go_enter Tryz.func134,Tryz.ntmps134
             go_wp2_with (go_at_call 135;refine (hd _).mono ?_;rintro e w1 ⟨rfl,hb1⟩)
             go_ret
             exact ⟨by rw [HE.out];rfl,HB.out.trans (hb1.mono HB.out.size)⟩
       · have hye : y.isEmpty = false := by cases y with | nil => exact absurd rfl hy0 | cons => rfl
         by_cases hl : y.length ≤ 20
         · have hl2 : ¬ 20 < (y.length : Int) := by omega
           cases p <;> cases b
           · have HE : Hid (decide (okD false ([48]) y false) = true) := Lib.hid (by simp [okD,List.head?_cons,hl,hy0])
             clear hd hx hy hy0 hl
             go_enter Tryz.func134,Tryz.ntmps134
             go_wp2_with fail
             go_ret
             exact ⟨by rw [HE.out];rfl,HB.out⟩
           · obtain ⟨st,hst⟩ : ∃ st,st = strip ([48] ++ y) := ⟨_,rfl⟩
             rw [← hst] at hd
             have HE : Hid (decide (okD true ([48]) y false) = !st.isEmpty) := Lib.hid (by rw [Bool.eq_iff_iff,decide_eq_true_iff];unfold okD;rw [← hst];cases st <;> simp [List.head?_cons,hl,hy0])
             clear hx hy hst hy0 hl
             go_enter Tryz.func134,Tryz.ntmps134
             go_wp2_with (go_at_call 135;refine (hd _).mono ?_;rintro e w1 ⟨rfl,hb1⟩)
             go_ret
             exact ⟨by rw [HE.out];rfl,HB.out.trans (hb1.mono HB.out.size)⟩
           · have HE : Hid (decide (okD false ([48]) y true) = true) := Lib.hid (by simp [okD,List.head?_cons,hl,hy0])
             clear hd hx hy hy0 hl
             go_enter Tryz.func134,Tryz.ntmps134
             go_wp2_with fail
             go_ret
             exact ⟨by rw [HE.out];rfl,HB.out⟩
           · obtain ⟨st,hst⟩ : ∃ st,st = strip ([48] ++ y) := ⟨_,rfl⟩
             rw [← hst] at hd
             have HE : Hid (decide (okD true ([48]) y true) = !st.isEmpty) := Lib.hid (by rw [Bool.eq_iff_iff,decide_eq_true_iff];unfold okD;rw [← hst];cases st <;> simp [List.head?_cons,hl,hy0])
             clear hx hy hst hy0 hl
             go_enter Tryz.func134,Tryz.ntmps134
             go_wp2_with (go_at_call 135;refine (hd _).mono ?_;rintro e w1 ⟨rfl,hb1⟩)
             go_ret
             exact ⟨by rw [HE.out];rfl,HB.out.trans (hb1.mono HB.out.size)⟩
         · have hl2 : 20 < (y.length : Int) := by omega
           cases p
           · have HE : Hid (decide (okD b ([48]) y false) = false) := Lib.hid (by simp [okD,List.head?_cons,hl])
             clear hd hx hy hy0 hl
             go_enter Tryz.func134,Tryz.ntmps134
             go_wp2_with fail
             go_ret
             exact ⟨by rw [HE.out];rfl,HB.out⟩
           · have HE : Hid (decide (okD b ([48]) y true) = false) := Lib.hid (by simp [okD,List.head?_cons,hl])
             clear hd hx hy hy0 hl
             go_enter Tryz.func134,Tryz.ntmps134
             go_wp2_with fail
             go_ret
             exact ⟨by rw [HE.out];rfl,HB.out⟩
     | cons d t =>
       have HE : Hid (decide (okD b (48 :: d :: t) y p) = false) := Lib.hid (by simp [okD,List.head?_cons])
       clear hd hx hy
       go_enter Tryz.func134,Tryz.ntmps134
       go_wp2_with fail
       go_ret
       exact ⟨by rw [HE.out];rfl,HB.out⟩
   · have hn : ¬ (c.toNat : Int) = 48 := fun e => h48 (UInt8.toNat_inj.1 (by simp;omega))
     by_cases hy0 : y = []
     · subst hy0
       cases p with
       | true =>
         have HE : Hid (decide (okD b (c :: t) [] true) = false) := Lib.hid (by simp [okD,h48])
         clear hd hx hy
         go_enter Tryz.func134,Tryz.ntmps134
         go_wp2_with fail
         go_ret
         exact ⟨by rw [HE.out];rfl,HB.out⟩
       | false =>
         cases b with
         | false =>
           have HE : Hid (decide (okD false (c :: t) [] false) = true) := Lib.hid (by simp [okD,h48])
           clear hd hx hy
           go_enter Tryz.func134,Tryz.ntmps134
           go_wp2_with fail
           go_ret
           exact ⟨by rw [HE.out];rfl,HB.out⟩
         | true =>
           obtain ⟨st,hst⟩ : ∃ st,st = strip (c :: t ++ []) := ⟨_,rfl⟩
           rw [← hst] at hd
           have HE : Hid (decide (okD true (c :: t) [] false) = !st.isEmpty) := Lib.hid (by rw [Bool.eq_iff_iff,decide_eq_true_iff];unfold okD;rw [← hst];cases st <;> simp [h48])
           clear hx hy hst
           go_enter Tryz.func134,Tryz.ntmps134
           go_wp2_with (go_at_call 135;refine (hd _).mono ?_;rintro e w1 ⟨rfl,hb1⟩)
           go_ret
           exact ⟨by rw [HE.out];rfl,HB.out.trans (hb1.mono HB.out.size)⟩
     · have hye : y.isEmpty = false := by cases y with | nil => exact absurd rfl hy0 | cons => rfl
       by_cases hl : y.length ≤ 20
       · have hl2 : ¬ 20 < (y.length : Int) := by omega
         cases p <;> cases b
         · have HE : Hid (decide (okD false (c :: t) y false) = true) := Lib.hid (by simp [okD,h48,hl,hy0])
           clear hd hx hy hy0 hl
           go_enter Tryz.func134,Tryz.ntmps134
           go_wp2_with fail
           go_ret
           exact ⟨by rw [HE.out];rfl,HB.out⟩
         · obtain ⟨st,hst⟩ : ∃ st,st = strip (c :: t ++ y) := ⟨_,rfl⟩
           rw [← hst] at hd
           have HE : Hid (decide (okD true (c :: t) y false) = !st.isEmpty) := Lib.hid (by rw [Bool.eq_iff_iff,decide_eq_true_iff];unfold okD;rw [← hst];cases st <;> simp [h48,hl,hy0])
           clear hx hy hst hy0 hl
           go_enter Tryz.func134,Tryz.ntmps134
           go_wp2_with (go_at_call 135;refine (hd _).mono ?_;rintro e w1 ⟨rfl,hb1⟩)
           go_ret
           exact ⟨by rw [HE.out];rfl,HB.out.trans (hb1.mono HB.out.size)⟩
         · have HE : Hid (decide (okD false (c :: t) y true) = true) := Lib.hid (by simp [okD,h48,hl,hy0])
           clear hd hx hy hy0 hl
           go_enter Tryz.func134,Tryz.ntmps134
           go_wp2_with fail
           go_ret
           exact ⟨by rw [HE.out];rfl,HB.out⟩
         · obtain ⟨st,hst⟩ : ∃ st,st = strip (c :: t ++ y) := ⟨_,rfl⟩
           rw [← hst] at hd
           have HE : Hid (decide (okD true (c :: t) y true) = !st.isEmpty) := Lib.hid (by rw [Bool.eq_iff_iff,decide_eq_true_iff];unfold okD;rw [← hst];cases st <;> simp [h48,hl,hy0])
           clear hx hy hst hy0 hl
           go_enter Tryz.func134,Tryz.ntmps134
           go_wp2_with (go_at_call 135;refine (hd _).mono ?_;rintro e w1 ⟨rfl,hb1⟩)
           go_ret
           exact ⟨by rw [HE.out];rfl,HB.out.trans (hb1.mono HB.out.size)⟩
       · have hl2 : 20 < (y.length : Int) := by omega
         cases p
         · have HE : Hid (decide (okD b (c :: t) y false) = false) := Lib.hid (by simp [okD,h48,hl])
           clear hd hx hy hy0 hl
           go_enter Tryz.func134,Tryz.ntmps134
           go_wp2_with fail
           go_ret
           exact ⟨by rw [HE.out];rfl,HB.out⟩
         · have HE : Hid (decide (okD b (c :: t) y true) = false) := Lib.hid (by simp [okD,h48,hl])
           clear hd hx hy hy0 hl
           go_enter Tryz.func134,Tryz.ntmps134
           go_wp2_with fail
           go_ret
           exact ⟨by rw [HE.out];rfl,HB.out⟩
end Go.Proofs.YtlfgpmnjnpdkdaaGreatDoor
namespace Go.Proofs.YtlfgpmnjnpdkdaaGreatDoor
open Go.RowKit Vd
attribute [local go_sem ↓] Go.wp_at_zero Go.wp_at_succ
def BoxD (W : World) (b : Nat) : Prop := ∃ (x : Bool) (s t : ByteArray),Fr W b #[.bool x,.string s,.string t] 130
theorem Fr.boxD {W : World} {b : Nat} {x : Bool} {s t : ByteArray} (h : Fr W b #[.bool x,.string s,.string t] 130) : BoxD W b := ⟨_,_,_,h⟩
theorem BoxD.call {W W' : World} {b : Nat} (h : BoxD W b) (hb : Below W.heap.size W W') : BoxD W' b := by obtain ⟨_,_,_,h⟩ := h;exact (h.call hb).boxD
abbrev sto3 (W : World) (b : Nat) (u0 u1 u2 : Value) : World := ((W.setCell ⟨b,0,none⟩ u0).setCell ⟨b,1,none⟩ u1).setCell ⟨b,2,none⟩ u2
theorem below_set3 {B : Nat} {w V : World} {b : Nat} {u0 u1 u2 : Value} (h : Below B w V) (hb : B ≤ b) : Below B w (sto3 V b u0 u1 u2) :=
 ((h.setCell (p := ⟨b,0,none⟩) hb _).setCell (p := ⟨b,1,none⟩) hb _).setCell (p := ⟨b,2,none⟩) hb _
theorem cell_set3 {W : World} {b : Nat} {u0 u1 u2 : Value} {g o : Nat} (h : g ≠ b) : (sto3 W b u0 u1 u2).cell? ⟨g,o,none⟩ = W.cell? ⟨g,o,none⟩ := by
 have hn : ∀ o',(⟨g,o,none⟩ : Addr) ≠ ⟨b,o',none⟩ := fun o' e => h (by injection e)
 unfold sto3
 rw [World.cell?_setCell_other _ _ _ _ (fun e => hn _ e.symm),World.cell?_setCell_other _ _ _ _ (fun e => hn _ e.symm),World.cell?_setCell_other _ _ _ _ (fun e => hn _ e.symm)]
theorem BoxD.set3 {W : World} {b : Nat} (h : BoxD W b) (x : Bool) (s t : ByteArray) : BoxD (sto3 W b (.bool x) (.string s) (.string t)) b := by
 obtain ⟨_,_,_,h⟩ := h;exact ⟨_,_,_,h.set.set.set⟩
theorem BoxD.facts {W : World} {b : Nat} (h : BoxD W b) : (∃ u,W.cell? ⟨b,0,none⟩ = some u) ∧ (∃ u,W.cell? ⟨b,1,none⟩ = some u) ∧ (∃ u,W.cell? ⟨b,2,none⟩ = some u) ∧ W.frozen? ⟨b,0,none⟩ = false ∧ W.frozen? ⟨b,1,none⟩ = false ∧ W.frozen? ⟨b,2,none⟩ = false := by
 obtain ⟨_,_,_,h⟩ := h
 exact ⟨⟨_,h.cell 0⟩,⟨_,h.cell 1⟩,⟨_,h.cell 2⟩,h.frozen 0,h.frozen 1,h.frozen 2⟩
abbrev SpS (w : World) (g : Nat) (x : Bool) (s t : ByteArray) (W : World) : Prop := (Below w.heap.size w W ∧ BoxD W w.heap.size ∧ w.heap.size < g) ∧ W.cell? ⟨g,0,none⟩ = some (.bool x) ∧ W.cell? ⟨g,1,none⟩ = some (.string s) ∧ W.cell? ⟨g,2,none⟩ = some (.string t)
theorem keepc' {W W' : World} {p : Addr} {v : Value} (hb : Below W.heap.size W W') (h : W.cell? p = some v) : W'.cell? p = some v := (hb.cell (World.block_lt_of_cell? W _ h)).trans h
theorem belowt' {B : Nat} {a w w' : World} (h : Below B a w) (hB : B ≤ w.heap.size) (hb : Below w.heap.size w w') : Below B a w' := h.trans (hb.mono hB)
theorem spS_step {w : World} {g : Nat} {x : Bool} {s t : ByteArray} {W W' : World} (h : SpS w g x s t W) (hb : Below W.heap.size W W') : SpS w g x s t W' := by
 obtain ⟨⟨hb0,hB,l0⟩,e0,e1,e2⟩ := h
 exact ⟨⟨belowt' hb0 hb0.size hb,hB.call hb,l0⟩,keepc' hb e0,keepc' hb e1,keepc' hb e2⟩
theorem spS_drew {w : World} {g : Nat} {x : Bool} {s t : ByteArray} {W : World} (h : SpS w g x s t W) : SpS w g x s t W.drew := by
 obtain ⟨⟨hb0,hB,l0⟩,e0,e1,e2⟩ := h
 exact ⟨⟨hb0.drew,hB,l0⟩,e0,e1,e2⟩
theorem spS_store {w : World} {g : Nat} {x : Bool} {s t : ByteArray} {W : World} (h : SpS w g x s t W) (x' : Bool) (s' t' : ByteArray) : SpS w g x s t (sto3 W w.heap.size (.bool x') (.string s') (.string t')) := by
 obtain ⟨⟨hb0,hB,l0⟩,e0,e1,e2⟩ := h
 exact ⟨⟨below_set3 hb0 (by omega),hB.set3 _ _ _,l0⟩,(cell_set3 (by omega)).trans e0,(cell_set3 (by omega)).trans e1,(cell_set3 (by omega)).trans e2⟩
def spV (l : List UInt8) : Value := if okc (cutm l).1 then .tuple #[dV (cutm l).2 (bef (cutm l).1) (beh (cutm l).1),.bool (decide (okD (cutm l).2 (bef (cutm l).1) (beh (cutm l).1) (decide (46 ∈ (cutm l).1))))] else .tuple #[dV false [] [],.bool false]
theorem per_digit {p : List UInt8} {c : UInt8} (h : okc p = true) (hc : isDig c = true) : per (p ++ [c]) = per p := by
 obtain ⟨_,h2,h3⟩ := okc_digit h hc
 unfold per
 by_cases hp : 46 ∈ p
 · rw [if_pos (h2.2 hp),if_pos hp,h3 hp]
 · rw [if_neg (fun e => hp (h2.1 e)),if_neg hp]
theorem per_period {p : List UInt8} (hp : 46 ∉ p) : per (p ++ [46]) = (p.length : Int) := by
 unfold per
 rw [if_pos (by simp),(bef_no hp [46]).1]
 simp [bef]
theorem Fr.iterAt {W : World} {b k : Nat} {vs : Array Value} {ty : TypeId} {s : ByteArray} {pos : Nat} (h : b ≠ k) (hF : Fr W b vs ty) : Fr (W.iterAt k s pos) b vs ty := (Lib.iterAt_other W k b s pos h).trans hF
theorem extT (l : List UInt8) (k : Nat) : (⟨l.toArray⟩ : ByteArray).extract 0 k = ⟨(l.take k).toArray⟩ := by
 apply ByteArray.ext
 rw [ByteArray.data_extract]
 simp
set_option maxRecDepth 100000 in
set_option maxHeartbeats 4000000 in
theorem split_any (l : List UInt8) (w : World) (hl : l.length ≤ 1000000) :
 Calls Tryz.prog 101 #[.string ⟨l.toArray⟩] w fun e w' => e = .returned (spV l) ∧ Below w.heap.size w w' := by
 obtain ⟨t,b,hcm⟩ : ∃ t b,cutm l = (t,b) := ⟨_,_,rfl⟩
 have htl : t.length ≤ 1000000 := by
  have h1 : t = (cutm l).1 := by rw [hcm]
  rw [h1]
  unfold cutm
  split
  · simp;omega
  · exact hl
 have hcut := fun W => cut_any l W
 rw [hcm] at hcut
 simp only at hcut
 have hE : spV l = if okc t then .tuple #[dV b (bef t) (beh t),.bool (decide (okD b (bef t) (beh t) (decide (46 ∈ t))))] else .tuple #[dV false [] [],.bool false] := by
  unfold spV;rw [hcm]
 obtain ⟨R,hR⟩ : ∃ R,R = spV l := ⟨_,rfl⟩
 rw [← hR]
 rw [← hR] at hE
 have HR := Lib.hid hE
 have hb0 : Below w.heap.size w (w.alloc (.cells #[.bool false,.string ⟨#[]⟩,.string ⟨#[]⟩] 130)) := (Below.refl _ _).alloc (Nat.le_refl _) _
 have hF0 : Fr (w.alloc (.cells #[.bool false,.string ⟨#[]⟩,.string ⟨#[]⟩] 130)) w.heap.size #[.bool false,.string ⟨#[]⟩,.string ⟨#[]⟩] 130 := Fr.new rfl
 have H := Lib.hid (And.intro hb0 hF0)
 clear hb0 hF0 hl hcm hE hR
 have hlen : (t.length : Int) ≤ 1000000 := by omega
 go_enter Tryz.func101,Tryz.ntmps101
 go_wp2_with fail
 go_step3
 go_wp2_with fail
 refine (hcut _).mono ?_
 rintro e w1 ⟨rfl,rfl⟩
 go_wp2_with fail
 go_step3
 go_wp2_with fail
 go_loopw [6,7] (fun v6 v7 wr => ∃ p rest : List UInt8,t = p ++ rest ∧ okc p = true ∧ v6 = .int .i64 (per p) ∧ v7 = .int .i64 (p.length : Int) ∧ wr.heap[w.heap.size + 1]? = some (.stringIter ⟨t.toArray⟩ p.length) ∧ Below w.heap.size w wr ∧ Fr wr w.heap.size #[.bool false,.string ⟨#[]⟩,.string ⟨#[]⟩] 130) (fun _ _ wr => t.length - wr.iterPos (w.heap.size + 1))
 case atStart =>
  refine ⟨[],t,rfl,rfl,rfl,rfl,?_,H.out.1.alloc H.out.1.size _,H.out.2.old⟩
  have := World.iter_heap (w.alloc (.cells #[.bool false,.string ⟨#[]⟩,.string ⟨#[]⟩] 130)) ⟨t.toArray⟩ 0
  simpa using this
 case round =>
  obtain ⟨p,rest,ht,hok,rfl,rfl,hit,hbw,hF⟩ := hrel
  cases rest with
  | nil =>
    have hpt : p = t := by rw [ht,List.append_nil]
    subst hpt
    have hnx : ∀ ty,(Instr.next (.pointer (some ⟨w.heap.size + 1,0,none⟩)) true ty).run Tryz.prog wr = _ := fun ty => Lib.run_next_end_at wr (w.heap.size + 1) ⟨p.toArray⟩ p.length ty hit (by simp [ByteArray.size])
    clear hcut hit
    have HF := Lib.hid (And.intro hbw (And.intro hF hok))
    clear hbw hF hok ht
    have hnt := dec_built b ⟨p.toArray⟩
    by_cases hp46 : 46 ∈ p
    · obtain ⟨ht1,ht2,ht3⟩ := bef_take hp46
      obtain ⟨k,hk⟩ : ∃ k,k = (bef p).length := ⟨_,rfl⟩
      have hper : per p = (k : Int) := by unfold per;rw [if_pos hp46,hk]
      rw [← hk] at ht1 ht2 ht3
      have hkl : (k : Int) ≤ (p.length : Int) := by omega
      have hk0 : (0 : Int) ≤ (k : Int) := by omega
      have hkl2 : (k : Int) + 1 ≤ (p.length : Int) := by omega
      have hx1 : (⟨p.toArray⟩ : ByteArray).extract 0 k = ⟨(bef p).toArray⟩ := by rw [extT,ht1]
      have hx2 : (⟨p.toArray⟩ : ByteArray).extract (k + 1) p.length = ⟨(beh p).toArray⟩ := by rw [extB,ht2]
      obtain ⟨ans,hans⟩ : ∃ a,a = decide (okD b (bef p) (beh p) true) := ⟨_,rfl⟩
      have hxl : (bef p).length ≤ 1000000 := by omega
      have hyl : (beh p).length ≤ 1000000 := by omega
      obtain ⟨x,hx⟩ : ∃ x,x = bef p := ⟨_,rfl⟩
      obtain ⟨y,hy⟩ : ∃ y,y = beh p := ⟨_,rfl⟩
      rw [← hx,← hy] at hans
      have HE : Hid (R = .tuple #[.agg #[.bool b,.string ⟨x.toArray⟩,.string ⟨y.toArray⟩],.bool ans]) := Lib.hid (by
       rw [HR.out,if_pos HF.out.2.2,hans,decide_eq_true hp46,hx,hy])
      rw [← hx] at hxl hx1
      rw [← hy] at hyl hx2
      rw [hper]
      have HV : Hid (∀ W,SpS w wr.heap.size b ⟨x.toArray⟩ ⟨y.toArray⟩ W → Calls Tryz.prog 134 #[.agg #[.bool b,.string ⟨x.toArray⟩,.string ⟨y.toArray⟩],.bool true] W fun e w' => e = .returned (.bool ans) ∧ SpS w wr.heap.size b ⟨x.toArray⟩ ⟨y.toArray⟩ w') := Lib.hid (fun W hS => by
       refine (isValid_any b x y true W hxl hyl).mono ?_
       rintro e w' ⟨he,hb⟩
       exact ⟨by rw [hans];exact he,spS_step hS hb⟩)
      have hS0 : SpS w wr.heap.size b ⟨x.toArray⟩ ⟨y.toArray⟩ (wr.alloc (.cells #[.bool b,.string ⟨x.toArray⟩,.string ⟨y.toArray⟩] 130)) := by
       have r0 : Fr (wr.alloc (.cells #[.bool b,.string ⟨x.toArray⟩,.string ⟨y.toArray⟩] 130)) wr.heap.size #[.bool b,.string ⟨x.toArray⟩,.string ⟨y.toArray⟩] 130 := Fr.new rfl
       exact ⟨⟨HF.out.1.alloc HF.out.1.size _,HF.out.2.1.old.boxD,HF.out.2.1.lt⟩,r0.cell 0,r0.cell 1,r0.cell 2⟩
      have hS1 := spS_drew (spS_drew hS0)
      clear hk ht1 ht2 ht3 hans hper htl hxl hyl hx hy hS0
      go_wp2_with fail
      go_region
      go_wp2_with fail
      go_region_held3 (fun W => (Below w.heap.size w W ∧ BoxD W w.heap.size ∧ w.heap.size < wr.heap.size) ∧ W.cell? ⟨wr.heap.size,0,none⟩ = some (.bool b) ∧ W.cell? ⟨wr.heap.size,1,none⟩ = some (.string ⟨x.toArray⟩) ∧ W.cell? ⟨wr.heap.size,2,none⟩ = some (.string ⟨y.toArray⟩)) (first | with_reducible assumption | (refine spS_store ?_ _ _ _;with_reducible assumption))
       (first | (go_at_call 134;with_reducible refine (HV.out _ ?_).mono ?_;with_reducible assumption;rintro e w6 ⟨rfl,hS6⟩;obtain ⟨⟨q0,y0⟩,⟨q1,y1⟩,⟨q2,y2⟩,y3,y4,y5⟩ := hS6.1.2.1.facts))
      go_wp2_with fail
      try rw [Exit.noGoto_ret]
      exact bodyPost_ret (v := .tuple #[.agg #[.bool b,.string ⟨x.toArray⟩,.string ⟨y.toArray⟩],.bool ans]) (by simp [results,Tryz.results101,go_sem,y0,y1,y2]) rfl ⟨by rw [HE.out],below_set3 hS6.1.1 (by omega)⟩
    · obtain ⟨hbp,hbh⟩ := bef_all hp46
      have hper : per p = -1 := by unfold per;rw [if_neg hp46]
      rw [hper]
      obtain ⟨ans,hans⟩ : ∃ a,a = decide (okD b p [] false) := ⟨_,rfl⟩
      have HV : Hid (∀ W,SpS w wr.heap.size b ⟨p.toArray⟩ ⟨#[]⟩ W → Calls Tryz.prog 134 #[.agg #[.bool b,.string ⟨p.toArray⟩,.string ⟨#[]⟩],.bool false] W fun e w' => e = .returned (.bool ans) ∧ SpS w wr.heap.size b ⟨p.toArray⟩ ⟨#[]⟩ w') := Lib.hid (fun W hS => by
       refine (isValid_any b p [] false W htl (by simp)).mono ?_
       rintro e w' ⟨he,hb⟩
       exact ⟨by rw [hans];exact he,spS_step hS hb⟩)
      have hS0 : SpS w wr.heap.size b ⟨p.toArray⟩ ⟨#[]⟩ (wr.alloc (.cells #[.bool b,.string ⟨p.toArray⟩,.string ⟨#[]⟩] 130)) := by
       have r0 : Fr (wr.alloc (.cells #[.bool b,.string ⟨p.toArray⟩,.string ⟨#[]⟩] 130)) wr.heap.size #[.bool b,.string ⟨p.toArray⟩,.string ⟨#[]⟩] 130 := Fr.new rfl
       exact ⟨⟨HF.out.1.alloc HF.out.1.size _,HF.out.2.1.old.boxD,HF.out.2.1.lt⟩,r0.cell 0,r0.cell 1,r0.cell 2⟩
      have HE : Hid (R = .tuple #[.agg #[.bool b,.string ⟨p.toArray⟩,.string ⟨#[]⟩],.bool ans]) := Lib.hid (by
       rw [HR.out,if_pos HF.out.2.2,hbp,hbh,hans,decide_eq_false hp46])
      clear hans htl hbp hbh hper
      go_wp2_with fail
      have hS1 := spS_drew hS0
      clear hS0
      go_region_held3 (fun W => (Below w.heap.size w W ∧ BoxD W w.heap.size ∧ w.heap.size < wr.heap.size) ∧ W.cell? ⟨wr.heap.size,0,none⟩ = some (.bool b) ∧ W.cell? ⟨wr.heap.size,1,none⟩ = some (.string ⟨p.toArray⟩) ∧ W.cell? ⟨wr.heap.size,2,none⟩ = some (.string ⟨#[]⟩)) (first | with_reducible assumption | (refine spS_store ?_ _ _ _;with_reducible assumption))
       (first | (go_at_call 134;with_reducible refine (HV.out _ ?_).mono ?_;with_reducible assumption;rintro e w6 ⟨rfl,hS6⟩;obtain ⟨⟨q0,y0⟩,⟨q1,y1⟩,⟨q2,y2⟩,y3,y4,y5⟩ := hS6.1.2.1.facts))
      go_wp2_with fail
      try rw [Exit.noGoto_ret]
      exact bodyPost_ret (v := .tuple #[.agg #[.bool b,.string ⟨p.toArray⟩,.string ⟨#[]⟩],.bool ans]) (by simp [results,Tryz.results101,go_sem,y0,y1,y2]) rfl ⟨by rw [HE.out],below_set3 hS6.1.1 (by omega)⟩
  | cons c r =>
    have hps : p.length < (⟨t.toArray⟩ : ByteArray).size := by rw [ht];simp [ByteArray.size]
    have hpc : (⟨t.toArray⟩ : ByteArray)[p.length]'hps = c := by
     have : t[p.length]? = some c := by rw [ht];simp
     show (t.toArray)[p.length]'_ = c
     simp only [List.getElem_toArray]
     have h2 := (List.getElem?_eq_some_iff.1 this).2
     exact h2
    have hl2 : (p.length : Int) < (t.length : Int) := by rw [ht];simp;omega
    have hpl : (p.length : Int) ≤ 1000000 := by omega
    by_cases hc : c.toNat < 128
    · have hnx : ∀ ty,(Instr.next (.pointer (some ⟨w.heap.size + 1,0,none⟩)) true ty).run Tryz.prog wr = _ := fun ty => Lib.run_next_ascii_at wr (w.heap.size + 1) ⟨t.toArray⟩ p.length ty hit hps (by rw [hpc];exact hc)
      rw [hpc] at hnx
      by_cases hd : isDig c = true
      · obtain ⟨n,hn⟩ : ∃ n : Int,n = (c.toNat : Int) := ⟨_,rfl⟩
        rw [← hn] at hnx
        have hn1 : 48 ≤ n := by have := (isDig_iff.1 hd).1;omega
        have hn2 : n ≤ 57 := by have := (isDig_iff.1 hd).2;omega
        have HF := Lib.hid (And.intro hbw (And.intro hF (And.intro hok (And.intro hit (And.intro ht (And.intro hd hps))))))
        clear hbw hF hok hit ht hd hps hcut hpc hn
        go_wp2_with fail
        obtain ⟨hbw,hF,hok,hit,ht,hd,hps⟩ := HF.out
        go_roundw
        case rel => exact ⟨p ++ [c],r,by rw [ht];simp,(okc_digit hok hd).1,by rw [per_digit hok hd],by simp,by rw [List.length_append];exact Lib.iterAt_heap wr _ _ _ _ hit,Lib.below_iterAt hbw (Nat.le_succ _) _ _,Fr.iterAt (by omega) hF⟩
        case measure =>
         simp only [World.iterPos,hit,Lib.iterAt_heap wr _ _ _ (p.length + 1) hit]
         have : t.length = p.length + (r.length + 1) := by rw [ht];simp
         omega
      · by_cases h46 : c = 46
        · subst h46
          by_cases hp46 : 46 ∈ p
          · obtain ⟨k,hk,hk0⟩ : ∃ k : Int,k = per p ∧ ¬ k < 0 := ⟨_,rfl,by unfold per;rw [if_pos hp46];omega⟩
            rw [← hk]
            have hnx2 : ∀ ty,(Instr.next (.pointer (some ⟨w.heap.size + 1,0,none⟩)) true ty).run Tryz.prog wr = .ok (.tuple #[.bool true,.int .i64 (p.length : Int),.int .i32 46]) (wr.iterAt (w.heap.size + 1) ⟨t.toArray⟩ (p.length + 1)) := hnx
            obtain ⟨bad,HBAD⟩ : ∃ x : Prop,Hid (x ∧ okc t = false) := ⟨True,Lib.hid ⟨trivial,by rw [ht];exact okc_bad r (by decide) (fun _ => hp46)⟩⟩
            have HE : Hid (R = .tuple #[.agg #[.bool false,.string ⟨#[]⟩,.string ⟨#[]⟩],.bool false]) := Lib.hid (by rw [HR.out,if_neg (by rw [HBAD.out.2];simp)])
            have hF2 := Fr.iterAt (k := w.heap.size + 1) (s := ⟨t.toArray⟩) (pos := p.length + 1) (by omega) hF
            have hb2 := Lib.below_iterAt hbw (k := w.heap.size + 1) (Nat.le_succ _) ⟨t.toArray⟩ (p.length + 1)
            have y0 := hF2.cell 0
            have y1 := hF2.cell 1
            have y2 := hF2.cell 2
            have z0 := hF2.frozen 0
            have z1 := hF2.frozen 1
            have z2 := hF2.frozen 2
            simp only [List.getElem?_toArray,List.getElem?_cons_zero,List.getElem?_cons_succ] at y0 y1 y2
            have HB2 := Lib.hid hb2
            have hd0 := dec_built0
            clear hnx hbw hF hok hit ht hd hps hcut hpc hk hb2 hF2 hp46 hc
            go_wp2_with fail
            try rw [Exit.noGoto_ret]
            exact bodyPost_ret (v := .tuple #[.agg #[.bool false,.string ⟨#[]⟩,.string ⟨#[]⟩],.bool false]) (by simp [results,Tryz.results101,go_sem,y0,y1,y2]) rfl ⟨by rw [HE.out],below_set3 HB2.out (by omega)⟩
          · have hper : per p = -1 := by unfold per;rw [if_neg hp46]
            have hnx2 : ∀ ty,(Instr.next (.pointer (some ⟨w.heap.size + 1,0,none⟩)) true ty).run Tryz.prog wr = .ok (.tuple #[.bool true,.int .i64 (p.length : Int),.int .i32 46]) (wr.iterAt (w.heap.size + 1) ⟨t.toArray⟩ (p.length + 1)) := hnx
            rw [hper]
            have HF := Lib.hid (And.intro hbw (And.intro hF (And.intro hok (And.intro hit (And.intro ht (And.intro hd (And.intro hps hp46)))))))
            clear hnx hbw hF hok hit ht hd hps hcut hpc hper hp46 hc
            go_wp2_with fail
            obtain ⟨hbw,hF,hok,hit,ht,hd,hps,hp46⟩ := HF.out
            go_roundw
            case rel => exact ⟨p ++ [46],r,by rw [ht];simp,(okc_period hok hp46).1,by rw [per_period hp46],by simp,by rw [List.length_append];exact Lib.iterAt_heap wr _ _ _ _ hit,Lib.below_iterAt hbw (Nat.le_succ _) _ _,Fr.iterAt (by omega) hF⟩
            case measure =>
             simp only [World.iterPos,hit,Lib.iterAt_heap wr _ _ _ (p.length + 1) hit]
             have : t.length = p.length + (r.length + 1) := by rw [ht];simp
             omega
        · obtain ⟨n,hn⟩ : ∃ n : Int,n = (c.toNat : Int) := ⟨_,rfl⟩
          have hn46 : ¬ n = 46 := fun e => h46 (UInt8.toNat_inj.1 (by simp;omega))
          have hnd : ¬ (48 ≤ n ∧ n ≤ 57) := fun e => hd (isDig_iff.2 (by omega))
          have hnx2 : ∀ ty,(Instr.next (.pointer (some ⟨w.heap.size + 1,0,none⟩)) true ty).run Tryz.prog wr = .ok (.tuple #[.bool true,.int .i64 (p.length : Int),.int .i32 n]) (wr.iterAt (w.heap.size + 1) ⟨t.toArray⟩ (p.length + 1)) := by rw [hn];exact hnx
          obtain ⟨bad,HBAD⟩ : ∃ x : Prop,Hid (x ∧ okc t = false) := ⟨True,Lib.hid ⟨trivial,by rw [ht];exact okc_bad r (by simpa using hd) (fun e => absurd e h46)⟩⟩
          have HE : Hid (R = .tuple #[.agg #[.bool false,.string ⟨#[]⟩,.string ⟨#[]⟩],.bool false]) := Lib.hid (by rw [HR.out,if_neg (by rw [HBAD.out.2];simp)])
          have hF2 := Fr.iterAt (k := w.heap.size + 1) (s := ⟨t.toArray⟩) (pos := p.length + 1) (by omega) hF
          have hb2 := Lib.below_iterAt hbw (k := w.heap.size + 1) (Nat.le_succ _) ⟨t.toArray⟩ (p.length + 1)
          have y0 := hF2.cell 0
          have y1 := hF2.cell 1
          have y2 := hF2.cell 2
          have z0 := hF2.frozen 0
          have z1 := hF2.frozen 1
          have z2 := hF2.frozen 2
          simp only [List.getElem?_toArray,List.getElem?_cons_zero,List.getElem?_cons_succ] at y0 y1 y2
          have HB2 := Lib.hid hb2
          have hd0 := dec_built0
          clear hnx hbw hF hok hit ht hd hps hcut hpc hb2 hF2 hc hn h46
          rcases (show n < 48 ∨ (48 ≤ n ∧ 57 < n) by omega) with h48 | ⟨h48,h57⟩
          all_goals
           clear hnd
           go_wp2_with fail
           try rw [Exit.noGoto_ret]
           exact bodyPost_ret (v := .tuple #[.agg #[.bool false,.string ⟨#[]⟩,.string ⟨#[]⟩],.bool false]) (by simp [results,Tryz.results101,go_sem,y0,y1,y2]) rfl ⟨by rw [HE.out],below_set3 HB2.out (by omega)⟩
    · obtain ⟨hg1,hg2⟩ := decode_high (⟨t.toArray⟩ : ByteArray) p.length hps (by rw [hpc];omega)
      have hnx := fun ty => Lib.run_next_any_at (P := Tryz.prog) wr (w.heap.size + 1) ⟨t.toArray⟩ p.length ty hit hps
      obtain ⟨wd,hwd⟩ : ∃ wd,wd = (Utf8.decode ⟨t.toArray⟩ p.length).2 := ⟨_,rfl⟩
      obtain ⟨n,hn⟩ : ∃ n : Int,n = ((Utf8.decode ⟨t.toArray⟩ p.length).1 : Int) := ⟨_,rfl⟩
      simp only [← hn,← hwd] at hnx
      have h48 : 48 ≤ n := by omega
      have h57 : 57 < n := by omega
      have hn46 : ¬ n = 46 := by omega
      have hdg : isDig c = false := by rw [Bool.eq_false_iff];intro e;have := isDig_iff.1 e;omega
      have h46 : c = 46 → 46 ∈ p := fun e => absurd (by rw [e];decide) hc
      obtain ⟨bad,HBAD⟩ : ∃ x : Prop,Hid (x ∧ okc t = false) := ⟨True,Lib.hid ⟨trivial,by rw [ht];exact okc_bad r hdg h46⟩⟩
      have HE : Hid (R = .tuple #[.agg #[.bool false,.string ⟨#[]⟩,.string ⟨#[]⟩],.bool false]) := Lib.hid (by rw [HR.out,if_neg (by rw [HBAD.out.2];simp)])
      have hF2 := Fr.iterAt (k := w.heap.size + 1) (s := ⟨t.toArray⟩) (pos := p.length + wd) (by omega) hF
      have hb2 := Lib.below_iterAt hbw (k := w.heap.size + 1) (Nat.le_succ _) ⟨t.toArray⟩ (p.length + wd)
      have y0 := hF2.cell 0
      have y1 := hF2.cell 1
      have y2 := hF2.cell 2
      have z0 := hF2.frozen 0
      have z1 := hF2.frozen 1
      have z2 := hF2.frozen 2
      simp only [List.getElem?_toArray,List.getElem?_cons_zero,List.getElem?_cons_succ] at y0 y1 y2
      have HB2 := Lib.hid hb2
      have hd0 := dec_built0
      clear hbw hF hok hit ht hps hcut hpc hb2 hF2 hc hn hwd hg1 hg2 hdg h46
      go_wp2_with fail
      try rw [Exit.noGoto_ret]
      exact bodyPost_ret (v := .tuple #[.agg #[.bool false,.string ⟨#[]⟩,.string ⟨#[]⟩],.bool false]) (by simp [results,Tryz.results101,go_sem,y0,y1,y2]) rfl ⟨by rw [HE.out],below_set3 HB2.out (by omega)⟩
end Go.Proofs.YtlfgpmnjnpdkdaaGreatDoor
