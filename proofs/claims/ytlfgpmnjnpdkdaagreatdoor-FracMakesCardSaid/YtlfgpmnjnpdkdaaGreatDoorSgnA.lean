/- Contracts: the signed numbers. Contracts: the signed numbers, compared and written. Contracts: products and -/
import Derived.Test.YtlfgpmnjnpdkdaaGreatDoorTxtA
import Derived.Deep.DrawnRows
namespace Go.Proofs.YtlfgpmnjnpdkdaaGreatDoor
open Go.RowKit Vd
def sgn (n : Nat) (b : Bool) : Int := if b then -(n : Int) else (n : Int)
theorem sgn_neg (n : Nat) (b : Bool) : decide (sgn n b < 0) = (b && !decide (wlen B64 n = 0)) := by
 have h := wlen_eq_zero (b := B64) two_le_B (n := n)
 unfold sgn
 cases b
 · simp
 · by_cases hn : n = 0
   · subst hn
     simp [wlen_zero]
   · have h2 : ¬ wlen B64 n = 0 := fun e => hn (h.1 e)
     simp [h2];omega
theorem sgn_abs (n : Nat) (b : Bool) : (sgn n b).natAbs = n := by unfold sgn;split <;> simp
theorem sgn_self (z : Int) : sgn z.natAbs (decide (z < 0)) = z := by
 unfold sgn
 by_cases h : z < 0
 · rw [if_pos (by simpa using h)];omega
 · rw [if_neg (by simpa using h)];omega
def BoxS (W : World) (b : Nat) : Prop := ∃ A n c k,W.heap[b]? = some (.cells #[.slice A n c,.bool k] 80 (0,0))
theorem BoxS.alloc (w : World) (A : Option Addr) (n c : Nat) (k : Bool) : BoxS (w.alloc (.cells #[.slice A n c,.bool k] 80)) w.heap.size :=
 ⟨A,n,c,k,by show (w.heap.push _)[w.heap.size]? = _;simp⟩
theorem BoxS.lt {W : World} {b : Nat} (h : BoxS W b) : b < W.heap.size := by
 obtain ⟨A,n,c,k,h⟩ := h
 rcases Nat.lt_or_ge b W.heap.size with h1 | h1
 · exact h1
 · rw [Array.getElem?_eq_none h1] at h;cases h
theorem BoxS.below {W W' : World} {b B : Nat} (h : BoxS W b) (hb : Below B W W') (hB : b < B) : BoxS W' b := by
 obtain ⟨A,n,c,k,h⟩ := h
 exact ⟨A,n,c,k,(hb.block b hB).trans h⟩
theorem BoxS.facts {W : World} {b : Nat} (h : BoxS W b) : (∃ u,W.cell? ⟨b,0,none⟩ = some u) ∧ (∃ u,W.cell? ⟨b,1,none⟩ = some u) ∧ W.frozen? ⟨b,0,none⟩ = false ∧ W.frozen? ⟨b,1,none⟩ = false := by
 obtain ⟨A,n,c,k,h⟩ := h
 refine ⟨⟨_,by rw [cell_of_row W b 0 _ _ (0,0) h];rfl⟩,⟨_,by rw [cell_of_row W b 1 _ _ (0,0) h];rfl⟩,?_,?_⟩ <;> simp [World.frozen?,h]
theorem BoxS.mag {W : World} {b : Nat} (h : BoxS W b) {m : Value} {n : Nat} (hm : MagV W m n) (u v : Value) : MagV ((W.setCell ⟨b,0,none⟩ u).setCell ⟨b,1,none⟩ v) m n := by
 obtain ⟨A',n',c',k',h⟩ := h
 obtain ⟨A,c,e,h1,h2,h3⟩ := hm
 have hne : ∀ g o,A = some ⟨g,o,none⟩ → 0 < wlen B64 n → g ≠ b := by
  intro g o e hn eg
  subst eg
  obtain ⟨g2,o2,e2,_,hc⟩ := h3.2 hn
  rw [e] at e2
  injection e2 with e2
  injection e2 with e2 e3
  subst e2
  have hc0 := hc 0 hn
  rw [cell_of_row W g (o2 + 0) _ _ (0,0) h] at hc0
  unfold U at hc0
  rcases o2 with _ | _ | o2
  · simp at hc0
  · simp at hc0
  · simp at hc0
 exact ⟨A,c,e,h1,h2,(h3.far (p := ⟨b,0,none⟩) hne u).far (p := ⟨b,1,none⟩) hne v⟩
set_option maxRecDepth 100000 in
set_option maxHeartbeats 1000000 in
theorem signed_any (m : Value) (n : Nat) (b : Bool) (w : World) (hm : MagV w m n) :
 Calls Tryz.prog 138 #[m,.bool b] w fun e w' => ∃ v,e = .returned v ∧ SgV w' v (sgn n b) ∧ Below w.heap.size w w' := by
 have hm0 := hm
 obtain ⟨A,c,rfl,_,_⟩ := hm.ok_len
 have hz := fun W => isZero_any A (wlen B64 n) c W
 have hs := sgn_neg n b
 have HS := Lib.hid (And.intro hs (And.intro (sgn_abs n b) hm0))
 obtain ⟨k,hk⟩ : ∃ k,k = decide (wlen B64 n = 0) := ⟨_,rfl⟩
 rw [← hk] at hz
 have HK := Lib.hid hk
 clear hs hm hm0 hk
 cases b
 · go_enter Tryz.func138,Tryz.ntmps138
   go_wp2_with fail
   refine bodyPost_ret (v := .agg #[.slice A (wlen B64 n) c,.bool false]) (by simp [results,Tryz.results138,go_sem]) rfl ⟨_,rfl,⟨_,by rw [HS.out.1];rfl,?_⟩,?_⟩
   · rw [HS.out.2.1]
     exact HS.out.2.2.below ((Below.refl _ _).alloc (Nat.le_refl _) _)
   · exact (Below.refl _ _).alloc (Nat.le_refl _) _
 · go_enter Tryz.func138,Tryz.ntmps138
   go_wp2_with (go_at_call 59;refine (hz _).mono ?_;rintro e w1 ⟨rfl,rfl⟩)
   refine bodyPost_ret (v := .agg #[.slice A (wlen B64 n) c,.bool (!k)]) (by simp [results,Tryz.results138,go_sem]) rfl ⟨_,rfl,⟨_,by rw [HS.out.1,← HK.out];rfl,?_⟩,?_⟩
   · rw [HS.out.2.1]
     exact HS.out.2.2.below ((Below.refl _ _).alloc (Nat.le_refl _) _)
   · exact (Below.refl _ _).alloc (Nat.le_refl _) _
def signZ (z : Int) : Int := if z = 0 then 0 else if z < 0 then -1 else 1
set_option maxRecDepth 100000 in
set_option maxHeartbeats 1000000 in
theorem sign_any (v : Value) (z : Int) (w : World) (hv : SgV w v z) :
 Calls Tryz.prog 64 #[v] w fun e w' => e = .returned (.int .i64 (signZ z)) ∧ Below w.heap.size w w' := by
 obtain ⟨m,rfl,hm⟩ := hv
 obtain ⟨A,c,rfl,_,_⟩ := hm.ok_len
 have hz := fun W => isZero_any A (wlen B64 z.natAbs) c W
 obtain ⟨b,hb⟩ : ∃ b,b = decide (z < 0) := ⟨_,rfl⟩
 have ho := fun W => order_any b W
 have hw := wlen_eq_zero (b := B64) two_le_B (n := z.natAbs)
 rw [← hb]
 by_cases h0 : z = 0
 · have hk : decide (wlen B64 z.natAbs = 0) = true := by simp;exact hw.2 (by omega)
   rw [hk] at hz
   have HS : Hid (signZ z = 0) := Lib.hid (by unfold signZ;rw [if_pos h0])
   clear hm hw h0 hk
   go_enter Tryz.func64,Tryz.ntmps64
   go_wp2_with (go_at_call 59;refine (hz _).mono ?_;rintro e w1 ⟨rfl,rfl⟩)
   go_ret
   exact ⟨by rw [HS.out];rfl,(Below.refl _ _).alloc (Nat.le_refl _) _⟩
 · have hk : decide (wlen B64 z.natAbs = 0) = false := by simp;intro h;have := hw.1 h;omega
   rw [hk] at hz
   have HS : Hid (signZ z = if b then -1 else 1) := Lib.hid (by unfold signZ;rw [if_neg h0,hb];simp)
   clear hm hw h0 hk hb
   cases b
   all_goals
    go_enter Tryz.func64,Tryz.ntmps64
    go_wp2_with (first | (go_at_call 59;refine (hz _).mono ?_;rintro e w1 ⟨rfl,rfl⟩) | (go_at_call 116;refine (ho _).mono ?_;rintro e w1 ⟨rfl,rfl⟩))
    go_ret
    exact ⟨by rw [HS.out];rfl,(Below.refl _ _).alloc (Nat.le_refl _) _⟩
set_option maxRecDepth 100000 in
set_option maxHeartbeats 1000000 in
theorem negative_any (v : Value) (z : Int) (w : World) (hv : SgV w v z) :
 Calls Tryz.prog 107 #[v] w fun e w' => ∃ x,e = .returned x ∧ SgV w' x (-z) ∧ Below w.heap.size w w' := by
 obtain ⟨m,rfl,hm⟩ := hv
 obtain ⟨b,hb⟩ : ∃ b,b = decide (z < 0) := ⟨_,rfl⟩
 have hsg := fun W (hbl : Below w.heap.size w W) => signed_any m z.natAbs (!b) W (hm.below hbl)
 have HE : Hid (∀ W x,SgV W x (sgn z.natAbs (!b)) → SgV W x (-z)) := Lib.hid (fun W x h => by
  by_cases h0 : z = 0
  · subst h0
    rw [show sgn (Int.natAbs 0) (!b) = -0 by unfold sgn;split <;> rfl] at h
    exact h
  · rw [show sgn z.natAbs (!b) = -z by
     unfold sgn
     rw [hb]
     by_cases h1 : z < 0
     · simp [h1];omega
     · simp [h1];omega] at h
    exact h)
 rw [← hb]
 clear hb
 go_enter Tryz.func107,Tryz.ntmps107
 go_wp2_with fail
 have hbW : Below w.heap.size w ((w.alloc (.cells #[m,.bool b] 80)).alloc (.cells #[.slice none 0 0,.bool false] 80)) := ((Below.refl _ _).alloc (Nat.le_refl _) _).alloc (by simp) _
 have hbx := BoxS.alloc (w.alloc (.cells #[m,.bool b] 80)) none 0 0 false
 rw [World.size_alloc] at hbx
 refine (hsg _ hbW).mono ?_
 rintro e w2 ⟨x,rfl,⟨m',rfl,hm'⟩,hb2⟩
 have hM := hm'
 obtain ⟨A',c',rfl,_,_⟩ := hm'.ok_len
 obtain ⟨l',hl'⟩ : ∃ l,l = wlen B64 (sgn z.natAbs (!b)).natAbs := ⟨_,rfl⟩
 rw [← hl'] at hM ⊢
 have hbx2 := hbx.below hb2 (by simp)
 obtain ⟨⟨q0,hc0⟩,⟨q1,hc1⟩,hf0,hf1⟩ := hbx2.facts
 obtain ⟨b',hb'⟩ : ∃ b',b' = decide (sgn z.natAbs (!b) < 0) := ⟨_,rfl⟩
 rw [← hb']
 have HB := Lib.hid hb'
 clear hb' hl' hm'
 go_wp2_with fail
 refine bodyPost_ret (v := .agg #[.slice A' l' c',.bool b']) (by simp [results,Tryz.results107,go_sem,hc0,hc1]) rfl ⟨_,rfl,HE.out _ _ ⟨_,by rw [HB.out],hbx2.mag hM _ _⟩,?_⟩
 exact ((hbW.trans (hb2.mono hbW.size)).setCell (by simp) _).setCell (by simp) _
end Go.Proofs.YtlfgpmnjnpdkdaaGreatDoor
namespace Go.Proofs.YtlfgpmnjnpdkdaaGreatDoor
open Go.RowKit Vd
def cmpZ (x y : Int) : Int := if x < y then -1 else if y < x then 1 else 0
set_option maxRecDepth 100000 in
set_option maxHeartbeats 1000000 in
theorem orderZ_any (v1 v2 : Value) (x y : Int) (w : World) (h1 : SgV w v1 x) (h2 : SgV w v2 y) (b1 : wlen B64 x.natAbs ≤ maxW) (b2 : wlen B64 y.natAbs ≤ maxW) :
 Calls Tryz.prog 122 #[v1,v2] w fun e w' => e = .returned (.int .i64 (cmpZ x y)) ∧ Below w.heap.size w w' := by
 obtain ⟨m1,rfl,hm1⟩ := h1
 obtain ⟨m2,rfl,hm2⟩ := h2
 have hc12 := fun W (hb : Below w.heap.size w W) => compare_any m1 m2 _ _ W (hm1.below hb) (hm2.below hb) b2
 have hc21 := fun W (hb : Below w.heap.size w W) => compare_any m2 m1 _ _ W (hm2.below hb) (hm1.below hb) b1
 have hbW : ∀ a b : Bool,Below w.heap.size w ((w.alloc (.cells #[m1,.bool a] 80)).alloc (.cells #[m2,.bool b] 80)) := fun _ _ => ((Below.refl _ _).alloc (Nat.le_refl _) _).alloc (by simp) _
 have hoF := fun W => order_false W
 have hoT := fun W => order_true W
 by_cases hx : x < 0
 · have ex : decide (x < 0) = true := by simpa using hx
   by_cases hy : y < 0
   · have ey : decide (y < 0) = true := by simpa using hy
     have HE : Hid (cmpZ x y = cmpN y.natAbs x.natAbs) := Lib.hid (by unfold cmpZ cmpN;split <;> split <;> (try split) <;> (try split) <;> omega)
     rw [ex,ey]
     have hc := hc21 _ (hbW true true)
     rw [← HE.out] at hc
     clear hc12 hc21 hx hy ex ey
     go_enter Tryz.func122,Tryz.ntmps122
     go_wp2_with fail
     refine hc.mono ?_
     rintro e w1 ⟨rfl,d,rfl⟩
     go_wp2_with fail
     go_ret
     exact ⟨rfl,below_drewN (hbW _ _) d⟩
   · have ey : decide (y < 0) = false := by simpa using hy
     have HE : Hid (cmpZ x y = -1) := Lib.hid (by unfold cmpZ;rw [if_pos (by omega)])
     rw [ex,ey]
     clear hc12 hc21 hx hy ex ey
     go_enter Tryz.func122,Tryz.ntmps122
     go_wp2_with fail
     refine (hoT _).mono ?_
     rintro e w1 ⟨rfl,rfl⟩
     go_wp2_with fail
     go_ret
     exact ⟨by rw [HE.out];rfl,hbW _ _⟩
 · have ex : decide (x < 0) = false := by simpa using hx
   by_cases hy : y < 0
   · have ey : decide (y < 0) = true := by simpa using hy
     have HE : Hid (cmpZ x y = 1) := Lib.hid (by unfold cmpZ;rw [if_neg (by omega),if_pos (by omega)])
     rw [ex,ey]
     clear hc12 hc21 hx hy ex ey
     go_enter Tryz.func122,Tryz.ntmps122
     go_wp2_with fail
     refine (hoF _).mono ?_
     rintro e w1 ⟨rfl,rfl⟩
     go_wp2_with fail
     go_ret
     exact ⟨by rw [HE.out];rfl,hbW _ _⟩
   · have ey : decide (y < 0) = false := by simpa using hy
     have HE : Hid (cmpZ x y = cmpN x.natAbs y.natAbs) := Lib.hid (by unfold cmpZ cmpN;split <;> split <;> (try split) <;> (try split) <;> omega)
     rw [ex,ey]
     have hc := hc12 _ (hbW false false)
     rw [← HE.out] at hc
     clear hc12 hc21 hx hy ex ey
     go_enter Tryz.func122,Tryz.ntmps122
     go_wp2_with fail
     refine hc.mono ?_
     rintro e w1 ⟨rfl,d,rfl⟩
     go_wp2_with fail
     go_ret
     exact ⟨rfl,below_drewN (hbW _ _) d⟩
def textV (z : Int) (most : Nat) : Value := if dlen z.natAbs ≤ most then .tuple #[.string ⟨(wr z).toArray⟩,.bool true] else .tuple #[.string ⟨#[]⟩,.bool false]
set_option maxRecDepth 100000 in
set_option maxHeartbeats 1000000 in
theorem text_any (v : Value) (z : Int) (most : Nat) (w : World) (hv : SgV w v z) (hb : wlen B64 z.natAbs ≤ 1000000) (hm : 1 ≤ most) (hm2 : most ≤ 1000000000) :
 Calls Tryz.prog 127 #[v,.int .i64 (most : Int)] w fun e w' => e = .returned (textV z most) ∧ Below w.heap.size w w' := by
 obtain ⟨m,rfl,hm1⟩ := hv
 obtain ⟨b,hbz⟩ : ∃ b,b = decide (z < 0) := ⟨_,rfl⟩
 rw [← hbz]
 have hbW : Below w.heap.size w (w.alloc (.cells #[m,.bool b] 80)) := (Below.refl _ _).alloc (Nat.le_refl _) _
 have hd := decimal_any m z.natAbs most _ (hm1.below hbW) hb hm hm2
 by_cases hfit : dlen z.natAbs ≤ most
 · rw [show decV z.natAbs most = .tuple #[.string ⟨(digs z.natAbs).toArray⟩,.bool true] by unfold decV;rw [if_pos hfit]] at hd
   have HE : Hid (textV z most = .tuple #[.string ⟨(if b then 45 :: digs z.natAbs else digs z.natAbs).toArray⟩,.bool true]) := Lib.hid (by
    unfold textV wr;rw [if_pos hfit,hbz];simp)
   have hln : ¬ 9223372036854775807 < 1 + (digs z.natAbs).length := by rw [digs_length];omega
   have happ : (⟨#[45]⟩ : ByteArray) ++ ⟨(digs z.natAbs).toArray⟩ = ⟨(45 :: digs z.natAbs).toArray⟩ := by
    apply ByteArray.ext
    rw [ByteArray.data_append]
    apply Array.ext'
    simp
   clear hbz hfit
   cases b
   all_goals
    go_enter Tryz.func127,Tryz.ntmps127
    go_wp2_with fail
    refine hd.mono ?_
    rintro e w1 ⟨rfl,hb1⟩
    have hc1 := hb1.cell (p := ⟨w.heap.size,1,none⟩) (by simp)
    rw [World.cell?_alloc_at _ _ _ _ rfl] at hc1
    have hc2 : w1.cell? ⟨w.heap.size,1,none⟩ = some (.bool _) := hc1
    clear hc1
    have HB := Lib.hid (hbW.trans (hb1.mono hbW.size))
    clear hb1
    go_wp2_with fail
    first
     | exact bodyPost_ret (v := .tuple #[.string ⟨(digs z.natAbs).toArray⟩,.bool true]) (by simp [results,Tryz.results127,go_sem]) rfl ⟨by rw [HE.out];rfl,HB.out⟩
     | exact bodyPost_ret (v := .tuple #[.string ⟨(45 :: digs z.natAbs).toArray⟩,.bool true]) (by simp only [← happ];simp [results,Tryz.results127,go_sem]) rfl ⟨by rw [HE.out];rfl,HB.out⟩
 · rw [show decV z.natAbs most = .tuple #[.string ⟨#[]⟩,.bool false] by unfold decV;rw [if_neg hfit]] at hd
   have HE : Hid (textV z most = .tuple #[.string ⟨#[]⟩,.bool false]) := Lib.hid (by unfold textV;rw [if_neg hfit])
   clear hbz hfit
   go_enter Tryz.func127,Tryz.ntmps127
   go_wp2_with fail
   refine hd.mono ?_
   rintro e w1 ⟨rfl,hb1⟩
   have HB := Lib.hid (hbW.trans (hb1.mono hbW.size))
   clear hb1
   go_wp2_with fail
   exact bodyPost_ret (v := .tuple #[.string ⟨#[]⟩,.bool false]) (by simp [results,Tryz.results127,go_sem]) rfl ⟨by rw [HE.out],HB.out⟩
end Go.Proofs.YtlfgpmnjnpdkdaaGreatDoor
namespace Go.Proofs.YtlfgpmnjnpdkdaaGreatDoor
open Go.RowKit Vd
abbrev PlS (w : World) (m1 m2 : Value) (k1 k2 : Bool) (W : World) : Prop :=
 (BoxS W (w.heap.size + 1 + 1) ∧ Below w.heap.size w W) ∧ W.cell? ⟨w.heap.size,0,none⟩ = some m1 ∧ W.cell? ⟨w.heap.size,1,none⟩ = some (.bool k1) ∧ W.cell? ⟨w.heap.size + 1,0,none⟩ = some m2 ∧ W.cell? ⟨w.heap.size + 1,1,none⟩ = some (.bool k2)
theorem pls_step {w W w1 : World} {m1 m2 : Value} {k1 k2 : Bool} (h : PlS w m1 m2 k1 k2 W) (hb : Below W.heap.size W w1) : PlS w m1 m2 k1 k2 w1 := by
 have hlt := h.1.1.lt
 have hc : ∀ b o,b < w.heap.size + 1 + 1 → w1.cell? ⟨b,o,none⟩ = W.cell? ⟨b,o,none⟩ := fun b o hbl => hb.cell (p := ⟨b,o,none⟩) (Nat.lt_trans hbl hlt)
 refine ⟨⟨h.1.1.below hb hlt,h.1.2.trans (hb.mono (by omega))⟩,?_,?_,?_,?_⟩
 · rw [hc _ _ (by omega)];exact h.2.1
 · rw [hc _ _ (by omega)];exact h.2.2.1
 · rw [hc _ _ (by omega)];exact h.2.2.2.1
 · rw [hc _ _ (by omega)];exact h.2.2.2.2
theorem BoxS.set {W : World} {b : Nat} (h : BoxS W b) (A : Option Addr) (n c : Nat) (k : Bool) : BoxS ((W.setCell ⟨b,0,none⟩ (.slice A n c)).setCell ⟨b,1,none⟩ (.bool k)) b := by
 obtain ⟨A',n',c',k',h⟩ := h
 exact ⟨A,n,c,k,by simp [World.setCell,Array.getElem?_modify,h]⟩
theorem pls_store {w W : World} {m1 m2 : Value} {k1 k2 : Bool} (h : PlS w m1 m2 k1 k2 W) (A : Option Addr) (n c : Nat) (k : Bool) :
 PlS w m1 m2 k1 k2 ((W.setCell ⟨w.heap.size + 1 + 1,0,none⟩ (.slice A n c)).setCell ⟨w.heap.size + 1 + 1,1,none⟩ (.bool k)) := by
 have hc : ∀ b o,b < w.heap.size + 1 + 1 → ((W.setCell ⟨w.heap.size + 1 + 1,0,none⟩ (.slice A n c)).setCell ⟨w.heap.size + 1 + 1,1,none⟩ (.bool k)).cell? ⟨b,o,none⟩ = W.cell? ⟨b,o,none⟩ := fun b o hb => by
  rw [World.cell?_setCell_other _ _ _ _ (by intro e;injection e with e;omega),World.cell?_setCell_other _ _ _ _ (by intro e;injection e with e;omega)]
 refine ⟨⟨h.1.1.set A n c k,(h.1.2.setCell (by simp;omega) _).setCell (by simp;omega) _⟩,?_,?_,?_,?_⟩
 · rw [hc _ _ (by omega)];exact h.2.1
 · rw [hc _ _ (by omega)];exact h.2.2.1
 · rw [hc _ _ (by omega)];exact h.2.2.2.1
 · rw [hc _ _ (by omega)];exact h.2.2.2.2
theorem pls_start (w : World) (m1 m2 : Value) (k1 k2 : Bool) : PlS w m1 m2 k1 k2 (((w.alloc (.cells #[m1,.bool k1] 80)).alloc (.cells #[m2,.bool k2] 80)).alloc (.cells #[.slice none 0 0,.bool false] 80)) := by
 have hb := BoxS.alloc ((w.alloc (.cells #[m1,.bool k1] 80)).alloc (.cells #[m2,.bool k2] 80)) none 0 0 false
 rw [World.size_alloc,World.size_alloc] at hb
 refine ⟨⟨hb,(((Below.refl _ _).alloc (Nat.le_refl _) _).alloc (by simp) _).alloc (by simp;omega) _⟩,?_,?_,?_,?_⟩ <;> simp [go_sem]
theorem sgn_mul (x y : Int) : sgn (x.natAbs * y.natAbs) (decide (x < 0) != decide (y < 0)) = x * y := by
 have hx := sgn_self x
 have hy := sgn_self y
 unfold sgn at *
 by_cases h1 : x < 0
 · by_cases h2 : y < 0
   · simp [h1,h2] at hx hy ⊢;rw [← hx,← hy,Int.neg_mul_neg];simp
   · simp [h1,h2] at hx hy ⊢;rw [← hx,← hy,Int.neg_mul];simp
 · by_cases h2 : y < 0
   · simp [h1,h2] at hx hy ⊢;rw [← hx,← hy,Int.mul_neg];simp
   · simp [h1,h2] at hx hy ⊢;rw [← hx,← hy];simp
set_option maxRecDepth 100000 in
set_option maxHeartbeats 1000000 in
theorem times_any (v1 v2 : Value) (x y : Int) (w : World) (h1 : SgV w v1 x) (h2 : SgV w v2 y) (b1 : wlen B64 x.natAbs ≤ maxW) (b2 : wlen B64 y.natAbs ≤ maxW) :
 Calls Tryz.prog 121 #[v1,v2] w fun e w' => ∃ v,e = .returned v ∧ SgV w' v (x * y) ∧ Below w.heap.size w w' := by
 obtain ⟨m1,rfl,hm1⟩ := h1
 obtain ⟨m2,rfl,hm2⟩ := h2
 obtain ⟨k1,hk1⟩ : ∃ k,k = decide (x < 0) := ⟨_,rfl⟩
 obtain ⟨k2,hk2⟩ : ∃ k,k = decide (y < 0) := ⟨_,rfl⟩
 have hE := sgn_mul x y
 rw [← hk1,← hk2] at hE ⊢
 obtain ⟨N,hN⟩ : ∃ n,n = x.natAbs * y.natAbs := ⟨_,rfl⟩
 rw [← hN] at hE
 have hpr : Hid (∀ W,PlS w m1 m2 k1 k2 W → Calls Tryz.prog 147 #[m1,m2] W fun e w' => ∃ v,e = .returned v ∧ MagV w' v N ∧ PlS w m1 m2 k1 k2 w') := Lib.hid (fun W hS => (product_any m1 m2 _ _ W (hm1.below hS.1.2) (hm2.below hS.1.2) b1 b2).mono fun _ _ ⟨v,he,hm,hb⟩ => ⟨v,he,by rw [hN];exact hm,pls_step hS hb⟩)
 have hsg : Hid (∀ W m,MagV W m N → PlS w m1 m2 k1 k2 W → Calls Tryz.prog 138 #[m,.bool (k1 != k2)] W fun e w' => ∃ (A : Option Addr) (n c : Nat) (k : Bool),e = .returned (.agg #[.slice A n c,.bool k]) ∧ k = decide (sgn N (k1 != k2) < 0) ∧ MagV w' (.slice A n c) (sgn N (k1 != k2)).natAbs ∧ PlS w m1 m2 k1 k2 w') := Lib.hid (fun W m hm hS => (signed_any m N (k1 != k2) W hm).mono fun e w' ⟨v,he,⟨m',hv,hm'⟩,hb⟩ => by
  obtain ⟨A,c,rfl,_,_⟩ := hm'.ok_len
  exact ⟨A,_,c,_,by rw [he,hv],rfl,hm',pls_step hS hb⟩)
 have HE := Lib.hid hE
 have hS0 := pls_start w m1 m2 k1 k2
 clear hE hN hm1 hm2 b1 b2 hk1 hk2
 go_enter Tryz.func121,Tryz.ntmps121
 go_wp2
 go_region_held3 (fun W => (BoxS W (w.heap.size + 1 + 1) ∧ Below w.heap.size w W) ∧ W.cell? ⟨w.heap.size,0,none⟩ = some m1 ∧ W.cell? ⟨w.heap.size,1,none⟩ = some (.bool k1) ∧ W.cell? ⟨w.heap.size + 1,0,none⟩ = some m2 ∧ W.cell? ⟨w.heap.size + 1,1,none⟩ = some (.bool k2)) (first | with_reducible assumption | exact ⟨⟨hS0.1.1,hS0.1.2.drew⟩,hS0.2⟩ | (refine pls_store ?_ _ _ _ _;with_reducible assumption))
  (first
   | (go_at_call 147;refine (hpr.out _ ?_).mono ?_;with_reducible assumption;rintro e w1 ⟨x1,rfl,hx1,hS1⟩)
   | (go_at_call 138;refine (hsg.out _ _ ?_ ?_).mono ?_;with_reducible assumption;with_reducible assumption;rintro e w2 ⟨A,n,c,k,rfl,hk,hx2,hS2⟩;obtain ⟨⟨q0,hc0⟩,⟨q1,hc1⟩,hf0,hf1⟩ := hS2.1.1.facts;have HX := Lib.hid (And.intro hk hx2);clear hk))
 go_wp2
 exact bodyPost_ret (v := .agg #[.slice A n c,.bool k]) (by simp [results,Tryz.results121,go_sem,hc0,hc1]) rfl ⟨_,rfl,by
  have hk := HX.out.1
  have hm := HX.out.2
  rw [HE.out] at hk hm
  exact ⟨_,by rw [hk],hS2.1.1.mag hm _ _⟩,(pls_store hS2 A n c k).1.2⟩
end Go.Proofs.YtlfgpmnjnpdkdaaGreatDoor
namespace Go.Proofs.YtlfgpmnjnpdkdaaGreatDoor
open Go.RowKit Vd
theorem pls_drewN {w W : World} {m1 m2 : Value} {k1 k2 : Bool} (h : PlS w m1 m2 k1 k2 W) (d : Nat) : PlS w m1 m2 k1 k2 (W.drewN d) :=
 ⟨⟨h.1.1,below_drewN h.1.2 d⟩,h.2⟩
theorem signed_held {w : World} {m1 m2 : Value} {k1 k2 : Bool} (N : Nat) (b : Bool) (W : World) (m : Value) (hm : MagV W m N) (hS : PlS w m1 m2 k1 k2 W) :
 Calls Tryz.prog 138 #[m,.bool b] W fun e w' => ∃ (A : Option Addr) (n c : Nat) (k : Bool),e = .returned (.agg #[.slice A n c,.bool k]) ∧ k = decide (sgn N b < 0) ∧ MagV w' (.slice A n c) (sgn N b).natAbs ∧ PlS w m1 m2 k1 k2 w' :=
 (signed_any m N b W hm).mono fun e w' ⟨v,he,⟨m',hv,hm'⟩,hb⟩ => by
  obtain ⟨A,c,rfl,_,_⟩ := hm'.ok_len
  exact ⟨A,_,c,_,by rw [he,hv],rfl,hm',pls_step hS hb⟩
set_option maxRecDepth 100000 in
set_option maxHeartbeats 1000000 in
theorem plus_tt (m1 m2 : Value) (a b : Nat) (z : Int) (w : World) (hm1 : MagV w m1 a) (hm2 : MagV w m2 b) (b1 : wlen B64 a ≤ maxW) (b2 : wlen B64 b ≤ maxW) (hz : sgn (a + b) true = z) :
 Calls Tryz.prog 123 #[.agg #[m1,.bool true],.agg #[m2,.bool true]] w fun e w' => ∃ v,e = .returned v ∧ SgV w' v z ∧ Below w.heap.size w w' := by
 have hpr : Hid (∀ W,PlS w m1 m2 true true W → Calls Tryz.prog 149 #[m1,m2] W fun e w' => ∃ v,e = .returned v ∧ MagV w' v (a + b) ∧ PlS w m1 m2 true true w') := Lib.hid (fun W hS => (sum_any m1 m2 _ _ W (hm1.below hS.1.2) (hm2.below hS.1.2) b1 b2).mono fun _ _ ⟨v,he,hm,hb⟩ => ⟨v,he,hm,pls_step hS hb⟩)
 have HE := Lib.hid hz
 have hS0 := pls_start w m1 m2 true true
 clear hz hm1 hm2 b1 b2
 go_enter Tryz.func123,Tryz.ntmps123
 go_wp2_with fail
 have hS1 := hS0
 go_region_held3 (fun W => (BoxS W (w.heap.size + 1 + 1) ∧ Below w.heap.size w W) ∧ W.cell? ⟨w.heap.size,0,none⟩ = some m1 ∧ W.cell? ⟨w.heap.size,1,none⟩ = some (.bool true) ∧ W.cell? ⟨w.heap.size + 1,0,none⟩ = some m2 ∧ W.cell? ⟨w.heap.size + 1,1,none⟩ = some (.bool true)) (first | with_reducible assumption | exact ⟨⟨hS1.1.1,hS1.1.2.drew⟩,hS1.2⟩ | (refine pls_store ?_ _ _ _ _;with_reducible assumption))
  (first
   | (go_at_call 149;refine (hpr.out _ ?_).mono ?_;with_reducible assumption;rintro e w1 ⟨x1,rfl,hx1,hS1⟩)
   | (go_at_call 138;refine (signed_held (w := w) (m1 := m1) (m2 := m2) (k1 := true) (k2 := true) (a + b) true _ _ ?_ ?_).mono ?_;with_reducible assumption;with_reducible assumption;rintro e w2 ⟨A,n,c,k,rfl,hk,hx2,hS2⟩;obtain ⟨⟨q0,hc0⟩,⟨q1,hc1⟩,hf0,hf1⟩ := hS2.1.1.facts;have HX := Lib.hid (And.intro hk hx2);clear hk))
 go_wp2
 exact bodyPost_ret (v := .agg #[.slice A n c,.bool k]) (by simp [results,Tryz.results123,go_sem,hc0,hc1]) rfl ⟨_,rfl,by
  have hk := HX.out.1
  have hm := HX.out.2
  rw [HE.out] at hk hm
  exact ⟨_,by rw [hk],hS2.1.1.mag hm _ _⟩,(pls_store hS2 A n c k).1.2⟩
set_option maxRecDepth 100000 in
set_option maxHeartbeats 1000000 in
theorem plus_ff (m1 m2 : Value) (a b : Nat) (z : Int) (w : World) (hm1 : MagV w m1 a) (hm2 : MagV w m2 b) (b1 : wlen B64 a ≤ maxW) (b2 : wlen B64 b ≤ maxW) (hz : sgn (a + b) false = z) :
 Calls Tryz.prog 123 #[.agg #[m1,.bool false],.agg #[m2,.bool false]] w fun e w' => ∃ v,e = .returned v ∧ SgV w' v z ∧ Below w.heap.size w w' := by
 have hpr : Hid (∀ W,PlS w m1 m2 false false W → Calls Tryz.prog 149 #[m1,m2] W fun e w' => ∃ v,e = .returned v ∧ MagV w' v (a + b) ∧ PlS w m1 m2 false false w') := Lib.hid (fun W hS => (sum_any m1 m2 _ _ W (hm1.below hS.1.2) (hm2.below hS.1.2) b1 b2).mono fun _ _ ⟨v,he,hm,hb⟩ => ⟨v,he,hm,pls_step hS hb⟩)
 have HE := Lib.hid hz
 have hS0 := pls_start w m1 m2 false false
 clear hz hm1 hm2 b1 b2
 go_enter Tryz.func123,Tryz.ntmps123
 go_wp2_with fail
 have hS1 := hS0
 go_region_held3 (fun W => (BoxS W (w.heap.size + 1 + 1) ∧ Below w.heap.size w W) ∧ W.cell? ⟨w.heap.size,0,none⟩ = some m1 ∧ W.cell? ⟨w.heap.size,1,none⟩ = some (.bool false) ∧ W.cell? ⟨w.heap.size + 1,0,none⟩ = some m2 ∧ W.cell? ⟨w.heap.size + 1,1,none⟩ = some (.bool false)) (first | with_reducible assumption | exact ⟨⟨hS1.1.1,hS1.1.2.drew⟩,hS1.2⟩ | (refine pls_store ?_ _ _ _ _;with_reducible assumption))
  (first
   | (go_at_call 149;refine (hpr.out _ ?_).mono ?_;with_reducible assumption;rintro e w1 ⟨x1,rfl,hx1,hS1⟩)
   | (go_at_call 138;refine (signed_held (w := w) (m1 := m1) (m2 := m2) (k1 := false) (k2 := false) (a + b) false _ _ ?_ ?_).mono ?_;with_reducible assumption;with_reducible assumption;rintro e w2 ⟨A,n,c,k,rfl,hk,hx2,hS2⟩;obtain ⟨⟨q0,hc0⟩,⟨q1,hc1⟩,hf0,hf1⟩ := hS2.1.1.facts;have HX := Lib.hid (And.intro hk hx2);clear hk))
 go_wp2
 exact bodyPost_ret (v := .agg #[.slice A n c,.bool k]) (by simp [results,Tryz.results123,go_sem,hc0,hc1]) rfl ⟨_,rfl,by
  have hk := HX.out.1
  have hm := HX.out.2
  rw [HE.out] at hk hm
  exact ⟨_,by rw [hk],hS2.1.1.mag hm _ _⟩,(pls_store hS2 A n c k).1.2⟩
set_option maxRecDepth 100000 in
set_option maxHeartbeats 1000000 in
theorem plus_tf_lt (m1 m2 : Value) (a b : Nat) (z : Int) (w : World) (hm1 : MagV w m1 a) (hm2 : MagV w m2 b) (_b1 : wlen B64 a ≤ maxW) (b2 : wlen B64 b ≤ maxW) (hc : a < b) (hz : sgn (b - a) false = z) :
 Calls Tryz.prog 123 #[.agg #[m1,.bool true],.agg #[m2,.bool false]] w fun e w' => ∃ v,e = .returned v ∧ SgV w' v z ∧ Below w.heap.size w w' := by
 have hpr : Hid (∀ W,PlS w m1 m2 true false W → Calls Tryz.prog 150 #[m2,m1] W fun e w' => ∃ v,e = .returned v ∧ MagV w' v (b - a) ∧ PlS w m1 m2 true false w') := Lib.hid (fun W hS => (diff_any m2 m1 _ _ W (hm2.below hS.1.2) (hm1.below hS.1.2) b2 (Nat.le_of_lt hc)).mono fun _ _ ⟨v,he,hm,hb⟩ => ⟨v,he,hm,pls_step hS hb⟩)
 have HE := Lib.hid hz
 have hcm := fun W (hS : PlS w m1 m2 true false W) => compare_any m1 m2 a b W (hm1.below hS.1.2) (hm2.below hS.1.2) b2
 have hcl : (cmpN a b < 0) = True := by unfold cmpN;simp;split <;> (try split) <;> (try simp) <;> omega
 obtain ⟨cv,hcv⟩ : ∃ c,c = cmpN a b := ⟨_,rfl⟩
 rw [← hcv] at hcl
 simp only [← hcv] at hcm
 have hcm' := (hcm _ (pls_start w m1 m2 true false)).mono (R' := fun e w' => e = .returned (.int .i64 cv) ∧ PlS w m1 m2 true false w') fun e w' ⟨he,d,hw⟩ => ⟨he,by rw [hw];exact pls_drewN (pls_start w m1 m2 true false) d⟩
 have hcn : cv < 0 := by rw [hcl];trivial
 clear hcm hcl hcv
 have hS0 := pls_start w m1 m2 true false
 clear hz hm1 hm2 _b1 b2 hc
 go_enter Tryz.func123,Tryz.ntmps123
 go_wp2_with fail
 refine hcm'.mono ?_
 rintro e w0 ⟨rfl,hS1⟩
 go_wp2_with fail
 go_region_held3 (fun W => (BoxS W (w.heap.size + 1 + 1) ∧ Below w.heap.size w W) ∧ W.cell? ⟨w.heap.size,0,none⟩ = some m1 ∧ W.cell? ⟨w.heap.size,1,none⟩ = some (.bool true) ∧ W.cell? ⟨w.heap.size + 1,0,none⟩ = some m2 ∧ W.cell? ⟨w.heap.size + 1,1,none⟩ = some (.bool false)) (first | with_reducible assumption | exact ⟨⟨hS1.1.1,hS1.1.2.drew⟩,hS1.2⟩ | (refine pls_store ?_ _ _ _ _;with_reducible assumption))
  (first
   | (go_at_call 150;refine (hpr.out _ ?_).mono ?_;with_reducible assumption;rintro e w1 ⟨x1,rfl,hx1,hS1⟩)
   | (go_at_call 138;refine (signed_held (w := w) (m1 := m1) (m2 := m2) (k1 := true) (k2 := false) (b - a) false _ _ ?_ ?_).mono ?_;with_reducible assumption;with_reducible assumption;rintro e w2 ⟨A,n,c,k,rfl,hk,hx2,hS2⟩;obtain ⟨⟨q0,hc0⟩,⟨q1,hc1⟩,hf0,hf1⟩ := hS2.1.1.facts;have HX := Lib.hid (And.intro hk hx2);clear hk))
 go_wp2
 exact bodyPost_ret (v := .agg #[.slice A n c,.bool k]) (by simp [results,Tryz.results123,go_sem,hc0,hc1]) rfl ⟨_,rfl,by
  have hk := HX.out.1
  have hm := HX.out.2
  rw [HE.out] at hk hm
  exact ⟨_,by rw [hk],hS2.1.1.mag hm _ _⟩,(pls_store hS2 A n c k).1.2⟩
set_option maxRecDepth 100000 in
set_option maxHeartbeats 1000000 in
theorem plus_tf_ge (m1 m2 : Value) (a b : Nat) (z : Int) (w : World) (hm1 : MagV w m1 a) (hm2 : MagV w m2 b) (b1 : wlen B64 a ≤ maxW) (b2 : wlen B64 b ≤ maxW) (hc : b ≤ a) (hz : sgn (a - b) true = z) :
 Calls Tryz.prog 123 #[.agg #[m1,.bool true],.agg #[m2,.bool false]] w fun e w' => ∃ v,e = .returned v ∧ SgV w' v z ∧ Below w.heap.size w w' := by
 have hpr : Hid (∀ W,PlS w m1 m2 true false W → Calls Tryz.prog 150 #[m1,m2] W fun e w' => ∃ v,e = .returned v ∧ MagV w' v (a - b) ∧ PlS w m1 m2 true false w') := Lib.hid (fun W hS => (diff_any m1 m2 _ _ W (hm1.below hS.1.2) (hm2.below hS.1.2) b1 hc).mono fun _ _ ⟨v,he,hm,hb⟩ => ⟨v,he,hm,pls_step hS hb⟩)
 have HE := Lib.hid hz
 have hcm := fun W (hS : PlS w m1 m2 true false W) => compare_any m1 m2 a b W (hm1.below hS.1.2) (hm2.below hS.1.2) b2
 have hcl : (cmpN a b < 0) = False := by unfold cmpN;simp;split <;> (try split) <;> (try simp) <;> omega
 obtain ⟨cv,hcv⟩ : ∃ c,c = cmpN a b := ⟨_,rfl⟩
 rw [← hcv] at hcl
 simp only [← hcv] at hcm
 have hcm' := (hcm _ (pls_start w m1 m2 true false)).mono (R' := fun e w' => e = .returned (.int .i64 cv) ∧ PlS w m1 m2 true false w') fun e w' ⟨he,d,hw⟩ => ⟨he,by rw [hw];exact pls_drewN (pls_start w m1 m2 true false) d⟩
 have hcn : ¬ cv < 0 := by rw [hcl];trivial
 clear hcm hcl hcv
 have hS0 := pls_start w m1 m2 true false
 clear hz hm1 hm2 b1 b2 hc
 go_enter Tryz.func123,Tryz.ntmps123
 go_wp2_with fail
 refine hcm'.mono ?_
 rintro e w0 ⟨rfl,hS1⟩
 go_wp2_with fail
 go_region_held3 (fun W => (BoxS W (w.heap.size + 1 + 1) ∧ Below w.heap.size w W) ∧ W.cell? ⟨w.heap.size,0,none⟩ = some m1 ∧ W.cell? ⟨w.heap.size,1,none⟩ = some (.bool true) ∧ W.cell? ⟨w.heap.size + 1,0,none⟩ = some m2 ∧ W.cell? ⟨w.heap.size + 1,1,none⟩ = some (.bool false)) (first | with_reducible assumption | exact ⟨⟨hS1.1.1,hS1.1.2.drew⟩,hS1.2⟩ | (refine pls_store ?_ _ _ _ _;with_reducible assumption))
  (first
   | (go_at_call 150;refine (hpr.out _ ?_).mono ?_;with_reducible assumption;rintro e w1 ⟨x1,rfl,hx1,hS1⟩)
   | (go_at_call 138;refine (signed_held (w := w) (m1 := m1) (m2 := m2) (k1 := true) (k2 := false) (a - b) true _ _ ?_ ?_).mono ?_;with_reducible assumption;with_reducible assumption;rintro e w2 ⟨A,n,c,k,rfl,hk,hx2,hS2⟩;obtain ⟨⟨q0,hc0⟩,⟨q1,hc1⟩,hf0,hf1⟩ := hS2.1.1.facts;have HX := Lib.hid (And.intro hk hx2);clear hk))
 go_wp2
 exact bodyPost_ret (v := .agg #[.slice A n c,.bool k]) (by simp [results,Tryz.results123,go_sem,hc0,hc1]) rfl ⟨_,rfl,by
  have hk := HX.out.1
  have hm := HX.out.2
  rw [HE.out] at hk hm
  exact ⟨_,by rw [hk],hS2.1.1.mag hm _ _⟩,(pls_store hS2 A n c k).1.2⟩
set_option maxRecDepth 100000 in
set_option maxHeartbeats 1000000 in
theorem plus_ft_lt (m1 m2 : Value) (a b : Nat) (z : Int) (w : World) (hm1 : MagV w m1 a) (hm2 : MagV w m2 b) (_b1 : wlen B64 a ≤ maxW) (b2 : wlen B64 b ≤ maxW) (hc : a < b) (hz : sgn (b - a) true = z) :
 Calls Tryz.prog 123 #[.agg #[m1,.bool false],.agg #[m2,.bool true]] w fun e w' => ∃ v,e = .returned v ∧ SgV w' v z ∧ Below w.heap.size w w' := by
 have hpr : Hid (∀ W,PlS w m1 m2 false true W → Calls Tryz.prog 150 #[m2,m1] W fun e w' => ∃ v,e = .returned v ∧ MagV w' v (b - a) ∧ PlS w m1 m2 false true w') := Lib.hid (fun W hS => (diff_any m2 m1 _ _ W (hm2.below hS.1.2) (hm1.below hS.1.2) b2 (Nat.le_of_lt hc)).mono fun _ _ ⟨v,he,hm,hb⟩ => ⟨v,he,hm,pls_step hS hb⟩)
 have HE := Lib.hid hz
 have hcm := fun W (hS : PlS w m1 m2 false true W) => compare_any m1 m2 a b W (hm1.below hS.1.2) (hm2.below hS.1.2) b2
 have hcl : (cmpN a b < 0) = True := by unfold cmpN;simp;split <;> (try split) <;> (try simp) <;> omega
 obtain ⟨cv,hcv⟩ : ∃ c,c = cmpN a b := ⟨_,rfl⟩
 rw [← hcv] at hcl
 simp only [← hcv] at hcm
 have hcm' := (hcm _ (pls_start w m1 m2 false true)).mono (R' := fun e w' => e = .returned (.int .i64 cv) ∧ PlS w m1 m2 false true w') fun e w' ⟨he,d,hw⟩ => ⟨he,by rw [hw];exact pls_drewN (pls_start w m1 m2 false true) d⟩
 have hcn : cv < 0 := by rw [hcl];trivial
 clear hcm hcl hcv
 have hS0 := pls_start w m1 m2 false true
 clear hz hm1 hm2 _b1 b2 hc
 go_enter Tryz.func123,Tryz.ntmps123
 go_wp2_with fail
 refine hcm'.mono ?_
 rintro e w0 ⟨rfl,hS1⟩
 go_wp2_with fail
 go_region_held3 (fun W => (BoxS W (w.heap.size + 1 + 1) ∧ Below w.heap.size w W) ∧ W.cell? ⟨w.heap.size,0,none⟩ = some m1 ∧ W.cell? ⟨w.heap.size,1,none⟩ = some (.bool false) ∧ W.cell? ⟨w.heap.size + 1,0,none⟩ = some m2 ∧ W.cell? ⟨w.heap.size + 1,1,none⟩ = some (.bool true)) (first | with_reducible assumption | exact ⟨⟨hS1.1.1,hS1.1.2.drew⟩,hS1.2⟩ | (refine pls_store ?_ _ _ _ _;with_reducible assumption))
  (first
   | (go_at_call 150;refine (hpr.out _ ?_).mono ?_;with_reducible assumption;rintro e w1 ⟨x1,rfl,hx1,hS1⟩)
   | (go_at_call 138;refine (signed_held (w := w) (m1 := m1) (m2 := m2) (k1 := false) (k2 := true) (b - a) true _ _ ?_ ?_).mono ?_;with_reducible assumption;with_reducible assumption;rintro e w2 ⟨A,n,c,k,rfl,hk,hx2,hS2⟩;obtain ⟨⟨q0,hc0⟩,⟨q1,hc1⟩,hf0,hf1⟩ := hS2.1.1.facts;have HX := Lib.hid (And.intro hk hx2);clear hk))
 go_wp2
 exact bodyPost_ret (v := .agg #[.slice A n c,.bool k]) (by simp [results,Tryz.results123,go_sem,hc0,hc1]) rfl ⟨_,rfl,by
  have hk := HX.out.1
  have hm := HX.out.2
  rw [HE.out] at hk hm
  exact ⟨_,by rw [hk],hS2.1.1.mag hm _ _⟩,(pls_store hS2 A n c k).1.2⟩
set_option maxRecDepth 100000 in
set_option maxHeartbeats 1000000 in
theorem plus_ft_ge (m1 m2 : Value) (a b : Nat) (z : Int) (w : World) (hm1 : MagV w m1 a) (hm2 : MagV w m2 b) (b1 : wlen B64 a ≤ maxW) (b2 : wlen B64 b ≤ maxW) (hc : b ≤ a) (hz : sgn (a - b) false = z) :
 Calls Tryz.prog 123 #[.agg #[m1,.bool false],.agg #[m2,.bool true]] w fun e w' => ∃ v,e = .returned v ∧ SgV w' v z ∧ Below w.heap.size w w' := by
 have hpr : Hid (∀ W,PlS w m1 m2 false true W → Calls Tryz.prog 150 #[m1,m2] W fun e w' => ∃ v,e = .returned v ∧ MagV w' v (a - b) ∧ PlS w m1 m2 false true w') := Lib.hid (fun W hS => (diff_any m1 m2 _ _ W (hm1.below hS.1.2) (hm2.below hS.1.2) b1 hc).mono fun _ _ ⟨v,he,hm,hb⟩ => ⟨v,he,hm,pls_step hS hb⟩)
 have HE := Lib.hid hz
 have hcm := fun W (hS : PlS w m1 m2 false true W) => compare_any m1 m2 a b W (hm1.below hS.1.2) (hm2.below hS.1.2) b2
 have hcl : (cmpN a b < 0) = False := by unfold cmpN;simp;split <;> (try split) <;> (try simp) <;> omega
 obtain ⟨cv,hcv⟩ : ∃ c,c = cmpN a b := ⟨_,rfl⟩
 rw [← hcv] at hcl
 simp only [← hcv] at hcm
 have hcm' := (hcm _ (pls_start w m1 m2 false true)).mono (R' := fun e w' => e = .returned (.int .i64 cv) ∧ PlS w m1 m2 false true w') fun e w' ⟨he,d,hw⟩ => ⟨he,by rw [hw];exact pls_drewN (pls_start w m1 m2 false true) d⟩
 have hcn : ¬ cv < 0 := by rw [hcl];trivial
 clear hcm hcl hcv
 have hS0 := pls_start w m1 m2 false true
 clear hz hm1 hm2 b1 b2 hc
 go_enter Tryz.func123,Tryz.ntmps123
 go_wp2_with fail
 refine hcm'.mono ?_
 rintro e w0 ⟨rfl,hS1⟩
 go_wp2_with fail
 go_region_held3 (fun W => (BoxS W (w.heap.size + 1 + 1) ∧ Below w.heap.size w W) ∧ W.cell? ⟨w.heap.size,0,none⟩ = some m1 ∧ W.cell? ⟨w.heap.size,1,none⟩ = some (.bool false) ∧ W.cell? ⟨w.heap.size + 1,0,none⟩ = some m2 ∧ W.cell? ⟨w.heap.size + 1,1,none⟩ = some (.bool true)) (first | with_reducible assumption | exact ⟨⟨hS1.1.1,hS1.1.2.drew⟩,hS1.2⟩ | (refine pls_store ?_ _ _ _ _;with_reducible assumption))
  (first
   | (go_at_call 150;refine (hpr.out _ ?_).mono ?_;with_reducible assumption;rintro e w1 ⟨x1,rfl,hx1,hS1⟩)
   | (go_at_call 138;refine (signed_held (w := w) (m1 := m1) (m2 := m2) (k1 := false) (k2 := true) (a - b) false _ _ ?_ ?_).mono ?_;with_reducible assumption;with_reducible assumption;rintro e w2 ⟨A,n,c,k,rfl,hk,hx2,hS2⟩;obtain ⟨⟨q0,hc0⟩,⟨q1,hc1⟩,hf0,hf1⟩ := hS2.1.1.facts;have HX := Lib.hid (And.intro hk hx2);clear hk))
 go_wp2
 exact bodyPost_ret (v := .agg #[.slice A n c,.bool k]) (by simp [results,Tryz.results123,go_sem,hc0,hc1]) rfl ⟨_,rfl,by
  have hk := HX.out.1
  have hm := HX.out.2
  rw [HE.out] at hk hm
  exact ⟨_,by rw [hk],hS2.1.1.mag hm _ _⟩,(pls_store hS2 A n c k).1.2⟩
theorem plus_any (v1 v2 : Value) (x y : Int) (w : World) (h1 : SgV w v1 x) (h2 : SgV w v2 y) (b1 : wlen B64 x.natAbs ≤ maxW) (b2 : wlen B64 y.natAbs ≤ maxW) :
 Calls Tryz.prog 123 #[v1,v2] w fun e w' => ∃ v,e = .returned v ∧ SgV w' v (x + y) ∧ Below w.heap.size w w' := by
 obtain ⟨m1,rfl,hm1⟩ := h1
 obtain ⟨m2,rfl,hm2⟩ := h2
 by_cases hx : x < 0
 · rw [show decide (x < 0) = true by simpa using hx]
   by_cases hy : y < 0
   · rw [show decide (y < 0) = true by simpa using hy]
     exact plus_tt m1 m2 _ _ _ w hm1 hm2 b1 b2 (by unfold sgn;simp;omega)
   · rw [show decide (y < 0) = false by simpa using hy]
     rcases Nat.lt_or_ge x.natAbs y.natAbs with h | h
     · exact plus_tf_lt m1 m2 _ _ _ w hm1 hm2 b1 b2 h (by unfold sgn;simp;omega)
     · exact plus_tf_ge m1 m2 _ _ _ w hm1 hm2 b1 b2 h (by unfold sgn;simp;omega)
 · rw [show decide (x < 0) = false by simpa using hx]
   by_cases hy : y < 0
   · rw [show decide (y < 0) = true by simpa using hy]
     rcases Nat.lt_or_ge x.natAbs y.natAbs with h | h
     · exact plus_ft_lt m1 m2 _ _ _ w hm1 hm2 b1 b2 h (by unfold sgn;simp;omega)
     · exact plus_ft_ge m1 m2 _ _ _ w hm1 hm2 b1 b2 h (by unfold sgn;simp;omega)
   · rw [show decide (y < 0) = false by simpa using hy]
     exact plus_ff m1 m2 _ _ _ w hm1 hm2 b1 b2 (by unfold sgn;simp;omega)
end Go.Proofs.YtlfgpmnjnpdkdaaGreatDoor
namespace Go.Proofs.YtlfgpmnjnpdkdaaGreatDoor
open Go.RowKit Vd
end Go.Proofs.YtlfgpmnjnpdkdaaGreatDoor
namespace Go.Proofs.YtlfgpmnjnpdkdaaGreatDoor
open Go.RowKit Vd
abbrev PoS (w : World) (m1 : Value) (k1 : Bool) (W : World) : Prop :=
 (BoxS W (w.heap.size + 1) ∧ Below w.heap.size w W) ∧ W.cell? ⟨w.heap.size,0,none⟩ = some m1 ∧ W.cell? ⟨w.heap.size,1,none⟩ = some (.bool k1)
theorem pos_step {w W w1 : World} {m1 : Value} {k1 : Bool} (h : PoS w m1 k1 W) (hb : Below W.heap.size W w1) : PoS w m1 k1 w1 := by
 have hlt := h.1.1.lt
 have hc : ∀ b o,b < w.heap.size + 1 → w1.cell? ⟨b,o,none⟩ = W.cell? ⟨b,o,none⟩ := fun b o hbl => hb.cell (p := ⟨b,o,none⟩) (Nat.lt_trans hbl hlt)
 refine ⟨⟨h.1.1.below hb hlt,h.1.2.trans (hb.mono (by omega))⟩,?_,?_⟩
 · rw [hc _ _ (by omega)];exact h.2.1
 · rw [hc _ _ (by omega)];exact h.2.2
theorem pos_store {w W : World} {m1 : Value} {k1 : Bool} (h : PoS w m1 k1 W) (A : Option Addr) (n c : Nat) (k : Bool) :
 PoS w m1 k1 ((W.setCell ⟨w.heap.size + 1,0,none⟩ (.slice A n c)).setCell ⟨w.heap.size + 1,1,none⟩ (.bool k)) := by
 have hc : ∀ b o,b < w.heap.size + 1 → ((W.setCell ⟨w.heap.size + 1,0,none⟩ (.slice A n c)).setCell ⟨w.heap.size + 1,1,none⟩ (.bool k)).cell? ⟨b,o,none⟩ = W.cell? ⟨b,o,none⟩ := fun b o hb => by
  rw [World.cell?_setCell_other _ _ _ _ (by intro e;injection e with e;omega),World.cell?_setCell_other _ _ _ _ (by intro e;injection e with e;omega)]
 refine ⟨⟨h.1.1.set A n c k,(h.1.2.setCell (by simp) _).setCell (by simp) _⟩,?_,?_⟩
 · rw [hc _ _ (by omega)];exact h.2.1
 · rw [hc _ _ (by omega)];exact h.2.2
theorem pos_start (w : World) (m1 : Value) (k1 : Bool) : PoS w m1 k1 ((w.alloc (.cells #[m1,.bool k1] 80)).alloc (.cells #[.slice none 0 0,.bool false] 80)) := by
 have hb := BoxS.alloc (w.alloc (.cells #[m1,.bool k1] 80)) none 0 0 false
 rw [World.size_alloc] at hb
 refine ⟨⟨hb,((Below.refl _ _).alloc (Nat.le_refl _) _).alloc (by simp) _⟩,?_,?_⟩ <;> simp [go_sem]
theorem sgn_pow (x : Int) (n : Nat) : sgn (x.natAbs ^ n) (decide (x < 0) && ((n : Int) % 2 == 1)) = x ^ n := by
 have hp : ((n : Int) % 2 == 1) = decide (n % 2 = 1) := by
  by_cases h : n % 2 = 1
  · rw [decide_eq_true h,beq_iff_eq];omega
  · rw [decide_eq_false h,beq_eq_false_iff_ne];omega
 rw [hp]
 by_cases hx : x < 0
 · obtain ⟨a,ha⟩ : ∃ a : Nat,x = -(a : Int) := ⟨x.natAbs,by omega⟩
   subst ha
   rw [Int.natAbs_neg,Int.natAbs_natCast]
   rw [show decide (-(a : Int) < 0) = true by simpa using hx,Bool.true_and]
   have hev : ∀ k : Nat,(-(a : Int)) ^ (2 * k) = (a : Int) ^ (2 * k) := fun k => by
    rw [Int.pow_mul,Int.pow_mul]
    congr 1
    rw [Int.pow_succ,Int.pow_succ,Int.pow_succ,Int.pow_succ]
    simp [Int.neg_mul_neg]
   unfold sgn
   rcases Nat.mod_two_eq_zero_or_one n with h | h
   · obtain ⟨k,rfl⟩ : ∃ k,n = 2 * k := ⟨n / 2,by omega⟩
     rw [if_neg (by simp),hev];simp
   · obtain ⟨k,rfl⟩ : ∃ k,n = 2 * k + 1 := ⟨n / 2,by omega⟩
     rw [if_pos (by simp),Int.pow_succ,hev,Int.mul_neg,← Int.pow_succ];simp
 · obtain ⟨a,ha⟩ : ∃ a : Nat,x = (a : Int) := ⟨x.natAbs,by omega⟩
   subst ha
   unfold sgn
   rw [if_neg (by simp;omega)];simp
end Go.Proofs.YtlfgpmnjnpdkdaaGreatDoor
namespace Go.Proofs.YtlfgpmnjnpdkdaaGreatDoor
open Go.RowKit Vd
theorem sgn_false (n : Nat) : sgn n false = (n : Int) := rfl
set_option maxRecDepth 100000 in
set_option maxHeartbeats 1000000 in
theorem divisor_any (v1 v2 : Value) (x y : Int) (w : World) (h1 : SgV w v1 x) (h2 : SgV w v2 y) (b1 : wlen B64 x.natAbs + 1 ≤ maxW) (b2 : wlen B64 y.natAbs + 1 ≤ maxW) :
 Calls Tryz.prog 106 #[v1,v2] w fun e w' => ∃ v,e = .returned v ∧ SgV w' v ((Nat.gcd x.natAbs y.natAbs : Nat) : Int) ∧ Below w.heap.size w w' := by
 obtain ⟨m1,rfl,hm1⟩ := h1
 obtain ⟨m2,rfl,hm2⟩ := h2
 obtain ⟨k1,hk1⟩ : ∃ k,k = decide (x < 0) := ⟨_,rfl⟩
 obtain ⟨k2,hk2⟩ : ∃ k,k = decide (y < 0) := ⟨_,rfl⟩
 rw [← hk1,← hk2]
 obtain ⟨N,hN⟩ : ∃ n,n = Nat.gcd x.natAbs y.natAbs := ⟨_,rfl⟩
 rw [← hN]
 have hpr : Hid (∀ W,PlS w m1 m2 k1 k2 W → Calls Tryz.prog 139 #[m1,m2] W fun e w' => ∃ v,e = .returned v ∧ MagV w' v N ∧ PlS w m1 m2 k1 k2 w') := Lib.hid (fun W hS => (common_any m1 m2 _ _ W (hm1.below hS.1.2) (hm2.below hS.1.2) b1 b2).mono fun _ _ ⟨v,he,hm,hb⟩ => ⟨v,he,by rw [hN];exact hm,pls_step hS hb⟩)
 have hsg : Hid (∀ W m,MagV W m N → PlS w m1 m2 k1 k2 W → Calls Tryz.prog 138 #[m,.bool false] W fun e w' => ∃ (A : Option Addr) (n c : Nat) (k : Bool),e = .returned (.agg #[.slice A n c,.bool k]) ∧ k = decide ((N : Int) < 0) ∧ MagV w' (.slice A n c) (N : Int).natAbs ∧ PlS w m1 m2 k1 k2 w') := Lib.hid (fun W m hm hS => (signed_any m N false W hm).mono fun e w' ⟨v,he,⟨m',hv,hm'⟩,hb⟩ => by
  rw [sgn_false] at hv hm'
  obtain ⟨A,c,rfl,_,_⟩ := hm'.ok_len
  exact ⟨A,_,c,_,by rw [he,hv],rfl,hm',pls_step hS hb⟩)
 have hS0 := pls_start w m1 m2 k1 k2
 clear hN hm1 hm2 b1 b2 hk1 hk2
 go_enter Tryz.func106,Tryz.ntmps106
 go_wp2_with fail
 refine (hpr.out _ hS0).mono ?_
 rintro e w1 ⟨x1,rfl,hx1,hS1⟩
 go_wp2_with fail
 refine (hsg.out _ _ hx1 hS1).mono ?_
 rintro e w2 ⟨A,n,c,k,rfl,hk,hx2,hS2⟩
 obtain ⟨⟨q0,hc0⟩,⟨q1,hc1⟩,hf0,hf1⟩ := hS2.1.1.facts
 have HX := Lib.hid (And.intro hk hx2)
 clear hk
 go_wp2_with fail
 exact bodyPost_ret (v := .agg #[.slice A n c,.bool k]) (by simp [results,Tryz.results106,go_sem,hc0,hc1]) rfl ⟨_,rfl,⟨_,by rw [HX.out.1],hS2.1.1.mag HX.out.2 _ _⟩,(pls_store hS2 A n c k).1.2⟩
theorem over_nat (x : Int) (b : Nat) (hb : 0 < b) :
 x / (b : Int) = sgn (if decide (x < 0) && !decide (x.natAbs % b = 0) then x.natAbs / b + 1 else x.natAbs / b) (decide (x < 0)) ∧
 x % (b : Int) = (((if decide (x < 0) && !decide (x.natAbs % b = 0) then b - x.natAbs % b else x.natAbs % b) : Nat) : Int) := by
 have hr := Nat.mod_lt x.natAbs hb
 have hd : (b : Int) * ((x.natAbs / b : Nat) : Int) + ((x.natAbs % b : Nat) : Int) = (x.natAbs : Int) := by
  have := Nat.div_add_mod x.natAbs b
  rw [← Int.natCast_mul,← Int.natCast_add,this]
 obtain ⟨q,hq⟩ : ∃ q,q = x.natAbs / b := ⟨_,rfl⟩
 obtain ⟨r,hrr⟩ : ∃ r,r = x.natAbs % b := ⟨_,rfl⟩
 rw [← hq,← hrr] at hd
 rw [← hrr] at hr
 rw [← hq,← hrr]
 have hb' : (0 : Int) < (b : Int) := by omega
 rw [Int.ediv_emod_unique hb']
 unfold sgn
 by_cases hx : x < 0
 · by_cases h0 : r = 0
   · simp [hx,h0]
     rw [h0] at hd
     rw [Int.mul_neg]
     omega
   · simp [hx,h0]
     rw [Int.mul_neg,Int.mul_add,Int.mul_one]
     omega
 · simp [hx]
   omega
theorem over_eq (x y : Int) (hy : y ≠ 0) :
 sgn (if decide (x < 0) && !decide (x.natAbs % y.natAbs = 0) then x.natAbs / y.natAbs + 1 else x.natAbs / y.natAbs) (decide (x < 0) != decide (y < 0)) = x / y ∧
 (((if decide (x < 0) && !decide (x.natAbs % y.natAbs = 0) then y.natAbs - x.natAbs % y.natAbs else x.natAbs % y.natAbs) : Nat) : Int) = x % y := by
 have hb : 0 < y.natAbs := Int.natAbs_pos.2 hy
 obtain ⟨h1,h2⟩ := over_nat x y.natAbs hb
 rw [← h2]
 by_cases h : y < 0
 · have e : y = -(y.natAbs : Int) := by omega
   have e1 : x / y = -(x / (y.natAbs : Int)) := by rw [← Int.ediv_neg,← e]
   have e2 : x % y = x % (y.natAbs : Int) := by rw [show (y.natAbs : Int) = -y by omega,Int.emod_neg]
   rw [e1,e2,h1]
   refine ⟨?_,rfl⟩
   unfold sgn
   by_cases hx : x < 0 <;> simp [hx,h]
 · have e : y = (y.natAbs : Int) := by omega
   have e1 : x / y = x / (y.natAbs : Int) := by rw [← e]
   have e2 : x % y = x % (y.natAbs : Int) := by rw [← e]
   rw [e1,e2,h1]
   refine ⟨?_,rfl⟩
   simp [h]
end Go.Proofs.YtlfgpmnjnpdkdaaGreatDoor
namespace Go.Proofs.YtlfgpmnjnpdkdaaGreatDoor
open Go.RowKit Vd
theorem BoxS.far {W : World} {b : Nat} (h : BoxS W b) {p : Addr} (hp : b ≠ p.block) (u : Value) : BoxS (W.setCell p u) b := by
 obtain ⟨A,n,c,k,h⟩ := h
 exact ⟨A,n,c,k,(Below.heap_setCell W p u b hp).trans h⟩
theorem SgV.sets {W : World} {b : Nat} {v : Value} {z : Int} (h : SgV W v z) (hb : BoxS W b) (u u' : Value) : SgV ((W.setCell ⟨b,0,none⟩ u).setCell ⟨b,1,none⟩ u') v z := by
 obtain ⟨m,e,hm⟩ := h
 exact ⟨m,e,hb.mag hm u u'⟩
theorem SgV.open {w : World} {v : Value} {z : Int} (h : SgV w v z) : ∃ (A : Option Addr) (n c : Nat) (k : Bool),v = .agg #[.slice A n c,.bool k] := by
 obtain ⟨m,rfl,hm⟩ := h
 obtain ⟨A,c,rfl,_,_⟩ := hm.ok_len
 exact ⟨A,_,c,_,rfl⟩
structure OvS (w : World) (m1 m2 : Value) (k1 k2 : Bool) (W : World) : Prop where
 b1 : BoxS W (w.heap.size + 1 + 1)
 b2 : BoxS W (w.heap.size + 1 + 1 + 1)
 bel : Below w.heap.size w W
 c1 : W.cell? ⟨w.heap.size,0,none⟩ = some m1
 c2 : W.cell? ⟨w.heap.size,1,none⟩ = some (.bool k1)
 c3 : W.cell? ⟨w.heap.size + 1,0,none⟩ = some m2
 c4 : W.cell? ⟨w.heap.size + 1,1,none⟩ = some (.bool k2)
theorem ov_step {w W w1 : World} {m1 m2 : Value} {k1 k2 : Bool} (h : OvS w m1 m2 k1 k2 W) (hb : Below W.heap.size W w1) : OvS w m1 m2 k1 k2 w1 := by
 have hlt := h.b2.lt
 have hc : ∀ b o,b < w.heap.size + 1 + 1 → w1.cell? ⟨b,o,none⟩ = W.cell? ⟨b,o,none⟩ := fun b o hbl => hb.cell (p := ⟨b,o,none⟩) (by show b < W.heap.size;omega)
 refine ⟨h.b1.below hb (by omega),h.b2.below hb hlt,h.bel.trans (hb.mono (by omega)),?_,?_,?_,?_⟩
 · rw [hc _ _ (by omega)];exact h.c1
 · rw [hc _ _ (by omega)];exact h.c2
 · rw [hc _ _ (by omega)];exact h.c3
 · rw [hc _ _ (by omega)];exact h.c4
theorem ov_start (w : World) (m1 m2 : Value) (k1 k2 : Bool) : OvS w m1 m2 k1 k2 ((((w.alloc (.cells #[m1,.bool k1] 80)).alloc (.cells #[m2,.bool k2] 80)).alloc (.cells #[.slice none 0 0,.bool false] 80)).alloc (.cells #[.slice none 0 0,.bool false] 80)) := by
 have hb := BoxS.alloc ((w.alloc (.cells #[m1,.bool k1] 80)).alloc (.cells #[m2,.bool k2] 80)) none 0 0 false
 have hb2 := BoxS.alloc (((w.alloc (.cells #[m1,.bool k1] 80)).alloc (.cells #[m2,.bool k2] 80)).alloc (.cells #[.slice none 0 0,.bool false] 80)) none 0 0 false
 rw [World.size_alloc,World.size_alloc] at hb
 rw [World.size_alloc,World.size_alloc,World.size_alloc] at hb2
 refine ⟨hb.below (B := w.heap.size + 1 + 1 + 1) ((Below.refl _ _).alloc (by simp) _) (by omega),hb2,((((Below.refl _ _).alloc (Nat.le_refl _) _).alloc (by simp) _).alloc (by simp;omega) _).alloc (by simp;omega) _,?_,?_,?_,?_⟩ <;> simp [go_sem]
theorem ov_end {w W : World} {m1 m2 : Value} {k1 k2 : Bool} (h : OvS w m1 m2 k1 k2 W) (u0 u1 u2 u3 : Value) {v : Value} {z : Int} (hv : SgV W v z) :
 SgV ((((W.setCell ⟨w.heap.size + 1 + 1,0,none⟩ u0).setCell ⟨w.heap.size + 1 + 1,1,none⟩ u1).setCell ⟨w.heap.size + 1 + 1 + 1,0,none⟩ u2).setCell ⟨w.heap.size + 1 + 1 + 1,1,none⟩ u3) v z ∧
 Below w.heap.size w ((((W.setCell ⟨w.heap.size + 1 + 1,0,none⟩ u0).setCell ⟨w.heap.size + 1 + 1,1,none⟩ u1).setCell ⟨w.heap.size + 1 + 1 + 1,0,none⟩ u2).setCell ⟨w.heap.size + 1 + 1 + 1,1,none⟩ u3) := by
 refine ⟨?_,(((h.bel.setCell (by simp;omega) _).setCell (by simp;omega) _).setCell (by simp;omega) _).setCell (by simp;omega) _⟩
 have h2 : BoxS ((W.setCell ⟨w.heap.size + 1 + 1,0,none⟩ u0).setCell ⟨w.heap.size + 1 + 1,1,none⟩ u1) (w.heap.size + 1 + 1 + 1) := (h.b2.far (by simp) _).far (by simp) _
 exact (hv.sets h.b1 _ _).sets h2 _ _
set_option maxRecDepth 100000 in
set_option maxHeartbeats 2000000 in
theorem over_any (v1 v2 : Value) (x y : Int) (w : World) (h1 : SgV w v1 x) (h2 : SgV w v2 y) (b1 : wlen B64 x.natAbs + 2 ≤ maxW) (b2 : wlen B64 y.natAbs + 2 ≤ maxW) (hy : y ≠ 0) :
 Calls Tryz.prog 126 #[v1,v2] w fun e w' => ∃ x1 x2,e = .returned (.tuple #[x1,x2]) ∧ SgV w' x1 (x / y) ∧ SgV w' x2 (x % y) ∧ Below w.heap.size w w' := by
 obtain ⟨m1,rfl,hm1⟩ := h1
 obtain ⟨m2,rfl,hm2⟩ := h2
 have hyp : 0 < y.natAbs := Int.natAbs_pos.2 hy
 obtain ⟨hE1,hE2⟩ := over_eq x y hy
 have hdiv : Hid (∀ W,OvS w m1 m2 (decide (x < 0)) (decide (y < 0)) W → Calls Tryz.prog 154 #[m1,m2] W fun e w' => ∃ (A1 : Option Addr) (n1 c1 : Nat) (A2 : Option Addr) (c2 : Nat),e = .returned (.tuple #[.slice A1 n1 c1,.slice A2 (wlen B64 (x.natAbs % y.natAbs)) c2]) ∧ MagV w' (.slice A1 n1 c1) (x.natAbs / y.natAbs) ∧ MagV w' (.slice A2 (wlen B64 (x.natAbs % y.natAbs)) c2) (x.natAbs % y.natAbs) ∧ OvS w m1 m2 (decide (x < 0)) (decide (y < 0)) w') := Lib.hid (fun W hS => (divide_any m1 m2 _ _ W (hm1.below hS.bel) (hm2.below hS.bel) (by omega) (by omega) hyp).mono fun e w' ⟨q,r,he,hq,hr,hb⟩ => by
  obtain ⟨A1,c1,rfl,_,_⟩ := hq.ok_len
  obtain ⟨A2,c2,rfl,_,_⟩ := hr.ok_len
  exact ⟨A1,_,c1,A2,c2,he,hq,hr,ov_step hS hb⟩)
 have hsg : Hid (∀ W m N b,MagV W m N → OvS w m1 m2 (decide (x < 0)) (decide (y < 0)) W → Calls Tryz.prog 138 #[m,.bool b] W fun e w' => ∃ (A : Option Addr) (n c : Nat) (k : Bool),e = .returned (.agg #[.slice A n c,.bool k]) ∧ SgV w' (.agg #[.slice A n c,.bool k]) (sgn N b) ∧ Below W.heap.size W w' ∧ OvS w m1 m2 (decide (x < 0)) (decide (y < 0)) w') := Lib.hid (fun W m N b hm hS => (signed_any m N b W hm).mono fun e w' ⟨v,he,hv,hb⟩ => by
  obtain ⟨A,n,c,k,rfl⟩ := hv.open
  exact ⟨A,n,c,k,he,hv,hb,ov_step hS hb⟩)
 have hq1 : wlen B64 (x.natAbs / y.natAbs) ≤ wlen B64 x.natAbs := wlen_mono two_le_B (Nat.div_le_self _ _)
 have hr1 : x.natAbs % y.natAbs ≤ y.natAbs := Nat.le_of_lt (Nat.mod_lt _ hyp)
 have hS0 := ov_start w m1 m2 (decide (x < 0)) (decide (y < 0))
 have hdf : Hid (∀ W r,MagV W r (x.natAbs % y.natAbs) → OvS w m1 m2 (decide (x < 0)) (decide (y < 0)) W → Calls Tryz.prog 150 #[m2,r] W fun e w' => ∃ (A : Option Addr) (n c : Nat),e = .returned (.slice A n c) ∧ MagV w' (.slice A n c) (y.natAbs - x.natAbs % y.natAbs) ∧ Below W.heap.size W w' ∧ OvS w m1 m2 (decide (x < 0)) (decide (y < 0)) w') := Lib.hid (fun W r hr hS => (diff_any m2 r _ _ W (hm2.below hS.bel) hr (by omega) hr1).mono fun e w' ⟨v,he,hm,hb⟩ => by
  obtain ⟨A,c,rfl,_,_⟩ := hm.ok_len
  exact ⟨A,_,c,he,hm,hb,ov_step hS hb⟩)
 have hsu : Hid (∀ W q o,MagV W q (x.natAbs / y.natAbs) → MagV W o 1 → OvS w m1 m2 (decide (x < 0)) (decide (y < 0)) W → Calls Tryz.prog 149 #[q,o] W fun e w' => ∃ (A : Option Addr) (n c : Nat),e = .returned (.slice A n c) ∧ MagV w' (.slice A n c) (x.natAbs / y.natAbs + 1) ∧ Below W.heap.size W w' ∧ OvS w m1 m2 (decide (x < 0)) (decide (y < 0)) w') := Lib.hid (fun W q o hq ho hS => (sum_any q o _ _ W hq ho (by omega) (by have := wlen_le_one (b := B64) two_le_B (n := 1) (by decide);omega)).mono fun e w' ⟨v,he,hm,hb⟩ => by
  obtain ⟨A,c,rfl,_,_⟩ := hm.ok_len
  exact ⟨A,_,c,he,hm,hb,ov_step hS hb⟩)
 have hfw : Hid (∀ W,OvS w m1 m2 (decide (x < 0)) (decide (y < 0)) W → Calls Tryz.prog 109 #[.int .u64 1] W fun e w' => ∃ (A : Option Addr) (n c : Nat),e = .returned (.slice A n c) ∧ MagV w' (.slice A n c) 1 ∧ Below W.heap.size W w' ∧ OvS w m1 m2 (decide (x < 0)) (decide (y < 0)) w') := Lib.hid (fun W hS => (fromWord_any 1 (by decide) W).mono fun e w' ⟨v,he,hm,hb⟩ => by
  obtain ⟨A,c,rfl,_,_⟩ := hm.ok_len
  exact ⟨A,_,c,he,hm,hb,ov_step hS hb⟩)
 obtain ⟨k2,hk2⟩ : ∃ k,k = decide (y < 0) := ⟨_,rfl⟩
 have hz := fun A c W => isZero_any A (wlen B64 (x.natAbs % y.natAbs)) c W
 have hw0 := wlen_eq_zero (b := B64) two_le_B (n := x.natAbs % y.natAbs)
 rw [← hk2] at hdiv hsg hS0 hdf hsu hfw hE1 ⊢
 obtain ⟨k1,hk1⟩ : ∃ k,k = decide (x < 0) := ⟨_,rfl⟩
 rw [← hk1] at hdiv hsg hS0 hdf hsu hfw hE1 hE2 ⊢
 obtain ⟨Q,hQ⟩ : ∃ q,q = x.natAbs / y.natAbs := ⟨_,rfl⟩
 obtain ⟨R,hR⟩ : ∃ q,q = x.natAbs % y.natAbs := ⟨_,rfl⟩
 rw [← hQ] at hdiv hsu hE1
 rw [← hR] at hdiv hdf hE1 hE2 hz hw0
 obtain ⟨Y,hY⟩ : ∃ q,q = y.natAbs := ⟨_,rfl⟩
 rw [← hY] at hdf hE2
 clear hm1 hm2 b1 b2 hy hyp hq1 hr1 hQ hR hk2 hk1
 by_cases hk : k1 = true ∧ R ≠ 0
 · obtain ⟨rfl,h0⟩ := hk
   have hd : decide (wlen B64 R = 0) = false := by simp;exact fun e => h0 (hw0.1 e)
   rw [hd] at hz
   have HE : Hid ((∀ b,b = (true != k2) → sgn (Q + 1) b = x / y) ∧ sgn (Y - R) false = x % y) := Lib.hid ⟨fun b hb => by rw [hb,← hE1];simp [h0],by rw [← hE2];simp [h0,sgn]⟩
   clear hE1 hE2 hd h0 hw0 hY
   go_enter Tryz.func126,Tryz.ntmps126
   go_wp2_with fail
   refine (hdiv.out _ hS0).mono ?_
   rintro e w1 ⟨A1,n1,c1,A2,c2,rfl,hq,hr,hS1⟩
   have e2 := hS1.c2
   go_wp2_with (go_at_call 59;refine (hz _ _ _).mono ?_;rintro e w1 ⟨rfl,rfl⟩)
   refine (hfw.out _ hS1).mono ?_
   rintro e w1a ⟨A5,n5,c5,rfl,hone,hb1a,hS1a⟩
   go_wp2_with fail
   refine (hsu.out _ _ _ (hq.below hb1a) hone hS1a).mono ?_
   rintro e w1b ⟨A6,n6,c6,rfl,hq',hb1b,hS1b⟩
   have e3 := hS1b.c3
   go_wp2_with fail
   refine (hdf.out _ _ ((hr.below hb1a).below hb1b) hS1b).mono ?_
   rintro e w1c ⟨A7,n7,c7,rfl,hr',hb1c,hS1c⟩
   have e2' := hS1c.c2
   have e4 := hS1c.c4
   go_wp2_with fail
   refine (hsg.out _ _ _ _ (hq'.below hb1c) hS1c).mono ?_
   rintro e w2 ⟨A3,n3,c3,k3,rfl,hv3,hb3,hS2⟩
   go_wp2_with fail
   refine (hsg.out _ _ _ _ (hr'.below hb3) hS2).mono ?_
   rintro e w3 ⟨A4,n4,c4,k4,rfl,hv4,hb4,hS3⟩
   have hv3' := hv3.below hb4
   obtain ⟨⟨q0,hc0⟩,⟨q1,hc1⟩,hf0,hf1⟩ := hS3.b1.facts
   obtain ⟨⟨q2,hc2⟩,⟨q3,hc3⟩,hf2,hf3⟩ := hS3.b2.facts
   go_wp2_with fail
   refine bodyPost_ret (v := .tuple #[.agg #[.slice A3 n3 c3,.bool k3],.agg #[.slice A4 n4 c4,.bool k4]]) (by simp [results,Tryz.results126,go_sem,hc0,hc1,hc2,hc3]) rfl ⟨_,_,rfl,?_,?_,?_⟩
   · rw [← HE.out.1 (!k2) (by cases k2 <;> rfl)];exact (ov_end hS3 _ _ _ _ hv3').1
   · rw [← HE.out.2];exact (ov_end hS3 _ _ _ _ hv4).1
   · exact (ov_end hS3 _ _ _ _ hv4).2
 · have HE : Hid ((∀ b,b = (k1 != k2) → sgn Q b = x / y) ∧ sgn R false = x % y) := Lib.hid (by
    have hc : (k1 && !decide (R = 0)) = false := by
     cases k1
     · rfl
     · have : R = 0 := Classical.byContradiction fun h => hk ⟨rfl,h⟩
       simp [this]
    rw [hc] at hE1 hE2
    exact ⟨fun b hb => by rw [hb,← hE1];rfl,by rw [← hE2];rfl⟩)
   have hd : k1 = false ∨ (k1 = true ∧ decide (wlen B64 R = 0) = true) := by
    cases k1
    · exact Or.inl rfl
    · have : R = 0 := Classical.byContradiction fun h => hk ⟨rfl,h⟩
      exact Or.inr ⟨rfl,by simp;exact hw0.2 this⟩
   clear hE1 hE2 hw0 hY hk hdf hsu hfw
   rcases hd with rfl | ⟨rfl,hd⟩
   case' inr => rw [hd] at hz;clear hd
   all_goals
    go_enter Tryz.func126,Tryz.ntmps126
    go_wp2_with fail
    refine (hdiv.out _ hS0).mono ?_
    rintro e w1 ⟨A1,n1,c1,A2,c2,rfl,hq,hr,hS1⟩
    have e2 := hS1.c2
    have e4 := hS1.c4
    go_wp2_with (go_at_call 59;refine (hz _ _ _).mono ?_;rintro e w1 ⟨rfl,rfl⟩)
    refine (hsg.out _ _ _ _ hq hS1).mono ?_
    rintro e w2 ⟨A3,n3,c3,k3,rfl,hv3,hb3,hS2⟩
    go_wp2_with fail
    refine (hsg.out _ _ _ _ (hr.below hb3) hS2).mono ?_
    rintro e w3 ⟨A4,n4,c4,k4,rfl,hv4,hb4,hS3⟩
    have hv3' := hv3.below hb4
    obtain ⟨⟨q0,hc0⟩,⟨q1,hc1⟩,hf0,hf1⟩ := hS3.b1.facts
    obtain ⟨⟨q2,hc2⟩,⟨q3,hc3⟩,hf2,hf3⟩ := hS3.b2.facts
    go_wp2_with fail
    refine bodyPost_ret (v := .tuple #[.agg #[.slice A3 n3 c3,.bool k3],.agg #[.slice A4 n4 c4,.bool k4]]) (by simp [results,Tryz.results126,go_sem,hc0,hc1,hc2,hc3]) rfl ⟨_,_,rfl,?_,?_,?_⟩
    · first
       | (rw [← HE.out.1 (!k2) (by cases k2 <;> rfl)];exact (ov_end hS3 _ _ _ _ hv3').1)
       | (rw [← HE.out.1 k2 (by cases k2 <;> rfl)];exact (ov_end hS3 _ _ _ _ hv3').1)
    · rw [← HE.out.2];exact (ov_end hS3 _ _ _ _ hv4).1
    · exact (ov_end hS3 _ _ _ _ hv4).2
end Go.Proofs.YtlfgpmnjnpdkdaaGreatDoor
namespace Go.Proofs.YtlfgpmnjnpdkdaaGreatDoor
open Go.RowKit Vd
attribute [local go_sem ↓] Go.wp_at_zero Go.wp_at_succ
set_option maxRecDepth 100000 in
set_option maxHeartbeats 1000000 in
theorem toPower_any (v1 : Value) (x : Int) (n : Nat) (w : World) (h1 : SgV w v1 x) (hb : wlen B64 x.natAbs ≤ maxW) (hn : n * wlen B64 x.natAbs + 1 ≤ maxW) (hn2 : n ≤ 1000000) :
 Calls Tryz.prog 132 #[v1,.int .i64 (n : Int)] w fun e w' => ∃ v,e = .returned v ∧ SgV w' v (x ^ n) ∧ Below w.heap.size w w' := by
 obtain ⟨m1,rfl,hm1⟩ := h1
 have hE := sgn_pow x n
 obtain ⟨k1,hk1⟩ : ∃ k,k = decide (x < 0) := ⟨_,rfl⟩
 rw [← hk1] at hE ⊢
 obtain ⟨N,hN⟩ : ∃ N,N = x.natAbs ^ n := ⟨_,rfl⟩
 rw [← hN] at hE
 obtain ⟨od,hod⟩ : ∃ b,((n : Int) % 2 == 1) = b := ⟨_,rfl⟩
 have hn' : (n : Int) ≤ 1000000 := by omega
 rw [hod] at hE
 have hpw : Hid (∀ W,PoS w m1 k1 W → Calls Tryz.prog 167 #[m1,.int .i64 (n : Int)] W fun e w' => ∃ v,e = .returned v ∧ MagV w' v N ∧ PoS w m1 k1 w') := Lib.hid (fun W hS => (power_any m1 _ n W (hm1.below hS.1.2) hb hn hn2).mono fun _ _ ⟨v,he,hm,hb⟩ => ⟨v,he,by rw [hN];exact hm,pos_step hS hb⟩)
 have hsg : Hid (∀ W m b,b = (k1 && od) → MagV W m N → PoS w m1 k1 W → Calls Tryz.prog 138 #[m,.bool b] W fun e w' => ∃ (A : Option Addr) (l c : Nat) (k : Bool),e = .returned (.agg #[.slice A l c,.bool k]) ∧ k = decide (x ^ n < 0) ∧ MagV w' (.slice A l c) (x ^ n).natAbs ∧ PoS w m1 k1 w') := Lib.hid (fun W m b hb hm hS => (signed_any m N b W hm).mono fun e w' ⟨v,he,⟨m',hv,hm'⟩,hbl⟩ => by
  rw [hb,hE] at hv hm'
  obtain ⟨A,c,rfl,_,_⟩ := hm'.ok_len
  exact ⟨A,_,c,_,by rw [he,hv],rfl,hm',pos_step hS hbl⟩)
 have hS0 := pos_start w m1 k1
 have hT : Hid (((n : Int).tmod 2 == 1) = od) := Lib.hid (by rw [Int.tmod_eq_emod_of_nonneg (by omega)];exact hod)
 clear hE hN hm1 hb hn hn2 hk1
 cases k1
 · obtain ⟨⟨hb0,hbl0⟩,hc10,hc20⟩ := hS0
   have hS0 := pos_start w m1 false
   go_enter Tryz.func132,Tryz.ntmps132
   go_wp2_with fail
   have hSd : PoS w m1 false (World.drew ((w.alloc (.cells #[m1,.bool false] 80)).alloc (.cells #[.slice none 0 0,.bool false] 80))) := ⟨⟨hS0.1.1,hS0.1.2.drew⟩,hS0.2⟩
   refine wp_region_noPanic ?_
   refine wp_region_held_drew (S := PoS w m1 false) (by kernel_rfl) hSd (fun hHeld => ?_)
   refine wpAnyH_take (i := 0) (v := ?_) rfl (by kernel_rfl) (by kernel_rfl) (by kernel_rfl) (fun _ _ _ h => h) (Or.inl ⟨by rfl,?_⟩) (by assumption) ?_
   rotate_left
   · intro W hSw;have e1 := hSw.2.1;have e2 := hSw.2.2;go_simp;try with_reducible rfl
   try simp only [Act.put,List.setIfInBounds_toArray]
   refine wpAnyH_take (i := 1) (v := ?_) rfl (by kernel_rfl) (by kernel_rfl) (by kernel_rfl) (fun _ _ _ h => h) (Or.inl ⟨by rfl,?_⟩) (by assumption) ?_
   rotate_left
   · intro W hSw;have e1 := hSw.2.1;have e2 := hSw.2.2;go_simp;try with_reducible rfl
   try simp only [Act.put]
   refine wpAnyH_take (i := 2) (v := ?_) rfl (by kernel_rfl) (by kernel_rfl) (by kernel_rfl) (fun _ _ _ h => h) (Or.inl ⟨by rfl,?_⟩) (by assumption) ?_
   rotate_left
   · intro W hSw;have e1 := hSw.2.1;have e2 := hSw.2.2;go_simp;try with_reducible rfl
   try simp only [Act.put]
   refine wpAnyH_take (i := 4) (v := ?_) rfl (by kernel_rfl) (by kernel_rfl) (by kernel_rfl) (fun _ _ _ h => h) (Or.inl ⟨by rfl,?_⟩) (by assumption) ?_
   rotate_left
   · intro W hSw;have e1 := hSw.2.1;have e2 := hSw.2.2;go_simp;try with_reducible rfl
   try simp only [Act.put]
   refine wpAnyH_take (i := 5) (v := ?_) rfl (by kernel_rfl) (by kernel_rfl) (by kernel_rfl) (fun _ _ _ h => h) (Or.inl ⟨by rfl,?_⟩) (by assumption) ?_
   rotate_left
   · intro W hSw;have e1 := hSw.2.1;have e2 := hSw.2.2;go_simp;try with_reducible rfl
   try simp only [Act.put]
   refine wpAnyH_ready (rs := [3]) (by kernel_rfl) (by simp) ?_
   refine AllReadyH.cons rfl (fun K hK => ?_) AllReadyH.nil
   go_simp
   refine (hpw.out _ hHeld).mono ?_
   rintro e w1 ⟨x1,rfl,hx1,hS1⟩
   refine hK.out _ _ hS1 (fun hHeld => ?_)
   clear hK K
   try simp only [Act.put,List.setIfInBounds_toArray,List.set_cons_zero,List.set_cons_succ]
   refine wpAnyH_take (i := 6) (v := ?_) rfl (by kernel_rfl) (by kernel_rfl) (by kernel_rfl) (fun _ _ _ h => h) (Or.inl ⟨by rfl,?_⟩) (by assumption) ?_
   rotate_left
   · intro W hSw;have e1 := hSw.2.1;have e2 := hSw.2.2;go_simp;try with_reducible rfl
   try simp only [Act.put,List.setIfInBounds_toArray]
   refine wpAnyH_take (i := 7) (v := undef) rfl (by kernel_rfl) (by kernel_rfl) (by kernel_rfl) (fun _ _ _ h => h) (Or.inr ⟨by rfl,rfl⟩) (by assumption) ?_
   try simp only [Act.put]
   refine wpAnyH_take (i := 8) (v := undef) rfl (by kernel_rfl) (by kernel_rfl) (by kernel_rfl) (fun _ _ _ h => h) (Or.inr ⟨by rfl,rfl⟩) (by assumption) ?_
   try simp only [Act.put]
   refine wpAnyH_take (i := 9) (v := undef) rfl (by kernel_rfl) (by kernel_rfl) (by kernel_rfl) (fun _ _ _ h => h) (Or.inr ⟨by rfl,rfl⟩) (by assumption) ?_
   try simp only [Act.put]
   refine wpAnyH_take (i := 10) (v := ?_) rfl (by kernel_rfl) (by kernel_rfl) (by kernel_rfl) (fun _ _ _ h => h) (Or.inl ⟨by rfl,?_⟩) (by assumption) ?_
   rotate_left
   · intro W hSw;have e1 := hSw.2.1;have e2 := hSw.2.2;go_simp;try with_reducible rfl
   try simp only [Act.put]
   refine wpAnyH_ready (rs := [11]) (by kernel_rfl) (by simp) ?_
   refine AllReadyH.cons rfl (fun K hK => ?_) AllReadyH.nil
   go_simp
   refine (hsg.out _ _ _ (by rfl) hx1 hS1).mono ?_
   rintro e w2 ⟨A,l,c,k,rfl,hk,hx2,hS2⟩
   obtain ⟨⟨q0,hc0⟩,⟨q1,hc1⟩,hf0,hf1⟩ := hS2.1.1.facts
   have HX := Lib.hid (And.intro hk hx2)
   clear hk
   refine hK.out _ _ hS2 (fun hHeld => ?_)
   clear hK K
   try simp only [Act.put,List.setIfInBounds_toArray,List.set_cons_zero,List.set_cons_succ]
   refine wpAnyH_ready (rs := [12]) (by kernel_rfl) (by simp) ?_
   refine AllReadyH.cons rfl (fun K hK => ?_) AllReadyH.nil
   go_simp
   have hS3 := pos_store hS2 A l c k
   refine hK.out _ _ hS3 (fun hHeld => ?_)
   clear hK K
   try simp only [Act.put,List.setIfInBounds_toArray,List.set_cons_zero,List.set_cons_succ]
   refine wpAnyH_done (by kernel_rfl) ?_ _
   refine NoPanic.normal ?_
   go_wp2
   exact bodyPost_ret (v := .agg #[.slice A l c,.bool k]) (by simp [results,Tryz.results132,go_sem,hc0,hc1]) rfl ⟨_,rfl,⟨_,by rw [HX.out.1],hS2.1.1.mag HX.out.2 _ _⟩,(pos_store hS2 A l c k).1.2⟩
 · go_enter Tryz.func132,Tryz.ntmps132
   go_wp2_with fail
   go_region_held3 (fun W => (BoxS W (w.heap.size + 1) ∧ Below w.heap.size w W) ∧ W.cell? ⟨w.heap.size,0,none⟩ = some m1 ∧ W.cell? ⟨w.heap.size,1,none⟩ = some (.bool true)) (first | with_reducible assumption | exact ⟨⟨hS0.1.1,hS0.1.2.drew⟩,hS0.2⟩ | (refine pos_store ?_ _ _ _ _;with_reducible assumption))
    (first
     | (go_at_call 167;refine (hpw.out _ ?_).mono ?_;with_reducible assumption;rintro e w1 ⟨x1,rfl,hx1,hS1⟩)
     | (go_at_call 138;refine (hsg.out _ _ _ ?_ ?_ ?_).mono ?_;(first | rfl | exact hT.out);with_reducible assumption;with_reducible assumption;rintro e w2 ⟨A,l,c,k,rfl,hk,hx2,hS2⟩;obtain ⟨⟨q0,hc0⟩,⟨q1,hc1⟩,hf0,hf1⟩ := hS2.1.1.facts;have HX := Lib.hid (And.intro hk hx2);clear hk))
   go_wp2
   exact bodyPost_ret (v := .agg #[.slice A l c,.bool k]) (by simp [results,Tryz.results132,go_sem,hc0,hc1]) rfl ⟨_,rfl,⟨_,by rw [HX.out.1],hS2.1.1.mag HX.out.2 _ _⟩,(pos_store hS2 A l c k).1.2⟩
end Go.Proofs.YtlfgpmnjnpdkdaaGreatDoor
