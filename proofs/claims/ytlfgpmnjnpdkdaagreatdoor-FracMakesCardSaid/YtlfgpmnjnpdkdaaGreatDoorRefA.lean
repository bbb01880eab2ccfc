/- Contracts of the reference for whole numbers: cut, made. Contract of the reference: Integer of numbers that -/
import Derived.Test.YtlfgpmnjnpdkdaaGreatDoorSgnA
import Derived.Laws.AppendOwn
import Derived.Deep.RegionHeld3
import Derived.Deep.DrawnRows
namespace Go.Proofs.YtlfgpmnjnpdkdaaGreatDoor
open Go.RowKit Vd
def B4 : Nat := 10000
theorem B4_eq : B4 = 10000 := rfl
theorem two_le_B4 : 2 ≤ B4 := by decide
theorem IsTrim.take4 {xs : List Nat} {k : Nat} (h : IsTrim xs k) (ho : Ok B4 xs) : xs.take k = ws B4 (val B4 xs) :=
 ws_of_pad two_le_B4 ho rfl h.1 h.2.1 (fun x hk hx => by
  have := h.2.2 hk
  unfold nth at this
  rw [hx] at this
  exact this)
theorem IsTrim.len4 {xs : List Nat} {k : Nat} (h : IsTrim xs k) (ho : Ok B4 xs) : k = wlen B4 (val B4 xs) := by
 have := congrArg List.length (h.take4 ho)
 rw [List.length_take,Nat.min_eq_left h.1] at this
 exact this
def DigV (w : World) (v : Value) (n : Nat) : Prop := ∃ A c,v = .slice A (wlen B4 n) c ∧ wlen B4 n ≤ c ∧ c ≤ 9223372036854775807 ∧ Sl w I8 A (wlen B4 n) (ws B4 n)
theorem DigV.below {w w' : World} {v : Value} {n : Nat} (h : DigV w v n) (hb : Below w.heap.size w w') : DigV w' v n := by
 obtain ⟨A,c,e,h1,h2,h3⟩ := h
 exact ⟨A,c,e,h1,h2,h3.below hb⟩
theorem DigV.zero (w : World) : DigV w (.slice none 0 0) 0 := by
 refine ⟨none,0,by rw [wlen_zero],by rw [wlen_zero];exact Nat.le_refl _,by omega,?_⟩
 rw [wlen_zero,ws_zero];exact Sl.nil
def PlV (w : World) (v : Value) (z : Int) : Prop := ∃ m,v = .agg #[.bool (decide (z < 0)),m] ∧ DigV w m z.natAbs
theorem PlV.below {w w' : World} {v : Value} {z : Int} (h : PlV w v z) (hb : Below w.heap.size w w') : PlV w' v z := by
 obtain ⟨m,e,hm⟩ := h
 exact ⟨m,e,hm.below hb⟩
set_option maxHeartbeats 400000 in
theorem cut4_any (A : Option Addr) (n c : Nat) (xs : List Nat) (w : World) (h : Sl w I8 A n xs) (hc : n ≤ c) (hn : c ≤ 9223372036854775807) :
 Calls Tryz.prog 144 #[.slice A n c] w fun e w' => ∃ k,e = .returned (.slice A k c) ∧ IsTrim xs k ∧ w = w' := by
 go_enter Tryz.func144,Tryz.ntmps144
 go_wp2
 go_loop [3] (fun i => ∃ k : Nat,k ≤ n ∧ i = .int .i64 k ∧ (∀ j,k ≤ j → nth xs j = 0)) (fun i => (intOf i).toNat)
 case atStart => exact ⟨n,Nat.le_refl _,rfl,fun j hj => nth_ge (by have := h.len;omega)⟩
 case round =>
  obtain ⟨k,hk,rfl,hz⟩ := hrel
  cases k with
  | zero =>
    go_wp2
    go_ret
    exact ⟨0,rfl,⟨Nat.zero_le _,hz,fun h => absurd h (by omega)⟩,rfl⟩
  | succ j =>
    obtain ⟨g,o,rfl,hg,hcell⟩ := h.at_ (by omega)
    have h1 := hcell j (by omega)
    unfold I8 at h1
    clear hcell
    by_cases h0 : nth xs j = 0
    · rw [h0] at h1
      go_wp2
      refine ⟨⟨j,by omega,rfl,fun i hi => ?_⟩,by simp [intOf]⟩
      rcases Nat.eq_or_lt_of_le hi with e | e
      · rw [← e];exact h0
      · exact hz i (by omega)
    · have h2 : ((nth xs j : Int) == 0) = false := by rw [beq_eq_false_iff_ne];omega
      go_wp2
      go_ret
      exact ⟨j + 1,rfl,⟨by have := h.len;omega,hz,fun _ => by simpa using h0⟩,rfl⟩
theorem DigV.of_trim {w : World} {A : Option Addr} {n c k : Nat} {xs : List Nat} (h : Sl w I8 A n xs) (ho : Ok B4 xs) (ht : IsTrim xs k) (hc : n ≤ c) (hn : c ≤ 9223372036854775807) : DigV w (.slice A k c) (val B4 xs) := by
 have hk := ht.len4 ho
 have hkn : k ≤ n := by have := ht.1;have := h.len;omega
 have hs := h.take hkn
 rw [ht.take4 ho] at hs
 subst hk
 exact ⟨A,c,rfl,by omega,hn,hs⟩
theorem cut4_dig (A : Option Addr) (n c : Nat) (xs : List Nat) (w : World) (h : Sl w I8 A n xs) (ho : Ok B4 xs) (hc : n ≤ c) (hn : c ≤ 9223372036854775807) :
 Calls Tryz.prog 144 #[.slice A n c] w fun e w' => ∃ k,e = .returned (.slice A k c) ∧ k = wlen B4 (val B4 xs) ∧ DigV w (.slice A k c) (val B4 xs) ∧ w = w' := by
 refine (cut4_any A n c xs w h hc hn).mono ?_
 rintro e w' ⟨k,he,ht,rfl⟩
 exact ⟨k,he,ht.len4 ho,DigV.of_trim h ho ht hc hn,rfl⟩
def BoxP (W : World) (b : Nat) : Prop := ∃ A n c k,W.heap[b]? = some (.cells #[.bool k,.slice A n c] 88 (0,0))
theorem BoxP.alloc (w : World) (A : Option Addr) (n c : Nat) (k : Bool) : BoxP (w.alloc (.cells #[.bool k,.slice A n c] 88)) w.heap.size :=
 ⟨A,n,c,k,by show (w.heap.push _)[w.heap.size]? = _;simp⟩
theorem BoxP.lt {W : World} {b : Nat} (h : BoxP W b) : b < W.heap.size := by
 obtain ⟨A,n,c,k,h⟩ := h
 rcases Nat.lt_or_ge b W.heap.size with h1 | h1
 · exact h1
 · rw [Array.getElem?_eq_none h1] at h;cases h
theorem BoxP.below {W W' : World} {b B : Nat} (h : BoxP W b) (hb : Below B W W') (hB : b < B) : BoxP W' b := by
 obtain ⟨A,n,c,k,h⟩ := h
 exact ⟨A,n,c,k,(hb.block b hB).trans h⟩
theorem BoxP.far {W : World} {b : Nat} (h : BoxP W b) {p : Addr} (hp : b ≠ p.block) (u : Value) : BoxP (W.setCell p u) b := by
 obtain ⟨A,n,c,k,h⟩ := h
 exact ⟨A,n,c,k,(Below.heap_setCell W p u b hp).trans h⟩
theorem BoxP.set {W : World} {b : Nat} (h : BoxP W b) (A : Option Addr) (n c : Nat) (k : Bool) : BoxP ((W.setCell ⟨b,0,none⟩ (.bool k)).setCell ⟨b,1,none⟩ (.slice A n c)) b := by
 obtain ⟨A',n',c',k',h⟩ := h
 exact ⟨A,n,c,k,by simp [World.setCell,Array.getElem?_modify,h]⟩
theorem BoxP.read {W : World} {b : Nat} (h : BoxP W b) (A : Option Addr) (n c : Nat) (k : Bool) :
 ((W.setCell ⟨b,0,none⟩ (.bool k)).setCell ⟨b,1,none⟩ (.slice A n c)).cell? ⟨b,0,none⟩ = some (.bool k) ∧ ((W.setCell ⟨b,0,none⟩ (.bool k)).setCell ⟨b,1,none⟩ (.slice A n c)).cell? ⟨b,1,none⟩ = some (.slice A n c) := by
 obtain ⟨A',n',c',k',h⟩ := h
 constructor <;> simp [World.setCell,World.cell?,Array.getElem?_modify,h]
theorem BoxP.facts {W : World} {b : Nat} (h : BoxP W b) : (∃ u,W.cell? ⟨b,0,none⟩ = some u) ∧ (∃ u,W.cell? ⟨b,1,none⟩ = some u) ∧ W.frozen? ⟨b,0,none⟩ = false ∧ W.frozen? ⟨b,1,none⟩ = false := by
 obtain ⟨A,n,c,k,h⟩ := h
 refine ⟨⟨_,by rw [cell_of_row W b 0 _ _ (0,0) h];rfl⟩,⟨_,by rw [cell_of_row W b 1 _ _ (0,0) h];rfl⟩,?_,?_⟩ <;> simp [World.frozen?,h]
theorem BoxP.dig {W : World} {b : Nat} (h : BoxP W b) {m : Value} {n : Nat} (hm : DigV W m n) (u v : Value) : DigV ((W.setCell ⟨b,0,none⟩ u).setCell ⟨b,1,none⟩ v) m n := by
 obtain ⟨A',n',c',k',h⟩ := h
 obtain ⟨A,c,e,h1,h2,h3⟩ := hm
 have hne : ∀ g o,A = some ⟨g,o,none⟩ → 0 < wlen B4 n → g ≠ b := by
  intro g o e hn eg
  subst eg
  obtain ⟨g2,o2,e2,_,hc⟩ := h3.2 hn
  rw [e] at e2
  injection e2 with e2
  injection e2 with e2 e3
  subst e2
  have hc0 := hc 0 hn
  rw [cell_of_row W g (o2 + 0) _ _ (0,0) h] at hc0
  unfold I8 at hc0
  rcases o2 with _ | _ | o2
  · simp at hc0
  · simp at hc0
  · simp at hc0
 exact ⟨A,c,e,h1,h2,(h3.far (p := ⟨b,0,none⟩) hne u).far (p := ⟨b,1,none⟩) hne v⟩
theorem PlV.sets {W : World} {b : Nat} {v : Value} {z : Int} (h : PlV W v z) (hb : BoxP W b) (u u' : Value) : PlV ((W.setCell ⟨b,0,none⟩ u).setCell ⟨b,1,none⟩ u') v z := by
 obtain ⟨m,e,hm⟩ := h
 exact ⟨m,e,hb.dig hm u u'⟩
theorem PlV.open {w : World} {v : Value} {z : Int} (h : PlV w v z) : ∃ (A : Option Addr) (n c : Nat) (k : Bool),v = .agg #[.bool k,.slice A n c] := by
 obtain ⟨m,rfl,A,c,rfl,_⟩ := h
 exact ⟨A,_,c,_,rfl⟩
theorem sgn_neg4 (n : Nat) (b : Bool) : decide (sgn n b < 0) = (b && decide (0 < wlen B4 n)) := by
 have h := wlen_eq_zero (b := B4) two_le_B4 (n := n)
 unfold sgn
 cases b
 · simp
 · by_cases hn : n = 0
   · subst hn
     simp [wlen_zero]
   · have h2 : 0 < wlen B4 n := Nat.pos_of_ne_zero fun e => hn (h.1 e)
     simp [h2];omega
set_option maxRecDepth 100000 in
set_option maxHeartbeats 1000000 in
theorem made_any (b : Bool) (A : Option Addr) (n c : Nat) (xs : List Nat) (w : World) (h : Sl w I8 A n xs) (ho : Ok B4 xs) (hc : n ≤ c) (hn : c ≤ 9223372036854775807) :
 Calls Tryz.prog 115 #[.bool b,.slice A n c] w fun e w' => ∃ v,e = .returned v ∧ PlV w' v (sgn (val B4 xs) b) ∧ Below w.heap.size w w' := by
 have hbW : Below w.heap.size w (w.alloc (.cells #[.bool false,.slice none 0 0] 88)) := (Below.refl _ _).alloc (Nat.le_refl _) _
 have hcut := cut4_any A n c xs _ (h.below hbW) hc hn
 have hs := sgn_neg4 (val B4 xs) b
 have ha := sgn_abs (val B4 xs) b
 have HT : Hid (∀ k,IsTrim xs k → k = wlen B4 (val B4 xs) ∧ DigV w (.slice A k c) (val B4 xs)) := Lib.hid (fun k ht => ⟨ht.len4 ho,DigV.of_trim h ho ht hc hn⟩)
 have H := Lib.hid (And.intro hs ha)
 clear h ho hc hn hs ha
 go_enter Tryz.func115,Tryz.ntmps115
 go_wp2_with fail
 refine hcut.mono ?_
 rintro e w1 ⟨k,rfl,hk,rfl⟩
 have HK := Lib.hid (HT.out k hk)
 clear hk hcut HT
 cases b
 · go_wp2_with fail
   refine bodyPost_ret (v := .agg #[.bool false,.slice A k c]) (by simp [results,Tryz.results115,go_sem]) rfl ⟨_,rfl,⟨_,by rw [H.out.1];rfl,?_⟩,?_⟩
   · rw [H.out.2];exact HK.out.2.below ((Below.refl _ _).alloc (Nat.le_refl _) _)
   · exact (Below.refl _ _).alloc (Nat.le_refl _) _
 · go_wp2_with fail
   refine bodyPost_ret (v := .agg #[.bool (decide (0 < k)),.slice A k c]) (by simp [results,Tryz.results115,go_sem]) rfl ⟨_,rfl,⟨_,by rw [H.out.1,← HK.out.1];rfl,?_⟩,?_⟩
   · rw [H.out.2];exact HK.out.2.below ((Below.refl _ _).alloc (Nat.le_refl _) _)
   · exact (Below.refl _ _).alloc (Nat.le_refl _) _
end Go.Proofs.YtlfgpmnjnpdkdaaGreatDoor
namespace Go.Proofs.YtlfgpmnjnpdkdaaGreatDoor
open Go.RowKit Vd
theorem owns_sl {w : World} {base : Nat} {e : TypeId} {v : Value} {n : Nat} {f : Nat → Value} {xs : List Nat} (h : w.ownsRow base e 1 v n (xs.map f)) :
 ∃ A c,v = .slice A n c ∧ n ≤ c ∧ c ≤ 9223372036854775807 ∧ Sl w f A n xs := by
 obtain ⟨hl,h⟩ := h
 rw [List.length_map,Nat.mul_one] at hl
 rcases h with ⟨rfl,rfl⟩ | ⟨g,cap,cur,rfl,_,hg,hn,hcap,hcs,ht⟩
 · have : xs = [] := List.eq_nil_of_length_eq_zero hl
   subst this
   exact ⟨none,0,rfl,Nat.le_refl _,by omega,Sl.nil⟩
 · refine ⟨_,cap,rfl,hn,by unfold maxLen at hcap;exact hcap,hl,fun _ => ⟨g,0,rfl,?_,fun i hi => ?_⟩⟩
   · exact (Array.getElem?_eq_some_iff.1 hg).1
   · rw [Nat.zero_add,cell_of_row w g i cur e (0,0) hg]
     rw [Nat.mul_one] at ht
     have h1 : (cur.toList.take n)[i]? = (xs.map f)[i]? := by rw [ht]
     rw [List.getElem?_take_of_lt hi,List.getElem?_map,Array.getElem?_toList] at h1
     rw [h1,List.getElem?_eq_getElem (by omega),nth_lt (by omega)]
     rfl
theorem infoI : (Tryz.prog.info? 3).map (fun i => (i.zero,i.size,i.bytes)) = some (some (.int .i64 0),1,8) := by kernel_rfl
theorem val_snoc (b : Nat) (zs : List Nat) (x : Nat) : val b (zs ++ [x]) = val b zs + b ^ zs.length * x := by
 rw [val_append,val_cons,val_nil,Nat.mul_zero,Nat.add_zero]
theorem below_own {B : Nat} {a w w' : World} {base e sz n : Nat} {v : Value} {xs : List Value} (h : Below B a w) (hown : w.ownsRow base e sz v n xs) (hg : w.grownBy w' v.ownBlock) (hb : B ≤ base) (hB : B ≤ w.heap.size) : Below B a w' :=
 h.grown hg hB (fun k hk => by have := hown.lt k hk;omega)
def dLo (m : Nat) : Nat := m % 10000
def dHi (m : Nat) : Nat := m / 10000
theorem dLo_lt (m : Nat) : dLo m < B4 := Nat.mod_lt _ (by decide)
theorem d_eq (m : Nat) : dLo m + B4 * dHi m = m := Nat.mod_add_div _ _
theorem dLo_eq (m : Nat) : (m : Int) % 10000 = (dLo m : Int) := by unfold dLo;omega
theorem dHi_eq (m : Nat) : (m : Int) / 10000 = (dHi m : Int) := by unfold dHi;omega
theorem len_small {l m n : Nat} {v : Nat} (hm : 0 < m) (h : v + B4 ^ l * m = n) (hn : n ≤ 9223372036854775807) : l < 5 := by
 rcases Nat.lt_or_ge l 5 with h1 | h1
 · exact h1
 · have h2 : B4 ^ 5 ≤ B4 ^ l := Nat.pow_le_pow_right (by decide) h1
   have h3 : B4 ^ l ≤ B4 ^ l * m := Nat.le_mul_of_pos_right _ hm
   have h4 : B4 ^ 5 = 100000000000000000000 := by decide
   omega
theorem news_one (w : World) (x : Value) (t : TypeId) (hx : x.oneCell' = true) : (∀ j u,[x][j]? = some u → (w.alloc (.cells #[x] t)).cell? ((⟨w.heap.size,0,none⟩ : Addr).add j) = some u) ∧ (∀ u ∈ [x],u.oneCell' = true) := by
 constructor
 · intro j u hu
   cases j with
   | zero =>
     simp only [List.getElem?_cons_zero,Option.some.injEq] at hu
     subst hu
     simp [Addr.add]
   | succ j => simp at hu
 · intro u hu
   rw [List.mem_singleton] at hu
   rw [hu];exact hx
set_option maxRecDepth 100000 in
set_option maxHeartbeats 1000000 in
theorem integer_any (n : Nat) (w : World) (hn : n ≤ 9223372036854775807) :
 Calls Tryz.prog 88 #[.int .i64 (n : Int)] w fun e w' => ∃ v,e = .returned v ∧ PlV w' v (n : Int) ∧ Below w.heap.size w w' := by
 obtain ⟨i0,hi,hz0,hz1,hz2⟩ := info_parts infoI
 have hbx := BoxP.alloc w none 0 0 false
 have hbW : Below w.heap.size w (w.alloc (.cells #[.bool false,.slice none 0 0] 88)) := (Below.refl _ _).alloc (Nat.le_refl _) _
 have i1 : ¬ (n : Int) < 0 := by omega
 have HI := Lib.hid (And.intro hi (And.intro hz0 (And.intro hz1 (And.intro hz2 hn))))
 clear hi hz0 hz1 hz2 hn
 go_enter Tryz.func88,Tryz.ntmps88
 go_wp2_with fail
 go_loopg [0,3] n (fun m mv v W => ∃ (zs : List Nat) (dv : Value),dv = v ∧ mv = .int .i64 (m : Int) ∧ m ≤ n ∧ Ok B4 zs ∧ val B4 zs + B4 ^ zs.length * m = n ∧ W.ownsRow (w.heap.size + 1) 3 1 v zs.length (zs.map I8) ∧ BoxP W w.heap.size ∧ Below w.heap.size w W ∧ w.heap.size + 1 ≤ W.heap.size)
 case atStart => exact ⟨[],_,rfl,rfl,Nat.le_refl _,Ok.nil,by simp [val_nil],World.ownsRow_nil _ _ _ _,hbx,hbW,by simp⟩
 case round =>
  obtain ⟨zs,dv,hdv,rfl,hm,hok,hval,hown,hbx,hbel,hsz⟩ := hrel
  subst hdv
  by_cases h0 : gk = 0
  · subst h0
    rw [Nat.mul_zero,Nat.add_zero] at hval
    obtain ⟨A,c,rfl,hnc,hcm,hsl⟩ := owns_sl hown
    have hmd := made_any false A zs.length c zs wr hsl hok hnc hcm
    rw [hval,show sgn n false = (n : Int) from rfl] at hmd
    clear hval hown hok hm
    go_wp2_with fail
    refine hmd.mono ?_
    rintro e w2 ⟨v,rfl,hv,hb2⟩
    obtain ⟨A2,n2,c2,k2,rfl⟩ := hv.open
    have hbx2 := hbx.below hb2 hbx.lt
    obtain ⟨⟨q0,hc0⟩,⟨q1,hc1⟩,hf0,hf1⟩ := hbx2.facts
    go_wp2_with fail
    exact bodyPost_ret (v := .agg #[.bool k2,.slice A2 n2 c2]) (by simp [results,Tryz.results88,go_sem,hc0,hc1]) rfl ⟨_,rfl,hv.sets hbx2 _ _,((hbel.trans (hb2.mono hbel.size)).setCell (Nat.le_refl _) _).setCell (Nat.le_refl _) _⟩
  · have hp : 0 < gk := Nat.pos_of_ne_zero h0
    have k0 : ((gk : Int) == 0) = false := by rw [beq_eq_false_iff_ne];omega
    have k0' : ((gk : Int) != 0) = true := by rw [bne_iff_ne];omega
    have hl5 := len_small hp hval HI.out.2.2.2.2
    have e1 := dLo_eq gk
    have e2 := dHi_eq gk
    have g1 : (0 : Int) ≤ (gk : Int) := by omega
    have g2 : (gk : Int) ≤ 9223372036854775807 := by have := HI.out.2.2.2.2;omega
    have i2 : ¬ (dLo gk : Int) < 0 := by omega
    have hnew := news_one wr (.int .i64 (dLo gk : Int)) 3 rfl
    have hownA := hown.alloc (.cells #[.int .i64 (dLo gk : Int)] 3)
    have HV := Lib.hid (And.intro hval (And.intro hm (And.intro hl5 (And.intro hp h0))))
    clear hval hm hl5 h0 hp
    go_wp2_with (at_builtin;refine wpList_append_own _ rfl (.tmp 16) (.tmp 18) 86 rfl (w.heap.size + 1) 3 i0 (.int .i64 0) 1 8 Tryz.underlying86 HI.out.1 HI.out.2.1 HI.out.2.2.1 HI.out.2.2.2.1 rfl (by decide) dv zs.length (zs.map I8) rfl hownA ⟨wr.heap.size,0,none⟩ 1 1 [.int .i64 (dLo gk : Int)] rfl rfl hnew.1 hnew.2 (by have := HV.out.2.2.1;unfold maxLen;omega) (by have := HV.out.2.2.1;omega) (by simp;omega) ?_;intro v' w1 hown' hgrow _)
    have hok' : Ok B4 (zs ++ [dLo gk]) := hok.app (Ok.cons (dLo_lt gk) Ok.nil)
    have hval' : val B4 (zs ++ [dLo gk]) + B4 ^ (zs ++ [dLo gk]).length * dHi gk = n := by
     rw [val_snoc,List.length_append,List.length_singleton,Nat.pow_succ,Nat.mul_assoc,Nat.add_assoc,← Nat.mul_add,d_eq];exact HV.out.1
    have hown2 : w1.ownsRow (w.heap.size + 1) 3 1 v' (zs ++ [dLo gk]).length ((zs ++ [dLo gk]).map I8) := by
     rw [List.length_append,List.map_append];exact hown'
    have hwr : Below wr.heap.size wr (wr.alloc (.cells #[.int .i64 (dLo gk : Int)] 3)) := (Below.refl _ _).alloc (Nat.le_refl _) _
    have hb1 : Below (w.heap.size + 1) (wr.alloc (.cells #[.int .i64 (dLo gk : Int)] 3)) w1 := below_own (Below.refl _ _) hownA hgrow (Nat.le_refl _) (by simp;omega)
    have hb0 : Below (w.heap.size + 1) wr w1 := (hwr.mono hsz).trans hb1
    go_wp2_with fail
    go_roundg (dHi gk)
    case measure => unfold dHi;exact Nat.div_lt_self HV.out.2.2.2.1 (by decide)
    case rel => exact ⟨_,_,rfl,rfl,Nat.le_trans (Nat.div_le_self _ _) HV.out.2.1,hok',hval',hown2,hbx.below hb0 (by omega),hbel.trans (hb0.mono (by omega)),Nat.le_trans hsz hb0.size⟩
end Go.Proofs.YtlfgpmnjnpdkdaaGreatDoor
namespace Go.Proofs.YtlfgpmnjnpdkdaaGreatDoor
open Go.RowKit Vd
theorem sum_step {xs ys zs : List Nat} {k carry : Nat} (hl : zs.length = k) (h : val B4 zs + B4 ^ k * carry = val B4 (xs.take k) + val B4 (ys.take k)) :
 val B4 (zs ++ [dLo (carry + nth xs k + nth ys k)]) + B4 ^ (k + 1) * dHi (carry + nth xs k + nth ys k) = val B4 (xs.take (k + 1)) + val B4 (ys.take (k + 1)) := by
 have hd := d_eq (carry + nth xs k + nth ys k)
 rw [val_snoc,hl,val_take_succ,val_take_succ,Nat.pow_succ]
 obtain ⟨P,hP⟩ : ∃ P,P = B4 ^ k := ⟨_,rfl⟩
 rw [← hP] at h ⊢
 obtain ⟨L,hL⟩ : ∃ L,L = dLo (carry + nth xs k + nth ys k) := ⟨_,rfl⟩
 obtain ⟨H,hH⟩ : ∃ L,L = dHi (carry + nth xs k + nth ys k) := ⟨_,rfl⟩
 rw [← hL,← hH] at hd ⊢
 have e : P * L + P * B4 * H = P * (L + B4 * H) := by rw [Nat.mul_add,Nat.mul_assoc]
 rw [Nat.add_assoc,e,hd,Nat.mul_add,Nat.mul_add,Nat.mul_comm (nth xs k),Nat.mul_comm (nth ys k)]
 omega
theorem dHi_carry {c x y : Nat} (hc : c ≤ 1) (hx : x < B4) (hy : y < B4) : dHi (c + x + y) ≤ 1 := by
 unfold dHi;rw [B4_eq] at *;omega
structure SumR (w : World) (n1 n2 : Nat) (xs ys : List Nat) (k carry : Nat) (zs : List Nat) (v : Value) (W : World) : Prop where
 kl : k ≤ max n1 n2 + 1
 cl : carry ≤ 1
 top : max n1 n2 < k → carry = 0
 len : zs.length = k
 ok : Ok B4 zs
 val : val B4 zs + B4 ^ k * carry = val B4 (xs.take k) + val B4 (ys.take k)
 own : W.ownsRow w.heap.size 3 1 v k (zs.map I8)
 bel : Below w.heap.size w W
theorem SumR.step {w : World} {n1 n2 : Nat} {xs ys : List Nat} {k carry : Nat} {zs : List Nat} {v : Value} {W : World} (h : SumR w n1 n2 xs ys k carry zs v W) (ox : Ok B4 xs) (oy : Ok B4 ys) (hx : xs.length = n1) (hy : ys.length = n2)
 (hgo : k < n1 ∨ k < n2 ∨ 0 < carry) {v' : Value} {w1 : World} {t : TypeId} (hown' : w1.ownsRow w.heap.size 3 1 v' (k + 1) (zs.map I8 ++ [.int .i64 (dLo (carry + nth xs k + nth ys k) : Int)])) (hg : (W.alloc (.cells #[.int .i64 (dLo (carry + nth xs k + nth ys k) : Int)] t)).grownBy w1 v.ownBlock) :
 SumR w n1 n2 xs ys (k + 1) (dHi (carry + nth xs k + nth ys k)) (zs ++ [dLo (carry + nth xs k + nth ys k)]) v' w1 := by
 have hk : k ≤ max n1 n2 := by
  rcases Nat.lt_or_ge (max n1 n2) k with h1 | h1
  · have := h.top h1;omega
  · exact h1
 refine ⟨by omega,dHi_carry h.cl (ox.get two_le_B4 k) (oy.get two_le_B4 k),?_,by rw [List.length_append,h.len];rfl,h.ok.app (Ok.cons (dLo_lt _) Ok.nil),sum_step h.len h.val,?_,?_⟩
 · intro h1
   have e1 : nth xs k = 0 := nth_ge (by omega)
   have e2 : nth ys k = 0 := nth_ge (by omega)
   rw [e1,e2]
   have := h.cl
   unfold dHi;omega
 · rw [List.map_append];exact hown'
 · have hB := h.bel.size
   exact below_own (h.bel.alloc hB _) (h.own.alloc _) hg (Nat.le_refl _) (by simp;omega)
set_option maxRecDepth 100000 in
set_option maxHeartbeats 2000000 in
theorem sum4_core (A1 A2 : Option Addr) (n1 n2 c1 c2 : Nat) (xs ys : List Nat) (w : World) (hx : Sl w I8 A1 n1 xs) (hy : Sl w I8 A2 n2 ys) (ox : Ok B4 xs) (oy : Ok B4 ys) (b1 : n1 ≤ 1000000000) (b2 : n2 ≤ 1000000000) :
 Calls Tryz.prog 151 #[.slice A1 n1 c1,.slice A2 n2 c2] w fun e w' => ∃ A n c,e = .returned (.slice A n c) ∧ ∃ zs,Sl w' I8 A n zs ∧ Ok B4 zs ∧ val B4 zs = val B4 xs + val B4 ys ∧ n ≤ c ∧ c ≤ 9223372036854775807 ∧ Below w.heap.size w w' := by
 obtain ⟨i0,hi,hz0,hz1,hz2⟩ := info_parts infoI
 have HI := Lib.hid (And.intro hi (And.intro hz0 (And.intro hz1 hz2)))
 have HX := Lib.hid (And.intro hx.len hy.len)
 clear hi hz0 hz1 hz2
 go_enter Tryz.func151,Tryz.ntmps151
 go_wp2_with fail
 go_loopg [5,6,7] (max n1 n2 + 1) (fun r v cv iv W => ∃ (k carry : Nat) (zs : List Nat) (dv : Value),dv = v ∧ r = max n1 n2 + 1 - k ∧ iv = .int .i64 (k : Int) ∧ cv = .int .i64 (carry : Int) ∧ SumR w n1 n2 xs ys k carry zs v W)
 case atStart => exact ⟨0,0,[],_,rfl,rfl,rfl,rfl,⟨Nat.zero_le _,Nat.zero_le _,fun _ => rfl,rfl,Ok.nil,by simp [val_nil],World.ownsRow_nil _ _ _ _,Below.refl _ _⟩⟩
 case round =>
  obtain ⟨k,carry,zs,dv,hdv,rfl,rfl,rfl,hR⟩ := hrel
  subst hdv
  have hxk := ox.get two_le_B4 k
  have hyk := oy.get two_le_B4 k
  rw [B4_eq] at hxk hyk
  have hcl := hR.cl
  have p1 : (0 : Int) ≤ (carry : Int) := by omega
  have p2 : (carry : Int) ≤ 1 := by omega
  have p3 : (0 : Int) ≤ (nth xs k : Int) := by omega
  have p4 : (nth xs k : Int) ≤ 9999 := by omega
  have p5 : (0 : Int) ≤ (nth ys k : Int) := by omega
  have p6 : (nth ys k : Int) ≤ 9999 := by omega
  have p7 : (0 : Int) ≤ (k : Int) := by omega
  have hkl := hR.kl
  have p8 : (k : Int) ≤ 1000000001 := by omega
  have hown := hR.own
  have hB := hR.bel.size
  obtain ⟨S,hS⟩ : ∃ S,S = carry + nth xs k + nth ys k := ⟨_,rfl⟩
  have hnew := news_one wr (.int .i64 (dLo S : Int)) 3 rfl
  have hownA := hown.alloc (.cells #[.int .i64 (dLo S : Int)] 3)
  have e1 := dLo_eq S
  have e2 := dHi_eq S
  by_cases ha : k < n1
  · have hka : (k : Int) < (n1 : Int) := by omega
    obtain ⟨g1,o1,rfl,hg1,hc1⟩ := hx.at_ (by omega)
    have hca := (hR.bel.cell (p := ⟨g1,o1 + k,none⟩) hg1).trans (hc1 k ha)
    unfold I8 at hca
    by_cases hb : k < n2
    · have hkb : (k : Int) < (n2 : Int) := by omega
      obtain ⟨g2,o2,rfl,hg2,hc2⟩ := hy.at_ (by omega)
      have hcb := (hR.bel.cell (p := ⟨g2,o2 + k,none⟩) hg2).trans (hc2 k hb)
      unfold I8 at hcb
      rw [show (S : Int) = (carry : Int) + (nth xs k : Int) + (nth ys k : Int) by omega] at e1 e2
      have HV := Lib.hid (And.intro hR (And.intro hS (And.intro ha hb)))
      have hl9 : k + 1 ≤ 1000000002 := by omega
      clear hR hS hkl hown ha hb hxk hyk hcl
      go_wp2_with (at_builtin;refine wpList_append_own _ rfl (.tmp 44) (.tmp 47) 86 rfl w.heap.size 3 i0 (.int .i64 0) 1 8 Tryz.underlying86 HI.out.1 HI.out.2.1 HI.out.2.2.1 HI.out.2.2.2 rfl (by decide) dv k (zs.map I8) rfl hownA ⟨wr.heap.size,0,none⟩ 1 1 [.int .i64 (dLo S : Int)] rfl rfl hnew.1 hnew.2 (by unfold maxLen;omega) (by omega) (by simp;omega) ?_;intro v' w1 hown' hgrow _)
      go_wp2_with fail
      go_roundg (max n1 n2 + 1 - (k + 1))
      case measure => have := HV.out.2.2.1;have := HV.out.2.2.2;omega
      case rel =>
       have hS := HV.out.2.1
       rw [hS] at hown' hgrow e2
       exact ⟨k + 1,_,_,_,rfl,rfl,by go_num,by first | rw [e2] | rw [hS],HV.out.1.step ox oy HX.out.1 HX.out.2 (Or.inl HV.out.2.2.1) hown' hgrow⟩
    · have hkb : ¬ (k : Int) < (n2 : Int) := by omega
      have hy0 : nth ys k = 0 := nth_ge (by have := HX.out.2;omega)
      rw [show (S : Int) = (carry : Int) + (nth xs k : Int) by omega] at e1 e2
      have HV := Lib.hid (And.intro hR (And.intro hS (And.intro ha hb)))
      have hl9 : k + 1 ≤ 1000000002 := by omega
      clear hR hS hkl hown ha hb hxk hyk hcl hy0
      go_wp2_with (at_builtin;refine wpList_append_own _ rfl (.tmp 44) (.tmp 47) 86 rfl w.heap.size 3 i0 (.int .i64 0) 1 8 Tryz.underlying86 HI.out.1 HI.out.2.1 HI.out.2.2.1 HI.out.2.2.2 rfl (by decide) dv k (zs.map I8) rfl hownA ⟨wr.heap.size,0,none⟩ 1 1 [.int .i64 (dLo S : Int)] rfl rfl hnew.1 hnew.2 (by unfold maxLen;omega) (by omega) (by simp;omega) ?_;intro v' w1 hown' hgrow _)
      go_wp2_with fail
      go_roundg (max n1 n2 + 1 - (k + 1))
      case measure => have := HV.out.2.2.1;have := HV.out.2.2.2;omega
      case rel =>
       have hS := HV.out.2.1
       rw [hS] at hown' hgrow e2
       exact ⟨k + 1,_,_,_,rfl,rfl,by go_num,by first | rw [e2] | rw [hS],HV.out.1.step ox oy HX.out.1 HX.out.2 (Or.inl HV.out.2.2.1) hown' hgrow⟩
  · have hka : ¬ (k : Int) < (n1 : Int) := by omega
    have hx0 : nth xs k = 0 := nth_ge (by have := HX.out.1;omega)
    by_cases hb : k < n2
    · have hkb : (k : Int) < (n2 : Int) := by omega
      obtain ⟨g2,o2,rfl,hg2,hc2⟩ := hy.at_ (by omega)
      have hcb := (hR.bel.cell (p := ⟨g2,o2 + k,none⟩) hg2).trans (hc2 k hb)
      unfold I8 at hcb
      rw [show (S : Int) = (carry : Int) + (nth ys k : Int) by omega] at e1 e2
      have HV := Lib.hid (And.intro hR (And.intro hS (And.intro ha hb)))
      have hl9 : k + 1 ≤ 1000000002 := by omega
      clear hR hS hkl hown ha hb hxk hyk hcl hx0
      go_wp2_with (at_builtin;refine wpList_append_own _ rfl (.tmp 44) (.tmp 47) 86 rfl w.heap.size 3 i0 (.int .i64 0) 1 8 Tryz.underlying86 HI.out.1 HI.out.2.1 HI.out.2.2.1 HI.out.2.2.2 rfl (by decide) dv k (zs.map I8) rfl hownA ⟨wr.heap.size,0,none⟩ 1 1 [.int .i64 (dLo S : Int)] rfl rfl hnew.1 hnew.2 (by unfold maxLen;omega) (by omega) (by simp;omega) ?_;intro v' w1 hown' hgrow _)
      go_wp2_with fail
      go_roundg (max n1 n2 + 1 - (k + 1))
      case measure => have := HV.out.2.2.1;have := HV.out.2.2.2;omega
      case rel =>
       have hS := HV.out.2.1
       rw [hS] at hown' hgrow e2
       exact ⟨k + 1,_,_,_,rfl,rfl,by go_num,by first | rw [e2] | rw [hS],HV.out.1.step ox oy HX.out.1 HX.out.2 (Or.inr (Or.inl HV.out.2.2.2)) hown' hgrow⟩
    · have hkb : ¬ (k : Int) < (n2 : Int) := by omega
      have hy0 : nth ys k = 0 := nth_ge (by have := HX.out.2;omega)
      by_cases hc : 0 < carry
      · have hkc : (0 : Int) < (carry : Int) := by omega
        have hcn : carry = 1 := by omega
        subst hcn
        have hS1 : S = 1 := by omega
        have HV := Lib.hid (And.intro hR (And.intro hS (And.intro ha (And.intro hb hS1))))
        have hl9 : k + 1 ≤ 1000000002 := by omega
        have hnew' : (∀ j u,[Value.int .i64 1][j]? = some u → (wr.alloc (.cells #[.int .i64 1] 3)).cell? ((⟨wr.heap.size,0,none⟩ : Addr).add j) = some u) ∧ (∀ u ∈ [Value.int .i64 1],u.oneCell' = true) := news_one wr (.int .i64 1) 3 rfl
        have hownA' := hown.alloc (.cells #[.int .i64 1] 3)
        clear hR hS hkl hown ha hb hxk hyk hcl hx0 hy0 hnew hownA e1 e2 hS1
        go_wp2_with (at_builtin;refine wpList_append_own _ rfl (.tmp 44) (.tmp 47) 86 rfl w.heap.size 3 i0 (.int .i64 0) 1 8 Tryz.underlying86 HI.out.1 HI.out.2.1 HI.out.2.2.1 HI.out.2.2.2 rfl (by decide) dv k (zs.map I8) rfl hownA' ⟨wr.heap.size,0,none⟩ 1 1 [.int .i64 1] rfl rfl hnew'.1 hnew'.2 (by unfold maxLen;omega) (by omega) (by simp;omega) ?_;intro v' w1 hown' hgrow _)
        go_wp2_with fail
        go_roundg (max n1 n2 + 1 - (k + 1))
        case measure => have := HV.out.1.top;have := HV.out.2.2.1;have := HV.out.2.2.2.1;omega
        case rel =>
         have hS := HV.out.2.1
         have hd : dLo (1 + nth xs k + nth ys k) = 1 := by rw [← hS,HV.out.2.2.2.2];rfl
         have hh : dHi (1 + nth xs k + nth ys k) = 0 := by rw [← hS,HV.out.2.2.2.2];rfl
         have hst := HV.out.1.step (t := 3) ox oy HX.out.1 HX.out.2 (Or.inr (Or.inr (by omega))) (by rw [hd];exact hown') (by rw [hd];exact hgrow)
         exact ⟨k + 1,_,_,_,rfl,rfl,by go_num,by rw [hh];rfl,hst⟩
      · have hkc : ¬ (0 : Int) < (carry : Int) := by omega
        have hcn : carry = 0 := by omega
        subst hcn
        obtain ⟨A,c,rfl,hnc,hcm,hsl⟩ := owns_sl hown
        have hv := hR.val
        rw [Nat.mul_zero,Nat.add_zero,List.take_of_length_le (by rw [HX.out.1];omega),List.take_of_length_le (by rw [HX.out.2];omega)] at hv
        have HV := Lib.hid (And.intro hv (And.intro hR hS))
        clear hv hR hS hx0 hy0 e1 e2 hown hownA hnew hxk hyk hkl ha hb hc
        go_wp2_with fail
        go_ret
        exact ⟨A,k,c,rfl,zs,hsl,HV.out.2.1.ok,HV.out.1,hnc,hcm,HV.out.2.1.bel⟩
end Go.Proofs.YtlfgpmnjnpdkdaaGreatDoor
namespace Go.Proofs.YtlfgpmnjnpdkdaaGreatDoor
open Go.RowKit Vd
theorem mkJ (n : Nat) (hn : n ≤ 3 * maxW) (w : World) : (Instr.makeSlice 86 (.int .i64 (n : Int)) (.int .i64 (n : Int))).run Tryz.prog w = .ok (.slice (some ⟨w.heap.size,0,none⟩) n n) (w.alloc (.cells ((List.replicate n 0).map I8).toArray 3)) := by
 have h := run_make_row' (P := Tryz.prog) 86 3 (.int .i64 0) 8 Tryz.underlying86 infoI rfl .i64 .i64 n (by unfold maxW at hn;omega) (by unfold maxW at hn;omega) w
 rw [← madeCells_eq]
 exact h
def PB (ys : List Nat) : Prop := Ok B4 ys ∨ ∃ m,ys = [m] ∧ m ≤ 10000
theorem PB.le {ys : List Nat} (h : PB ys) (j : Nat) : nth ys j ≤ 10000 := by
 rcases h with h | ⟨m,rfl,hm⟩
 · have := h.get two_le_B4 j;rw [B4_eq] at this;omega
 · cases j with
   | zero => exact hm
   | succ j => rw [nth_ge (by simp)];omega
theorem PB.bound {ys : List Nat} (h : PB ys) {j c o x : Nat} (hj : j < ys.length) (hc : c < B4) (h0 : j = 0 → c = 0) (ho : o < B4) (hx : x < B4) : c + o + x * nth ys j ≤ 99999999 := by
 rw [B4_eq] at *
 rcases h with h | ⟨m,rfl,hm⟩
 · have h1 := h.get two_le_B4 j
   rw [B4_eq] at h1
   have : x * nth ys j ≤ 9999 * 9999 := Nat.mul_le_mul (by omega) (by omega)
   omega
 · have hj0 : j = 0 := by simp at hj;exact hj
   subst hj0
   have h1 : nth [m] 0 ≤ 10000 := hm
   have : x * nth [m] 0 ≤ 9999 * 10000 := Nat.mul_le_mul (by omega) h1
   have := h0 rfl
   omega
structure ProR (w : World) (L i x : Nat) (ys os : List Nat) (j carry : Nat) (zs : List Nat) (W : World) : Prop where
 cl : carry < B4
 c0 : j = 0 → carry = 0
 len : zs.length = L
 ok : Ok B4 zs
 drop : zs.drop (i + j) = os.drop (i + j)
 val : val B4 (zs.take (i + j)) + B4 ^ (i + j) * carry = val B4 (os.take (i + j)) + B4 ^ i * (x * val B4 (ys.take j))
 row : Row W I8 w.heap.size 3 zs
 bel : Below w.heap.size w W
theorem pro_math (P Q Z c O V a x y lo hi : Nat) (h : Z + P * Q * c = O + P * (x * V)) (e : lo + B4 * hi = c + a + x * y) : Z + lo * (P * Q) + P * Q * B4 * hi = O + a * (P * Q) + P * (x * (V + y * Q)) := by
 have e1 : P * Q * (lo + B4 * hi) = P * Q * (c + a + x * y) := by rw [e]
 grind
theorem ProR.drewN {w : World} {L i x : Nat} {ys os : List Nat} {j carry : Nat} {zs : List Nat} {W : World} (h : ProR w L i x ys os j carry zs W) (n : Nat) : ProR w L i x ys os j carry zs (W.drewN n) :=
 ⟨h.cl,h.c0,h.len,h.ok,h.drop,h.val,h.row.drewN n,below_drewN h.bel n⟩
theorem ProR.step {w : World} {L i x : Nat} {ys os : List Nat} {j carry : Nat} {zs : List Nat} {W : World} (h : ProR w L i x ys os j carry zs W) (hij : i + j < L) (hx : x < B4) (oy : PB ys) (hjl : j < ys.length) {T : Nat} (hT : T = carry + nth zs (i + j) + x * nth ys j) :
 ProR w L i x ys os (j + 1) (dHi T) (zs.set (i + j) (dLo T)) (W.setCell ⟨w.heap.size,i + j,none⟩ (I8 (dLo T))) := by
 have hd := d_eq T
 have ho := h.ok.get two_le_B4 (i + j)
 have hT9 := oy.bound hjl h.cl h.c0 ho hx
 have hcl := h.cl
 refine ⟨?_,fun h0 => by omega,by rw [List.length_set];exact h.len,h.ok.set (dLo_lt _),?_,?_,h.row.set _ _,h.bel.setCell (Nat.le_refl _) _⟩
 · unfold dHi;rw [B4_eq] at *;omega
 · show (zs.set (i + j) (dLo T)).drop (i + j + 1) = os.drop (i + j + 1)
   rw [drop_set_succ];exact drop_succ_of h.drop
 · show Vd.val B4 ((zs.set (i + j) (dLo T)).take (i + j + 1)) + B4 ^ (i + j + 1) * dHi T = Vd.val B4 (os.take (i + j + 1)) + B4 ^ i * (x * Vd.val B4 (ys.take (j + 1)))
   have hv := h.val
   rw [val_take_set _ _ _ (by rw [h.len];exact hij),val_take_succ,val_take_succ,← nth_of_drop h.drop,Nat.pow_succ,Nat.pow_add]
   rw [Nat.pow_add] at hv
   rw [hT] at hd
   rw [hT]
   exact pro_math _ _ _ _ _ _ _ _ _ _ _ hv hd
set_option maxRecDepth 100000 in
set_option maxHeartbeats 2000000 in
theorem product4_core (A1 A2 : Option Addr) (n1 n2 c1 c2 : Nat) (xs ys : List Nat) (w : World) (hx : Sl w I8 A1 n1 xs) (hy : Sl w I8 A2 n2 ys) (ox : Ok B4 xs) (oy : PB ys) (b1 : n1 ≤ 1000000000) (b2 : n2 ≤ 1000000000) :
 Calls Tryz.prog 146 #[.slice A1 n1 c1,.slice A2 n2 c2] w fun e w' => ∃ A n c,e = .returned (.slice A n c) ∧ DigV w' (.slice A n c) (val B4 xs * val B4 ys) ∧ Below w.heap.size w w' := by
 obtain ⟨L,hL⟩ : ∃ L,L = n1 + n2 := ⟨_,rfl⟩
 have hmk := fun W => mkJ L (by unfold maxW;omega) W
 rw [show (L : Int) = (n1 : Int) + (n2 : Int) by omega] at hmk
 have HX := Lib.hid (And.intro hx.len (And.intro hy.len hL))
 have q1 : (n1 : Int) ≤ 1000000000 := by omega
 have q2 : (n2 : Int) ≤ 1000000000 := by omega
 clear hL b1 b2
 go_enter Tryz.func146,Tryz.ntmps146
 go_wp2_with fail
 go_loopg [6] n1 (fun r iv W => ∃ (i : Nat) (zs : List Nat),r = n1 - i ∧ iv = .int .i64 (i : Int) ∧ i ≤ n1 ∧ zs.length = L ∧ Ok B4 zs ∧ Row W I8 w.heap.size 3 zs ∧ val B4 (zs.take (i + n2)) = val B4 (xs.take i) * val B4 ys ∧ Below w.heap.size w W)
 case atStart => exact ⟨0,List.replicate L 0,rfl,rfl,Nat.zero_le _,by simp,Ok.rep two_le_B4 _,Row.newRep w I8 _ _,by simp [List.take_replicate,val_replicate,val_nil],(Below.refl _ _).alloc (Nat.le_refl _) _⟩
 case round =>
  obtain ⟨i,zs,rfl,rfl,hi,hlz,hoz,hrow,hval,hbel⟩ := hrel
  obtain ⟨wo,rfl⟩ : ∃ wo : World,wo = wr := ⟨_,rfl⟩
  by_cases ha : i < n1
  · have hia : (i : Int) < (n1 : Int) := by omega
    have HO := Lib.hid (And.intro hval (And.intro hlz (And.intro ha hi)))
    have hR0 : ProR w L i (nth xs i) ys zs 0 0 zs wo := ⟨by decide,fun _ => rfl,hlz,hoz,rfl,by simp [val_nil],hrow,hbel⟩
    obtain ⟨g1,o1,rfl,hg1,hc1⟩ := hx.at_ (by omega)
    have hc1i := hc1 i ha
    clear hval hlz ha hi hrow hbel hmk hc1
    go_wp2_with fail
    go_loopg [7,8] n2 (fun r cv jv W => ∃ (j carry : Nat) (zs' : List Nat),r = n2 - j ∧ cv = .int .i64 (carry : Int) ∧ jv = .int .i64 (j : Int) ∧ j ≤ n2 ∧ ProR w L i (nth xs i) ys zs j carry zs' W)
    case atStart => exact ⟨0,0,zs,rfl,rfl,rfl,Nat.zero_le _,hR0⟩
    case round =>
     clear hR0
     obtain ⟨j,carry,zs',rfl,rfl,rfl,hj,hR⟩ := hrel
     have hij : i + n2 < L := by have := HX.out.2.2;have := HO.out.2.2.1;omega
     by_cases hb : j < n2
     · have hjb : (j : Int) < (n2 : Int) := by omega
       obtain ⟨g2,o2,rfl,hg2,hc2⟩ := hy.at_ (by omega)
       have hcb := (hR.bel.cell (p := ⟨g2,o2 + j,none⟩) hg2).trans (hc2 j hb)
       have hca := (hR.bel.cell (p := ⟨g1,o1 + i,none⟩) hg1).trans hc1i
       have hco := hR.row.cell (i := i + j) (by rw [hR.len];omega)
       have hfo := hR.row.frozen (i + j)
       have hxk := ox.get two_le_B4 i
       have hyk := oy.le j
       have hT9 := oy.bound (by rw [HX.out.2.1];exact hb) hR.cl hR.c0 (hR.ok.get two_le_B4 (i + j)) (ox.get two_le_B4 i)
       have hok := hR.ok.get two_le_B4 (i + j)
       have hcl := hR.cl
       have HR := Lib.hid hR
       obtain ⟨x,hxx⟩ : ∃ x,x = nth xs i := ⟨_,rfl⟩
       obtain ⟨y,hyy⟩ : ∃ x,x = nth ys j := ⟨_,rfl⟩
       obtain ⟨o,hoo⟩ : ∃ x,x = nth zs' (i + j) := ⟨_,rfl⟩
       rw [← hxx] at hca hxk
       rw [← hyy] at hcb hyk
       rw [← hoo] at hco hok
       unfold I8 at hca hcb hco
       rw [B4_eq] at hxk hok hcl
       have hxy : x * y ≤ 9999 * 10000 := Nat.mul_le_mul (by omega) (by omega)
       rw [← hoo,← hxx,← hyy] at hT9
       obtain ⟨M,hM⟩ : ∃ M,M = x * y := ⟨_,rfl⟩
       obtain ⟨T,hT⟩ : ∃ T,T = carry + o + M := ⟨_,rfl⟩
       rw [← hM,← hT] at hT9
       have hMI : (x : Int) * (y : Int) = (M : Int) := by rw [hM,Int.natCast_mul]
       rw [← hM] at hxy
       have k1 : IntKind.i64.wrap ((i : Int) + (j : Int)) = (i : Int) + (j : Int) := by rw [IntKind.wrap_i64];omega
       have k2 : ((i : Int) + (j : Int)).toNat = i + j := by omega
       have k3 : (0 : Int) ≤ (i : Int) + (j : Int) := by omega
       have k4 : (i : Int) + (j : Int) < (L : Int) := by omega
       have k5 : IntKind.i64.wrap ((carry : Int) + (o : Int)) = (carry : Int) + (o : Int) := by rw [IntKind.wrap_i64];omega
       have k6 : IntKind.i64.wrap ((x : Int) * (y : Int)) = (M : Int) := by rw [hMI,IntKind.wrap_i64];omega
       have k7 : IntKind.i64.wrap ((carry : Int) + (o : Int) + (M : Int)) = (T : Int) := by rw [IntKind.wrap_i64];omega
       have e1 := dLo_eq T
       have e2 := dHi_eq T
       have k8 : (0 : Int) ≤ (T : Int) := by omega
       have k9 : (0 : Int) ≤ (i : Int) := by omega
       have k11 : (T : Int) ≤ 99999999 := by omega
       have k12 : (0 : Int) ≤ (dHi T : Int) := by omega
       have k13 : (dHi T : Int) ≤ 9999 := by omega
       have k10 : (0 : Int) ≤ (j : Int) := by omega
       have HT := Lib.hid (And.intro hT (And.intro hM (And.intro hxx (And.intro hyy (And.intro hoo (And.intro hb hij))))))
       clear hT9 hT hM hxx hyy hoo hMI hxy hxk hyk hok hcl hR hc2 hb hj hij
       go_wp2_with fail
       go_quiet (fail)
       go_wp2_with fail
       go_roundg (n2 - (j + 1))
       case measure => have := HT.out.2.2.2.2.2.1;omega
       case rel =>
        obtain ⟨hT,hM,hxx,hyy,hoo,hb,hij⟩ := HT.out
        have hst := (HR.out.drewN nq).step (T := T) (by omega) (ox.get two_le_B4 i) oy (by rw [HX.out.2.1];exact hb) (by rw [hT,hM,hxx,hyy,hoo])
        exact ⟨j + 1,dHi T,_,rfl,by first | rw [e2] | rfl,by go_num,by omega,hst⟩
     · have hjn : j = n2 := by omega
       subst hjn
       have hjb : ¬ (j : Int) < (j : Int) := by omega
       have hfo := hR.row.frozen (i + j)
       have hco := hR.row.cell (i := i + j) (by rw [hR.len];omega)
       have k1 : IntKind.i64.wrap ((i : Int) + (j : Int)) = (i : Int) + (j : Int) := by rw [IntKind.wrap_i64];omega
       have k2 : ((i : Int) + (j : Int)).toNat = i + j := by omega
       have k3 : (0 : Int) ≤ (i : Int) + (j : Int) := by omega
       have k4 : (i : Int) + (j : Int) < (L : Int) := by omega
       have HR := Lib.hid (And.intro hR hij)
       clear hR hb hj hij
       go_wp2_with fail
       go_roundg (n1 - (i + 1))
       case measure => have := HO.out.2.2.1;omega
       case rel =>
        obtain ⟨hR,hij⟩ := HR.out
        have hv := hR.val
        refine ⟨i + 1,zs'.set (i + j) carry,rfl,by go_num,by have := HO.out.2.2.1;omega,by rw [List.length_set];exact hR.len,hR.ok.set hR.cl,hR.row.set _ _,?_,hR.bel.setCell (Nat.le_refl _) _⟩
        rw [show i + 1 + j = i + j + 1 by omega,val_take_set _ _ _ (by rw [hR.len];exact hij),val_take_succ]
        rw [show ys.take j = ys from List.take_of_length_le (by rw [HX.out.2.1];exact Nat.le_refl _),HO.out.1] at hv
        rw [Nat.mul_comm carry,hv,Nat.add_mul]
        congr 1
        rw [← Nat.mul_assoc,Nat.mul_comm (B4 ^ i)]
  · have hin : i = n1 := by omega
    subst hin
    have hia : ¬ (i : Int) < (i : Int) := by omega
    have hsl := hrow.sl0
    rw [hlz] at hsl
    have hv : val B4 zs = val B4 xs * val B4 ys := by
     rw [List.take_of_length_le (by have := HX.out.2.2;omega),List.take_of_length_le (by rw [HX.out.1];exact Nat.le_refl _)] at hval
     exact hval
    have hcut := cut4_dig _ L L zs wo hsl hoz (Nat.le_refl _) (by have := HX.out.2.2;omega)
    rw [hv] at hcut
    clear hval hlz hoz hrow hsl hv ha hi hmk
    go_wp2_with fail
    refine hcut.mono ?_
    rintro e w2 ⟨k,rfl,hk,hd,rfl⟩
    have HD := Lib.hid (And.intro hk hd)
    clear hk hd hcut
    go_wp2_with fail
    go_ret
    exact ⟨_,k,L,rfl,HD.out.2,hbel⟩
end Go.Proofs.YtlfgpmnjnpdkdaaGreatDoor
namespace Go.Proofs.YtlfgpmnjnpdkdaaGreatDoor
open Go.RowKit Vd
attribute [local go_sem ↓] Go.wp_at_zero Go.wp_at_succ
abbrev PlB (w : World) (m1 m2 : Value) (k1 k2 : Bool) (W : World) : Prop :=
 (BoxP W (w.heap.size + 1 + 1) ∧ Below w.heap.size w W) ∧ W.cell? ⟨w.heap.size,0,none⟩ = some (.bool k1) ∧ W.cell? ⟨w.heap.size,1,none⟩ = some m1 ∧ W.cell? ⟨w.heap.size + 1,0,none⟩ = some (.bool k2) ∧ W.cell? ⟨w.heap.size + 1,1,none⟩ = some m2
theorem plb_step {w W w1 : World} {m1 m2 : Value} {k1 k2 : Bool} (h : PlB w m1 m2 k1 k2 W) (hb : Below W.heap.size W w1) : PlB w m1 m2 k1 k2 w1 := by
 have hlt := h.1.1.lt
 have hc : ∀ b o,b < w.heap.size + 1 + 1 → w1.cell? ⟨b,o,none⟩ = W.cell? ⟨b,o,none⟩ := fun b o hbl => hb.cell (p := ⟨b,o,none⟩) (Nat.lt_trans hbl hlt)
 refine ⟨⟨h.1.1.below hb hlt,h.1.2.trans (hb.mono (by omega))⟩,?_,?_,?_,?_⟩
 · rw [hc _ _ (by omega)];exact h.2.1
 · rw [hc _ _ (by omega)];exact h.2.2.1
 · rw [hc _ _ (by omega)];exact h.2.2.2.1
 · rw [hc _ _ (by omega)];exact h.2.2.2.2
theorem plb_store {w W : World} {m1 m2 : Value} {k1 k2 : Bool} (h : PlB w m1 m2 k1 k2 W) (A : Option Addr) (n c : Nat) (k : Bool) :
 PlB w m1 m2 k1 k2 ((W.setCell ⟨w.heap.size + 1 + 1,0,none⟩ (.bool k)).setCell ⟨w.heap.size + 1 + 1,1,none⟩ (.slice A n c)) := by
 have hc : ∀ b o,b < w.heap.size + 1 + 1 → ((W.setCell ⟨w.heap.size + 1 + 1,0,none⟩ (.bool k)).setCell ⟨w.heap.size + 1 + 1,1,none⟩ (.slice A n c)).cell? ⟨b,o,none⟩ = W.cell? ⟨b,o,none⟩ := fun b o hb => by
  rw [World.cell?_setCell_other _ _ _ _ (by intro e;injection e with e;omega),World.cell?_setCell_other _ _ _ _ (by intro e;injection e with e;omega)]
 refine ⟨⟨h.1.1.set A n c k,(h.1.2.setCell (by simp;omega) _).setCell (by simp;omega) _⟩,?_,?_,?_,?_⟩
 · rw [hc _ _ (by omega)];exact h.2.1
 · rw [hc _ _ (by omega)];exact h.2.2.1
 · rw [hc _ _ (by omega)];exact h.2.2.2.1
 · rw [hc _ _ (by omega)];exact h.2.2.2.2
theorem plb_start (w : World) (m1 m2 : Value) (k1 k2 : Bool) : PlB w m1 m2 k1 k2 (((w.alloc (.cells #[.bool k1,m1] 88)).alloc (.cells #[.bool k2,m2] 88)).alloc (.cells #[.bool false,.slice none 0 0] 88)) := by
 have hb := BoxP.alloc ((w.alloc (.cells #[.bool k1,m1] 88)).alloc (.cells #[.bool k2,m2] 88)) none 0 0 false
 rw [World.size_alloc,World.size_alloc] at hb
 refine ⟨⟨hb,(((Below.refl _ _).alloc (Nat.le_refl _) _).alloc (by simp) _).alloc (by simp;omega) _⟩,?_,?_,?_,?_⟩ <;> simp [go_sem]
theorem DigV.sl {w : World} {v : Value} {n : Nat} (h : DigV w v n) : ∃ A c,v = .slice A (wlen B4 n) c ∧ wlen B4 n ≤ c ∧ c ≤ 9223372036854775807 ∧ Sl w I8 A (wlen B4 n) (ws B4 n) := h
theorem product4_any (m1 m2 : Value) (a b : Nat) (w : World) (h1 : DigV w m1 a) (h2 : DigV w m2 b) (b1 : wlen B4 a ≤ 1000000000) (b2 : wlen B4 b ≤ 1000000000) :
 Calls Tryz.prog 146 #[m1,m2] w fun e w' => ∃ A n c,e = .returned (.slice A n c) ∧ DigV w' (.slice A n c) (a * b) ∧ Below w.heap.size w w' := by
 obtain ⟨A1,c1,rfl,_,_,s1⟩ := h1
 obtain ⟨A2,c2,rfl,_,_,s2⟩ := h2
 refine (product4_core A1 A2 _ _ c1 c2 _ _ w s1 s2 (ok_ws _) (Or.inl (ok_ws _)) b1 b2).mono ?_
 rintro e w' ⟨A,n,c,he,hd,hb⟩
 rw [val_ws two_le_B4,val_ws two_le_B4] at hd
 exact ⟨A,n,c,he,hd,hb⟩
def DigL (w : World) (v : Value) (n : Nat) : Prop := ∃ A k c zs,v = .slice A k c ∧ Sl w I8 A k zs ∧ Ok B4 zs ∧ Vd.val B4 zs = n ∧ k ≤ c ∧ c ≤ 9223372036854775807
theorem DigV.l {w : World} {v : Value} {n : Nat} (h : DigV w v n) : DigL w v n := by
 obtain ⟨A,c,rfl,h1,h2,s⟩ := h
 exact ⟨A,_,c,_,rfl,s,ok_ws _,val_ws two_le_B4 _,h1,h2⟩
theorem DigL.below {w w' : World} {v : Value} {n : Nat} (h : DigL w v n) (hb : Below w.heap.size w w') : DigL w' v n := by
 obtain ⟨A,k,c,zs,e,s,o,hv,h1,h2⟩ := h
 exact ⟨A,k,c,zs,e,s.below hb,o,hv,h1,h2⟩
theorem sum4_any (m1 m2 : Value) (a b : Nat) (w : World) (h1 : DigV w m1 a) (h2 : DigV w m2 b) (b1 : wlen B4 a ≤ 1000000000) (b2 : wlen B4 b ≤ 1000000000) :
 Calls Tryz.prog 151 #[m1,m2] w fun e w' => ∃ A n c,e = .returned (.slice A n c) ∧ DigL w' (.slice A n c) (a + b) ∧ Below w.heap.size w w' := by
 obtain ⟨A1,c1,rfl,_,_,s1⟩ := h1
 obtain ⟨A2,c2,rfl,_,_,s2⟩ := h2
 refine (sum4_core A1 A2 _ _ c1 c2 _ _ w s1 s2 (ok_ws _) (ok_ws _) b1 b2).mono ?_
 rintro e w' ⟨A,n,c,he,zs,hs,ho,hv,hn,hc,hb⟩
 rw [val_ws two_le_B4,val_ws two_le_B4] at hv
 exact ⟨A,n,c,he,⟨A,n,c,zs,rfl,hs,ho,hv,hn,hc⟩,hb⟩
theorem made4_any (b : Bool) (v : Value) (n : Nat) (w : World) (h : DigL w v n) :
 Calls Tryz.prog 115 #[.bool b,v] w fun e w' => ∃ (A : Option Addr) (l c : Nat) (k : Bool),e = .returned (.agg #[.bool k,.slice A l c]) ∧ PlV w' (.agg #[.bool k,.slice A l c]) (sgn n b) ∧ Below w.heap.size w w' := by
 obtain ⟨A,k,c,zs,rfl,s,o,hv,h1,h2⟩ := h
 refine (made_any b A k c zs w s o h1 h2).mono ?_
 rintro e w' ⟨v,he,hp,hb⟩
 rw [hv] at hp
 obtain ⟨A',l,c',k',rfl⟩ := hp.open
 exact ⟨A',l,c',k',he,hp,hb⟩
set_option maxRecDepth 100000 in
set_option maxHeartbeats 1000000 in
theorem times4_any (v1 v2 : Value) (x y : Int) (w : World) (h1 : PlV w v1 x) (h2 : PlV w v2 y) (b1 : wlen B4 x.natAbs ≤ 1000000000) (b2 : wlen B4 y.natAbs ≤ 1000000000) :
 Calls Tryz.prog 119 #[v1,v2] w fun e w' => ∃ v,e = .returned v ∧ PlV w' v (x * y) ∧ Below w.heap.size w w' := by
 obtain ⟨m1,rfl,hm1⟩ := h1
 obtain ⟨m2,rfl,hm2⟩ := h2
 obtain ⟨k1,hk1⟩ : ∃ k,k = decide (x < 0) := ⟨_,rfl⟩
 obtain ⟨k2,hk2⟩ : ∃ k,k = decide (y < 0) := ⟨_,rfl⟩
 have hE := sgn_mul x y
 rw [← hk1,← hk2] at hE ⊢
 have hpr : Hid (∀ W,PlB w m1 m2 k1 k2 W → Calls Tryz.prog 146 #[m1,m2] W fun e w' => ∃ (A : Option Addr) (n c : Nat),e = .returned (.slice A n c) ∧ DigL w' (.slice A n c) (x.natAbs * y.natAbs) ∧ PlB w m1 m2 k1 k2 w') := Lib.hid (fun W hS => (product4_any m1 m2 _ _ W (hm1.below hS.1.2) (hm2.below hS.1.2) b1 b2).mono fun _ _ ⟨A,n,c,he,hm,hb⟩ => ⟨A,n,c,he,hm.l,plb_step hS hb⟩)
 have hsg : Hid (∀ W m,DigL W m (x.natAbs * y.natAbs) → PlB w m1 m2 k1 k2 W → Calls Tryz.prog 115 #[.bool (k1 != k2),m] W fun e w' => ∃ (A : Option Addr) (n c : Nat) (k : Bool),e = .returned (.agg #[.bool k,.slice A n c]) ∧ PlV w' (.agg #[.bool k,.slice A n c]) (x * y) ∧ PlB w m1 m2 k1 k2 w') := Lib.hid (fun W m hm hS => (made4_any (k1 != k2) m _ W hm).mono fun e w' ⟨A,n,c,k,he,hp,hb⟩ => by
  rw [hE] at hp
  exact ⟨A,n,c,k,he,hp,plb_step hS hb⟩)
 have hS0 := plb_start w m1 m2 k1 k2
 clear hE hm1 hm2 b1 b2 hk1 hk2
 go_enter Tryz.func119,Tryz.ntmps119
 go_wp2
 go_region_held3 (fun W => (BoxP W (w.heap.size + 1 + 1) ∧ Below w.heap.size w W) ∧ W.cell? ⟨w.heap.size,0,none⟩ = some (.bool k1) ∧ W.cell? ⟨w.heap.size,1,none⟩ = some m1 ∧ W.cell? ⟨w.heap.size + 1,0,none⟩ = some (.bool k2) ∧ W.cell? ⟨w.heap.size + 1,1,none⟩ = some m2) (first | with_reducible assumption | exact ⟨⟨hS0.1.1,hS0.1.2.drew⟩,hS0.2⟩ | (refine plb_store ?_ _ _ _ _;with_reducible assumption))
  (first
   | (go_at_call 146;refine (hpr.out _ ?_).mono ?_;with_reducible assumption;rintro e w1 ⟨A1,n1,c1,rfl,hx1,hS1⟩)
   | (go_at_call 115;refine (hsg.out _ _ ?_ ?_).mono ?_;with_reducible assumption;with_reducible assumption;rintro e w2 ⟨A,n,c,k,rfl,hp,hS2⟩;obtain ⟨⟨q0,hc0⟩,⟨q1,hc1⟩,hf0,hf1⟩ := hS2.1.1.facts))
 go_wp2
 exact bodyPost_ret (v := .agg #[.bool k,.slice A n c]) (by simp [results,Tryz.results119,go_sem,hc0,hc1]) rfl ⟨_,rfl,hp.sets hS2.1.1 _ _,(plb_store hS2 A n c k).1.2⟩
set_option maxRecDepth 100000 in
set_option maxHeartbeats 1000000 in
theorem plus4_nat (v1 v2 : Value) (a b : Nat) (w : World) (h1 : PlV w v1 (a : Int)) (h2 : PlV w v2 (b : Int)) (b1 : wlen B4 a ≤ 1000000000) (b2 : wlen B4 b ≤ 1000000000) :
 Calls Tryz.prog 124 #[v1,v2] w fun e w' => ∃ v,e = .returned v ∧ PlV w' v ((a + b : Nat) : Int) ∧ Below w.heap.size w w' := by
 obtain ⟨m1,rfl,hm1⟩ := h1
 obtain ⟨m2,rfl,hm2⟩ := h2
 rw [Int.natAbs_natCast] at hm1 hm2
 rw [show decide ((a : Int) < 0) = false by simp,show decide ((b : Int) < 0) = false by simp]
 have hpr : Hid (∀ W,PlB w m1 m2 false false W → Calls Tryz.prog 151 #[m1,m2] W fun e w' => ∃ (A : Option Addr) (n c : Nat),e = .returned (.slice A n c) ∧ DigL w' (.slice A n c) (a + b) ∧ PlB w m1 m2 false false w') := Lib.hid (fun W hS => (sum4_any m1 m2 _ _ W (hm1.below hS.1.2) (hm2.below hS.1.2) b1 b2).mono fun _ _ ⟨A,n,c,he,hm,hb⟩ => ⟨A,n,c,he,hm,plb_step hS hb⟩)
 have hsg : Hid (∀ W m,DigL W m (a + b) → PlB w m1 m2 false false W → Calls Tryz.prog 115 #[.bool false,m] W fun e w' => ∃ (A : Option Addr) (n c : Nat) (k : Bool),e = .returned (.agg #[.bool k,.slice A n c]) ∧ PlV w' (.agg #[.bool k,.slice A n c]) ((a + b : Nat) : Int) ∧ PlB w m1 m2 false false w') := Lib.hid (fun W m hm hS => (made4_any false m _ W hm).mono fun e w' ⟨A,n,c,k,he,hp,hb⟩ => ⟨A,n,c,k,he,hp,plb_step hS hb⟩)
 have hS0 := plb_start w m1 m2 false false
 obtain ⟨Z,hZ⟩ : ∃ Z : Int,Z = ((a + b : Nat) : Int) := ⟨_,rfl⟩
 rw [← hZ] at hsg ⊢
 clear hm1 hm2 b1 b2 hZ
 go_enter Tryz.func124,Tryz.ntmps124
 go_wp2
 go_region_held3 (fun W => (BoxP W (w.heap.size + 1 + 1) ∧ Below w.heap.size w W) ∧ W.cell? ⟨w.heap.size,0,none⟩ = some (.bool false) ∧ W.cell? ⟨w.heap.size,1,none⟩ = some m1 ∧ W.cell? ⟨w.heap.size + 1,0,none⟩ = some (.bool false) ∧ W.cell? ⟨w.heap.size + 1,1,none⟩ = some m2) (first | with_reducible assumption | exact ⟨⟨hS0.1.1,hS0.1.2.drew⟩,hS0.2⟩ | (refine plb_store ?_ _ _ _ _;with_reducible assumption))
  (first
   | (go_at_call 151;refine (hpr.out _ ?_).mono ?_;with_reducible assumption;rintro e w1 ⟨A1,n1,c1,rfl,hx1,hS1⟩)
   | (go_at_call 115;refine (hsg.out _ _ ?_ ?_).mono ?_;with_reducible assumption;with_reducible assumption;rintro e w2 ⟨A,n,c,k,rfl,hp,hS2⟩;obtain ⟨⟨q0,hc0⟩,⟨q1,hc1⟩,hf0,hf1⟩ := hS2.1.1.facts))
 go_wp2
 exact bodyPost_ret (v := .agg #[.bool k,.slice A n c]) (by simp [results,Tryz.results124,go_sem,hc0,hc1]) rfl ⟨_,rfl,hp.sets hS2.1.1 _ _,(plb_store hS2 A n c k).1.2⟩
theorem wlen4_pow {x k : Nat} (h : wlen B4 x ≤ 100) (hk : k ≤ 1000) : wlen B4 (x ^ k) ≤ 1000000000 := by
 have h1 := wlen_pow (b := B4) two_le_B4 x k
 have h2 : k * wlen B4 x ≤ 1000 * 100 := Nat.mul_le_mul hk h
 omega
structure RaR (w : World) (g : Nat) (k0 : Bool) (s0 : Value) (z : Int) (W : World) (A : Option Addr) (l c : Nat) (b : Bool) : Prop where
 blk : W.heap[g]? = some (.cells #[.bool b,.slice A l c] 88 (0,0))
 val : PlV W (.agg #[.bool b,.slice A l c]) z
 a0 : W.cell? ⟨w.heap.size,0,none⟩ = some (.bool k0)
 a1 : W.cell? ⟨w.heap.size,1,none⟩ = some s0
 bx : BoxP W (w.heap.size + 1)
 bel : Below w.heap.size w W
 ord : w.heap.size + 1 < g
theorem RaR.box {w : World} {g : Nat} {k0 : Bool} {s0 : Value} {z : Int} {W : World} {A : Option Addr} {l c : Nat} {b : Bool} (h : RaR w g k0 s0 z W A l c b) : BoxP W g := ⟨A,l,c,b,h.blk⟩
theorem RaR.cells {w : World} {g : Nat} {k0 : Bool} {s0 : Value} {z : Int} {W : World} {A : Option Addr} {l c : Nat} {b : Bool} (h : RaR w g k0 s0 z W A l c b) : W.cell? ⟨g,0,none⟩ = some (.bool b) ∧ W.cell? ⟨g,1,none⟩ = some (.slice A l c) := by
 constructor
 · rw [cell_of_row W g 0 _ _ (0,0) h.blk];rfl
 · rw [cell_of_row W g 1 _ _ (0,0) h.blk];rfl
theorem RaR.step {w : World} {g : Nat} {k0 : Bool} {s0 : Value} {z z' : Int} {W W2 : World} {A A' : Option Addr} {l c l' c' : Nat} {b b' : Bool} (h : RaR w g k0 s0 z W A l c b) (hb : Below W.heap.size W W2) (hv : PlV W2 (.agg #[.bool b',.slice A' l' c']) z') :
 RaR w g k0 s0 z' ((W2.setCell ⟨g,0,none⟩ (.bool b')).setCell ⟨g,1,none⟩ (.slice A' l' c')) A' l' c' b' := by
 have hlt := h.box.lt
 have hord := h.ord
 have hbx := h.box.below hb hlt
 refine ⟨?_,hv.sets hbx _ _,?_,?_,((h.bx.below hb (by omega)).far (by simp;omega) _).far (by simp;omega) _,((h.bel.trans (hb.mono h.bel.size)).setCell (by simp;omega) _).setCell (by simp;omega) _,h.ord⟩
 · have := (hb.block g hlt).trans h.blk
   simp [World.setCell,Array.getElem?_modify,this]
 · rw [World.cell?_setCell_other _ _ _ _ (by intro e;injection e with e;omega),World.cell?_setCell_other _ _ _ _ (by intro e;injection e with e;omega),hb.cell (World.block_lt_of_cell? W _ h.a0)]
   exact h.a0
 · rw [World.cell?_setCell_other _ _ _ _ (by intro e;injection e with e;omega),World.cell?_setCell_other _ _ _ _ (by intro e;injection e with e;omega),hb.cell (World.block_lt_of_cell? W _ h.a1)]
   exact h.a1
set_option maxRecDepth 100000 in
set_option maxHeartbeats 1000000 in
theorem raised4_any (v : Value) (x n : Nat) (w : World) (h : PlV w v (x : Int)) (hx : wlen B4 x ≤ 100) (hn : n ≤ 1000) :
 Calls Tryz.prog 125 #[v,.int .i64 (n : Int)] w fun e w' => ∃ v,e = .returned v ∧ PlV w' v ((x ^ n : Nat) : Int) ∧ Below w.heap.size w w' := by
 obtain ⟨A0,l0,c0,k0,rfl⟩ := h.open
 have hn' : (n : Int) ≤ 1000 := by omega
 have hin := fun W => integer_any 1 W (by decide)
 rw [show ((1 : Nat) : Int) = 1 from rfl] at hin
 have HT : Hid (∀ k W v,k ≤ 1000 → Below w.heap.size w W → PlV W v ((x ^ k : Nat) : Int) → Calls Tryz.prog 119 #[v,.agg #[.bool k0,.slice A0 l0 c0]] W fun e w' => ∃ v',e = .returned v' ∧ PlV w' v' ((x ^ (k + 1) : Nat) : Int) ∧ Below W.heap.size W w') := Lib.hid (fun k W v hk hb hv => by
  refine (times4_any v _ _ _ W hv (h.below hb) (by rw [Int.natAbs_natCast];exact wlen4_pow hx hk) (by rw [Int.natAbs_natCast];omega)).mono ?_
  rintro e w' ⟨v',he,hp,hb⟩
  refine ⟨v',he,?_,hb⟩
  rw [Nat.pow_succ,Int.natCast_mul];exact hp)
 clear h hx
 go_enter Tryz.func125,Tryz.ntmps125
 go_wp2_with fail
 refine (hin _).mono ?_
 rintro e w1 ⟨v,rfl,hv,hb1⟩
 obtain ⟨A1,l1,c1,k1,rfl⟩ := hv.open
 go_wp2_with fail
 have hx0 := BoxP.alloc (w.alloc (.cells #[.bool k0,.slice A0 l0 c0] 88)) none 0 0 false
 rw [World.size_alloc] at hx0
 have hlt1 : w.heap.size + 1 < w1.heap.size := by have := hb1.size;simp at this;omega
 have hbw : Below w.heap.size w w1 := (((Below.refl _ _).alloc (Nat.le_refl _) _).alloc (by simp) _).trans (hb1.mono (by simp;omega))
 have hR0 : RaR w w1.heap.size k0 (.slice A0 l0 c0) ((x ^ 0 : Nat) : Int) (w1.alloc (.cells #[.bool k1,.slice A1 l1 c1] 88)) A1 l1 c1 k1 := by
  have hba : Below w1.heap.size w1 (w1.alloc (.cells #[.bool k1,.slice A1 l1 c1] 88)) := (Below.refl _ _).alloc (Nat.le_refl _) _
  refine ⟨heap_alloc_new w1 _,by rw [Nat.pow_zero];exact hv.below hba,?_,?_,(hx0.below hb1 (by simp)).below hba hlt1,hbw.trans (hba.mono hbw.size),hlt1⟩
  · rw [hba.cell (by show w.heap.size < w1.heap.size;omega),hb1.cell (by simp;omega)];simp [go_sem]
  · rw [hba.cell (by show w.heap.size < w1.heap.size;omega),hb1.cell (by simp;omega)];simp [go_sem]
 obtain ⟨g,hg⟩ : ∃ g,g = w1.heap.size := ⟨_,rfl⟩
 rw [← hg] at hR0
 simp only [← hg]
 clear hv hx0 hlt1 hbw hb1 hin
 go_loopg [6] n (fun r iv W => ∃ (k : Nat) (A : Option Addr) (l c : Nat) (b : Bool),r = n - k ∧ iv = .int .i64 (k : Int) ∧ k ≤ n ∧ RaR w g k0 (.slice A0 l0 c0) ((x ^ k : Nat) : Int) W A l c b)
 case atStart => exact ⟨0,_,_,_,_,rfl,rfl,Nat.zero_le _,hR0⟩
 case round =>
  clear hR0 hg
  obtain ⟨k,A,l,c,b,rfl,rfl,hk,hR⟩ := hrel
  obtain ⟨hc0,hc1⟩ := hR.cells
  by_cases ha : k < n
  · have hka : (k : Int) < (n : Int) := by omega
    have ha0 := hR.a0
    have ha1 := hR.a1
    have ht := HT.out k wr _ (by omega) hR.bel hR.val
    have HR := Lib.hid (And.intro hR (And.intro ha hk))
    clear hR ha hk
    go_wp2_with fail
    refine ht.mono ?_
    rintro e w2 ⟨v2,rfl,hv2,hb2⟩
    obtain ⟨A2,l2,c2,k2,rfl⟩ := hv2.open
    have hbx := HR.out.1.box.below hb2 HR.out.1.box.lt
    obtain ⟨⟨q0,hd0⟩,⟨q1,hd1⟩,hf0,hf1⟩ := hbx.facts
    have hst := HR.out.1.step hb2 hv2
    clear ht hv2 hb2 hbx
    go_wp2_with fail
    go_roundg (n - (k + 1))
    case measure => have := HR.out.2.1;omega
    case rel => exact ⟨k + 1,A2,l2,c2,k2,rfl,by go_num,by have := HR.out.2.1;omega,hst⟩
  · have hkn : k = n := by omega
    subst hkn
    have hka : ¬ (k : Int) < (k : Int) := by omega
    obtain ⟨⟨q0,hd0⟩,⟨q1,hd1⟩,hf0,hf1⟩ := hR.bx.facts
    have HR := Lib.hid hR
    clear hR ha hk
    go_wp2_with fail
    exact bodyPost_ret (v := .agg #[.bool b,.slice A l c]) (by simp [results,Tryz.results125,go_sem,hd0,hd1]) rfl ⟨_,rfl,HR.out.val.sets HR.out.bx _ _,(HR.out.bel.setCell (by simp) _).setCell (by simp) _⟩
end Go.Proofs.YtlfgpmnjnpdkdaaGreatDoor
namespace Go.Proofs.YtlfgpmnjnpdkdaaGreatDoor
open Go.RowKit Vd
theorem padd4 (n : Nat) : (padd 4 n).map (·.toNat) = [48 + n / 1000 % 10,48 + n / 100 % 10,48 + n / 10 % 10,48 + n % 10] := by
 have h : padd 4 n = [dig (n / 10 / 10 / 10 % 10),dig (n / 10 / 10 % 10),dig (n / 10 % 10),dig (n % 10)] := rfl
 rw [show n / 10 / 10 / 10 = n / 1000 by omega,show n / 10 / 10 = n / 100 by omega] at h
 rw [h]
 simp only [List.map_cons,List.map_nil]
 rw [dig_toNat (Nat.mod_lt _ (by omega)),dig_toNat (Nat.mod_lt _ (by omega)),dig_toNat (Nat.mod_lt _ (by omega)),dig_toNat (Nat.mod_lt _ (by omega))]
set_option maxRecDepth 100000 in
set_option maxHeartbeats 1000000 in
theorem four_any (n : Nat) (w : World) (hn : n < 10000) :
 Calls Tryz.prog 145 #[.int .i64 (n : Int)] w fun e w' => e = .returned (.string ⟨(padd 4 n).toArray⟩) ∧ Below w.heap.size w w' := by
 obtain ⟨x1,h1⟩ : ∃ x,x = 48 + n / 1000 % 10 := ⟨_,rfl⟩
 obtain ⟨x2,h2⟩ : ∃ x,x = 48 + n / 100 % 10 := ⟨_,rfl⟩
 obtain ⟨x3,h3⟩ : ∃ x,x = 48 + n / 10 % 10 := ⟨_,rfl⟩
 obtain ⟨x4,h4⟩ : ∃ x,x = 48 + n % 10 := ⟨_,rfl⟩
 have hp := padd4 n
 rw [← h1,← h2,← h3,← h4] at hp
 have hcv : ∀ W : World,(convert 184 9 (.slice (some ⟨W.heap.size,0,none⟩) 4 4)).run Tryz.prog (W.alloc (.cells #[.int .u8 (x1 : Int),.int .u8 (x2 : Int),.int .u8 (x3 : Int),.int .u8 (x4 : Int)] 5)) = .ok (.string ⟨(padd 4 n).toArray⟩) (W.alloc (.cells #[.int .u8 (x1 : Int),.int .u8 (x2 : Int),.int .u8 (x3 : Int),.int .u8 (x4 : Int)] 5)) := fun W =>
  conv_suffix (Row.new W B8 5 [x1,x2,x3,x4]) (by rw [List.drop_zero,hp]) (padd_length 4 n)
 have e1 : IntKind.u8.wrap (48 + (n : Int) / 1000) = (x1 : Int) := by rw [IntKind.wrap_u8];omega
 have e2 : IntKind.u8.wrap (48 + (n : Int) / 100 % 10) = (x2 : Int) := by rw [IntKind.wrap_u8];omega
 have e3 : IntKind.u8.wrap (48 + (n : Int) / 10 % 10) = (x3 : Int) := by rw [IntKind.wrap_u8];omega
 have e4 : IntKind.u8.wrap (48 + (n : Int) % 10) = (x4 : Int) := by rw [IntKind.wrap_u8];omega
 have k1 : (0 : Int) ≤ (n : Int) := by omega
 have k2 : (n : Int) ≤ 9999 := by omega
 clear h1 h2 h3 h4 hp hn
 go_enter Tryz.func145,Tryz.ntmps145
 go_wp2_with fail
 go_ret
 exact ⟨rfl,(Below.refl _ _).alloc (Nat.le_refl _) _⟩
theorem appB (l k : List UInt8) : (⟨l.toArray⟩ : ByteArray) ++ ⟨k.toArray⟩ = ⟨(l ++ k).toArray⟩ := by
 apply ByteArray.ext
 rw [ByteArray.data_append]
 apply Array.ext'
 simp
theorem padd_step {m L j : Nat} (h : j < L) : padd (4 * (L - j)) (m / B4 ^ j) = padd (4 * (L - (j + 1))) (m / B4 ^ (j + 1)) ++ padd 4 (wd B4 m j) := by
 rw [wd_eq two_le_B4,show B4 = 10 ^ 4 from rfl,padd_mod,show 4 * (L - j) = 4 * (L - (j + 1)) + 4 by omega,padd_add,Nat.div_div_eq_div_mul,Nat.pow_succ (10 ^ 4) j]
theorem strip_drop {l : List UInt8} {k : Nat} (h : strip l = strip (l.drop k)) (hk : l[k]? = some 48) : strip l = strip (l.drop (k + 1)) := by
 have hlt : k < l.length := by
  rcases Nat.lt_or_ge k l.length with h1 | h1
  · exact h1
  · rw [List.getElem?_eq_none h1] at hk;cases hk
 rw [h,List.drop_eq_getElem_cons hlt]
 rw [List.getElem?_eq_getElem hlt] at hk
 injection hk with hk
 rw [hk]
 rfl
theorem strip_end {l : List UInt8} {k : Nat} (h : strip l = strip (l.drop k)) (hk : l[k]? ≠ some 48) : strip l = l.drop k := by
 rw [h]
 rcases Nat.lt_or_ge k l.length with h1 | h1
 · rw [List.drop_eq_getElem_cons h1]
   rw [List.getElem?_eq_getElem h1] at hk
   unfold strip
   rw [if_neg (fun e => hk (by rw [e]))]
 · rw [List.drop_eq_nil_of_le h1];rfl
theorem strip_padd4 {m L : Nat} (hL : wlen B4 m = L) : strip (padd (4 * L) m) = if m = 0 then [] else digs m := by
 rw [strip_digs (padd_all _ _),dval_padd,Nat.mod_eq_of_lt]
 rw [Nat.pow_mul,← hL]
 exact lt_pow_wlen two_le_B4 m
set_option maxRecDepth 100000 in
set_option maxHeartbeats 2000000 in
theorem text4_any (v : Value) (z : Int) (w : World) (h : PlV w v z) (hb : wlen B4 z.natAbs ≤ 1000000) :
 Calls Tryz.prog 117 #[v] w fun e w' => e = .returned (.string ⟨(wr z).toArray⟩) ∧ Below w.heap.size w w' := by
 obtain ⟨m,rfl,A,c,rfl,hlc,hc,hsl⟩ := h
 obtain ⟨b,hbz⟩ : ∃ b,b = decide (z < 0) := ⟨_,rfl⟩
 obtain ⟨N,hN⟩ : ∃ N,N = z.natAbs := ⟨_,rfl⟩
 rw [← hN] at hlc hsl hb ⊢
 rw [← hbz]
 obtain ⟨L,hL⟩ : ∃ L,wlen B4 N = L := ⟨_,rfl⟩
 rw [hL] at hlc hsl hb ⊢
 have hwr : wr z = if b then 45 :: digs N else digs N := by unfold wr;rw [hbz,hN];simp
 have hb0 : N = 0 → b = false := by intro h0;rw [hbz];simp;omega
 have HZ := Lib.hid (And.intro hL (And.intro hwr hb0))
 have hbW : Below w.heap.size w (w.alloc (.cells #[.bool b,.slice A L c] 88)) := (Below.refl _ _).alloc (Nat.le_refl _) _
 have hb1 : World.cell? (w.alloc (.cells #[.bool b,.slice A L c] 88)) ⟨w.heap.size,0,none⟩ = some (.bool b) := by simp [go_sem]
 have hb2 : World.cell? (w.alloc (.cells #[.bool b,.slice A L c] 88)) ⟨w.heap.size,1,none⟩ = some (.slice A L c) := by simp [go_sem]
 have hlt0 : w.heap.size < (w.alloc (.cells #[.bool b,.slice A L c] 88)).heap.size := by simp
 have i1 : IntKind.i64.wrap ((L : Int) - 1) = (L : Int) - 1 := by rw [IntKind.wrap_i64];omega
 clear hbz hN hL hwr hb0 hlc hc
 go_enter Tryz.func117,Tryz.ntmps117
 go_wp2_with fail
 go_loopg [3,4] L (fun r sv iv W => ∃ (j : Nat) (s : List UInt8),j = r ∧ j ≤ L ∧ iv = .int .i64 ((j : Int) - 1) ∧ sv = .string ⟨s.toArray⟩ ∧ s = padd (4 * (L - j)) (N / B4 ^ j) ∧ W.cell? ⟨w.heap.size,0,none⟩ = some (.bool b) ∧ W.cell? ⟨w.heap.size,1,none⟩ = some (.slice A L c) ∧ Below w.heap.size w W ∧ w.heap.size < W.heap.size)
 case atStart => exact ⟨L,[],rfl,Nat.le_refl _,by first | rfl | rw [i1],rfl,by rw [Nat.sub_self];rfl,hb1,hb2,hbW,hlt0⟩
 case round =>
  clear hb1 hb2 hbW hlt0
  obtain ⟨j,s,rfl,hj,rfl,rfl,hs,hc0,hc1,hbel,hlt⟩ := hrel
  cases j with
  | zero =>
    rw [show (((0 : Nat) : Int) - 1) = -1 from rfl]
    rw [Nat.sub_zero,Nat.pow_zero,Nat.div_one] at hs
    have hstr := strip_padd4 HZ.out.1
    rw [← hs] at hstr
    have hslen : s.length ≤ 4000000 := by rw [hs,padd_length];omega
    have HS := Lib.hid (And.intro hstr hslen)
    clear hs hstr hslen hj
    go_wp2_with fail
    go_loopg [5] s.length (fun r kv W => ∃ k : Nat,r = s.length - k ∧ kv = .int .i64 (k : Int) ∧ k ≤ s.length ∧ strip s = strip (s.drop k) ∧ W = wr)
    case atStart => exact ⟨0,rfl,rfl,Nat.zero_le _,rfl,rfl⟩
    case round =>
     obtain ⟨k,rfl,rfl,hk,hst,rfl⟩ := hrel
     have hkI : (k : Int) ≤ (s.length : Int) := by omega
     have hk0 : (0 : Int) ≤ (k : Int) := by omega
     have hkm : (k : Int) ≤ 4000000 := by have := HS.out.2;omega
     obtain ⟨t,ht⟩ : ∃ t,t = s.drop k := ⟨_,rfl⟩
     have hex : (⟨s.toArray⟩ : ByteArray).extract k s.length = ⟨t.toArray⟩ := by rw [ht];exact extB s k
     have htl : t.length ≤ 4000000 := by rw [ht,List.length_drop];have := HS.out.2;omega
     have hln : ¬ 9223372036854775807 < 1 + t.length := by omega
     have happ : (⟨#[45]⟩ : ByteArray) ++ ⟨t.toArray⟩ = ⟨(45 :: t).toArray⟩ := appB [45] t
     by_cases ha : k < s.length
     · have hka : (k : Int) < (s.length : Int) := by omega
       have hkb : k < (⟨s.toArray⟩ : ByteArray).size := ha
       obtain ⟨x,hx⟩ : ∃ x,s[k]? = some x := ⟨s[k],List.getElem?_eq_getElem ha⟩
       have hgx := getB ha x hx hkb
       by_cases hd : x = 48
       · have K1 : ((x.toNat : Int) == 48) = true := by rw [hd];decide
         have hst' := strip_drop hst (by rw [hx,hd])
         have HK := Lib.hid (And.intro ha hst')
         clear hx hd hst hst' hk ha happ hln htl hex ht
         go_wp2_with fail
         go_roundg (s.length - (k + 1))
         case measure => have := HK.out.1;omega
         case rel => exact ⟨k + 1,rfl,by go_num,by have := HK.out.1;omega,HK.out.2,rfl⟩
       · have K1 : ((x.toNat : Int) == 48) = false := by
          rw [beq_eq_false_iff_ne]
          intro e
          exact hd (UInt8.toNat_inj.1 (by have : x.toNat = 48 := by omega
                                          rw [this];rfl))
         have hst' := strip_end hst (by rw [hx];intro e;injection e with e;exact hd e)
         rw [HS.out.1,← ht] at hst'
         have htn : t ≠ [] := by rw [ht];intro e;have := List.drop_eq_nil_iff.1 e;omega
         have hN0 : N ≠ 0 := by intro e;rw [if_pos e] at hst';exact htn hst'.symm
         rw [if_neg hN0] at hst'
         have E0 : t.isEmpty = false := by cases t with
          | nil => exact absurd rfl htn
          | cons => rfl
         have HK := Lib.hid hst'
         clear hx hd hst hst' hk ha htn hN0 ht
         cases b
         all_goals
          go_wp2_with fail
          first
           | exact bodyPost_ret (v := .string ⟨t.toArray⟩) (by simp [results,Tryz.results117,go_sem]) rfl ⟨by rw [HZ.out.2.1,HK.out];rfl,hbel⟩
           | exact bodyPost_ret (v := .string ⟨(45 :: t).toArray⟩) (by simp only [← happ];simp [results,Tryz.results117,go_sem]) rfl ⟨by rw [HZ.out.2.1,HK.out];rfl,hbel⟩
     · have hka : ¬ (k : Int) < (s.length : Int) := by omega
       have hst' := strip_end hst (by rw [List.getElem?_eq_none (by omega)];exact fun e => by cases e)
       rw [HS.out.1,List.drop_eq_nil_of_le (by omega)] at hst'
       have hN0 : N = 0 := Classical.byContradiction fun e => by rw [if_neg e] at hst';exact digs_ne_nil _ hst'
       have htn : t = [] := by rw [ht];exact List.drop_eq_nil_of_le (by omega)
       have E0 : t.isEmpty = true := by rw [htn];rfl
       have HK := Lib.hid (And.intro hN0 (HZ.out.2.2 hN0))
       clear hst hst' hk ha htn hN0 ht
       go_wp2_with fail
       exact bodyPost_ret (v := .string ⟨#[48]⟩) (by simp [results,Tryz.results117,go_sem]) rfl ⟨by rw [HZ.out.2.1,HK.out.2,HK.out.1,digs_zero];rfl,hbel⟩
  | succ j =>
    rw [show (((j + 1 : Nat) : Int) - 1) = (j : Int) from by omega]
    obtain ⟨g,o,rfl,hg,hcell⟩ := hsl.at_ (by omega)
    have hcj := (hbel.cell (p := ⟨g,o + j,none⟩) hg).trans (hcell j (by omega))
    unfold I8 at hcj
    have hD : nth (ws B4 N) j < 10000 := wd_lt two_le_B4 N j
    have hst := padd_step (m := N) (L := L) (j := j) (by omega)
    unfold wd at hst
    obtain ⟨D,hDD⟩ : ∃ D,D = nth (ws B4 N) j := ⟨_,rfl⟩
    rw [← hDD] at hcj hD hst
    have hfo := fun W => four_any D W hD
    obtain ⟨t,ht⟩ : ∃ t,t = padd 4 D := ⟨_,rfl⟩
    have htl : t.length = 4 := by rw [ht,padd_length]
    have hsl2 : s.length ≤ 4000000 := by rw [hs,padd_length];omega
    have hln : ¬ 9223372036854775807 < s.length + t.length := by omega
    have happ := appB s t
    rw [← hs,← ht] at hst
    simp only [← ht] at hfo
    have hjL : (j : Int) < (L : Int) := by omega
    have hj0 : (0 : Int) ≤ (j : Int) := by omega
    have hj1 : IntKind.i64.wrap ((j : Int) - 1) = (j : Int) - 1 := by rw [IntKind.wrap_i64];omega
    have HK := Lib.hid (And.intro hst hj)
    clear hs hst hj hcell hDD ht htl hsl2 hD
    go_wp2_with fail
    refine (hfo _).mono ?_
    rintro e w2 ⟨rfl,hb2⟩
    have hd0 : w2.cell? ⟨w.heap.size,0,none⟩ = some (.bool b) := by rw [hb2.cell hlt];exact hc0
    have hd1 : w2.cell? ⟨w.heap.size,1,none⟩ = some (.slice (some ⟨g,o,none⟩) L c) := by rw [hb2.cell hlt];exact hc1
    have hbel2 : Below w.heap.size w w2 := hbel.trans (hb2.mono hbel.size)
    have hlt2 : w.heap.size < w2.heap.size := Nat.lt_of_lt_of_le hlt hb2.size
    clear hfo hb2 hbel hlt hc0 hc1 hcj
    go_wp2_with fail
    go_roundg j
    case measure => omega
    case rel => exact ⟨j,s ++ t,rfl,by have := HK.out.2;omega,rfl,by first | rfl | rw [happ],HK.out.1.symm,hd0,hd1,hbel2,hlt2⟩
end Go.Proofs.YtlfgpmnjnpdkdaaGreatDoor
