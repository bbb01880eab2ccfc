/- Contracts of the reference: order, difference. Contracts of the reference: Right, In, Integer. Contracts of -/
import Derived.Test.YtlfgpmnjnpdkdaaGreatDoorRefA
import Derived.Deep.RegionHeld3
import Derived.Deep.DrawnRows
import Derived.Laws.AppendOwn
namespace Go.Proofs.YtlfgpmnjnpdkdaaGreatDoor
open Go.RowKit Vd
attribute [local go_sem ↓] Go.wp_at_zero Go.wp_at_succ
def OrdP (a b : Nat) (w : World) (e : Ending) (w' : World) : Prop := ∃ d : Int,e = .returned (.int .i64 d) ∧ (d < 0 ↔ a < b) ∧ (d = 0 ↔ a = b) ∧ ∃ q,w' = w.drewN q
theorem ordP_lt {a b : Nat} {w w' : World} {e : Ending} (d : Int) (he : e = .returned (.int .i64 d)) (hd : d < 0) (h : a < b) (hw : ∃ q,w' = w.drewN q) : OrdP a b w e w' :=
 ⟨d,he,⟨fun _ => h,fun _ => hd⟩,⟨fun h0 => by omega,fun h0 => by omega⟩,hw⟩
theorem ordP_gt {a b : Nat} {w w' : World} {e : Ending} (d : Int) (he : e = .returned (.int .i64 d)) (hd : 0 < d) (h : b < a) (hw : ∃ q,w' = w.drewN q) : OrdP a b w e w' :=
 ⟨d,he,⟨fun h0 => by omega,fun h0 => by omega⟩,⟨fun h0 => by omega,fun h0 => by omega⟩,hw⟩
theorem ordP_eq {a b : Nat} {w w' : World} {e : Ending} (he : e = .returned (.int .i64 0)) (h : a = b) (hw : ∃ q,w' = w.drewN q) : OrdP a b w e w' :=
 ⟨0,he,⟨fun h0 => by omega,fun h0 => by omega⟩,⟨fun _ => h,fun _ => rfl⟩,hw⟩
set_option maxRecDepth 100000 in
set_option maxHeartbeats 1000000 in
theorem order4_same (A1 A2 : Option Addr) (n c1 c2 : Nat) (xs ys : List Nat) (w : World) (hx : Sl w I8 A1 n xs) (hy : Sl w I8 A2 n ys) (ox : Ok B4 xs) (oy : Ok B4 ys) (hn : n ≤ 1000000000) :
 Calls Tryz.prog 152 #[.slice A1 n c1,.slice A2 n c2] w (OrdP (val B4 xs) (val B4 ys) w) := by
 have HX := Lib.hid hx.len
 have HY := Lib.hid hy.len
 have hne : (!((n : Int) == (n : Int))) = false := by simp
 go_enter Tryz.func152,Tryz.ntmps152
 go_wp2
 go_loopw [5] (fun i wr => ∃ k : Nat,k ≤ n ∧ i = .int .i64 ((k : Int) - 1) ∧ xs.drop k = ys.drop k ∧ ∃ d,wr = w.drewN d) (fun i _ => ((intOf i) + 1).toNat)
 case atStart => exact ⟨n,Nat.le_refl _,rfl,by rw [List.drop_eq_nil_of_le (by rw [HX.out];omega),List.drop_eq_nil_of_le (by rw [HY.out];omega)],0,rfl⟩
 case round =>
  obtain ⟨k,hk,rfl,hdr,d,rfl⟩ := hrel
  cases k with
  | zero =>
    rw [show (((0 : Nat) : Int) - 1) = -1 from rfl]
    have e : xs = ys := by simpa using hdr
    clear hdr hx hy
    go_wp2
    go_ret
    subst e
    exact ordP_eq rfl rfl ⟨d,rfl⟩
  | succ j =>
    rw [show (((j + 1 : Nat) : Int) - 1) = (j : Int) from by omega]
    have Hd := Lib.hid hdr
    clear hdr
    obtain ⟨g,o,rfl,hg,hcx⟩ := hx.at_ (by omega)
    obtain ⟨g2,o2,rfl,hg2,hcy⟩ := hy.at_ (by omega)
    have h1 := hcx j (by omega)
    have h2 := hcy j (by omega)
    unfold I8 at h1 h2
    have hj : (j : Int) < (n : Int) := by omega
    have hj0 : (0 : Int) ≤ (j : Int) := by omega
    clear hcx hcy hx hy
    by_cases he : nth xs j = nth ys j
    · have hb : ((nth xs j : Int) != (nth ys j : Int)) = false := by rw [he];simp
      have He := Lib.hid he
      clear he
      go_wp2
      go_quiet (fail)
      go_wp2
      refine ⟨⟨j,by omega,rfl,drop_eq_step (by rw [HX.out,HY.out]) (by rw [HX.out];omega) Hd.out He.out,_,rfl⟩,by simp [intOf]⟩
    · have hb : ((nth xs j : Int) != (nth ys j : Int)) = true := by rw [bne_iff_ne];omega
      have hxk := ox.get two_le_B4 j
      have hyk := oy.get two_le_B4 j
      rw [B4_eq] at hxk hyk
      have k1 : IntKind.i64.wrap ((nth xs j : Int) - (nth ys j : Int)) = (nth xs j : Int) - (nth ys j : Int) := by rw [IntKind.wrap_i64];omega
      have He := Lib.hid (And.intro he (And.intro hxk hyk))
      clear he hxk hyk
      go_wp2
      go_quiet (fail)
      go_wp2
      go_quiet (fail)
      go_wp2
      go_ret
      simp only [World.drewN_drewN]
      have hl := HX.out
      have hl2 := HY.out
      rcases Nat.lt_or_ge (nth xs j) (nth ys j) with h | h
      · exact ordP_lt _ rfl (by omega) (val_lt_of_top (by rw [HX.out,HY.out]) ox (by omega) Hd.out h) ⟨_,rfl⟩
      · have := He.out.1
        exact ordP_gt _ rfl (by omega) (val_lt_of_top (by rw [HX.out,HY.out]) oy (by omega) Hd.out.symm (by omega)) ⟨_,rfl⟩
set_option maxRecDepth 100000 in
set_option maxHeartbeats 1000000 in
theorem order4_len (A1 A2 : Option Addr) (n1 n2 c1 c2 : Nat) (w : World) (hne : n1 ≠ n2) (b1 : n1 ≤ 1000000000) (b2 : n2 ≤ 1000000000) :
 Calls Tryz.prog 152 #[.slice A1 n1 c1,.slice A2 n2 c2] w fun e w' => e = .returned (.int .i64 ((n1 : Int) - (n2 : Int))) ∧ w = w' := by
 have hb : ((n1 : Int) != (n2 : Int)) = true := by rw [bne_iff_ne];omega
 have k1 : IntKind.i64.wrap ((n1 : Int) - (n2 : Int)) = (n1 : Int) - (n2 : Int) := by rw [IntKind.wrap_i64];omega
 have i1 : (0 : Int) ≤ (n1 : Int) := by omega
 have i2 : (n1 : Int) ≤ 1000000000 := by omega
 have i3 : (0 : Int) ≤ (n2 : Int) := by omega
 have i4 : (n2 : Int) ≤ 1000000000 := by omega
 clear hne
 go_enter Tryz.func152,Tryz.ntmps152
 go_wp2_with fail
 go_ret
 exact ⟨rfl,rfl⟩
theorem order4_any (v1 v2 : Value) (m o : Nat) (w : World) (h1 : DigV w v1 m) (h2 : DigV w v2 o) (b1 : wlen B4 m ≤ 1000000000) (b2 : wlen B4 o ≤ 1000000000) :
 Calls Tryz.prog 152 #[v1,v2] w (OrdP m o w) := by
 obtain ⟨A1,c1,rfl,_,_,s1⟩ := h1
 obtain ⟨A2,c2,rfl,_,_,s2⟩ := h2
 by_cases he : wlen B4 m = wlen B4 o
 · rw [he] at s1 ⊢
   have h := order4_same A1 A2 _ c1 c2 _ _ w s1 s2 (ok_ws _) (ok_ws _) b2
   rwa [val_ws two_le_B4,val_ws two_le_B4] at h
 · refine (order4_len A1 A2 _ _ c1 c2 w he b1 b2).mono ?_
   rintro e w' ⟨rfl,rfl⟩
   rcases Nat.lt_or_ge (wlen B4 m) (wlen B4 o) with h | h
   · exact ordP_lt _ rfl (by omega) (lt_of_wlen_lt two_le_B4 h) ⟨0,rfl⟩
   · exact ordP_gt _ rfl (by omega) (lt_of_wlen_lt two_le_B4 (by omega)) ⟨0,rfl⟩
theorem dif_step {xs ys zs : List Nat} {k br br' D : Nat} (hl : zs.length = k) (h : val B4 zs + val B4 (ys.take k) = val B4 (xs.take k) + br * B4 ^ k) (e : D + nth ys k + br = nth xs k + B4 * br') :
 val B4 (zs ++ [D]) + val B4 (ys.take (k + 1)) = val B4 (xs.take (k + 1)) + br' * B4 ^ (k + 1) := by
 rw [val_snoc,hl,val_take_succ,val_take_succ,Nat.pow_succ,Nat.mul_comm (B4 ^ k) D]
 exact borrow_step _ _ _ _ _ _ _ _ _ _ h e
structure DifR (w : World) (n1 : Nat) (xs ys : List Nat) (k br : Nat) (zs : List Nat) (v : Value) (W : World) : Prop where
 kl : k ≤ n1
 cl : br ≤ 1
 len : zs.length = k
 ok : Ok B4 zs
 val : val B4 zs + val B4 (ys.take k) = val B4 (xs.take k) + br * B4 ^ k
 own : W.ownsRow w.heap.size 3 1 v k (zs.map I8)
 bel : Below w.heap.size w W
theorem DifR.step {w : World} {n1 : Nat} {xs ys : List Nat} {k br br' D : Nat} {zs : List Nat} {v : Value} {W : World} (h : DifR w n1 xs ys k br zs v W) (hk : k < n1) (hD : D < B4) (hb : br' ≤ 1) (e : D + nth ys k + br = nth xs k + B4 * br')
 {v' : Value} {w1 : World} {t : TypeId} (hown' : w1.ownsRow w.heap.size 3 1 v' (k + 1) (zs.map I8 ++ [.int .i64 (D : Int)])) (hg : (W.alloc (.cells #[.int .i64 (D : Int)] t)).grownBy w1 v.ownBlock) :
 DifR w n1 xs ys (k + 1) br' (zs ++ [D]) v' w1 := by
 refine ⟨by omega,hb,by rw [List.length_append,h.len];rfl,h.ok.app (Ok.cons hD Ok.nil),dif_step h.len h.val e,?_,?_⟩
 · rw [List.map_append];exact hown'
 · have hB := h.bel.size
   exact below_own (h.bel.alloc hB _) (h.own.alloc _) hg (Nat.le_refl _) (by simp;omega)
set_option maxRecDepth 100000 in
set_option maxHeartbeats 4000000 in
theorem difference4_core (A1 A2 : Option Addr) (n1 n2 c1 c2 : Nat) (xs ys : List Nat) (w : World) (hx : Sl w I8 A1 n1 xs) (hy : Sl w I8 A2 n2 ys) (ox : Ok B4 xs) (oy : Ok B4 ys) (b1 : n1 ≤ 1000000000) (hle : n2 ≤ n1) (hv : val B4 ys ≤ val B4 xs) :
 Calls Tryz.prog 153 #[.slice A1 n1 c1,.slice A2 n2 c2] w fun e w' => ∃ A n c,e = .returned (.slice A n c) ∧ DigV w' (.slice A n c) (val B4 xs - val B4 ys) ∧ Below w.heap.size w w' := by
 obtain ⟨i0,hi,hz0,hz1,hz2⟩ := info_parts infoI
 have HI := Lib.hid (And.intro hi (And.intro hz0 (And.intro hz1 hz2)))
 have HX := Lib.hid (And.intro hx.len (And.intro hy.len (And.intro hle hv)))
 clear hi hz0 hz1 hz2 hv hle
 go_enter Tryz.func153,Tryz.ntmps153
 go_wp2_with fail
 go_loopg [5,6,7] n1 (fun r v cv iv W => ∃ (k br : Nat) (zs : List Nat) (dv : Value),dv = v ∧ r = n1 - k ∧ iv = .int .i64 (k : Int) ∧ cv = .int .i64 (br : Int) ∧ DifR w n1 xs ys k br zs v W)
 case atStart => exact ⟨0,0,[],_,rfl,rfl,rfl,rfl,⟨Nat.zero_le _,Nat.zero_le _,rfl,Ok.nil,by simp [val_nil],World.ownsRow_nil _ _ _ _,Below.refl _ _⟩⟩
 case round =>
  obtain ⟨k,br,zs,dv,hdv,rfl,rfl,rfl,hR⟩ := hrel
  subst hdv
  have hxk := ox.get two_le_B4 k
  have hyk := oy.get two_le_B4 k
  rw [B4_eq] at hxk hyk
  have hcl := hR.cl
  have p1 : (0 : Int) ≤ (br : Int) := by omega
  have p2 : (br : Int) ≤ 1 := by omega
  have p3 : (0 : Int) ≤ (nth xs k : Int) := by omega
  have p4 : (nth xs k : Int) ≤ 9999 := by omega
  have p5 : (0 : Int) ≤ (nth ys k : Int) := by omega
  have p6 : (nth ys k : Int) ≤ 9999 := by omega
  have p7 : (0 : Int) ≤ (k : Int) := by omega
  have hkl := hR.kl
  have p8 : (k : Int) ≤ 1000000001 := by omega
  have hown := hR.own
  have hB := hR.bel.size
  by_cases ha : k < n1
  · have hka : (k : Int) < (n1 : Int) := by omega
    have hl9 : k + 1 ≤ 1000000002 := by omega
    obtain ⟨g1,o1,rfl,hg1,hc1⟩ := hx.at_ (by omega)
    have hca := (hR.bel.cell (p := ⟨g1,o1 + k,none⟩) hg1).trans (hc1 k ha)
    unfold I8 at hca
    obtain ⟨D,br',hD,hbr',e,hsgn,hneg⟩ : ∃ D br' : Nat,D < B4 ∧ br' ≤ 1 ∧ D + nth ys k + br = nth xs k + B4 * br' ∧ (br' = 0 → (nth xs k : Int) - br - nth ys k = D ∧ ¬ (D : Int) < 0) ∧ (br' = 1 → (nth xs k : Int) - br - nth ys k + 10000 = D ∧ (nth xs k : Int) - br - nth ys k < 0) := by
     by_cases hn : nth ys k + br ≤ nth xs k
     · exact ⟨nth xs k - (nth ys k + br),0,by rw [B4_eq];omega,by omega,by omega,fun _ => by omega,fun h => by omega⟩
     · exact ⟨nth xs k + 10000 - (nth ys k + br),1,by rw [B4_eq];omega,by omega,by rw [B4_eq];omega,fun h => by omega,fun _ => by omega⟩
    have hnew := news_one wr (.int .i64 (D : Int)) 3 rfl
    have hownA := hown.alloc (.cells #[.int .i64 (D : Int)] 3)
    by_cases hb : k < n2
    · have hkb : (k : Int) < (n2 : Int) := by omega
      obtain ⟨g2,o2,rfl,hg2,hc2⟩ := hy.at_ (by omega)
      have hcb := (hR.bel.cell (p := ⟨g2,o2 + k,none⟩) hg2).trans (hc2 k hb)
      unfold I8 at hcb
      have HV := Lib.hid (And.intro hR (And.intro ha (And.intro hD e)))
      clear hR hkl hown ha hb hxk hyk hcl hD e hc1 hc2
      rcases Nat.lt_or_ge 0 br' with h0 | h0
      · obtain rfl : br' = 1 := by omega
        obtain ⟨e1,e2⟩ := hneg rfl
        clear h0 hsgn hneg hbr'
        go_wp2_with (at_builtin;refine wpList_append_own _ rfl (.tmp 35) (.tmp 37) 86 rfl w.heap.size 3 i0 (.int .i64 0) 1 8 Tryz.underlying86 HI.out.1 HI.out.2.1 HI.out.2.2.1 HI.out.2.2.2 rfl (by decide) dv k (zs.map I8) rfl hownA ⟨wr.heap.size,0,none⟩ 1 1 [.int .i64 (D : Int)] rfl rfl hnew.1 hnew.2 (by unfold maxLen;omega) (by omega) (by simp;omega) ?_;intro v' w1 hown' hgrow _)
        go_wp2_with fail
        go_roundg (n1 - (k + 1))
        case measure => have := HV.out.2.1;omega
        case rel => exact ⟨k + 1,1,_,_,rfl,rfl,by go_num,rfl,HV.out.1.step HV.out.2.1 HV.out.2.2.1 (by omega) HV.out.2.2.2 hown' hgrow⟩
      · obtain rfl : br' = 0 := by omega
        obtain ⟨e1,e2⟩ := hsgn rfl
        clear h0 hsgn hneg hbr'
        go_wp2_with (at_builtin;refine wpList_append_own _ rfl (.tmp 35) (.tmp 37) 86 rfl w.heap.size 3 i0 (.int .i64 0) 1 8 Tryz.underlying86 HI.out.1 HI.out.2.1 HI.out.2.2.1 HI.out.2.2.2 rfl (by decide) dv k (zs.map I8) rfl hownA ⟨wr.heap.size,0,none⟩ 1 1 [.int .i64 (D : Int)] rfl rfl hnew.1 hnew.2 (by unfold maxLen;omega) (by omega) (by simp;omega) ?_;intro v' w1 hown' hgrow _)
        go_wp2_with fail
        go_roundg (n1 - (k + 1))
        case measure => have := HV.out.2.1;omega
        case rel => exact ⟨k + 1,0,_,_,rfl,rfl,by go_num,rfl,HV.out.1.step HV.out.2.1 HV.out.2.2.1 (by omega) HV.out.2.2.2 hown' hgrow⟩
    · have hkb : ¬ (k : Int) < (n2 : Int) := by omega
      have hy0 : nth ys k = 0 := nth_ge (by have := HX.out.2.1;omega)
      rw [hy0] at hsgn hneg
      rw [show (((0 : Nat)) : Int) = 0 from rfl,Int.sub_zero] at hsgn hneg
      have HV := Lib.hid (And.intro hR (And.intro ha (And.intro hD e)))
      clear hR hkl hown ha hb hxk hyk hcl hD e hc1 hy0 p5 p6
      rcases Nat.lt_or_ge 0 br' with h0 | h0
      · obtain rfl : br' = 1 := by omega
        obtain ⟨e1,e2⟩ := hneg rfl
        clear h0 hsgn hneg hbr'
        go_wp2_with (at_builtin;refine wpList_append_own _ rfl (.tmp 35) (.tmp 37) 86 rfl w.heap.size 3 i0 (.int .i64 0) 1 8 Tryz.underlying86 HI.out.1 HI.out.2.1 HI.out.2.2.1 HI.out.2.2.2 rfl (by decide) dv k (zs.map I8) rfl hownA ⟨wr.heap.size,0,none⟩ 1 1 [.int .i64 (D : Int)] rfl rfl hnew.1 hnew.2 (by unfold maxLen;omega) (by omega) (by simp;omega) ?_;intro v' w1 hown' hgrow _)
        go_wp2_with fail
        go_roundg (n1 - (k + 1))
        case measure => have := HV.out.2.1;omega
        case rel => exact ⟨k + 1,1,_,_,rfl,rfl,by go_num,rfl,HV.out.1.step HV.out.2.1 HV.out.2.2.1 (by omega) HV.out.2.2.2 hown' hgrow⟩
      · obtain rfl : br' = 0 := by omega
        obtain ⟨e1,e2⟩ := hsgn rfl
        clear h0 hsgn hneg hbr'
        go_wp2_with (at_builtin;refine wpList_append_own _ rfl (.tmp 35) (.tmp 37) 86 rfl w.heap.size 3 i0 (.int .i64 0) 1 8 Tryz.underlying86 HI.out.1 HI.out.2.1 HI.out.2.2.1 HI.out.2.2.2 rfl (by decide) dv k (zs.map I8) rfl hownA ⟨wr.heap.size,0,none⟩ 1 1 [.int .i64 (D : Int)] rfl rfl hnew.1 hnew.2 (by unfold maxLen;omega) (by omega) (by simp;omega) ?_;intro v' w1 hown' hgrow _)
        go_wp2_with fail
        go_roundg (n1 - (k + 1))
        case measure => have := HV.out.2.1;omega
        case rel => exact ⟨k + 1,0,_,_,rfl,rfl,by go_num,rfl,HV.out.1.step HV.out.2.1 HV.out.2.2.1 (by omega) HV.out.2.2.2 hown' hgrow⟩
  · obtain rfl : k = n1 := by omega
    have hka : ¬ (k : Int) < (k : Int) := by omega
    obtain ⟨A,c,rfl,hnc,hcm,hsl⟩ := owns_sl hown
    have hval := hR.val
    rw [List.take_of_length_le (by have := HX.out.2.1;have := HX.out.2.2.1;omega),List.take_of_length_le (by rw [HX.out.1];exact Nat.le_refl _)] at hval
    have hz : val B4 zs = val B4 xs - val B4 ys := by
     have hlt := val_lt hR.ok
     rw [hR.len] at hlt
     have := HX.out.2.2.2
     rcases Nat.lt_or_ge 0 br with h0 | h0
     · have h1 : B4 ^ k ≤ br * B4 ^ k := Nat.le_mul_of_pos_left _ h0
       omega
     · have h1 : br = 0 := by omega
       subst h1
       omega
    have hcut := cut4_dig A k c zs wr hsl hR.ok hnc hcm
    rw [hz] at hcut
    have HB := Lib.hid hR.bel
    clear hR hval hz hown hsl hnc hcm hxk hyk hcl hkl ha hB
    go_wp2_with fail
    refine hcut.mono ?_
    rintro e w2 ⟨n,rfl,hn,hd,rfl⟩
    clear hn hcut
    go_wp2_with fail
    go_ret
    exact ⟨A,n,c,rfl,hd,HB.out⟩
theorem difference4_any (m1 m2 : Value) (a b : Nat) (w : World) (h1 : DigV w m1 a) (h2 : DigV w m2 b) (b1 : wlen B4 a ≤ 1000000000) (h : b ≤ a) :
 Calls Tryz.prog 153 #[m1,m2] w fun e w' => ∃ A n c,e = .returned (.slice A n c) ∧ DigV w' (.slice A n c) (a - b) ∧ Below w.heap.size w w' := by
 obtain ⟨A1,c1,rfl,_,_,s1⟩ := h1
 obtain ⟨A2,c2,rfl,_,_,s2⟩ := h2
 have hr := difference4_core A1 A2 _ _ c1 c2 _ _ w s1 s2 (ok_ws _) (ok_ws _) b1 (wlen_mono two_le_B4 h) (by rw [val_ws two_le_B4,val_ws two_le_B4];exact h)
 rwa [val_ws two_le_B4,val_ws two_le_B4] at hr
end Go.Proofs.YtlfgpmnjnpdkdaaGreatDoor
namespace Go.Proofs.YtlfgpmnjnpdkdaaGreatDoor
open Go.RowKit Vd
attribute [local go_sem ↓] Go.wp_at_zero Go.wp_at_succ
def okB (l : List UInt8) : Bool := (rd l).isSome
theorem okB_no {l : List UInt8} (h : 600 < (cutm l).1.length ∨ (cutm l).1 = [] ∨ ((cutm l).1.head? = some 48 ∧ l ≠ [48]) ∨ (cutm l).1.all isDig = false) : okB l = false := by
 unfold okB
 by_cases hl : 600 < (cutm l).1.length
 · have : rd l = none := by unfold rd;rw [if_neg (by rw [maxDigits_eq];omega)]
   rw [this];rfl
 · have hn : rdAny l = none := rdAny_none_head (h.resolve_left hl)
   have : rd l = none := by unfold rd;rw [hn];split <;> rfl
   rw [this];rfl
theorem okB_yes {l : List UInt8} (h0 : (cutm l).1.length ≤ 600) (h1 : (cutm l).1 ≠ []) (h2 : (cutm l).1.all isDig = true) (h3 : (cutm l).1.head? = some 48 → l = [48]) : okB l = true := by
 obtain ⟨z,hz,_⟩ := rdAny_good h1 h2 h3
 have : rd l = some z := by unfold rd;rw [if_pos (by rw [maxDigits_eq];exact h0),hz]
 unfold okB;rw [this];rfl
theorem cutm_pos {l : List UInt8} (h : l.head? ≠ some 45) : (cutm l).1 = l.drop 0 ∧ (cutm l).2 = false := by unfold cutm;rw [if_neg h];exact ⟨rfl,rfl⟩
theorem cutm_neg {l : List UInt8} (h : l.head? = some 45) : (cutm l).1 = l.drop 1 ∧ (cutm l).2 = true := by unfold cutm;rw [if_pos h];exact ⟨by simp,rfl⟩
theorem byte_ne {x : UInt8} {k : Nat} (hk : k < 256) (h : x ≠ UInt8.ofNat k) : ((x.toNat : Int) == (k : Int)) = false := by
 rw [beq_eq_false_iff_ne]
 intro e
 refine h (UInt8.toNat_inj.1 ?_)
 rw [UInt8.toNat_ofNat',Nat.mod_eq_of_lt hk]
 omega
theorem all_snoc {l : List UInt8} {i : Nat} {x : UInt8} (h : (l.take i).all isDig = true) (hx : l[i]? = some x) (hd : isDig x = true) : (l.take (i + 1)).all isDig = true := by
 rw [take_snoc hx,List.all_append,h]
 simp [hd]
theorem all_no {l : List UInt8} {i : Nat} {x : UInt8} (hx : l[i]? = some x) (hd : isDig x = false) : l.all isDig = false := by
 rw [Bool.eq_false_iff]
 intro h
 rw [List.all_eq_true] at h
 have := h x (List.mem_of_getElem? hx)
 rw [hd] at this;cases this
theorem isDig_no {x : UInt8} (h : isDig x = false) : x.toNat < 48 ∨ 57 < x.toNat := by
 rcases Nat.lt_or_ge x.toNat 48 with h1 | h1
 · exact Or.inl h1
 · rcases Nat.lt_or_ge 57 x.toNat with h2 | h2
   · exact Or.inr h2
   · rw [isDig_iff.2 ⟨h1,h2⟩] at h;cases h
set_option maxRecDepth 100000 in
set_option maxHeartbeats 1000000 in
theorem right_pos (l : List UInt8) (hl : l.length ≤ 1000000) (h0 : 0 < l.length) (hm : l.head? ≠ some 45) (w : World) :
 Calls Tryz.prog 60 #[.string ⟨l.toArray⟩] w fun e w' => e = .returned (.bool (okB l)) ∧ w = w' := by
 obtain ⟨hc1,hc2⟩ := cutm_pos hm
 obtain ⟨x0,hx0⟩ : ∃ x,l[0]? = some x := ⟨l[0],List.getElem?_eq_getElem h0⟩
 have hgx0 := getB h0 x0 hx0 h0
 have h0' : (0 : Int) < (l.length : Int) := by omega
 have hh : l.head? = some x0 := by rw [List.head?_eq_getElem?];exact hx0
 rw [hh] at hm
 have K0 : ((x0.toNat : Int) == 45) = false := by exact byte_ne (k := 45) (by omega) (fun e => hm (by rw [e];rfl))
 have hcl : (cutm l).1.length = l.length := by rw [hc1,List.length_drop];rfl
 have hlI : (l.length : Int) ≤ 1000000 := by omega
 have HC := Lib.hid (And.intro hc1 (And.intro True.intro hcl))
 have HL := Lib.hid hl
 clear hm hh hc1 hc2 hcl hl
 have hz : ¬ l.length = 0 := by omega
 have i1 : ¬ (l.length : Int) < 1 := by omega
 by_cases hlong : 600 < l.length
 · have i2 : (600 : Int) < (l.length : Int) := by omega
   have HE := Lib.hid (okB_no (l := l) (Or.inl (by rw [HC.out.2.2];exact hlong)))
   clear hz hlong
   go_enter Tryz.func60,Tryz.ntmps60
   go_wp2_with fail
   go_ret
   exact ⟨by rw [HE.out];rfl,rfl⟩
 have i2 : ¬ (600 : Int) < (l.length : Int) := by omega
 have hgt : 0 < l.length := by omega
 have hgt' : (0 : Int) < (l.length : Int) := by omega
 have HZ := Lib.hid (And.intro hz (And.intro hlong (And.intro hx0 True.intro)))
 clear hz hlong hx0
 go_enter Tryz.func60,Tryz.ntmps60
 go_wp2_with fail
 go_loopg [5] (l.length - 0) (fun r iv W => ∃ i : Nat,r = l.length - i ∧ iv = .int .i64 (i : Int) ∧ 0 ≤ i ∧ i ≤ l.length ∧ ((l.drop 0).take (i - 0)).all isDig = true ∧ W = w)
 case atStart => exact ⟨0,rfl,rfl,Nat.le_refl _,by omega,rfl,rfl⟩
 case round =>
  obtain ⟨i,rfl,rfl,hi1,hi2,hall,rfl⟩ := hrel
  by_cases ha : i < l.length
  · have hka : (i : Int) < (l.length : Int) := by omega
    have hk0 : (0 : Int) ≤ (i : Int) := by omega
    have hkm : (i : Int) ≤ 1000000 := by have := HL.out;omega
    have hkb : i < (⟨l.toArray⟩ : ByteArray).size := ha
    obtain ⟨x,hx⟩ : ∃ x,l[i]? = some x := ⟨l[i],List.getElem?_eq_getElem ha⟩
    have hgx := getB ha x hx hkb
    have hxd : (l.drop 0)[i - 0]? = some x := by rw [List.getElem?_drop,show 0 + (i - 0) = i by omega];exact hx
    by_cases hd : isDig x = true
    · have hd2 := isDig_iff.1 hd
      have j1 : ¬ (x.toNat : Int) < 48 := by omega
      have j2 : ¬ 57 < (x.toNat : Int) := by omega
      have hall' := all_snoc hall hxd hd
      rw [show i - 0 + 1 = i + 1 - 0 by omega] at hall'
      have HA := Lib.hid (And.intro hall' (And.intro hi1 ha))
      clear hd hd2 hall hall' hxd hx hi1 hi2 ha
      go_wp2_with fail
      go_roundg (l.length - (i + 1))
      case measure => have := HA.out.2.2;omega
      case rel => exact ⟨i + 1,rfl,by go_num,by have := HA.out.2.1;omega,by have := HA.out.2.2;omega,HA.out.1,rfl⟩
    · have hd' : isDig x = false := by simpa using hd
      have HE := Lib.hid (okB_no (l := l) (Or.inr (Or.inr (Or.inr (by rw [HC.out.1];exact all_no hxd hd')))))
      rcases isDig_no hd' with h1 | h1
      · have j1 : (x.toNat : Int) < 48 := by omega
        clear hd hd' hall hxd hx hi1 hi2 ha h1
        go_wp2_with fail
        go_ret
        exact ⟨by rw [HE.out];rfl,rfl⟩
      · have j1 : ¬ (x.toNat : Int) < 48 := by omega
        have j2 : 57 < (x.toNat : Int) := by omega
        clear hd hd' hall hxd hx hi1 hi2 ha h1
        go_wp2_with fail
        go_ret
        exact ⟨by rw [HE.out];rfl,rfl⟩
  · obtain rfl : i = l.length := by omega
    have hka : ¬ (l.length : Int) < (l.length : Int) := by omega
    have hall2 : (l.drop 0).all isDig = true := by
     rw [List.take_of_length_le (by rw [List.length_drop];exact Nat.le_refl _)] at hall
     exact hall
    rw [← HC.out.1] at hall2
    have hne : (cutm l).1 ≠ [] := fun e => HZ.out.1 (by rw [← HC.out.2.2,e];rfl)
    have hle : (cutm l).1.length ≤ 600 := by rw [HC.out.2.2];have := HZ.out.2.1;omega
    have hhd : (cutm l).1.head? = some x0 := by rw [HC.out.1,List.head?_eq_getElem?,List.getElem?_drop];exact HZ.out.2.2.1
    by_cases h48 : x0 = 48
    · have J1 : ((x0.toNat : Int) != 48) = false := by rw [h48];decide
      by_cases h1 : l.length = 1
      · have J2 : ((l.length : Int) == 1) = true := by rw [beq_iff_eq];omega
        have hl1 : l = [48] := by
         obtain ⟨a,rfl⟩ := List.length_eq_one_iff.1 h1
         have := HZ.out.2.2.1
         simp at this
         rw [this,h48]
        have HE := Lib.hid (okB_yes hle hne hall2 (fun _ => hl1))
        clear hall hall2 hne hle hhd h48 ha hi1 hi2 hl1 h1
        go_wp2_with fail
        go_ret
        exact ⟨by rw [HE.out];rfl,rfl⟩
      · have J2 : ((l.length : Int) == 1) = false := by rw [beq_eq_false_iff_ne];omega
        have HE := Lib.hid (okB_no (l := l) (Or.inr (Or.inr (Or.inl ⟨by rw [hhd,h48],fun e => h1 (by rw [e];rfl)⟩))))
        clear hall hall2 hne hle hhd h48 ha hi1 hi2 h1
        go_wp2_with fail
        go_ret
        exact ⟨by rw [HE.out];rfl,rfl⟩
    · have J1 : ((x0.toNat : Int) != 48) = true := by
       have := byte_ne (x := x0) (k := 48) (by omega) h48
       rw [bne,show (48 : Int) = ((48 : Nat) : Int) from rfl,this];rfl
      have HE := Lib.hid (okB_yes hle hne hall2 (fun h => by rw [hhd] at h;injection h with h;exact absurd h h48))
      clear hall hall2 hne hle hhd h48 ha hi1 hi2
      go_wp2_with fail
      go_ret
      exact ⟨by rw [HE.out];rfl,rfl⟩
set_option maxRecDepth 100000 in
set_option maxHeartbeats 1000000 in
theorem right_neg (l : List UInt8) (hl : l.length ≤ 1000000) (h0 : 0 < l.length) (hm : l.head? = some 45) (w : World) :
 Calls Tryz.prog 60 #[.string ⟨l.toArray⟩] w fun e w' => e = .returned (.bool (okB l)) ∧ w = w' := by
 obtain ⟨hc1,hc2⟩ := cutm_neg hm
 obtain ⟨x0,hx0⟩ : ∃ x,l[0]? = some x := ⟨l[0],List.getElem?_eq_getElem h0⟩
 have hgx0 := getB h0 x0 hx0 h0
 have h0' : (0 : Int) < (l.length : Int) := by omega
 have hh : l.head? = some x0 := by rw [List.head?_eq_getElem?];exact hx0
 rw [hh] at hm
 have K0 : ((x0.toNat : Int) == 45) = true := by injection hm with hm;rw [hm];decide
 obtain ⟨L,hL⟩ : ∃ L,L = l.length - 1 := ⟨_,rfl⟩
 have hcl : (cutm l).1.length = L := by rw [hc1,List.length_drop,hL]
 have E1 : (l.length : Int) - 1 = (L : Int) := by omega
 have hlI : (l.length : Int) ≤ 1000000 := by omega
 have HC := Lib.hid (And.intro hc1 (And.intro hL hcl))
 have HL := Lib.hid hl
 clear hm hh hx0 hc1 hc2 hcl hl
 by_cases hz : L = 0
 · have i1 : (L : Int) < 1 := by omega
   have HE := Lib.hid (okB_no (l := l) (Or.inr (Or.inl (List.eq_nil_of_length_eq_zero (by rw [HC.out.2.2];exact hz)))))
   clear hz hL
   go_enter Tryz.func60,Tryz.ntmps60
   go_wp2_with fail
   go_ret
   exact ⟨by rw [HE.out];rfl,rfl⟩
 have i1 : ¬ (L : Int) < 1 := by omega
 by_cases hlong : 600 < L
 · have i2 : (600 : Int) < (L : Int) := by omega
   have HE := Lib.hid (okB_no (l := l) (Or.inl (by rw [HC.out.2.2];exact hlong)))
   clear hz hL hlong
   go_enter Tryz.func60,Tryz.ntmps60
   go_wp2_with fail
   go_ret
   exact ⟨by rw [HE.out];rfl,rfl⟩
 have i2 : ¬ (600 : Int) < (L : Int) := by omega
 have hgt : 1 < l.length := by omega
 obtain ⟨y0,hy0⟩ : ∃ x,l[1]? = some x := ⟨l[1],List.getElem?_eq_getElem hgt⟩
 have hgy0 := getB hgt y0 hy0 hgt
 have hgt' : (1 : Int) < (l.length : Int) := by omega
 have HZ := Lib.hid (And.intro hz (And.intro hlong (And.intro hy0 hL)))
 clear hz hlong hy0 hL
 go_enter Tryz.func60,Tryz.ntmps60
 go_wp2_with fail
 go_loopg [5] (l.length - 1) (fun r iv W => ∃ i : Nat,r = l.length - i ∧ iv = .int .i64 (i : Int) ∧ 1 ≤ i ∧ i ≤ l.length ∧ ((l.drop 1).take (i - 1)).all isDig = true ∧ W = w)
 case atStart => exact ⟨1,rfl,rfl,Nat.le_refl _,by omega,rfl,rfl⟩
 case round =>
  obtain ⟨i,rfl,rfl,hi1,hi2,hall,rfl⟩ := hrel
  by_cases ha : i < l.length
  · have hka : (i : Int) < (l.length : Int) := by omega
    have hk0 : (0 : Int) ≤ (i : Int) := by omega
    have hkm : (i : Int) ≤ 1000000 := by have := HL.out;omega
    have hkb : i < (⟨l.toArray⟩ : ByteArray).size := ha
    obtain ⟨x,hx⟩ : ∃ x,l[i]? = some x := ⟨l[i],List.getElem?_eq_getElem ha⟩
    have hgx := getB ha x hx hkb
    have hxd : (l.drop 1)[i - 1]? = some x := by rw [List.getElem?_drop,show 1 + (i - 1) = i by omega];exact hx
    by_cases hd : isDig x = true
    · have hd2 := isDig_iff.1 hd
      have j1 : ¬ (x.toNat : Int) < 48 := by omega
      have j2 : ¬ 57 < (x.toNat : Int) := by omega
      have hall' := all_snoc hall hxd hd
      rw [show i - 1 + 1 = i + 1 - 1 by omega] at hall'
      have HA := Lib.hid (And.intro hall' (And.intro hi1 ha))
      clear hd hd2 hall hall' hxd hx hi1 hi2 ha
      go_wp2_with fail
      go_roundg (l.length - (i + 1))
      case measure => have := HA.out.2.2;omega
      case rel => exact ⟨i + 1,rfl,by go_num,by have := HA.out.2.1;omega,by have := HA.out.2.2;omega,HA.out.1,rfl⟩
    · have hd' : isDig x = false := by simpa using hd
      have HE := Lib.hid (okB_no (l := l) (Or.inr (Or.inr (Or.inr (by rw [HC.out.1];exact all_no hxd hd')))))
      rcases isDig_no hd' with h1 | h1
      · have j1 : (x.toNat : Int) < 48 := by omega
        clear hd hd' hall hxd hx hi1 hi2 ha h1
        go_wp2_with fail
        go_ret
        exact ⟨by rw [HE.out];rfl,rfl⟩
      · have j1 : ¬ (x.toNat : Int) < 48 := by omega
        have j2 : 57 < (x.toNat : Int) := by omega
        clear hd hd' hall hxd hx hi1 hi2 ha h1
        go_wp2_with fail
        go_ret
        exact ⟨by rw [HE.out];rfl,rfl⟩
  · obtain rfl : i = l.length := by omega
    have hka : ¬ (l.length : Int) < (l.length : Int) := by omega
    have hall2 : (l.drop 1).all isDig = true := by
     rw [List.take_of_length_le (by rw [List.length_drop];exact Nat.le_refl _)] at hall
     exact hall
    rw [← HC.out.1] at hall2
    have hne : (cutm l).1 ≠ [] := fun e => HZ.out.1 (by rw [← HC.out.2.2,e];rfl)
    have hle : (cutm l).1.length ≤ 600 := by rw [HC.out.2.2];have := HZ.out.2.1;omega
    have hhd : (cutm l).1.head? = some y0 := by rw [HC.out.1,List.head?_eq_getElem?,List.getElem?_drop];exact HZ.out.2.2.1
    by_cases h48 : y0 = 48
    · have J1 : ((y0.toNat : Int) != 48) = false := by rw [h48];decide
      have J2 : ((l.length : Int) == 1) = false := by rw [beq_eq_false_iff_ne];omega
      have HE := Lib.hid (okB_no (l := l) (Or.inr (Or.inr (Or.inl ⟨by rw [hhd,h48],fun e => by rw [e] at hgt;simp at hgt⟩))))
      clear hall hall2 hne hle hhd h48 ha hi1 hi2
      go_wp2_with fail
      go_ret
      exact ⟨by rw [HE.out];rfl,rfl⟩
    · have J1 : ((y0.toNat : Int) != 48) = true := by
       have := byte_ne (x := y0) (k := 48) (by omega) h48
       rw [bne,show (48 : Int) = ((48 : Nat) : Int) from rfl,this];rfl
      have HE := Lib.hid (okB_yes hle hne hall2 (fun h => by rw [hhd] at h;injection h with h;exact absurd h h48))
      clear hall hall2 hne hle hhd h48 ha hi1 hi2
      go_wp2_with fail
      go_ret
      exact ⟨by rw [HE.out];rfl,rfl⟩
set_option maxRecDepth 100000 in
set_option maxHeartbeats 1000000 in
theorem right_nil (w : World) :
 Calls Tryz.prog 60 #[.string ⟨#[]⟩] w fun e w' => e = .returned (.bool false) ∧ w = w' := by
 go_enter Tryz.func60,Tryz.ntmps60
 go_wp2_with fail
 go_ret
 exact ⟨rfl,rfl⟩
theorem right_any (l : List UInt8) (hl : l.length ≤ 1000000) (w : World) :
 Calls Tryz.prog 60 #[.string ⟨l.toArray⟩] w fun e w' => e = .returned (.bool (okB l)) ∧ w = w' := by
 rcases Nat.eq_zero_or_pos l.length with h | h
 · obtain rfl := List.eq_nil_of_length_eq_zero h
   exact right_nil w
 · by_cases hm : l.head? = some 45
   · exact right_neg l hl h hm w
   · exact right_pos l hl h hm w
end Go.Proofs.YtlfgpmnjnpdkdaaGreatDoor
namespace Go.Proofs.YtlfgpmnjnpdkdaaGreatDoor
open Go.RowKit Vd
attribute [local go_sem ↓] Go.wp_at_zero Go.wp_at_succ
theorem in_step {t : List UInt8} {k m s : Nat} {zs : List Nat} (hm : m = t.length - 4 * k) (hs : s = m - 4) (hl : zs.length = k) (h : val B4 zs + B4 ^ k * dval (t.take m) = dval t) :
 val B4 (zs ++ [dval ((t.drop s).take (m - s))]) + B4 ^ (k + 1) * dval (t.take (t.length - 4 * (k + 1))) = dval t := by
 have e1 : t.length - 4 * (k + 1) = s := by omega
 have hmt : m ≤ t.length := by omega
 have e2 : t.take m = t.take s ++ (t.drop s).take (m - s) := by
  rw [show m = s + (m - s) by omega,List.take_add]
  congr 2
  omega
 rw [e2,dval_append,List.length_take,List.length_drop,Nat.min_eq_left (by omega)] at h
 rw [val_snoc,hl,e1,Nat.pow_succ]
 rw [← h]
 rcases Nat.lt_or_ge m 4 with h4 | h4
 · have h0 : s = 0 := by omega
   subst h0
   simp [dval_nil]
 · have h0 : m - s = 4 := by omega
   rw [h0,show (10 : Nat) ^ 4 = B4 from rfl,Nat.mul_add,Nat.mul_assoc,Nat.mul_comm B4]
   omega
theorem grp_lt {t : List UInt8} (h : t.all isDig = true) (b n : Nat) (hn : n ≤ 4) : dval ((t.drop b).take n) < 10000 := by
 have h1 : ((t.drop b).take n).all isDig = true := by
  rw [List.all_eq_true] at h ⊢
  intro x hx
  exact h x (List.mem_of_mem_drop (List.mem_of_mem_take hx))
 have h2 := dval_lt h1
 have h3 : ((t.drop b).take n).length ≤ 4 := by rw [List.length_take];omega
 exact Nat.lt_of_lt_of_le h2 (Nat.pow_le_pow_right (by decide) h3)
theorem grp_step {l : List UInt8} {b i : Nat} {x : UInt8} (hbi : b ≤ i) (hx : l[i]? = some x) : dval ((l.drop b).take (i + 1 - b)) = dval ((l.drop b).take (i - b)) * 10 + (x.toNat - 48) := by
 rw [show i + 1 - b = i - b + 1 by omega,take_snoc (x := x) (by rw [List.getElem?_drop,show b + (i - b) = i by omega];exact hx),dval_snoc]
theorem rd_parts {l : List UInt8} {z : Int} (h : rd l = some z) : (cutm l).1 ≠ [] ∧ (cutm l).1.all isDig = true ∧ (cutm l).1.length ≤ 600 ∧ sgn (dval (cutm l).1) (cutm l).2 = z := by
 unfold rd at h
 split at h
 · rename_i hl
   unfold rdAny at h
   split at h
   · rename_i hc
     injection h with h
     exact ⟨hc.1,hc.2.1,by rw [maxDigits_eq] at hl;exact hl,h⟩
   · cases h
 · cases h
set_option maxRecDepth 100000 in
set_option maxHeartbeats 4000000 in
theorem in_pos (l : List UInt8) (z : Int) (w : World) (hr : rd l = some z) (hm : l.head? ≠ some 45) :
 Calls Tryz.prog 62 #[.string ⟨l.toArray⟩] w fun e w' => ∃ v,e = .returned v ∧ PlV w' v z ∧ Below w.heap.size w w' := by
 obtain ⟨i0,hi,hz0,hz1,hz2⟩ := info_parts infoI
 have HI := Lib.hid (And.intro hi (And.intro hz0 (And.intro hz1 hz2)))
 clear hi hz0 hz1 hz2
 obtain ⟨hc1,hc2⟩ := cutm_pos hm
 obtain ⟨p1,p2,p3,p4⟩ := rd_parts hr
 rw [hc1] at p1 p2 p3 p4
 rw [hc2] at p4
 have h0 : 0 < l.length := by
  rcases Nat.lt_or_ge 0 l.length with h | h
  · exact h
  · exact absurd (List.drop_eq_nil_of_le h) p1
 have hl0 : 0 < l.length := by omega
 obtain ⟨x0,hx0⟩ : ∃ x,l[0]? = some x := ⟨l[0],List.getElem?_eq_getElem hl0⟩
 have hgx0 := getB hl0 x0 hx0 hl0
 have h0' : (0 : Int) < (l.length : Int) := by omega
 have hh : l.head? = some x0 := by rw [List.head?_eq_getElem?];exact hx0
 rw [hh] at hm
 have K0 : ((x0.toNat : Int) == 45) = false := by exact byte_ne (k := 45) (by omega) (fun e => hm (by rw [e];rfl))
 rw [List.length_drop] at p3
 have hlI : (l.length : Int) ≤ 601 := by omega
 have hbx := BoxP.alloc w none 0 0 false
 have hbW : Below w.heap.size w (w.alloc (.cells #[.bool false,.slice none 0 0] 88)) := (Below.refl _ _).alloc (Nat.le_refl _) _
 have HP := Lib.hid (And.intro p2 (And.intro p3 (And.intro p4 h0)))
 clear hm hh hx0 hc1 hc2 p1 p2 p3 p4 h0 hr
 go_enter Tryz.func62,Tryz.ntmps62
 go_wp2_with fail
 go_loopg [4,5] (l.length - 0) (fun r dvv ev W => ∃ (k : Nat) (E : Int) (zs : List Nat) (dv : Value),dv = dvv ∧ ev = .int .i64 E ∧ E = (l.length : Int) - 4 * (k : Int) ∧ r = (l.length - 0) - 4 * k ∧ k ≤ 151 ∧ zs.length = k ∧ Ok B4 zs ∧ val B4 zs + B4 ^ k * dval ((l.drop 0).take (l.length - 0 - 4 * k)) = dval (l.drop 0) ∧ W.ownsRow (w.heap.size + 1) 3 1 dvv k (zs.map I8) ∧ BoxP W w.heap.size ∧ Below w.heap.size w W ∧ w.heap.size + 1 ≤ W.heap.size)
 case atStart => exact ⟨0,_,[],_,rfl,rfl,by simp,rfl,by omega,rfl,Ok.nil,by rw [val_nil,Nat.mul_zero,Nat.sub_zero,List.take_of_length_le (by rw [List.length_drop];exact Nat.le_refl _)];simp,World.ownsRow_nil _ _ _ _,hbx,hbW,by simp⟩
 case round =>
  clear hbx hbW
  obtain ⟨k,E,zs,dv,hdv,rfl,hE,rfl,hk,hlz,hok,hval,hown,hbx,hbel,hsz⟩ := hrel
  subst hdv
  by_cases ha : 4 * k < l.length - 0
  · obtain ⟨m,hm⟩ : ∃ m,m = l.length - 0 - 4 * k := ⟨_,rfl⟩
    obtain ⟨s,hs⟩ : ∃ s,s = m - 4 := ⟨_,rfl⟩
    obtain ⟨e,he⟩ : ∃ e,e = 0 + m := ⟨_,rfl⟩
    obtain ⟨b,hb⟩ : ∃ b,b = 0 + s := ⟨_,rfl⟩
    have heE : E = (e : Int) := by omega
    subst heE
    have i1 : (0 : Int) < (e : Int) := by omega
    have i2 : (e : Int) ≤ 601 := by omega
    have M1 : max ((e : Int) - 4) 0 = (b : Int) := by omega
    have hstep := in_step (t := l.drop 0) (k := k) (m := m) (s := s) (zs := zs) (by rw [List.length_drop];exact hm) hs hlz (by rw [← hm] at hval;exact hval)
    rw [List.length_drop,List.drop_drop,← hb,show m - s = e - b by omega] at hstep
    have hglt := grp_lt (t := l.drop 0) HP.out.1 s (e - b) (by omega)
    rw [List.drop_drop,← hb] at hglt
    have HK := Lib.hid (And.intro hstep (And.intro hglt (And.intro hk (And.intro hlz (And.intro hok (And.intro ha (And.intro hE (And.intro (show b ≤ e ∧ e ≤ l.length ∧ 0 ≤ b ∧ e ≤ b + 4 by omega) hval))))))))
    have HM := Lib.hid (And.intro hown (And.intro hbx (And.intro hbel hsz)))
    clear hm hs he hb hstep hglt hk hlz hok ha hE hval hown hbx hbel hsz
    go_wp2_with fail
    go_loopg [6,7] (e - b) (fun r nv iv W => ∃ (i M : Nat),iv = .int .i64 (i : Int) ∧ nv = .int .i64 (M : Int) ∧ r = e - i ∧ b ≤ i ∧ i ≤ e ∧ M = dval ((l.drop b).take (i - b)) ∧ W = wr)
    case atStart => exact ⟨b,0,rfl,rfl,rfl,Nat.le_refl _,HK.out.2.2.2.2.2.2.2.1.1,by rw [Nat.sub_self];rfl,rfl⟩
    case round =>
     obtain ⟨i,M,rfl,rfl,rfl,hi1,hi2,hM,rfl⟩ := hrel
     by_cases hc : i < e
     · have hka : (i : Int) < (e : Int) := by omega
       have hil : i < l.length := by have := HK.out.2.2.2.2.2.2.2.1;omega
       have hkl : (i : Int) < (l.length : Int) := by omega
       have hk0 : (0 : Int) ≤ (i : Int) := by omega
       have hkb : i < (⟨l.toArray⟩ : ByteArray).size := hil
       obtain ⟨x,hx⟩ : ∃ x,l[i]? = some x := ⟨l[i],List.getElem?_eq_getElem hil⟩
       have hgx := getB hil x hx hkb
       have hxm : x ∈ l.drop 0 := by
        refine List.mem_of_getElem? (i := i - 0) ?_
        have := HK.out.2.2.2.2.2.2.2.1
        rw [List.getElem?_drop,show 0 + (i - 0) = i by omega];exact hx
       have hxd : isDig x = true := List.all_eq_true.1 HP.out.1 x hxm
       obtain ⟨d,hd9,hd,hde⟩ := digit_of hxd
       have hst := grp_step hi1 hx
       rw [← hM,hd] at hst
       have hMl : M ≤ 999 := by
        have h1 : ((l.drop b).take (i - b)).all isDig = true := by
         rw [List.all_eq_true]
         intro y hy
         have h2 := List.mem_of_mem_take hy
         have := HK.out.2.2.2.2.2.2.2.1
         have h3 : y ∈ l.drop 0 := by
          rw [show b = 0 + (b - 0) by omega,← List.drop_drop] at h2
          exact List.mem_of_mem_drop h2
         exact List.all_eq_true.1 HP.out.1 y h3
        have h2 := dval_lt h1
        rw [← hM] at h2
        have := HK.out.2.2.2.2.2.2.2.1
        have h3 : ((l.drop b).take (i - b)).length ≤ 3 := by rw [List.length_take];omega
        have h4 : (10 : Nat) ^ ((l.drop b).take (i - b)).length ≤ 10 ^ 3 := Nat.pow_le_pow_right (by decide) h3
        omega
       have j1 : (0 : Int) ≤ (M : Int) := by omega
       have j2 : (M : Int) ≤ 999 := by omega
       have j3 : (0 : Int) ≤ (d : Int) := by omega
       have j4 : (d : Int) ≤ 9 := by omega
       have E3 : IntKind.u8.wrap ((x.toNat : Int) - 48) = (d : Int) := by rw [IntKind.wrap_u8];exact hde
       have HX := Lib.hid (And.intro hst (And.intro hi1 hc))
       clear hst hi1 hi2 hc hM hMl hd hd9 hxd hxm hx hil
       go_wp2_with fail
       go_roundg (e - (i + 1))
       case measure => have := HX.out.2.2;omega
       case rel => exact ⟨i + 1,M * 10 + d,by go_num,by go_num,rfl,by have := HX.out.2.1;omega,by have := HX.out.2.2;omega,HX.out.1.symm,rfl⟩
     · obtain rfl : i = e := by omega
       have hka : ¬ (i : Int) < (i : Int) := by omega
       have hglt := HK.out.2.1
       rw [← hM] at hglt
       have hstep := HK.out.1
       rw [← hM] at hstep
       have hnew := news_one wr (.int .i64 (M : Int)) 3 rfl
       have hownA := HM.out.1.alloc (.cells #[.int .i64 (M : Int)] 3)
       have hk151 := HK.out.2.2.1
       have hsz := HM.out.2.2.2
       have HX := Lib.hid (And.intro hglt hstep)
       clear hglt hstep hM hi1 hi2 hc
       go_wp2_with (at_builtin;refine wpList_append_own _ rfl (.tmp 35) (.tmp 37) 86 rfl (w.heap.size + 1) 3 i0 (.int .i64 0) 1 8 Tryz.underlying86 HI.out.1 HI.out.2.1 HI.out.2.2.1 HI.out.2.2.2 rfl (by decide) dv k (zs.map I8) rfl hownA ⟨wr.heap.size,0,none⟩ 1 1 [.int .i64 (M : Int)] rfl rfl hnew.1 hnew.2 (by unfold maxLen;omega) (by omega) (by simp;omega) ?_;intro v' w1 hown' hgrow _)
       have hwr : Below wr.heap.size wr (wr.alloc (.cells #[.int .i64 (M : Int)] 3)) := (Below.refl _ _).alloc (Nat.le_refl _) _
       have hb1 : Below (w.heap.size + 1) (wr.alloc (.cells #[.int .i64 (M : Int)] 3)) w1 := below_own (Below.refl _ _) hownA hgrow (Nat.le_refl _) (by simp;omega)
       have hb0 := Lib.hid ((hwr.mono hsz).trans hb1)
       have hown2 : w1.ownsRow (w.heap.size + 1) 3 1 v' (k + 1) ((zs ++ [M]).map I8) := by
        rw [List.map_append];exact hown'
       have HO := Lib.hid hown2
       clear hwr hsz hb1 hown2 hown' hgrow hownA hnew
       go_wp2_with fail
       go_roundg (l.length - 0 - 4 * (k + 1))
       case measure => have := HK.out.2.2.2.2.2.1;omega
       case rel =>
        obtain ⟨_,_,hk,hlz,hok,ha,hE,hbd,hval⟩ := HK.out
        obtain ⟨hown,hbx,hbel,hsz⟩ := HM.out
        have hb0 := hb0.out
        exact ⟨k + 1,_,_,_,rfl,rfl,by omega,rfl,by have := HP.out.2.1;omega,by rw [List.length_append,hlz];rfl,hok.app (Ok.cons HX.out.1 Ok.nil),HX.out.2,HO.out,hbx.below hb0 (by omega),hbel.trans (hb0.mono (by omega)),Nat.le_trans hsz hb0.size⟩
  · have i1 : ¬ (0 : Int) < E := by omega
    rw [show l.length - 0 - 4 * k = 0 by omega,List.take_zero,dval_nil,Nat.mul_zero,Nat.add_zero] at hval
    obtain ⟨A,c,rfl,hnc,hcm,hsl⟩ := owns_sl hown
    have hmd := made_any false A k c zs wr hsl hok hnc hcm
    rw [hval,HP.out.2.2.1] at hmd
    have hlt := hbx.lt
    clear hval hown hok hk hlz hE ha hsl hnc hcm
    go_wp2_with fail
    refine hmd.mono ?_
    rintro e w2 ⟨v,rfl,hv,hb2⟩
    obtain ⟨A2,n2,c2,k2,rfl⟩ := hv.open
    have hbx2 := hbx.below hb2 hbx.lt
    obtain ⟨⟨q0,hc0⟩,⟨q1,hc1⟩,hf0,hf1⟩ := hbx2.facts
    clear hmd
    go_wp2_with fail
    exact bodyPost_ret (v := .agg #[.bool k2,.slice A2 n2 c2]) (by simp [results,Tryz.results62,go_sem,hc0,hc1]) rfl ⟨_,rfl,hv.sets hbx2 _ _,((hbel.trans (hb2.mono hbel.size)).setCell (Nat.le_refl _) _).setCell (Nat.le_refl _) _⟩
set_option maxRecDepth 100000 in
set_option maxHeartbeats 4000000 in
theorem in_neg (l : List UInt8) (z : Int) (w : World) (hr : rd l = some z) (hm : l.head? = some 45) :
 Calls Tryz.prog 62 #[.string ⟨l.toArray⟩] w fun e w' => ∃ v,e = .returned v ∧ PlV w' v z ∧ Below w.heap.size w w' := by
 obtain ⟨i0,hi,hz0,hz1,hz2⟩ := info_parts infoI
 have HI := Lib.hid (And.intro hi (And.intro hz0 (And.intro hz1 hz2)))
 clear hi hz0 hz1 hz2
 obtain ⟨hc1,hc2⟩ := cutm_neg hm
 obtain ⟨p1,p2,p3,p4⟩ := rd_parts hr
 rw [hc1] at p1 p2 p3 p4
 rw [hc2] at p4
 have h0 : 1 < l.length := by
  rcases Nat.lt_or_ge 1 l.length with h | h
  · exact h
  · exact absurd (List.drop_eq_nil_of_le h) p1
 have hl0 : 0 < l.length := by omega
 obtain ⟨x0,hx0⟩ : ∃ x,l[0]? = some x := ⟨l[0],List.getElem?_eq_getElem hl0⟩
 have hgx0 := getB hl0 x0 hx0 hl0
 have h0' : (0 : Int) < (l.length : Int) := by omega
 have hh : l.head? = some x0 := by rw [List.head?_eq_getElem?];exact hx0
 rw [hh] at hm
 have K0 : ((x0.toNat : Int) == 45) = true := by injection hm with hm;rw [hm];decide
 rw [List.length_drop] at p3
 have hlI : (l.length : Int) ≤ 601 := by omega
 have hbx := BoxP.alloc w none 0 0 false
 have hbW : Below w.heap.size w (w.alloc (.cells #[.bool false,.slice none 0 0] 88)) := (Below.refl _ _).alloc (Nat.le_refl _) _
 have HP := Lib.hid (And.intro p2 (And.intro p3 (And.intro p4 h0)))
 clear hm hh hx0 hc1 hc2 p1 p2 p3 p4 h0 hr
 go_enter Tryz.func62,Tryz.ntmps62
 go_wp2_with fail
 go_loopg [4,5] (l.length - 1) (fun r dvv ev W => ∃ (k : Nat) (E : Int) (zs : List Nat) (dv : Value),dv = dvv ∧ ev = .int .i64 E ∧ E = (l.length : Int) - 4 * (k : Int) ∧ r = (l.length - 1) - 4 * k ∧ k ≤ 151 ∧ zs.length = k ∧ Ok B4 zs ∧ val B4 zs + B4 ^ k * dval ((l.drop 1).take (l.length - 1 - 4 * k)) = dval (l.drop 1) ∧ W.ownsRow (w.heap.size + 1) 3 1 dvv k (zs.map I8) ∧ BoxP W w.heap.size ∧ Below w.heap.size w W ∧ w.heap.size + 1 ≤ W.heap.size)
 case atStart => exact ⟨0,_,[],_,rfl,rfl,by simp,rfl,by omega,rfl,Ok.nil,by rw [val_nil,Nat.mul_zero,Nat.sub_zero,List.take_of_length_le (by rw [List.length_drop];exact Nat.le_refl _)];simp,World.ownsRow_nil _ _ _ _,hbx,hbW,by simp⟩
 case round =>
  clear hbx hbW
  obtain ⟨k,E,zs,dv,hdv,rfl,hE,rfl,hk,hlz,hok,hval,hown,hbx,hbel,hsz⟩ := hrel
  subst hdv
  by_cases ha : 4 * k < l.length - 1
  · obtain ⟨m,hm⟩ : ∃ m,m = l.length - 1 - 4 * k := ⟨_,rfl⟩
    obtain ⟨s,hs⟩ : ∃ s,s = m - 4 := ⟨_,rfl⟩
    obtain ⟨e,he⟩ : ∃ e,e = 1 + m := ⟨_,rfl⟩
    obtain ⟨b,hb⟩ : ∃ b,b = 1 + s := ⟨_,rfl⟩
    have heE : E = (e : Int) := by omega
    subst heE
    have i1 : (1 : Int) < (e : Int) := by omega
    have i2 : (e : Int) ≤ 601 := by omega
    have M1 : max ((e : Int) - 4) 1 = (b : Int) := by omega
    have hstep := in_step (t := l.drop 1) (k := k) (m := m) (s := s) (zs := zs) (by rw [List.length_drop];exact hm) hs hlz (by rw [← hm] at hval;exact hval)
    rw [List.length_drop,List.drop_drop,← hb,show m - s = e - b by omega] at hstep
    have hglt := grp_lt (t := l.drop 1) HP.out.1 s (e - b) (by omega)
    rw [List.drop_drop,← hb] at hglt
    have HK := Lib.hid (And.intro hstep (And.intro hglt (And.intro hk (And.intro hlz (And.intro hok (And.intro ha (And.intro hE (And.intro (show b ≤ e ∧ e ≤ l.length ∧ 1 ≤ b ∧ e ≤ b + 4 by omega) hval))))))))
    have HM := Lib.hid (And.intro hown (And.intro hbx (And.intro hbel hsz)))
    clear hm hs he hb hstep hglt hk hlz hok ha hE hval hown hbx hbel hsz
    go_wp2_with fail
    go_loopg [6,7] (e - b) (fun r nv iv W => ∃ (i M : Nat),iv = .int .i64 (i : Int) ∧ nv = .int .i64 (M : Int) ∧ r = e - i ∧ b ≤ i ∧ i ≤ e ∧ M = dval ((l.drop b).take (i - b)) ∧ W = wr)
    case atStart => exact ⟨b,0,rfl,rfl,rfl,Nat.le_refl _,HK.out.2.2.2.2.2.2.2.1.1,by rw [Nat.sub_self];rfl,rfl⟩
    case round =>
     obtain ⟨i,M,rfl,rfl,rfl,hi1,hi2,hM,rfl⟩ := hrel
     by_cases hc : i < e
     · have hka : (i : Int) < (e : Int) := by omega
       have hil : i < l.length := by have := HK.out.2.2.2.2.2.2.2.1;omega
       have hkl : (i : Int) < (l.length : Int) := by omega
       have hk0 : (0 : Int) ≤ (i : Int) := by omega
       have hkb : i < (⟨l.toArray⟩ : ByteArray).size := hil
       obtain ⟨x,hx⟩ : ∃ x,l[i]? = some x := ⟨l[i],List.getElem?_eq_getElem hil⟩
       have hgx := getB hil x hx hkb
       have hxm : x ∈ l.drop 1 := by
        refine List.mem_of_getElem? (i := i - 1) ?_
        have := HK.out.2.2.2.2.2.2.2.1
        rw [List.getElem?_drop,show 1 + (i - 1) = i by omega];exact hx
       have hxd : isDig x = true := List.all_eq_true.1 HP.out.1 x hxm
       obtain ⟨d,hd9,hd,hde⟩ := digit_of hxd
       have hst := grp_step hi1 hx
       rw [← hM,hd] at hst
       have hMl : M ≤ 999 := by
        have h1 : ((l.drop b).take (i - b)).all isDig = true := by
         rw [List.all_eq_true]
         intro y hy
         have h2 := List.mem_of_mem_take hy
         have := HK.out.2.2.2.2.2.2.2.1
         have h3 : y ∈ l.drop 1 := by
          rw [show b = 1 + (b - 1) by omega,← List.drop_drop] at h2
          exact List.mem_of_mem_drop h2
         exact List.all_eq_true.1 HP.out.1 y h3
        have h2 := dval_lt h1
        rw [← hM] at h2
        have := HK.out.2.2.2.2.2.2.2.1
        have h3 : ((l.drop b).take (i - b)).length ≤ 3 := by rw [List.length_take];omega
        have h4 : (10 : Nat) ^ ((l.drop b).take (i - b)).length ≤ 10 ^ 3 := Nat.pow_le_pow_right (by decide) h3
        omega
       have j1 : (0 : Int) ≤ (M : Int) := by omega
       have j2 : (M : Int) ≤ 999 := by omega
       have j3 : (0 : Int) ≤ (d : Int) := by omega
       have j4 : (d : Int) ≤ 9 := by omega
       have E3 : IntKind.u8.wrap ((x.toNat : Int) - 48) = (d : Int) := by rw [IntKind.wrap_u8];exact hde
       have HX := Lib.hid (And.intro hst (And.intro hi1 hc))
       clear hst hi1 hi2 hc hM hMl hd hd9 hxd hxm hx hil
       go_wp2_with fail
       go_roundg (e - (i + 1))
       case measure => have := HX.out.2.2;omega
       case rel => exact ⟨i + 1,M * 10 + d,by go_num,by go_num,rfl,by have := HX.out.2.1;omega,by have := HX.out.2.2;omega,HX.out.1.symm,rfl⟩
     · obtain rfl : i = e := by omega
       have hka : ¬ (i : Int) < (i : Int) := by omega
       have hglt := HK.out.2.1
       rw [← hM] at hglt
       have hstep := HK.out.1
       rw [← hM] at hstep
       have hnew := news_one wr (.int .i64 (M : Int)) 3 rfl
       have hownA := HM.out.1.alloc (.cells #[.int .i64 (M : Int)] 3)
       have hk151 := HK.out.2.2.1
       have hsz := HM.out.2.2.2
       have HX := Lib.hid (And.intro hglt hstep)
       clear hglt hstep hM hi1 hi2 hc
       go_wp2_with (at_builtin;refine wpList_append_own _ rfl (.tmp 35) (.tmp 37) 86 rfl (w.heap.size + 1) 3 i0 (.int .i64 0) 1 8 Tryz.underlying86 HI.out.1 HI.out.2.1 HI.out.2.2.1 HI.out.2.2.2 rfl (by decide) dv k (zs.map I8) rfl hownA ⟨wr.heap.size,0,none⟩ 1 1 [.int .i64 (M : Int)] rfl rfl hnew.1 hnew.2 (by unfold maxLen;omega) (by omega) (by simp;omega) ?_;intro v' w1 hown' hgrow _)
       have hwr : Below wr.heap.size wr (wr.alloc (.cells #[.int .i64 (M : Int)] 3)) := (Below.refl _ _).alloc (Nat.le_refl _) _
       have hb1 : Below (w.heap.size + 1) (wr.alloc (.cells #[.int .i64 (M : Int)] 3)) w1 := below_own (Below.refl _ _) hownA hgrow (Nat.le_refl _) (by simp;omega)
       have hb0 := Lib.hid ((hwr.mono hsz).trans hb1)
       have hown2 : w1.ownsRow (w.heap.size + 1) 3 1 v' (k + 1) ((zs ++ [M]).map I8) := by
        rw [List.map_append];exact hown'
       have HO := Lib.hid hown2
       clear hwr hsz hb1 hown2 hown' hgrow hownA hnew
       go_wp2_with fail
       go_roundg (l.length - 1 - 4 * (k + 1))
       case measure => have := HK.out.2.2.2.2.2.1;omega
       case rel =>
        obtain ⟨_,_,hk,hlz,hok,ha,hE,hbd,hval⟩ := HK.out
        obtain ⟨hown,hbx,hbel,hsz⟩ := HM.out
        have hb0 := hb0.out
        exact ⟨k + 1,_,_,_,rfl,rfl,by omega,rfl,by have := HP.out.2.1;omega,by rw [List.length_append,hlz];rfl,hok.app (Ok.cons HX.out.1 Ok.nil),HX.out.2,HO.out,hbx.below hb0 (by omega),hbel.trans (hb0.mono (by omega)),Nat.le_trans hsz hb0.size⟩
  · have i1 : ¬ (1 : Int) < E := by omega
    rw [show l.length - 1 - 4 * k = 0 by omega,List.take_zero,dval_nil,Nat.mul_zero,Nat.add_zero] at hval
    obtain ⟨A,c,rfl,hnc,hcm,hsl⟩ := owns_sl hown
    have hmd := made_any true A k c zs wr hsl hok hnc hcm
    rw [hval,HP.out.2.2.1] at hmd
    have hlt := hbx.lt
    clear hval hown hok hk hlz hE ha hsl hnc hcm
    go_wp2_with fail
    refine hmd.mono ?_
    rintro e w2 ⟨v,rfl,hv,hb2⟩
    obtain ⟨A2,n2,c2,k2,rfl⟩ := hv.open
    have hbx2 := hbx.below hb2 hbx.lt
    obtain ⟨⟨q0,hc0⟩,⟨q1,hc1⟩,hf0,hf1⟩ := hbx2.facts
    clear hmd
    go_wp2_with fail
    exact bodyPost_ret (v := .agg #[.bool k2,.slice A2 n2 c2]) (by simp [results,Tryz.results62,go_sem,hc0,hc1]) rfl ⟨_,rfl,hv.sets hbx2 _ _,((hbel.trans (hb2.mono hbel.size)).setCell (Nat.le_refl _) _).setCell (Nat.le_refl _) _⟩
theorem in_any (l : List UInt8) (z : Int) (w : World) (hr : rd l = some z) :
 Calls Tryz.prog 62 #[.string ⟨l.toArray⟩] w fun e w' => ∃ v,e = .returned v ∧ PlV w' v z ∧ Below w.heap.size w w' := by
 by_cases hm : l.head? = some 45
 · exact in_neg l z w hr hm
 · exact in_pos l z w hr hm
end Go.Proofs.YtlfgpmnjnpdkdaaGreatDoor
namespace Go.Proofs.YtlfgpmnjnpdkdaaGreatDoor
open Go.RowKit Vd
attribute [local go_sem ↓] Go.wp_at_zero Go.wp_at_succ
theorem sgn_turn {x : Int} : sgn x.natAbs (!decide (x < 0)) = -x := by
 unfold sgn
 by_cases h : x < 0
 · simp [h];omega
 · simp [h];omega
set_option maxRecDepth 100000 in
set_option maxHeartbeats 1000000 in
theorem turn4_any (v : Value) (x : Int) (w : World) (h : PlV w v x) :
 Calls Tryz.prog 112 #[v] w fun e w' => ∃ v,e = .returned v ∧ PlV w' v (-x) ∧ Below w.heap.size w w' := by
 obtain ⟨m,rfl,hm⟩ := h
 obtain ⟨k,hk⟩ : ∃ k,k = decide (x < 0) := ⟨_,rfl⟩
 have hE := sgn_turn (x := x)
 rw [← hk] at hE ⊢
 have hbx := BoxP.alloc (w.alloc (.cells #[.bool k,m] 88)) none 0 0 false
 rw [World.size_alloc] at hbx
 have hbW : Below w.heap.size w ((w.alloc (.cells #[.bool k,m] 88)).alloc (.cells #[.bool false,.slice none 0 0] 88)) := ((Below.refl _ _).alloc (Nat.le_refl _) _).alloc (by simp) _
 have hmd := made4_any (!k) m _ _ (hm.below hbW).l
 rw [hE] at hmd
 have HB := Lib.hid (And.intro hbx hbW)
 clear hm hE hk hbx hbW
 go_enter Tryz.func112,Tryz.ntmps112
 go_wp2_with fail
 refine hmd.mono ?_
 rintro e w1 ⟨A,n,c,k',rfl,hp,hb⟩
 have hbx1 := HB.out.1.below hb (by simp)
 obtain ⟨⟨q0,hc0⟩,⟨q1,hc1⟩,hf0,hf1⟩ := hbx1.facts
 have hbl := HB.out.2.trans (hb.mono HB.out.2.size)
 have HL := Lib.hid hbl
 clear hbl hb hmd
 go_wp2_with fail
 exact bodyPost_ret (v := .agg #[.bool k',.slice A n c]) (by simp [results,Tryz.results112,go_sem,hc0,hc1]) rfl ⟨_,rfl,hp.sets hbx1 _ _,(HL.out.setCell (by simp) _).setCell (by simp) _⟩
theorem plb_drew {w W : World} {m1 m2 : Value} {k1 k2 : Bool} (h : PlB w m1 m2 k1 k2 W) : PlB w m1 m2 k1 k2 W.drew := ⟨⟨h.1.1,h.1.2.drew⟩,h.2⟩
theorem plb_drewN {w W : World} {m1 m2 : Value} {k1 k2 : Bool} (h : PlB w m1 m2 k1 k2 W) (q : Nat) : PlB w m1 m2 k1 k2 (W.drewN q) := ⟨⟨h.1.1,below_drewN h.1.2 q⟩,h.2⟩
theorem plb_made {w : World} {m1 m2 : Value} {k1 k2 : Bool} (b : Bool) (n : Nat) (z : Int) (hz : sgn n b = z) (W : World) (m : Value) (hm : DigL W m n) (hS : PlB w m1 m2 k1 k2 W) :
 Calls Tryz.prog 115 #[.bool b,m] W fun e w' => ∃ (A : Option Addr) (n c : Nat) (k : Bool),e = .returned (.agg #[.bool k,.slice A n c]) ∧ PlV w' (.agg #[.bool k,.slice A n c]) z ∧ PlB w m1 m2 k1 k2 w' :=
 (made4_any b m n W hm).mono fun e w' ⟨A,n,c,k,he,hp,hb⟩ => ⟨A,n,c,k,he,by rw [← hz];exact hp,plb_step hS hb⟩
set_option maxRecDepth 100000 in
set_option maxHeartbeats 2000000 in
theorem plus4_same (m1 m2 : Value) (k1 k2 : Bool) (a b : Nat) (z : Int) (w : World) (hm1 : DigV w m1 a) (hm2 : DigV w m2 b) (b1 : wlen B4 a ≤ 1000000000) (b2 : wlen B4 b ≤ 1000000000) (hk : (k1 == k2) = true) (hz : sgn (a + b) k1 = z) :
 Calls Tryz.prog 124 #[.agg #[.bool k1,m1],.agg #[.bool k2,m2]] w fun e w' => ∃ v,e = .returned v ∧ PlV w' v z ∧ Below w.heap.size w w' := by
 have hpr : Hid (∀ W,PlB w m1 m2 k1 k2 W → Calls Tryz.prog 151 #[m1,m2] W fun e w' => ∃ (A : Option Addr) (n c : Nat),e = .returned (.slice A n c) ∧ DigL w' (.slice A n c) (a + b) ∧ PlB w m1 m2 k1 k2 w') := Lib.hid (fun W hS => (sum4_any m1 m2 _ _ W (hm1.below hS.1.2) (hm2.below hS.1.2) b1 b2).mono fun _ _ ⟨A,n,c,he,hm,hb⟩ => ⟨A,n,c,he,hm,plb_step hS hb⟩)
 have hsg : Hid (∀ W m,DigL W m (a + b) → PlB w m1 m2 k1 k2 W → Calls Tryz.prog 115 #[.bool k1,m] W fun e w' => ∃ (A : Option Addr) (n c : Nat) (k : Bool),e = .returned (.agg #[.bool k,.slice A n c]) ∧ PlV w' (.agg #[.bool k,.slice A n c]) z ∧ PlB w m1 m2 k1 k2 w') := Lib.hid (fun W m hm hS => plb_made k1 _ z hz W m hm hS)
 have hS0 := plb_start w m1 m2 k1 k2
 clear hm1 hm2 b1 b2 hz
 go_enter Tryz.func124,Tryz.ntmps124
 go_wp2_with fail
 go_region_held3 (fun W => (BoxP W (w.heap.size + 1 + 1) ∧ Below w.heap.size w W) ∧ W.cell? ⟨w.heap.size,0,none⟩ = some (.bool k1) ∧ W.cell? ⟨w.heap.size,1,none⟩ = some m1 ∧ W.cell? ⟨w.heap.size + 1,0,none⟩ = some (.bool k2) ∧ W.cell? ⟨w.heap.size + 1,1,none⟩ = some m2) (first | with_reducible assumption | exact plb_drew hS0 | (refine plb_store ?_ _ _ _ _;with_reducible assumption))
  (first
   | (go_at_call 151;refine (hpr.out _ ?_).mono ?_;with_reducible assumption;rintro e w1 ⟨A1,n1,c1,rfl,hx1,hS1⟩)
   | (go_at_call 115;refine (hsg.out _ _ ?_ ?_).mono ?_;with_reducible assumption;with_reducible assumption;rintro e w2 ⟨A,n,c,k,rfl,hp,hS2⟩;obtain ⟨⟨q0,hc0⟩,⟨q1,hc1⟩,hf0,hf1⟩ := hS2.1.1.facts))
 go_wp2
 exact bodyPost_ret (v := .agg #[.bool k,.slice A n c]) (by simp [results,Tryz.results124,go_sem,hc0,hc1]) rfl ⟨_,rfl,hp.sets hS2.1.1 _ _,(plb_store hS2 A n c k).1.2⟩
set_option maxRecDepth 100000 in
set_option maxHeartbeats 2000000 in
theorem plus4_ge (m1 m2 : Value) (k1 k2 : Bool) (a b : Nat) (z : Int) (w : World) (hm1 : DigV w m1 a) (hm2 : DigV w m2 b) (b1 : wlen B4 a ≤ 1000000000) (b2 : wlen B4 b ≤ 1000000000) (hk : (k1 == k2) = false) (hlt : b ≤ a) (hz : sgn (a - b) k1 = z) :
 Calls Tryz.prog 124 #[.agg #[.bool k1,m1],.agg #[.bool k2,m2]] w fun e w' => ∃ v,e = .returned v ∧ PlV w' v z ∧ Below w.heap.size w w' := by
 have hor : Hid (∀ W,PlB w m1 m2 k1 k2 W → Calls Tryz.prog 152 #[m1,m2] W fun e w' => ∃ d : Int,e = .returned (.int .i64 d) ∧ 0 ≤ d ∧ PlB w m1 m2 k1 k2 w') := Lib.hid (fun W hS => (order4_any m1 m2 a b W (hm1.below hS.1.2) (hm2.below hS.1.2) b1 b2).mono fun e w' ⟨d,he,hl,h0,q,hw⟩ => ⟨d,he,by omega,by rw [hw];exact plb_drewN hS q⟩)
 have hpr : Hid (∀ W,PlB w m1 m2 k1 k2 W → Calls Tryz.prog 153 #[m1,m2] W fun e w' => ∃ (A : Option Addr) (n c : Nat),e = .returned (.slice A n c) ∧ DigL w' (.slice A n c) (a - b) ∧ PlB w m1 m2 k1 k2 w') := Lib.hid (fun W hS => (difference4_any m1 m2 _ _ W (hm1.below hS.1.2) (hm2.below hS.1.2) b1 hlt).mono fun _ _ ⟨A,n,c,he,hm,hb⟩ => ⟨A,n,c,he,hm.l,plb_step hS hb⟩)
 have hsg : Hid (∀ W m,DigL W m (a - b) → PlB w m1 m2 k1 k2 W → Calls Tryz.prog 115 #[.bool k1,m] W fun e w' => ∃ (A : Option Addr) (n c : Nat) (k : Bool),e = .returned (.agg #[.bool k,.slice A n c]) ∧ PlV w' (.agg #[.bool k,.slice A n c]) z ∧ PlB w m1 m2 k1 k2 w') := Lib.hid (fun W m hm hS => plb_made k1 _ z hz W m hm hS)
 have hS0 := plb_start w m1 m2 k1 k2
 clear hm1 hm2 b1 b2 hz hlt
 go_enter Tryz.func124,Tryz.ntmps124
 go_wp2_with fail
 refine (hor.out _ hS0).mono ?_
 rintro e w0 ⟨d,rfl,hd,hS00⟩
 clear hor hS0
 have hS0 := hS00
 obtain ⟨_,hq1,hq2,hq3,hq4⟩ := hS00
 go_wp2_with fail
 clear hq1 hq2 hq3 hq4
 go_region_held3 (fun W => (BoxP W (w.heap.size + 1 + 1) ∧ Below w.heap.size w W) ∧ W.cell? ⟨w.heap.size,0,none⟩ = some (.bool k1) ∧ W.cell? ⟨w.heap.size,1,none⟩ = some m1 ∧ W.cell? ⟨w.heap.size + 1,0,none⟩ = some (.bool k2) ∧ W.cell? ⟨w.heap.size + 1,1,none⟩ = some m2) (first | with_reducible assumption | exact plb_drew hS0 | (refine plb_store ?_ _ _ _ _;with_reducible assumption))
  (first
   | (go_at_call 153;refine (hpr.out _ ?_).mono ?_;with_reducible assumption;rintro e w1 ⟨A1,n1,c1,rfl,hx1,hS1⟩)
   | (go_at_call 115;refine (hsg.out _ _ ?_ ?_).mono ?_;with_reducible assumption;with_reducible assumption;rintro e w2 ⟨A,n,c,k,rfl,hp,hS2⟩;obtain ⟨⟨q0,hc0⟩,⟨q1,hc1⟩,hf0,hf1⟩ := hS2.1.1.facts))
 go_wp2
 exact bodyPost_ret (v := .agg #[.bool k,.slice A n c]) (by simp [results,Tryz.results124,go_sem,hc0,hc1]) rfl ⟨_,rfl,hp.sets hS2.1.1 _ _,(plb_store hS2 A n c k).1.2⟩
set_option maxRecDepth 100000 in
set_option maxHeartbeats 2000000 in
theorem plus4_lt (m1 m2 : Value) (k1 k2 : Bool) (a b : Nat) (z : Int) (w : World) (hm1 : DigV w m1 a) (hm2 : DigV w m2 b) (b1 : wlen B4 a ≤ 1000000000) (b2 : wlen B4 b ≤ 1000000000) (hk : (k1 == k2) = false) (hlt : a < b) (hz : sgn (b - a) k2 = z) :
 Calls Tryz.prog 124 #[.agg #[.bool k1,m1],.agg #[.bool k2,m2]] w fun e w' => ∃ v,e = .returned v ∧ PlV w' v z ∧ Below w.heap.size w w' := by
 have hor : Hid (∀ W,PlB w m1 m2 k1 k2 W → Calls Tryz.prog 152 #[m1,m2] W fun e w' => ∃ d : Int,e = .returned (.int .i64 d) ∧ d < 0 ∧ PlB w m1 m2 k1 k2 w') := Lib.hid (fun W hS => (order4_any m1 m2 a b W (hm1.below hS.1.2) (hm2.below hS.1.2) b1 b2).mono fun e w' ⟨d,he,hl,h0,q,hw⟩ => ⟨d,he,by omega,by rw [hw];exact plb_drewN hS q⟩)
 have hpr : Hid (∀ W,PlB w m1 m2 k1 k2 W → Calls Tryz.prog 153 #[m2,m1] W fun e w' => ∃ (A : Option Addr) (n c : Nat),e = .returned (.slice A n c) ∧ DigL w' (.slice A n c) (b - a) ∧ PlB w m1 m2 k1 k2 w') := Lib.hid (fun W hS => (difference4_any m2 m1 _ _ W (hm2.below hS.1.2) (hm1.below hS.1.2) b2 (Nat.le_of_lt hlt)).mono fun _ _ ⟨A,n,c,he,hm,hb⟩ => ⟨A,n,c,he,hm.l,plb_step hS hb⟩)
 have hsg : Hid (∀ W m,DigL W m (b - a) → PlB w m1 m2 k1 k2 W → Calls Tryz.prog 115 #[.bool k2,m] W fun e w' => ∃ (A : Option Addr) (n c : Nat) (k : Bool),e = .returned (.agg #[.bool k,.slice A n c]) ∧ PlV w' (.agg #[.bool k,.slice A n c]) z ∧ PlB w m1 m2 k1 k2 w') := Lib.hid (fun W m hm hS => plb_made k2 _ z hz W m hm hS)
 have hS0 := plb_start w m1 m2 k1 k2
 clear hm1 hm2 b1 b2 hz hlt
 go_enter Tryz.func124,Tryz.ntmps124
 go_wp2_with fail
 refine (hor.out _ hS0).mono ?_
 rintro e w0 ⟨d,rfl,hd,hS00⟩
 clear hor hS0
 have hS0 := hS00
 obtain ⟨_,hq1,hq2,hq3,hq4⟩ := hS00
 go_wp2_with fail
 clear hq1 hq2 hq3 hq4
 go_region_held3 (fun W => (BoxP W (w.heap.size + 1 + 1) ∧ Below w.heap.size w W) ∧ W.cell? ⟨w.heap.size,0,none⟩ = some (.bool k1) ∧ W.cell? ⟨w.heap.size,1,none⟩ = some m1 ∧ W.cell? ⟨w.heap.size + 1,0,none⟩ = some (.bool k2) ∧ W.cell? ⟨w.heap.size + 1,1,none⟩ = some m2) (first | with_reducible assumption | exact plb_drew hS0 | (refine plb_store ?_ _ _ _ _;with_reducible assumption))
  (first
   | (go_at_call 153;refine (hpr.out _ ?_).mono ?_;with_reducible assumption;rintro e w1 ⟨A1,n1,c1,rfl,hx1,hS1⟩)
   | (go_at_call 115;refine (hsg.out _ _ ?_ ?_).mono ?_;with_reducible assumption;with_reducible assumption;rintro e w2 ⟨A,n,c,k,rfl,hp,hS2⟩;obtain ⟨⟨q0,hc0⟩,⟨q1,hc1⟩,hf0,hf1⟩ := hS2.1.1.facts))
 go_wp2
 exact bodyPost_ret (v := .agg #[.bool k,.slice A n c]) (by simp [results,Tryz.results124,go_sem,hc0,hc1]) rfl ⟨_,rfl,hp.sets hS2.1.1 _ _,(plb_store hS2 A n c k).1.2⟩
theorem plus4_any (v1 v2 : Value) (x y : Int) (w : World) (h1 : PlV w v1 x) (h2 : PlV w v2 y) (b1 : wlen B4 x.natAbs ≤ 1000000000) (b2 : wlen B4 y.natAbs ≤ 1000000000) :
 Calls Tryz.prog 124 #[v1,v2] w fun e w' => ∃ v,e = .returned v ∧ PlV w' v (x + y) ∧ Below w.heap.size w w' := by
 obtain ⟨m1,rfl,hm1⟩ := h1
 obtain ⟨m2,rfl,hm2⟩ := h2
 by_cases hk : (decide (x < 0) == decide (y < 0)) = true
 · refine plus4_same m1 m2 _ _ _ _ _ w hm1 hm2 b1 b2 hk ?_
   rw [beq_iff_eq,decide_eq_decide] at hk
   unfold sgn
   by_cases h : x < 0
   · simp [h];omega
   · simp [h];omega
 · have hk' : (decide (x < 0) == decide (y < 0)) = false := by simpa using hk
   rw [beq_iff_eq,decide_eq_decide] at hk
   rcases Nat.lt_or_ge x.natAbs y.natAbs with hlt | hlt
   · refine plus4_lt m1 m2 _ _ _ _ _ w hm1 hm2 b1 b2 hk' hlt ?_
     unfold sgn
     by_cases h : y < 0
     · simp [h];omega
     · simp [h];omega
   · refine plus4_ge m1 m2 _ _ _ _ _ w hm1 hm2 b1 b2 hk' hlt ?_
     unfold sgn
     by_cases h : x < 0
     · simp [h];omega
     · simp [h];omega
set_option maxRecDepth 100000 in
set_option maxHeartbeats 1000000 in
theorem minus4_any (v1 v2 : Value) (x y : Int) (w : World) (h1 : PlV w v1 x) (h2 : PlV w v2 y) (b1 : wlen B4 x.natAbs ≤ 1000000000) (b2 : wlen B4 y.natAbs ≤ 1000000000) :
 Calls Tryz.prog 143 #[v1,v2] w fun e w' => ∃ (A : Option Addr) (n c : Nat) (k : Bool),e = .returned (.agg #[.bool k,.slice A n c]) ∧ PlV w' (.agg #[.bool k,.slice A n c]) (x - y) ∧ Below w.heap.size w w' := by
 obtain ⟨m1,rfl,hm1⟩ := h1
 obtain ⟨m2,rfl,hm2⟩ := h2
 obtain ⟨k1,hk1⟩ : ∃ k,k = decide (x < 0) := ⟨_,rfl⟩
 obtain ⟨k2,hk2⟩ : ∃ k,k = decide (y < 0) := ⟨_,rfl⟩
 rw [← hk1,← hk2]
 have b2' : wlen B4 (-y).natAbs ≤ 1000000000 := by rw [Int.natAbs_neg];exact b2
 have hng : Hid (∀ W,PlB w m1 m2 k1 k2 W → Calls Tryz.prog 112 #[.agg #[.bool k2,m2]] W fun e w' => ∃ x,e = .returned x ∧ PlV w' x (-y) ∧ PlB w m1 m2 k1 k2 w') := Lib.hid (fun W hS => (turn4_any _ y W ⟨m2,by rw [hk2],hm2.below hS.1.2⟩).mono fun e w' ⟨v,he,hv,hb⟩ => ⟨v,he,hv,plb_step hS hb⟩)
 have hpl : Hid (∀ W v2,PlV W v2 (-y) → PlB w m1 m2 k1 k2 W → Calls Tryz.prog 124 #[.agg #[.bool k1,m1],v2] W fun e w' => ∃ (A : Option Addr) (n c : Nat) (k : Bool),e = .returned (.agg #[.bool k,.slice A n c]) ∧ PlV w' (.agg #[.bool k,.slice A n c]) (x - y) ∧ PlB w m1 m2 k1 k2 w') := Lib.hid (fun W v2 h2 hS => (plus4_any _ v2 x (-y) W ⟨m1,by rw [hk1],hm1.below hS.1.2⟩ h2 b1 b2').mono fun e w' ⟨v,he,hv,hb⟩ => by
  obtain ⟨A,n,c,k,rfl⟩ := hv.open
  exact ⟨A,n,c,k,he,by rw [Int.sub_eq_add_neg];exact hv,plb_step hS hb⟩)
 have hS0 := plb_start w m1 m2 k1 k2
 clear hm1 hm2 b1 b2 b2' hk1 hk2
 go_enter Tryz.func143,Tryz.ntmps143
 go_wp2_with fail
 go_region_held3 (fun W => (BoxP W (w.heap.size + 1 + 1) ∧ Below w.heap.size w W) ∧ W.cell? ⟨w.heap.size,0,none⟩ = some (.bool k1) ∧ W.cell? ⟨w.heap.size,1,none⟩ = some m1 ∧ W.cell? ⟨w.heap.size + 1,0,none⟩ = some (.bool k2) ∧ W.cell? ⟨w.heap.size + 1,1,none⟩ = some m2) (first | with_reducible assumption | exact plb_drew hS0 | (refine plb_store ?_ _ _ _ _;with_reducible assumption))
  (first
   | (go_at_call 112;refine (hng.out _ ?_).mono ?_;with_reducible assumption;rintro e w1 ⟨x1,rfl,hx1,hS1⟩)
   | (go_at_call 124;refine (hpl.out _ _ ?_ ?_).mono ?_;with_reducible assumption;with_reducible assumption;rintro e w2 ⟨A,n,c,k,rfl,hp,hS2⟩;obtain ⟨⟨q0,hc0⟩,⟨q1,hc1⟩,hf0,hf1⟩ := hS2.1.1.facts))
 go_wp2
 exact bodyPost_ret (v := .agg #[.bool k,.slice A n c]) (by simp [results,Tryz.results143,go_sem,hc0,hc1]) rfl ⟨A,n,c,k,rfl,hp.sets hS2.1.1 _ _,(plb_store hS2 A n c k).1.2⟩
theorem order4z_cells {w : World} {A : Option Addr} {n c : Nat} {k : Bool} {z : Int} (h : PlV w (.agg #[.bool k,.slice A n c]) z) : k = decide (z < 0) ∧ n = wlen B4 z.natAbs := by
 obtain ⟨m,e,A',c',rfl,_⟩ := h
 simp at e
 exact ⟨e.1,e.2.2.1⟩
theorem tmod_neg4 (m : Nat) : Int.tmod (-(m : Int)) 10000 = -(dLo m : Int) := by rw [Int.neg_tmod,Int.tmod_eq_emod_of_nonneg (by omega),dLo_eq]
theorem tdiv_neg4 (m : Nat) : Int.tdiv (-(m : Int)) 10000 = -(dHi m : Int) := by rw [Int.neg_tdiv,Int.tdiv_eq_ediv_of_nonneg (by omega),dHi_eq]
set_option maxRecDepth 100000 in
set_option maxHeartbeats 1000000 in
theorem integer_neg (n : Nat) (w : World) (hpos : 0 < n) (hn : n ≤ 9223372036854775808) :
 Calls Tryz.prog 88 #[.int .i64 (-(n : Int))] w fun e w' => ∃ v,e = .returned v ∧ PlV w' v (-(n : Int)) ∧ Below w.heap.size w w' := by
 obtain ⟨i0,hi,hz0,hz1,hz2⟩ := info_parts infoI
 have hbx := BoxP.alloc w none 0 0 false
 have hbW : Below w.heap.size w (w.alloc (.cells #[.bool false,.slice none 0 0] 88)) := (Below.refl _ _).alloc (Nat.le_refl _) _
 have i1 : -(n : Int) < 0 := by omega
 have HI := Lib.hid (And.intro hi (And.intro hz0 (And.intro hz1 (And.intro hz2 hn))))
 clear hi hz0 hz1 hz2 hn
 go_enter Tryz.func88,Tryz.ntmps88
 go_wp2_with fail
 go_loopg [0,3] n (fun m mv v W => ∃ (zs : List Nat) (dv : Value),dv = v ∧ mv = .int .i64 (-(m : Int)) ∧ m ≤ n ∧ Ok B4 zs ∧ val B4 zs + B4 ^ zs.length * m = n ∧ W.ownsRow (w.heap.size + 1) 3 1 v zs.length (zs.map I8) ∧ BoxP W w.heap.size ∧ Below w.heap.size w W ∧ w.heap.size + 1 ≤ W.heap.size)
 case atStart => exact ⟨[],_,rfl,rfl,Nat.le_refl _,Ok.nil,by simp [val_nil],World.ownsRow_nil _ _ _ _,hbx,hbW,by simp⟩
 case round =>
  obtain ⟨zs,dv,hdv,rfl,hm,hok,hval,hown,hbx,hbel,hsz⟩ := hrel
  subst hdv
  by_cases h0 : gk = 0
  · subst h0
    rw [Nat.mul_zero,Nat.add_zero] at hval
    obtain ⟨A,c,rfl,hnc,hcm,hsl⟩ := owns_sl hown
    have hmd := made_any true A zs.length c zs wr hsl hok hnc hcm
    rw [hval,show sgn n true = -(n : Int) from rfl] at hmd
    rw [show (-(((0 : Nat)) : Int)) = 0 from rfl]
    clear hval hown hok hm
    go_wp2_with fail
    refine hmd.mono ?_
    rintro e w2 ⟨v,rfl,hv,hb2⟩
    obtain ⟨A2,n2,c2,k2,rfl⟩ := hv.open
    have hbx2 := hbx.below hb2 hbx.lt
    obtain ⟨⟨q0,hc0⟩,⟨q1,hc1⟩,hf0,hf1⟩ := hbx2.facts
    go_wp2_with fail
    exact bodyPost_ret (v := .agg #[.bool k2,.slice A2 n2 c2]) (by simp [results,Tryz.results88,go_sem,hc0,hc1]) rfl ⟨_,rfl,hv.sets hbx2 _ _,((hbel.trans (hb2.mono hbel.size)).setCell (Nat.le_refl _) _).setCell (Nat.le_refl _) _⟩
  · have hp : 0 < gk := Nat.pos_of_ne_zero h0
    have k0 : (-(gk : Int) == 0) = false := by rw [beq_eq_false_iff_ne];omega
    have k0' : (-(gk : Int) != 0) = true := by rw [bne_iff_ne];omega
    have hl5 : zs.length < 5 := by
     rcases Nat.lt_or_ge zs.length 5 with h1 | h1
     · exact h1
     · have h2 : B4 ^ 5 ≤ B4 ^ zs.length := Nat.pow_le_pow_right (by decide) h1
       have h3 : B4 ^ zs.length ≤ B4 ^ zs.length * gk := Nat.le_mul_of_pos_right _ hp
       have h4 : B4 ^ 5 = 100000000000000000000 := by decide
       have := HI.out.2.2.2.2
       omega
    obtain ⟨G,hG⟩ : ∃ G : Int,G = -(gk : Int) := ⟨_,rfl⟩
    have e1 := tmod_neg4 gk
    have e2 := tdiv_neg4 gk
    rw [← hG] at e1 e2 k0 k0' ⊢
    have g1 : -9223372036854775808 ≤ G := by have := HI.out.2.2.2.2;omega
    have g2 : G ≤ -1 := by omega
    have d0 := dLo_lt gk
    rw [B4_eq] at d0
    have d1 : (dLo gk : Int) ≤ 9999 := by omega
    have d2 : (0 : Int) ≤ (dLo gk : Int) := by omega
    have d3 : (0 : Int) ≤ (dHi gk : Int) := by omega
    have d4 : (dHi gk : Int) ≤ 922337203685477581 := by have := HI.out.2.2.2.2;unfold dHi;omega
    have hnew := news_one wr (.int .i64 (dLo gk : Int)) 3 rfl
    have hownA := hown.alloc (.cells #[.int .i64 (dLo gk : Int)] 3)
    have HV := Lib.hid (And.intro hval (And.intro hm (And.intro hl5 (And.intro hp (And.intro h0 hG)))))
    clear hval hm hl5 h0 hp hG d0
    by_cases hd0 : dLo gk = 0
    · rw [hd0] at e1 hnew hownA
      rw [show (-(((0 : Nat)) : Int)) = 0 from rfl] at e1
      rw [show ((((0 : Nat)) : Int)) = 0 from rfl] at hnew hownA
      have HD := Lib.hid hd0
      clear hd0 d1 d2
      go_wp2_with (at_builtin;refine wpList_append_own _ rfl (.tmp 16) (.tmp 18) 86 rfl (w.heap.size + 1) 3 i0 (.int .i64 0) 1 8 Tryz.underlying86 HI.out.1 HI.out.2.1 HI.out.2.2.1 HI.out.2.2.2.1 rfl (by decide) dv zs.length (zs.map I8) rfl hownA ⟨wr.heap.size,0,none⟩ 1 1 [.int .i64 0] rfl rfl hnew.1 hnew.2 (by have := HV.out.2.2.1;unfold maxLen;omega) (by have := HV.out.2.2.1;omega) (by simp;omega) ?_;intro v' w1 hown' hgrow _)
      have hok' : Ok B4 (zs ++ [dLo gk]) := hok.app (Ok.cons (dLo_lt gk) Ok.nil)
      have hval' : val B4 (zs ++ [dLo gk]) + B4 ^ (zs ++ [dLo gk]).length * dHi gk = n := by
       rw [val_snoc,List.length_append,List.length_singleton,Nat.pow_succ,Nat.mul_assoc,Nat.add_assoc,← Nat.mul_add,d_eq];exact HV.out.1
      have hown2 : w1.ownsRow (w.heap.size + 1) 3 1 v' (zs ++ [dLo gk]).length ((zs ++ [dLo gk]).map I8) := by
       rw [List.length_append,List.map_append,HD.out];exact hown'
      have hwr : Below wr.heap.size wr (wr.alloc (.cells #[.int .i64 0] 3)) := (Below.refl _ _).alloc (Nat.le_refl _) _
      have hb1 : Below (w.heap.size + 1) (wr.alloc (.cells #[.int .i64 0] 3)) w1 := below_own (Below.refl _ _) hownA hgrow (Nat.le_refl _) (by simp;omega)
      have hb0 := Lib.hid ((hwr.mono hsz).trans hb1)
      have HO := Lib.hid (And.intro hval' hown2)
      clear hval' hown2 hown' hgrow hwr hb1
      go_wp2_with fail
      go_roundg (dHi gk)
      case measure => unfold dHi;exact Nat.div_lt_self HV.out.2.2.2.1 (by decide)
      case rel => exact ⟨_,_,rfl,rfl,Nat.le_trans (Nat.div_le_self _ _) HV.out.2.1,hok',HO.out.1,HO.out.2,hbx.below hb0.out (by omega),hbel.trans (hb0.out.mono (by omega)),Nat.le_trans hsz hb0.out.size⟩
    · have f1 : -(dLo gk : Int) < 0 := by omega
      have HD := Lib.hid hd0
      clear hd0
      go_wp2_with (at_builtin;refine wpList_append_own _ rfl (.tmp 16) (.tmp 18) 86 rfl (w.heap.size + 1) 3 i0 (.int .i64 0) 1 8 Tryz.underlying86 HI.out.1 HI.out.2.1 HI.out.2.2.1 HI.out.2.2.2.1 rfl (by decide) dv zs.length (zs.map I8) rfl hownA ⟨wr.heap.size,0,none⟩ 1 1 [.int .i64 (dLo gk : Int)] rfl rfl hnew.1 hnew.2 (by have := HV.out.2.2.1;unfold maxLen;omega) (by have := HV.out.2.2.1;omega) (by simp;omega) ?_;intro v' w1 hown' hgrow _)
      have hok' : Ok B4 (zs ++ [dLo gk]) := hok.app (Ok.cons (dLo_lt gk) Ok.nil)
      have hval' : val B4 (zs ++ [dLo gk]) + B4 ^ (zs ++ [dLo gk]).length * dHi gk = n := by
       rw [val_snoc,List.length_append,List.length_singleton,Nat.pow_succ,Nat.mul_assoc,Nat.add_assoc,← Nat.mul_add,d_eq];exact HV.out.1
      have hown2 : w1.ownsRow (w.heap.size + 1) 3 1 v' (zs ++ [dLo gk]).length ((zs ++ [dLo gk]).map I8) := by
       rw [List.length_append,List.map_append];exact hown'
      have hwr : Below wr.heap.size wr (wr.alloc (.cells #[.int .i64 (dLo gk : Int)] 3)) := (Below.refl _ _).alloc (Nat.le_refl _) _
      have hb1 : Below (w.heap.size + 1) (wr.alloc (.cells #[.int .i64 (dLo gk : Int)] 3)) w1 := below_own (Below.refl _ _) hownA hgrow (Nat.le_refl _) (by simp;omega)
      have hb0 := Lib.hid ((hwr.mono hsz).trans hb1)
      have HO := Lib.hid (And.intro hval' hown2)
      clear hval' hown2 hown' hgrow hwr hb1
      go_wp2_with fail
      go_roundg (dHi gk)
      case measure => unfold dHi;exact Nat.div_lt_self HV.out.2.2.2.1 (by decide)
      case rel => exact ⟨_,_,rfl,rfl,Nat.le_trans (Nat.div_le_self _ _) HV.out.2.1,hok',HO.out.1,HO.out.2,hbx.below hb0.out (by omega),hbel.trans (hb0.out.mono (by omega)),Nat.le_trans hsz hb0.out.size⟩
theorem integerZ_any (n : Int) (w : World) (h0 : -9223372036854775808 ≤ n) (h1 : n ≤ 9223372036854775807) :
 Calls Tryz.prog 88 #[.int .i64 n] w fun e w' => ∃ v,e = .returned v ∧ PlV w' v n ∧ Below w.heap.size w w' := by
 rcases (show n < 0 ∨ 0 ≤ n by omega) with h | h
 · obtain ⟨m,rfl⟩ : ∃ m : Nat,n = -(m : Int) := ⟨n.natAbs,by omega⟩
   exact integer_neg m w (by omega) (by omega)
 · obtain ⟨m,rfl⟩ : ∃ m : Nat,n = (m : Int) := ⟨n.natAbs,by omega⟩
   exact integer_any m w (by omega)
end Go.Proofs.YtlfgpmnjnpdkdaaGreatDoor
namespace Vd
open Go Go.RowKit
theorem addr_plain (g o j : Nat) : (⟨g,o,none⟩ : Addr).add j = ⟨g,o + j,none⟩ := by simp [Addr.add]
theorem owns_one (w : World) (t : TypeId) (u : Value) : (w.alloc (.cells #[u] t)).ownsRow w.heap.size t 1 (.slice (some ⟨w.heap.size,0,none⟩) 1 1) 1 [u] :=
 ⟨rfl,Or.inr ⟨w.heap.size,1,#[u],rfl,Nat.le_refl _,heap_alloc_new w _,Nat.le_refl _,by simp [maxLen],rfl,rfl⟩⟩
theorem owns_none (w : World) (t : TypeId) : (w.alloc (.cells #[] t)).ownsRow w.heap.size t 1 (.slice (some ⟨w.heap.size,0,none⟩) 0 0) 0 [] :=
 ⟨rfl,Or.inr ⟨w.heap.size,0,#[],rfl,Nat.le_refl _,heap_alloc_new w _,Nat.le_refl _,Nat.zero_le _,rfl,rfl⟩⟩
section
variable {P : Program} (w : World)
theorem run_append_sl (base : Nat) (t ty e : TypeId) (i : TypeInfo) (z : Value) (bytes : Nat) (ht : P.underlying t = some (.slice e)) (hi : P.info? e = some i) (hz : i.zero = some z)
 (hsize : i.size = 1) (hby : i.bytes = bytes) (hzs : z.cells.size = 1)
 (v : Value) (n : Nat) (xs : List Value) (hown : w.ownsRow base e 1 v n xs) {f : Nat → Value} {A : Option Addr} {m c : Nat} {ns : List Nat} (hs : Sl w f A m ns) (h1 : ∀ x,(f x).oneCell' = true)
 (h63 : n + m ≤ maxLen) (hbytes : (n + m) * bytes ≤ 140737488355328) (hbase : base ≤ w.heap.size) :
 ∃ v' w',(Builtin.append_ #[t,t] ty #[v,.slice A m c]).run P w = .ok v' w' ∧ w'.ownsRow base e 1 v' (n + m) (xs ++ ns.map f) ∧ w.grownBy w' v.ownBlock := by
 have h1' : ∀ u ∈ ns.map f,u.oneCell' = true := by
  intro u hu
  obtain ⟨x,_,rfl⟩ := List.mem_map.1 hu
  exact h1 x
 have hl : (ns.map f).length = m * 1 := by rw [List.length_map,hs.len,Nat.mul_one]
 rcases Nat.eq_zero_or_pos m with h0 | h0
 · subst h0
   have hn : ns = [] := List.eq_nil_of_length_eq_zero hs.len
   subst hn
   rcases A with _ | ad
   · refine ⟨v,w,?_,by simpa using hown,World.grownBy.refl w _⟩
     rcases hown.2 with ⟨rfl,rfl⟩ | ⟨g,cap,cur,rfl,_,_,hnc,_⟩
     · simp [Builtin.append_,run_underlying ht,Go.sizeOf,Go.typeInfo,hi,Builtin.lenOf,Builtin.firstCells]
     · simp [Builtin.append_,run_underlying ht,Go.sizeOf,Go.typeInfo,hi,Builtin.lenOf,Builtin.firstCells,hnc,storeCells]
   · obtain ⟨v',w',hr,h2,h3,_⟩ := run_append_own (P := P) w base t ty e i z 1 bytes ht hi hz hsize hby hzs (by decide) v n xs hown ad 0 c [] rfl (by simp) (by simp) h63 hbytes hbase
     exact ⟨v',w',hr,h2,h3⟩
 · obtain ⟨g,o,rfl,hg,hc⟩ := hs.2 h0
   obtain ⟨v',w',hr,h2,h3,_⟩ := run_append_own (P := P) w base t ty e i z 1 bytes ht hi hz hsize hby hzs (by decide) v n xs hown ⟨g,o,none⟩ m c (ns.map f) hl (by
    intro j u hu
    have hj : j < m := by
     rcases Nat.lt_or_ge j m with h | h
     · exact h
     · rw [List.getElem?_eq_none (by rw [List.length_map,hs.len];exact h)] at hu;cases hu
    rw [addr_plain,hc j hj]
    rw [List.getElem?_map,List.getElem?_eq_getElem (by rw [hs.len];exact hj)] at hu
    rw [nth_lt (by rw [hs.len];exact hj)]
    exact hu) h1' h63 hbytes hbase
   exact ⟨v',w',hr,h2,h3⟩
theorem wpList_append_sl {ops : Array Oper} {rest : List Oper} {o : Oper} {a : Act} {Q : Exit → Act → World → Prop} (hgd : o.guard = none) (s x : Operand) (t : TypeId)
 (ho : o.op = .call { callee := .builtin .append,args := #[s,x],argTypes := #[t,t] })
 (base : Nat) (e : TypeId) (i : TypeInfo) (z : Value) (bytes : Nat) (ht : P.underlying t = some (.slice e)) (hi : P.info? e = some i) (hz : i.zero = some z)
 (hsize : i.size = 1) (hby : i.bytes = bytes) (hzs : z.cells.size = 1)
 (v : Value) (n : Nat) (xs : List Value) (hsv : a.eval s = v) (hown : w.ownsRow base e 1 v n xs) {f : Nat → Value} {A : Option Addr} {m c : Nat} {ns : List Nat} (hx : a.eval x = .slice A m c) (hs : Sl w f A m ns) (h1 : ∀ x,(f x).oneCell' = true)
 (h63 : n + m ≤ maxLen) (hbytes : (n + m) * bytes ≤ 140737488355328) (hbase : base ≤ w.heap.size)
 (h : ∀ v' w',w'.ownsRow base e 1 v' (n + m) (xs ++ ns.map f) → w.grownBy w' v.ownBlock → wpList P ops Q rest (a.put o.dst v') w') : wpList P ops Q (o :: rest) a w := by
 refine wpList_plain hgd fun _ hK => ?_
 obtain ⟨v',w',hr,h2,h3⟩ := run_append_sl (P := P) w base t o.type e i z bytes ht hi hz hsize hby hzs v n xs hown (c := c) hs h1 h63 hbytes hbase
 unfold Oper.wp execOp
 simp only [ho,resolve,invoke,builtin,Sem.run_bind,Sem.run_pure,Result.andThen_ok,List.map_toArray,List.map_cons,List.map_nil,hsv,hx,hr]
 exact hK _ _ (h v' w' h2 h3)
end
theorem divmod_of {x d q r : Nat} (h : x = q * d + r) (hr : r < d) : x / d = q ∧ x % d = r := by
 subst h
 constructor
 · rw [Nat.add_comm,Nat.add_mul_div_right _ _ (by omega),Nat.div_eq_of_lt hr,Nat.zero_add]
 · rw [Nat.add_comm,Nat.add_mul_mod_self_right,Nat.mod_eq_of_lt hr]
end Vd
namespace Go.Proofs.YtlfgpmnjnpdkdaaGreatDoor
open Go.RowKit Vd
attribute [local go_sem ↓] Go.wp_at_zero Go.wp_at_succ
theorem once_step {xs zs : List Nat} {j d R q R' : Nat} (hd : 0 < d) (hj : j < xs.length) (hjz : j < zs.length) (hR : R = val B4 (xs.drop (j + 1)) % d) (hZ : val B4 (zs.drop (j + 1)) = val B4 (xs.drop (j + 1)) / d)
 (hq : q = (R * B4 + nth xs j) / d) (hr : R' = (R * B4 + nth xs j) % d) :
 R' = val B4 (xs.drop j) % d ∧ val B4 ((zs.set j q).drop j) = val B4 (xs.drop j) / d := by
 have h1 := Nat.div_add_mod (val B4 (xs.drop (j + 1))) d
 rw [← hR,← hZ,Nat.mul_comm] at h1
 have h2 := Nat.div_add_mod (R * B4 + nth xs j) d
 rw [← hq,← hr,Nat.mul_comm] at h2
 have h3 := divw_step B4 (nth xs j) _ _ q R' R d h1.symm h2.symm
 rw [← val_drop_step hj] at h3
 obtain ⟨e1,e2⟩ := divmod_of h3 (by rw [hr];exact Nat.mod_lt _ hd)
 refine ⟨e2.symm,?_⟩
 rw [drop_set_self hjz,val_cons,e1]
set_option maxRecDepth 100000 in
set_option maxHeartbeats 2000000 in
theorem once4_core (A : Option Addr) (n c d : Nat) (xs : List Nat) (w : World) (hx : Sl w I8 A n xs) (ox : Ok B4 xs) (hd : 0 < d) (hd2 : d < 10000) (b1 : n ≤ 1000000000) :
 Calls Tryz.prog 175 #[.slice A n c,.int .i64 (d : Int)] w fun e w' => ∃ (A' : Option Addr) (n' c' : Nat),e = .returned (.tuple #[.slice A' n' c',.int .i64 ((val B4 xs % d : Nat) : Int)]) ∧ DigV w' (.slice A' n' c') (val B4 xs / d) ∧ Below w.heap.size w w' := by
 have hmk := fun W => mkJ n (by unfold maxW;omega) W
 have HX := Lib.hid hx.len
 have HD := Lib.hid hd
 have q1 : (n : Int) ≤ 1000000000 := by omega
 have q2 : (0 : Int) < (d : Int) := by omega
 have q3 : (d : Int) ≤ 9999 := by omega
 have q4 : ((d : Int) == 0) = false := by rw [beq_eq_false_iff_ne];omega
 have q5 : (d : Int) ≠ 0 := by omega
 clear hd hd2
 go_enter Tryz.func175,Tryz.ntmps175
 go_wp2_with fail
 go_loopg [7,8] n (fun r rv iv W => ∃ (i R : Nat) (zs : List Nat),i = r ∧ iv = .int .i64 ((i : Int) - 1) ∧ rv = .int .i64 (R : Int) ∧ i ≤ n ∧ R = val B4 (xs.drop i) % d ∧ zs.length = n ∧ Ok B4 zs ∧ Row W I8 w.heap.size 3 zs ∧ val B4 (zs.drop i) = val B4 (xs.drop i) / d ∧ Below w.heap.size w W)
 case atStart => exact ⟨n,0,List.replicate n 0,rfl,rfl,rfl,Nat.le_refl _,by rw [List.drop_eq_nil_of_le (by rw [HX.out];exact Nat.le_refl _),val_nil,Nat.zero_mod],by simp,Ok.rep two_le_B4 _,Row.newRep w I8 _ _,by rw [List.drop_eq_nil_of_le (by simp),List.drop_eq_nil_of_le (by rw [HX.out];exact Nat.le_refl _),val_nil,Nat.zero_div],(Below.refl _ _).alloc (Nat.le_refl _) _⟩
 case round =>
  clear hmk
  obtain ⟨i,R,zs,rfl,rfl,rfl,hi,hR,hlz,hoz,hrow,hval,hbel⟩ := hrel
  cases i with
  | zero =>
    rw [show (((0 : Nat) : Int) - 1) = -1 from rfl]
    have hsl := hrow.sl0
    rw [hlz] at hsl
    have hcut := cut4_dig _ n n zs wr hsl hoz (Nat.le_refl _) (by omega)
    rw [List.drop_zero] at hval hR
    rw [List.drop_zero] at hval
    rw [hval] at hcut
    have HR := Lib.hid hR
    clear hval hR hlz hoz hrow hsl hi
    go_wp2_with fail
    refine hcut.mono ?_
    rintro e w2 ⟨k,rfl,hk,hd,rfl⟩
    have HDD := Lib.hid hd
    clear hk hd hcut
    go_wp2_with fail
    go_ret2
    exact ⟨_,k,n,by rw [← HR.out];rfl,HDD.out,hbel⟩
  | succ j =>
    rw [show (((j + 1 : Nat) : Int) - 1) = (j : Int) from by omega]
    obtain ⟨g,o,rfl,hg,hc1⟩ := hx.at_ (by omega)
    have hca := (hbel.cell (p := ⟨g,o + j,none⟩) hg).trans (hc1 j (by omega))
    have hco := hrow.cell (i := j) (by omega)
    have hfo := hrow.frozen j
    unfold I8 at hca hco
    have hxk := ox.get two_le_B4 j
    rw [B4_eq] at hxk
    have hRd : R < d := by rw [hR];exact Nat.mod_lt _ HD.out
    obtain ⟨x,hxx⟩ : ∃ x,x = nth xs j := ⟨_,rfl⟩
    rw [← hxx] at hca hxk
    obtain ⟨T,hT⟩ : ∃ T,T = R * B4 + x := ⟨_,rfl⟩
    obtain ⟨q,hq⟩ : ∃ q,q = T / d := ⟨_,rfl⟩
    obtain ⟨R',hR'⟩ : ∃ q,q = T % d := ⟨_,rfl⟩
    have hTR : T / d ≤ 9999 := by
     have : T < d * B4 := by
      rw [hT]
      have : R * B4 + B4 ≤ d * B4 := by rw [← Nat.succ_mul];exact Nat.mul_le_mul_right _ hRd
      rw [B4_eq] at this ⊢;omega
     have := Nat.div_lt_of_lt_mul this
     rw [B4_eq] at this;omega
    have e1 : (R : Int) * 10000 + (x : Int) = (T : Int) := by rw [hT,B4_eq];omega
    have e2 : (T : Int) / (d : Int) = (q : Int) := by rw [hq];simp
    have e3 : (T : Int) % (d : Int) = (R' : Int) := by rw [hR'];simp
    have hst := once_step (q := q) (R' := R') HD.out (show j < xs.length by rw [HX.out];omega) (show j < zs.length by omega) hR hval (by rw [hq,hT,hxx]) (by rw [hR',hT,hxx])
    have p1 : (0 : Int) ≤ (R : Int) := by omega
    have p2 : (R : Int) ≤ 9999 := by omega
    have p3 : (0 : Int) ≤ (x : Int) := by omega
    have p4 : (x : Int) ≤ 9999 := by omega
    have p5 : (0 : Int) ≤ (T : Int) := by omega
    have p6 : (T : Int) ≤ 99999999 := by omega
    have p7 : (0 : Int) ≤ (j : Int) := by omega
    have p8 : (j : Int) < (n : Int) := by omega
    have p9 : (q : Int) ≤ 9999 := by omega
    have p10 : (0 : Int) ≤ (q : Int) := by omega
    have HV := Lib.hid (And.intro hst (And.intro hlz (And.intro hoz (And.intro hrow (And.intro hbel (And.intro hi (show q < B4 by rw [B4_eq];omega)))))))
    clear hst hlz hoz hrow hbel hi hR hval hxk hRd hT hq hR' hTR hxx hc1
    go_wp2_with fail
    go_roundg j
    case measure => omega
    case rel =>
     obtain ⟨hst,hlz,hoz,hrow,hbel,hi,hqb⟩ := HV.out
     exact ⟨j,R',zs.set j q,rfl,by go_num,by first | rfl | rw [e3],by omega,hst.1,by rw [List.length_set];exact hlz,hoz.set hqb,hrow.set j q,hst.2,hbel.setCell (Nat.le_refl _) _⟩
theorem once4_any (v : Value) (a d : Nat) (w : World) (h : DigV w v a) (hd : 0 < d) (hd2 : d < 10000) (b1 : wlen B4 a ≤ 1000000000) :
 Calls Tryz.prog 175 #[v,.int .i64 (d : Int)] w fun e w' => ∃ (A' : Option Addr) (n' c' : Nat),e = .returned (.tuple #[.slice A' n' c',.int .i64 ((a % d : Nat) : Int)]) ∧ DigV w' (.slice A' n' c') (a / d) ∧ Below w.heap.size w w' := by
 obtain ⟨A,c,rfl,_,_,s⟩ := h
 have hr := once4_core A _ c d _ w s (ok_ws _) hd hd2 b1
 rwa [val_ws two_le_B4] at hr
theorem val_one (b m : Nat) : val b [m] = m := by rw [val_cons,val_nil,Nat.mul_zero,Nat.add_zero]
theorem product4_one (v1 : Value) (a m g c : Nat) (w : World) (h1 : DigV w v1 a) (hm : m ≤ 10000) (hc : w.cell? ⟨g,0,none⟩ = some (.int .i64 (m : Int))) (b1 : wlen B4 a ≤ 1000000000) :
 Calls Tryz.prog 146 #[v1,.slice (some ⟨g,0,none⟩) 1 c] w fun e w' => ∃ A n c,e = .returned (.slice A n c) ∧ DigV w' (.slice A n c) (a * m) ∧ Below w.heap.size w w' := by
 obtain ⟨A1,c1,rfl,_,_,s1⟩ := h1
 have hsl : Sl w I8 (some ⟨g,0,none⟩) 1 [m] := ⟨rfl,fun _ => ⟨g,0,rfl,World.block_lt_of_cell? w _ hc,fun i hi => by
  have : i = 0 := by omega
  subst this
  exact hc⟩⟩
 refine (product4_core A1 _ _ 1 c1 c _ _ w s1 hsl (ok_ws _) (Or.inr ⟨m,rfl,hm⟩) b1 (by omega)).mono ?_
 rintro e w' ⟨A,n,c,he,hd,hb⟩
 rw [val_ws two_le_B4,val_one] at hd
 exact ⟨A,n,c,he,hd,hb⟩
end Go.Proofs.YtlfgpmnjnpdkdaaGreatDoor
namespace Go.Proofs.YtlfgpmnjnpdkdaaGreatDoor
open Go.RowKit Vd
attribute [local go_sem ↓] Go.wp_at_zero Go.wp_at_succ
theorem dig_of_own {w : World} {base : Nat} {v : Value} {n : Nat} {xs : List Nat} (h : w.ownsRow base 3 1 v n (xs.map I8)) (hx : xs = ws B4 (val B4 xs)) : DigV w v (val B4 xs) := by
 obtain ⟨A,c,rfl,h1,h2,h3⟩ := owns_sl h
 have hl : xs.length = n := h3.len
 have hn : n = wlen B4 (val B4 xs) := by rw [← hl];exact congrArg List.length hx
 rw [hx] at h3
 subst hn
 exact ⟨A,c,rfl,h1,h2,h3⟩
set_option maxRecDepth 100000 in
set_option maxHeartbeats 2000000 in
theorem parts_one (v1 v2 : Value) (a b : Nat) (w : World) (h1 : DigV w v1 a) (h2 : DigV w v2 b) (b1 : wlen B4 a ≤ 1000000000) (hb : wlen B4 b = 1) :
 Calls Tryz.prog 142 #[v1,v2] w fun e w' => ∃ (A : Option Addr) (n c : Nat) (A' : Option Addr) (n' c' : Nat),e = .returned (.tuple #[.slice A n c,.slice A' n' c']) ∧ DigV w' (.slice A n c) (a / b) ∧ DigV w' (.slice A' n' c') (a % b) ∧ Below w.heap.size w w' := by
 have hbp : 0 < b := Nat.pos_of_ne_zero fun e => by rw [e,wlen_zero] at hb;omega
 have hb4 : b < B4 := by
  have := lt_pow_wlen two_le_B4 b
  rw [hb] at this;simpa using this
 obtain ⟨A2,c2,rfl,_,_,s2⟩ := h2
 rw [hb] at s2 ⊢
 rw [ws_one two_le_B4 hb4 (by omega)] at s2
 obtain ⟨g,o,rfl,hg,hc⟩ := s2.at_ (by omega)
 have hcb := hc 0 (by omega)
 have hcb : w.cell? ⟨g,o,none⟩ = some (.int .i64 (b : Int)) := hcb
 have hr4 : a % b < B4 := Nat.lt_trans (Nat.mod_lt _ hbp) hb4
 have hon := once4_any v1 a b w h1 hbp (by rw [B4_eq] at hb4;exact hb4) b1
 obtain ⟨q,hq⟩ : ∃ q,q = a / b := ⟨_,rfl⟩
 obtain ⟨r,hr⟩ : ∃ q,q = a % b := ⟨_,rfl⟩
 rw [← hq,← hr] at hon ⊢
 rw [← hr] at hr4
 obtain ⟨A1,c1,rfl,_,_,s1⟩ := h1
 have i1 : (o : Int) = (o : Int) := rfl
 clear hb hbp hb4 s2 s1 hq hr b1 hc i1
 have HR := Lib.hid hr4
 clear hr4
 go_enter Tryz.func142,Tryz.ntmps142
 go_wp2_with fail
 refine hon.mono ?_
 rintro e w1 ⟨A,n,c,rfl,hd,hb1⟩
 have hsl : Sl (w1.alloc (.cells #[.int .i64 (r : Int)] 3)) I8 (some ⟨w1.heap.size,0,none⟩) 1 [r] := (Row.new w1 I8 3 [r]).sl0
 have hcut := cut4_dig _ 1 1 [r] _ hsl (Ok.cons HR.out Ok.nil) (Nat.le_refl _) (by omega)
 rw [val_one] at hcut
 have HD := Lib.hid (hd.below ((Below.refl _ _).alloc (Nat.le_refl _) (.cells #[.int .i64 (r : Int)] 3)))
 clear hd hsl hon
 go_wp2_with fail
 refine hcut.mono ?_
 rintro e w2 ⟨k,rfl,hk,hd2,rfl⟩
 have HE := Lib.hid hd2
 clear hk hd2 hcut
 go_wp2_with fail
 go_ret2
 exact ⟨A,n,c,_,k,1,rfl,HD.out,HE.out,hb1.alloc hb1.size _⟩
set_option maxRecDepth 100000 in
set_option maxHeartbeats 2000000 in
theorem parts_short (v1 v2 : Value) (a b n : Nat) (w : World) (h1 : DigV w v1 a) (h2 : DigV w v2 b) (b1 : wlen B4 a ≤ 1000000) (hn : wlen B4 b = n + 1) (h0 : 0 < n) (ha : wlen B4 a ≤ n) (hn2 : n ≤ 1000000) :
 Calls Tryz.prog 142 #[v1,v2] w fun e w' => ∃ (A : Option Addr) (n c : Nat) (A' : Option Addr) (n' c' : Nat),e = .returned (.tuple #[.slice A n c,.slice A' n' c']) ∧ DigV w' (.slice A n c) (a / b) ∧ DigV w' (.slice A' n' c') (a % b) ∧ Below w.heap.size w w' := by
 obtain ⟨i0,hi,hz0,hz1,hz2⟩ := info_parts infoI
 have HI := Lib.hid (And.intro hi (And.intro hz0 (And.intro hz1 hz2)))
 clear hi hz0 hz1 hz2
 have hab : a < b := lt_of_wlen_lt two_le_B4 (by omega)
 rw [Nat.div_eq_of_lt hab,Nat.mod_eq_of_lt hab]
 obtain ⟨A1,c1,rfl,hl1,hm1,s1⟩ := h1
 obtain ⟨A2,c2,rfl,hl2,hm2,s2⟩ := h2
 rw [hn]
 obtain ⟨L,hL⟩ : ∃ L,L = wlen B4 a := ⟨_,rfl⟩
 rw [← hL] at s1 b1 ha hl1 ⊢
 have k1 : (((n + 1 : Nat) : Int) == 1) = false := by rw [beq_eq_false_iff_ne];omega
 have k1' : (((n : Int) + 1) == 1) = false := by rw [beq_eq_false_iff_ne];omega
 have k1'' : ((n : Int) == 0) = false := by rw [beq_eq_false_iff_ne];omega
 have k2 : (L : Int) ≤ (n : Int) := by omega
 have k3 : (n : Int) ≤ 1000000 := by omega
 have k4 : (0 : Int) ≤ (n : Int) := by omega
 have hsl : Sl (w.alloc (.cells #[] 3)) I8 A1 L (ws B4 a) := s1.alloc _
 have hown := owns_none w 3
 have HL := Lib.hid (And.intro hL (And.intro b1 hab))
 clear s1 s2 hl1 hl2 hm1 hm2 hL hn ha hab b1 h0
 go_enter Tryz.func142,Tryz.ntmps142
 go_wp2_with (at_builtin;refine wpList_append_sl _ rfl (.tmp 40) (.tmp 41) 86 rfl w.heap.size 3 i0 (.int .i64 0) 8 Tryz.underlying86 HI.out.1 HI.out.2.1 HI.out.2.2.1 HI.out.2.2.2 rfl (.slice (some ⟨w.heap.size,0,none⟩) 0 0) 0 [] rfl hown (c := c1) rfl hsl (fun _ => rfl) (by have := HL.out.2.1;unfold maxLen;omega) (by have := HL.out.2.1;omega) (by simp) ?_;intro v' w1 hown' hgrow)
 rw [Nat.zero_add,List.nil_append] at hown'
 obtain ⟨A,c,rfl,hnc,hcm,hs'⟩ := owns_sl hown'
 have hD : DigV w1 (.slice A L c) a := ⟨A,c,by rw [HL.out.1],by rw [← HL.out.1];exact hnc,hcm,by rw [← HL.out.1];exact hs'⟩
 have hbl : Below w.heap.size w w1 := below_own ((Below.refl _ _).alloc (Nat.le_refl _) _) hown hgrow (Nat.le_refl _) (by simp)
 have HB := Lib.hid (And.intro hD hbl)
 clear hD hbl hown' hs' hgrow hown hsl hnc hcm
 go_wp2_with fail
 go_ret2
 exact ⟨none,0,0,A,L,c,rfl,DigV.zero _,HB.out.1,HB.out.2⟩
theorem owns_at {w : World} {base : Nat} {e : TypeId} {v : Value} {n : Nat} {f : Nat → Value} {xs : List Nat} (h : w.ownsRow base e 1 v n (xs.map f)) (hn : 0 < n) :
 ∃ g c,v = .slice (some ⟨g,0,none⟩) n c ∧ base ≤ g ∧ n ≤ c ∧ c ≤ 9223372036854775807 ∧ Sl w f (some ⟨g,0,none⟩) n xs := by
 have hs := owns_sl h
 rcases h.2 with ⟨rfl,h0⟩ | ⟨g,cap,cur,rfl,hb,_⟩
 · omega
 · obtain ⟨A,c,e,h1,h2,h3⟩ := hs
   injection e with e1 e2 e3
   subst e1 e3
   exact ⟨g,cap,rfl,hb,h1,h2,h3⟩
theorem tight_drop {xs : List Nat} (h : Tight xs) (k : Nat) : Tight (xs.drop k) := by
 intro x hx
 rw [List.getLast?_drop] at hx
 split at hx
 · cases hx
 · exact h x hx
theorem ws_drop (a k : Nat) : (ws B4 a).drop k = ws B4 (val B4 ((ws B4 a).drop k)) := (ws_val two_le_B4 ((ok_ws a).drop k) (tight_drop (tight_ws a) k)).symm
theorem lt_succ_div (x : Nat) {d : Nat} (hd : 0 < d) : x < (x / d + 1) * d := by
 have h1 := Nat.div_add_mod x d
 have h2 := Nat.mod_lt x hd
 rw [Nat.succ_mul,Nat.mul_comm]
 omega
theorem sl_drop {w : World} {f : Nat → Value} {g o n k : Nat} {xs : List Nat} (h : Sl w f (some ⟨g,o,none⟩) n xs) (hk : k ≤ n) : Sl w f (some ⟨g,o + k,none⟩) (n - k) (xs.drop k) := by
 refine ⟨by rw [List.length_drop,h.len],fun h0 => ?_⟩
 obtain ⟨g',o',e,hg,hc⟩ := h.2 (by omega)
 injection e with e
 injection e with e1 e2
 subst e1 e2
 refine ⟨g,o + k,rfl,hg,fun i hi => ?_⟩
 rw [nth_drop,← hc (k + i) (by omega),Nat.add_assoc]
theorem guess {R b p T F : Nat} (hT : T = b / B4 ^ p) (hb : B4 ^ (p + 1) ≤ b) (hF : F = R / B4 ^ p) (hR : R < b * B4) :
 F / (T + 1) * b ≤ R ∧ R < (F / T + 1) * b ∧ F / T + 1 ≤ 10001 ∧ B4 ≤ T ∧ F < (T + 1) * B4 := by
 have hP : 0 < B4 ^ p := Nat.pow_pos (by decide)
 have hTb : T * B4 ^ p ≤ b := by rw [hT];exact Nat.div_mul_le_self _ _
 have hT1 : b < (T + 1) * B4 ^ p := by rw [hT];exact lt_succ_div _ hP
 have hTB : B4 ≤ T := by rw [hT,Nat.le_div_iff_mul_le hP,Nat.mul_comm,← Nat.pow_succ];exact hb
 have hFb : F * B4 ^ p ≤ R := by rw [hF];exact Nat.div_mul_le_self _ _
 have hF1 : R < (F + 1) * B4 ^ p := by rw [hF];exact lt_succ_div _ hP
 have hFT : F < (T + 1) * B4 := by
  have h1 : F * B4 ^ p < (T + 1) * B4 * B4 ^ p := by
   refine Nat.lt_of_le_of_lt hFb (Nat.lt_of_lt_of_le hR ?_)
   rw [Nat.mul_assoc,Nat.mul_comm B4,← Nat.mul_assoc]
   exact Nat.mul_le_mul_right _ (Nat.le_of_lt hT1)
  exact Nat.lt_of_mul_lt_mul_right h1
 refine ⟨?_,?_,?_,hTB,hFT⟩
 · have h1 : F / (T + 1) * (T + 1) ≤ F := Nat.div_mul_le_self _ _
   calc F / (T + 1) * b ≤ F / (T + 1) * ((T + 1) * B4 ^ p) := Nat.mul_le_mul_left _ (Nat.le_of_lt hT1)
    _ = F / (T + 1) * (T + 1) * B4 ^ p := by rw [Nat.mul_assoc]
    _ ≤ F * B4 ^ p := Nat.mul_le_mul_right _ h1
    _ ≤ R := hFb
 · have h1 : F + 1 ≤ (F / T + 1) * T := lt_succ_div _ (by rw [B4_eq] at hTB;omega)
   calc R < (F + 1) * B4 ^ p := hF1
    _ ≤ (F / T + 1) * T * B4 ^ p := Nat.mul_le_mul_right _ h1
    _ = (F / T + 1) * (T * B4 ^ p) := by rw [Nat.mul_assoc]
    _ ≤ (F / T + 1) * b := Nat.mul_le_mul_left _ hTb
 · have h1 : F / T < 10001 := by
    rw [Nat.div_lt_iff_lt_mul (by rw [B4_eq] at hTB;omega)]
    rw [B4_eq] at hFT hTB
    omega
   omega
theorem found {lo hi b R : Nat} (h1 : lo * b ≤ R) (h2 : R < hi * b) (h : hi ≤ lo + 1) (hb : 0 < b) : lo = R / b := by
 have h3 : lo < hi := Nat.lt_of_mul_lt_mul_right (Nat.lt_of_le_of_lt h1 h2)
 have h4 : hi = lo + 1 := by omega
 subst h4
 refine ((Nat.div_eq_iff hb).2 ⟨h1,?_⟩).symm
 rw [Nat.succ_mul] at h2
 omega
theorem own_cons {w1 : World} {base : Nat} {v' : Value} {x R k : Nat} (hown : w1.ownsRow base 3 1 v' k ([Value.int .i64 (x : Int)] ++ (ws B4 R).map I8)) (hk : 0 < k) (hx : x < B4) :
 ∃ g c,v' = .slice (some ⟨g,0,none⟩) k c ∧ base ≤ g ∧ k ≤ c ∧ c ≤ 9223372036854775807 ∧ Sl w1 I8 (some ⟨g,0,none⟩) k (x :: ws B4 R) ∧ Ok B4 (x :: ws B4 R) ∧ val B4 (x :: ws B4 R) = R * B4 + x := by
 have h : w1.ownsRow base 3 1 v' k ((x :: ws B4 R).map I8) := hown
 obtain ⟨g,c,e,h1,h2,h3,h4⟩ := owns_at h hk
 refine ⟨g,c,e,h1,h2,h3,h4,Ok.cons hx (ok_ws R),?_⟩
 rw [val_cons,val_ws two_le_B4,Nat.add_comm,Nat.mul_comm]
theorem dig_far {w : World} {g o n c k : Nat} {p : Addr} (h : DigV w (.slice (some ⟨g,o,none⟩) n c) k) (hp : g ≠ p.block) (u : Value) : DigV (w.setCell p u) (.slice (some ⟨g,o,none⟩) n c) k := by
 obtain ⟨A,c',e,h1,h2,h3⟩ := h
 injection e with e1 e2 e3
 subst e1 e2 e3
 refine ⟨_,c,rfl,h1,h2,h3.far (fun g' o' e _ => ?_) u⟩
 injection e with e
 injection e with e1 e2
 rw [← e1];exact hp
theorem wl_mul {b m N2 : Nat} (hN : wlen B4 b = N2) (h2 : N2 ≤ 1000001) (hm : m ≤ 10001) : wlen B4 (b * m) ≤ 1000000000 := by
 have h1 := wlen_mul (b := B4) two_le_B4 b m
 have h3 : wlen B4 m ≤ 2 := (wlen_le_iff two_le_B4 m 2).2 (by rw [show B4 ^ 2 = 100000000 from by decide];omega)
 omega
structure PaR (w : World) (a b Lq i R : Nat) (zs : List Nat) (W : World) : Prop where
 il : i ≤ Lq
 rem : R = val B4 ((ws B4 a).drop i) % b
 len : zs.length = Lq
 ok : Ok B4 zs
 row : Row W I8 w.heap.size 3 zs
 quo : val B4 (zs.drop i) = val B4 ((ws B4 a).drop i) / b
 bel : Below w.heap.size w W
theorem PaR.step {w wo w8 : World} {a b Lq j R R' x lo : Nat} {zs : List Nat} (h : PaR w a b Lq (j + 1) R zs wo) (hb : 0 < b) (hjL : j < (ws B4 a).length) (hx : x = nth (ws B4 a) j) (hR' : R' = R * B4 + x) (hlo : lo = R' / b) (hl4 : lo < B4)
 (hrow : Row w8 I8 w.heap.size 3 (zs.set j lo)) (hbel : Below w.heap.size w w8) : PaR w a b Lq j (R' - b * lo) (zs.set j lo) w8 := by
 have hj : j < zs.length := by rw [h.len];exact h.il
 have hst := once_step (q := lo) (R' := R' % b) hb hjL hj h.rem h.quo (by rw [hlo,hR',hx]) (by rw [hR',hx])
 have hm : R' - b * lo = R' % b := by
  have := Nat.div_add_mod R' b
  rw [← hlo] at this
  omega
 exact ⟨by have := h.il;omega,by rw [hm];exact hst.1,by rw [List.length_set];exact h.len,h.ok.set hl4,hrow,hst.2,hbel⟩
theorem rem_lt {R b x : Nat} (hR : R < b) (hx : x < B4) : R * B4 + x < b * B4 := by
 have : (R + 1) * B4 ≤ b * B4 := Nat.mul_le_mul_right _ hR
 rw [Nat.succ_mul] at this
 omega
theorem cut4_own {W : World} {v : Value} {n : Nat} (h : DigV W v n) :
 Calls Tryz.prog 144 #[v] W fun e w' => e = .returned v ∧ W = w' := by
 obtain ⟨A,c,rfl,h1,h2,s⟩ := h
 refine (cut4_dig A _ c _ W s (ok_ws _) h1 h2).mono ?_
 rintro e w' ⟨k,he,hk,_,hw⟩
 rw [val_ws two_le_B4] at hk
 rw [hk] at he
 exact ⟨he,hw⟩
theorem first_step {R s F F' D : Nat} (hF : F = R / B4 ^ (s + 1)) (hF' : F' = R / B4 ^ s) (hD : D = nth (ws B4 R) s) : F' = F * 10000 + D := by
 have h := wd_eq (b := B4) two_le_B4 R s
 unfold wd at h
 rw [← hD,← hF'] at h
 have h2 := Nat.div_add_mod F' B4
 rw [hF,Nat.pow_succ,← Nat.div_div_eq_div_mul,← hF',← B4_eq,Nat.mul_comm]
 omega
theorem parts_start {a b n La Lq nq : Nat} {w w1 : World} {v' : Value} (hLa : La = wlen B4 a) (hLq : Lq = La - n) (ha : n < La) (hbP : B4 ^ n ≤ b)
 (hown : w1.ownsRow (w.heap.size + 1) 3 1 v' (La - Lq) (((ws B4 a).drop Lq).map I8))
 (hgrow : (((w.drewN nq).alloc (.cells (Array.replicate Lq (I8 0)) 3)).alloc (.cells #[] 3)).grownBy w1 (Value.slice (some ⟨w.heap.size + 1,0,none⟩) 0 0).ownBlock) :
 ∃ R,DigV w1 v' R ∧ PaR w a b Lq Lq R (List.replicate Lq 0) w1 := by
 have hD := dig_of_own hown (ws_drop a Lq)
 have hlt : val B4 ((ws B4 a).drop Lq) < b := by
  refine Nat.lt_of_lt_of_le ?_ hbP
  have h1 := val_lt ((ok_ws (b := B4) a).drop Lq)
  rw [List.length_drop,length_ws,← hLa,show La - Lq = n by omega] at h1
  exact h1
 have hrow : Row (((w.drewN nq).alloc (.cells (Array.replicate Lq (I8 0)) 3)).alloc (.cells #[] 3)) I8 w.heap.size 3 (List.replicate Lq 0) := (Row.newRep (w.drewN nq) I8 3 Lq).alloc _
 refine ⟨_,hD,⟨Nat.le_refl _,(Nat.mod_eq_of_lt hlt).symm,by simp,Ok.rep two_le_B4 _,hrow.grown hgrow (by simp [Value.ownBlock]),?_,?_⟩⟩
 · rw [List.drop_eq_nil_of_le (by simp),val_nil,Nat.div_eq_of_lt hlt]
 · have h1 : Below w.heap.size w (((w.drewN nq).alloc (.cells (Array.replicate Lq (I8 0)) 3)).alloc (.cells #[] 3)) := ((below_drewN (Below.refl _ _) nq).alloc (Nat.le_refl _) _).alloc (by simp) _
   exact h1.grown hgrow (by simp;omega) (fun k hk => by simp [Value.ownBlock] at hk;omega)
set_option maxRecDepth 100000 in
set_option maxHeartbeats 8000000 in
theorem parts_main (v1 v2 : Value) (a b n p N2 : Nat) (w : World) (h1 : DigV w v1 a) (h2 : DigV w v2 b) (b1 : wlen B4 a ≤ 1000000) (hN : wlen B4 b = N2) (hn : N2 = n + 1) (hp : n = p + 1) (ha : n < wlen B4 a) :
 Calls Tryz.prog 142 #[v1,v2] w fun e w' => ∃ (A : Option Addr) (n c : Nat) (A' : Option Addr) (n' c' : Nat),e = .returned (.tuple #[.slice A n c,.slice A' n' c']) ∧ DigV w' (.slice A n c) (a / b) ∧ DigV w' (.slice A' n' c') (a % b) ∧ Below w.heap.size w w' := by
 obtain ⟨i0,hi,hz0,hz1,hz2⟩ := info_parts infoI
 have HI := Lib.hid (And.intro hi (And.intro hz0 (And.intro hz1 hz2)))
 clear hi hz0 hz1 hz2
 have hbP : B4 ^ n ≤ b := pow_le_of_lt_wlen two_le_B4 (by omega)
 have hb0 : 0 < b := Nat.lt_of_lt_of_le (Nat.pow_pos (by decide)) hbP
 have hD2 := h2
 obtain ⟨A1,c1,rfl,hl1,hm1,s1⟩ := h1
 obtain ⟨A2,c2,rfl,hl2,hm2,s2⟩ := h2
 obtain ⟨La,hLa⟩ : ∃ L,L = wlen B4 a := ⟨_,rfl⟩
 rw [← hLa] at s1 b1 ha hl1 ⊢
 rw [hN] at s2 hl2 hD2 ⊢
 obtain ⟨Lq,hLq⟩ : ∃ L,L = La - n := ⟨_,rfl⟩
 have hmk := fun W => mkJ Lq (by unfold maxW;omega) W
 obtain ⟨g2,o2,rfl,hg2,hcy⟩ := s2.at_ (by omega)
 obtain ⟨g1,o1,rfl,hg1,hcx⟩ := s1.at_ (by omega)
 have hcn := hcy n (by omega)
 have hcm := hcy p (by omega)
 obtain ⟨yn,hyn⟩ : ∃ y,y = nth (ws B4 b) n := ⟨_,rfl⟩
 obtain ⟨ym,hym⟩ : ∃ y,y = nth (ws B4 b) p := ⟨_,rfl⟩
 have hyn4 := wd_lt (b := B4) two_le_B4 b n
 have hym4 := wd_lt (b := B4) two_le_B4 b p
 unfold wd at hyn4 hym4
 rw [← hyn] at hcn hyn4
 rw [← hym] at hcm hym4
 rw [B4_eq] at hyn4 hym4
 unfold I8 at hcn hcm
 obtain ⟨T,hT⟩ : ∃ T,T = b / B4 ^ p := ⟨_,rfl⟩
 have hTy : T = yn * 10000 + ym := by
  have e1 := first_step (R := b) (s := p) (F := b / B4 ^ n) (F' := T) (D := ym) (by rw [hp]) hT hym
  have e2 := first_step (R := b) (s := n) (F := b / B4 ^ (n + 1)) (F' := b / B4 ^ n) (D := yn) rfl rfl hyn
  have e3 : b / B4 ^ (n + 1) = 0 := Nat.div_eq_of_lt (by rw [← hn,← hN];exact lt_pow_wlen two_le_B4 b)
  rw [e3] at e2
  omega
 have E1 : (N2 : Int) - 1 = (n : Int) := by omega
 have E4 : (La : Int) - (n : Int) = (Lq : Int) := by omega
 have E5 : (Lq : Int) ≤ (La : Int) := by omega
 have E6 : (0 : Int) ≤ (Lq : Int) := by omega
 have E7 : Lq ≠ c1 := by omega
 have E8 : Lq ≤ c1 := by omega
 have E9 : (Lq : Int) < (c1 : Int) := by omega
 have k1 : ((N2 : Int) == 1) = false := by rw [beq_eq_false_iff_ne];omega
 have k2 : ¬ (La : Int) ≤ (n : Int) := by omega
 have k3 : (n : Int) ≤ 1000000 := by omega
 have k4 : (0 : Int) ≤ (n : Int) := by omega
 have k5 : (n : Int) < (N2 : Int) := by omega
 have k6 : (p : Int) < (N2 : Int) := by omega
 have k7 : (0 : Int) ≤ (p : Int) := by omega
 have E2 : (n : Int) - 1 = (p : Int) := by omega
 have w1' : IntKind.i64.wrap ((n : Int) - 1) = (p : Int) := by rw [IntKind.wrap_i64];omega
 obtain ⟨M,hM⟩ : ∃ M,M = yn * 10000 := ⟨_,rfl⟩
 have w2' : IntKind.i64.wrap ((yn : Int) * 10000) = (M : Int) := by rw [IntKind.wrap_i64];omega
 have w3' : IntKind.i64.wrap ((M : Int) + (ym : Int)) = (T : Int) := by rw [IntKind.wrap_i64];omega
 have k8 : (La : Int) ≤ 1000000 := by omega
 have hs1 : Sl w I8 (some ⟨g1,o1,none⟩) La (ws B4 a) := s1
 have HS := Lib.hid (And.intro hD2 (And.intro hs1 (And.intro hg1 (And.intro hg2 hcx))))
 have HV := Lib.hid (And.intro hLa (And.intro hN (And.intro hn (And.intro hp (And.intro hLq (And.intro ha (And.intro hT (And.intro hTy (And.intro hbP hb0)))))))))
 have HL := Lib.hid (And.intro hl1 (And.intro b1 (And.intro hm1 (show T ≤ 99999999 by omega))))
 clear hD2 hs1 s1 s2 hg1 hg2 hLa hN hn hp hLq ha hT hTy hbP hb0 hl1 hl2 hm1 hm2 b1 hcy hcx hyn hym hyn4 hym4 hM
 go_enter Tryz.func142,Tryz.ntmps142
 have HQ : Hid (∀ q : Nat,Sl (((w.drewN q).alloc (.cells (Array.replicate Lq (I8 0)) 3)).alloc (.cells #[] 3)) I8 (some ⟨g1,o1 + Lq,none⟩) (La - Lq) ((ws B4 a).drop Lq) ∧ (((w.drewN q).alloc (.cells (Array.replicate Lq (I8 0)) 3)).alloc (.cells #[] 3)).ownsRow (w.heap.size + 1) 3 1 (.slice (some ⟨w.heap.size + 1,0,none⟩) 0 0) 0 []) := Lib.hid (fun q => by
  refine ⟨sl_drop (((HS.out.2.1.drewN q).alloc _).alloc _) (by have := HV.out.2.2.2.2.1;omega),?_⟩
  have h := owns_none ((w.drewN q).alloc (.cells (Array.replicate Lq (I8 0)) 3)) 3
  rw [World.size_alloc] at h
  exact h)
 go_wp2_with fail
 go_quiet (fail)
 go_wp2_with (at_builtin;refine wpList_append_sl _ rfl (.tmp 59) (.tmp 65) 86 rfl (w.heap.size + 1) 3 i0 (.int .i64 0) 8 Tryz.underlying86 HI.out.1 HI.out.2.1 HI.out.2.2.1 HI.out.2.2.2 rfl (.slice (some ⟨w.heap.size + 1,0,none⟩) 0 0) 0 [] rfl (HQ.out nq).2 rfl (HQ.out nq).1 (fun _ => rfl) (by unfold maxLen;omega) (by omega) (by simp) ?_;intro v' w1 hown' hgrow)
 rw [Nat.zero_add,List.nil_append] at hown'
 obtain ⟨R0,hD0,hP0⟩ := parts_start HV.out.1 HV.out.2.2.2.2.1 HV.out.2.2.2.2.2.1 HV.out.2.2.2.2.2.2.2.2.1 hown' hgrow
 have HP0 := Lib.hid (And.intro hD0 hP0)
 clear hown' hgrow HQ hD0 hP0 hcn hcm w1' w2' w3' hmk E1 E4 E5 E6 E7 E8 E9 k1 k2
 go_wp2_with fail
 go_loopg [11,12] Lq (fun r rv iv W => ∃ (i R : Nat) (zs : List Nat),i = r ∧ iv = .int .i64 ((i : Int) - 1) ∧ DigV W rv R ∧ PaR w a b Lq i R zs W)
 case atStart => exact ⟨Lq,R0,_,rfl,rfl,HP0.out.1,HP0.out.2⟩
 case round =>
  clear HP0
  obtain ⟨i,R,zs,rfl,rfl,hDR,hP⟩ := hrel
  obtain ⟨wo,rfl⟩ : ∃ wo : World,wo = wr := ⟨_,rfl⟩
  cases i with
  | zero =>
    rw [show (((0 : Nat) : Int) - 1) = -1 from rfl]
    have hsl := hP.row.sl0
    rw [hP.len] at hsl
    have hcut := cut4_dig _ Lq Lq zs wo hsl hP.ok (Nat.le_refl _) (by have := HV.out.2.2.2.2.1;omega)
    have hq := hP.quo
    rw [List.drop_zero,List.drop_zero,val_ws two_le_B4] at hq
    rw [hq] at hcut
    have hrm := hP.rem
    rw [List.drop_zero,val_ws two_le_B4] at hrm
    obtain ⟨A3,c3,rfl,h31,h32,h33⟩ := hDR
    have hD3 : DigV wo (.slice A3 (wlen B4 R) c3) (a % b) := by rw [← hrm];exact ⟨A3,c3,rfl,h31,h32,h33⟩
    have HB := Lib.hid (And.intro hD3 hP.bel)
    obtain ⟨LR,hLR⟩ : ∃ L,L = wlen B4 R := ⟨_,rfl⟩
    rw [← hLR] at HB ⊢
    clear hsl hq hrm hP h31 h32 h33 hD3 hLR k3 k5 k6 k7 E2
    go_wp2_with fail
    refine hcut.mono ?_
    rintro e w2 ⟨k,rfl,hk,hd,rfl⟩
    have HDD := Lib.hid hd
    clear hk hd hcut
    go_wp2_with fail
    go_ret2
    exact ⟨_,k,Lq,A3,LR,c3,rfl,HDD.out,HB.out.1,HB.out.2⟩
  | succ j =>
    rw [show (((j + 1 : Nat) : Int) - 1) = (j : Int) from by omega]
    have hjL : j < La := by have := hP.il;have := HV.out.2.2.2.2.1;omega
    have hca := (hP.bel.cell (p := ⟨g1,o1 + j,none⟩) HS.out.2.2.1).trans (HS.out.2.2.2.2 j hjL)
    obtain ⟨x,hxx⟩ : ∃ x,x = nth (ws B4 a) j := ⟨_,rfl⟩
    rw [← hxx] at hca
    unfold I8 at hca
    have hx4 : x < B4 := by rw [hxx];exact wd_lt two_le_B4 a j
    have hRb : R < b := by rw [hP.rem];exact Nat.mod_lt _ HV.out.2.2.2.2.2.2.2.2.2
    have hRl : wlen B4 R ≤ 1000001 := by
     have h1 := wlen_mono (b := B4) two_le_B4 (Nat.le_of_lt hRb)
     have := HV.out.2.1
     have := HV.out.2.2.1
     omega
    obtain ⟨A3,c3,rfl,h31,h32,h33⟩ := hDR
    obtain ⟨LR,hLR⟩ : ∃ L,L = wlen B4 R := ⟨_,rfl⟩
    rw [← hLR] at h33 hRl ⊢
    have hs3 : Sl (wo.alloc (.cells #[.int .i64 (x : Int)] 3)) I8 A3 LR (ws B4 R) := h33.alloc _
    have hown1 := owns_one wo 3 (.int .i64 (x : Int))
    have j1 : (0 : Int) ≤ (j : Int) := by omega
    have j2 : (j : Int) < (La : Int) := by omega
    have hsz := hP.row.lt
    have HJ := Lib.hid (And.intro hP (And.intro hxx (And.intro hx4 (And.intro hRb hLR))))
    clear hP hxx hx4 hRb hLR h31 h32 h33 hjL
    go_wp2_with (at_builtin;refine wpList_append_sl _ rfl (.tmp 78) (.tmp 79) 86 rfl wo.heap.size 3 i0 (.int .i64 0) 8 Tryz.underlying86 HI.out.1 HI.out.2.1 HI.out.2.2.1 HI.out.2.2.2 rfl (.slice (some ⟨wo.heap.size,0,none⟩) 1 1) 1 [.int .i64 (x : Int)] rfl hown1 rfl hs3 (fun _ => rfl) (by unfold maxLen;omega) (by omega) (by simp) ?_;intro v' w1 hown' hgrow)
    obtain ⟨g3,c4,rfl,hg3,hn3,hm3,hs4,ho4,hv4⟩ := own_cons hown' (by omega) HJ.out.2.2.1
    obtain ⟨R',hR'⟩ : ∃ R',R' = R * B4 + x := ⟨_,rfl⟩
    rw [← hR'] at hv4
    have hcut := cut4_dig _ _ c4 _ w1 hs4 ho4 hn3 hm3
    rw [hv4] at hcut
    have hbl : Below wo.heap.size wo w1 := below_own ((Below.refl _ _).alloc (Nat.le_refl _) _) hown1 hgrow (Nat.le_refl _) (by simp)
    have HC := Lib.hid (And.intro hg3 (And.intro hR' hbl))
    clear hg3 hR' hbl hn3 hm3 hs4 ho4 hv4 hown' hgrow hown1 hs3
    go_wp2_with fail
    refine hcut.mono ?_
    rintro e w2 ⟨k,rfl,hk,hd,rfl⟩
    have HK := Lib.hid (And.intro hk hd)
    clear hk hd hcut
    go_wp2_with fail
    go_loopg [13,14] (n + 2) (fun r fv kv W => ∃ (t F : Nat) (K : Int),t = r ∧ fv = .int .i64 (F : Int) ∧ kv = .int .i64 K ∧ K = (t : Int) - 1 ∧ p ≤ t ∧ t ≤ n + 2 ∧ F = R' / B4 ^ t ∧ W = w1)
    case atStart =>
     refine ⟨n + 2,0,_,rfl,rfl,rfl,by omega,by have := HV.out.2.2.2.1;omega,Nat.le_refl _,?_,rfl⟩
     rw [Nat.div_eq_of_lt]
     have h1 := rem_lt HJ.out.2.2.2.1 HJ.out.2.2.1
     rw [← HC.out.2.1] at h1
     have h2 := lt_pow_wlen (b := B4) two_le_B4 b
     rw [HV.out.2.1,HV.out.2.2.1] at h2
     rw [Nat.pow_succ]
     exact Nat.lt_trans h1 (Nat.mul_lt_mul_of_pos_right h2 (by decide))
    case round =>
     obtain ⟨t,F,K,rfl,rfl,rfl,hK,hpt,htn,hF,rfl⟩ := hrel
     have hRb4 : R' < b * B4 := by rw [HC.out.2.1];exact rem_lt HJ.out.2.2.2.1 HJ.out.2.2.1
     by_cases hc : p < t
     · obtain ⟨s,hs⟩ : ∃ s,t = s + 1 := ⟨t - 1,by omega⟩
       subst hs
       obtain rfl : K = (s : Int) := by omega
       have hs1 : p ≤ s := by omega
       have hs2 : (p : Int) ≤ (s : Int) := by omega
       have hs3 : (0 : Int) ≤ (s : Int) := by omega
       have hs4 : (s : Int) ≤ 1000002 := by omega
       obtain ⟨D,hD⟩ : ∃ D,D = nth (ws B4 R') s := ⟨_,rfl⟩
       obtain ⟨F',hF'⟩ : ∃ F',F' = R' / B4 ^ s := ⟨_,rfl⟩
       have hst := first_step hF hF' hD
       have hFl : F' < (T + 1) * B4 := by
        have h1 : R' / B4 ^ s ≤ R' / B4 ^ p := Nat.div_le_div_left (Nat.pow_le_pow_right (by decide) hs1) (Nat.pow_pos (by decide))
        have h2 := (guess (F := R' / B4 ^ p) HV.out.2.2.2.2.2.2.1 (by rw [← HV.out.2.2.2.1];exact HV.out.2.2.2.2.2.2.2.2.1) rfl hRb4).2.2.2.2
        omega
       have hTl := HL.out.2.2.2
       have hDl : D < 10000 := by rw [hD];exact wd_lt two_le_B4 R' s
       rw [B4_eq] at hFl
       have f1 : (0 : Int) ≤ (F : Int) := by omega
       have f2 : (F : Int) ≤ 100000000 := by omega
       have f3 : (0 : Int) ≤ (D : Int) := by omega
       have f4 : (D : Int) ≤ 9999 := by omega
       by_cases hd : s < k
       · have hd2 : (s : Int) < (k : Int) := by omega
         obtain ⟨A5,c5,e5,_,_,s5⟩ := HK.out.2
         injection e5 with e51 e52 e53
         subst e51
         rw [← e52] at s5
         obtain ⟨g',o',e',_,hc5⟩ := s5.2 (by omega)
         injection e' with e'
         injection e' with e'1 e'2
         have hcd := hc5 s hd
         rw [← e'1,← e'2,Nat.zero_add,← hD] at hcd
         unfold I8 at hcd
         have e6 : (F : Int) * 10000 + (D : Int) = (F' : Int) := by omega
         have HX := Lib.hid (And.intro hs1 (And.intro htn hF'))
         clear hc5 s5 e52 e53 e'1 e'2 hs1 htn hF' hF hpt hK hst hFl hTl hDl hD hd hc hRb4
         go_wp2_with fail
         go_roundg s
         case measure => omega
         case rel => exact ⟨s,F',_,rfl,by first | rfl | rw [e6],rfl,by omega,HX.out.1,by have := HX.out.2.1;omega,HX.out.2.2,rfl⟩
       · have hd2 : ¬ (s : Int) < (k : Int) := by omega
         have hD0 : D = 0 := by rw [hD];exact nth_ge (by rw [length_ws,← HK.out.1];omega)
         have e6 : (F : Int) * 10000 = (F' : Int) := by omega
         have HX := Lib.hid (And.intro hs1 (And.intro htn hF'))
         clear hs1 htn hF' hF hpt hK hst hFl hTl hDl hD hd hc hD0 hRb4
         go_wp2_with fail
         go_roundg s
         case measure => omega
         case rel => exact ⟨s,F',_,rfl,by first | rfl | rw [e6],rfl,by omega,HX.out.1,by have := HX.out.2.1;omega,HX.out.2.2,rfl⟩
     · obtain rfl : t = p := by omega
       have hc2 : ¬ (t : Int) ≤ K := by omega
       obtain ⟨hg1',hg2',hg3',hg4',hg5'⟩ := guess (R := R') (F := F) HV.out.2.2.2.2.2.2.1 (by rw [← HV.out.2.2.2.1];exact HV.out.2.2.2.2.2.2.2.2.1) hF hRb4
       obtain ⟨lo0,hlo⟩ : ∃ q,q = F / (T + 1) := ⟨_,rfl⟩
       obtain ⟨q0,hq0⟩ : ∃ q,q = F / T := ⟨_,rfl⟩
       obtain ⟨hi0,hhi⟩ : ∃ q,q = q0 + 1 := ⟨_,rfl⟩
       obtain ⟨T1,hT1⟩ : ∃ q,q = T + 1 := ⟨_,rfl⟩
       rw [← hlo] at hg1'
       rw [← hq0] at hg2' hg3'
       rw [← hT1] at hlo hg5'
       have hTl := HL.out.2.2.2
       have hq9 : q0 ≤ 10000 := by omega
       have hl9 : lo0 ≤ 10000 := by
        have h1 : F / T1 ≤ F / T := Nat.div_le_div_left (by omega) (by rw [B4_eq] at hg4';omega)
        rw [← hlo,← hq0] at h1;omega
       have v1 : IntKind.i64.wrap ((T : Int) + 1) = (T1 : Int) := by rw [IntKind.wrap_i64];omega
       have v1' : (T : Int) + 1 = (T1 : Int) := by omega
       have v2 : Int.tdiv (F : Int) (T1 : Int) = (lo0 : Int) := by rw [Int.tdiv_eq_ediv_of_nonneg (by omega),hlo];simp
       have v2' : (F : Int) / (T1 : Int) = (lo0 : Int) := by rw [hlo];simp
       have v3 : Int.tdiv (F : Int) (T : Int) = (q0 : Int) := by rw [Int.tdiv_eq_ediv_of_nonneg (by omega),hq0];simp
       have v3' : (F : Int) / (T : Int) = (q0 : Int) := by rw [hq0];simp
       have v4 : IntKind.i64.wrap ((q0 : Int) + 1) = (hi0 : Int) := by rw [IntKind.wrap_i64];omega
       have v4' : (q0 : Int) + 1 = (hi0 : Int) := by omega
       have v5 : IntKind.i64.wrap (lo0 : Int) = (lo0 : Int) := by rw [IntKind.wrap_i64];omega
       have v6 : IntKind.i64.wrap (q0 : Int) = (q0 : Int) := by rw [IntKind.wrap_i64];omega
       have v11 : IntKind.i64.wrap (T1 : Int) = (T1 : Int) := by rw [IntKind.wrap_i64];omega
       have v12 : IntKind.i64.wrap (hi0 : Int) = (hi0 : Int) := by rw [IntKind.wrap_i64];omega
       have v7 : ((T1 : Int) == 0) = false := by rw [beq_eq_false_iff_ne];omega
       have v8 : ((T : Int) == 0) = false := by rw [beq_eq_false_iff_ne,B4_eq] at *;omega
       have v9 : (T1 : Int) ≠ 0 := by omega
       have v10 : (T : Int) ≠ 0 := by rw [B4_eq] at hg4';omega
       have HG := Lib.hid (And.intro hg1' (And.intro (show R' < hi0 * b by rw [hhi];exact hg2') (And.intro (show hi0 ≤ 10001 by omega) (And.intro hl9 hRb4))))
       clear hg1' hg2' hg3' hg4' hg5' hlo hq0 hhi hT1 hTl hq9 hl9 hF hRb4 hK hpt htn hc
       obtain ⟨w3,rfl⟩ : ∃ w3 : World,w3 = wr := ⟨_,rfl⟩
       go_wp2_with fail
       go_region
       clear v1 v1' v2 v2' v3 v3' v4 v4' v5 v6 v7 v8 v9 v10 v11 v12
       have hN1 : N2 ≤ 1000001 := by have := HV.out.2.2.1;omega
       have hkl : k ≤ 1000000000 := by
        rw [HK.out.1]
        exact Nat.le_trans (wlen_mono two_le_B4 (Nat.le_of_lt HG.out.2.2.2.2)) (wl_mul HV.out.2.1 hN1 (by rw [B4_eq];omega))
       have HW : Hid (∀ W,Below w3.heap.size w3 W → DigV W (.slice (some ⟨g2,o2,none⟩) N2 c2) b ∧ DigV W (.slice (some ⟨g3,0,none⟩) k c4) R' ∧ Below w.heap.size w W ∧ Row W I8 w.heap.size 3 zs) := Lib.hid (fun W hW => by
        have h1 := HC.out.2.2
        have hp := HJ.out.1
        have h2 : Below wo.heap.size wo W := h1.trans (hW.mono h1.size)
        have h3 : Below w.heap.size w W := hp.bel.trans (h2.mono hp.bel.size)
        exact ⟨HS.out.1.below h3,HK.out.2.below hW,h3,hp.row.below h2 hp.row.lt⟩)
       go_wp2_with fail
       go_loopg [15,16] (hi0 - lo0) (fun r lv hv W => ∃ lo hi : Nat,r = hi - lo ∧ lv = .int .i64 (lo : Int) ∧ hv = .int .i64 (hi : Int) ∧ lo * b ≤ R' ∧ R' < hi * b ∧ hi ≤ 10001 ∧ Below w3.heap.size w3 W)
       case atStart => exact ⟨lo0,hi0,rfl,rfl,rfl,HG.out.1,HG.out.2.1,HG.out.2.2.1,(Below.refl _ _).drew⟩
       case round =>
        obtain ⟨lo,hi,rfl,rfl,rfl,hlo,hhi,hi9,hbel⟩ := hrel
        have hlh : lo < hi := Nat.lt_of_mul_lt_mul_right (Nat.lt_of_le_of_lt hlo hhi)
        by_cases hc : 1 < hi - lo
        · obtain ⟨m,hm⟩ : ∃ m,m = (lo + hi) / 2 := ⟨_,rfl⟩
          have m1 : ((lo : Int) + (hi : Int)) / 2 = (m : Int) := by rw [hm];omega
          have m2 : (1 : Int) < (hi : Int) - (lo : Int) := by omega
          have m3 : (0 : Int) ≤ (lo : Int) := by omega
          have m4 : (hi : Int) ≤ 10001 := by omega
          have m5 : (lo : Int) ≤ 10001 := by omega
          have m6 : (0 : Int) ≤ (hi : Int) := by omega
          have hal : Below wr.heap.size wr (wr.alloc (.cells #[.int .i64 (m : Int)] 3)) := (Below.refl _ _).alloc (Nat.le_refl _) _
          have hbA := hbel.trans (hal.mono hbel.size)
          have hpr := product4_one _ b m wr.heap.size 1 _ (HW.out _ hbA).1 (by omega) (by simp [go_sem]) (by rw [HV.out.2.1];omega)
          have HM := Lib.hid (And.intro hm (And.intro hlo (And.intro hhi (And.intro hi9 (And.intro hbA (And.intro hlh hc))))))
          clear hm hlo hhi hi9 hbA hlh hc hal hbel
          go_wp2_with fail
          refine hpr.mono ?_
          rintro e w4 ⟨A4,n4,c5,rfl,hd4,hb4⟩
          have hcu := cut4_own hd4
          have hb5 := HM.out.2.2.2.2.1.trans (hb4.mono HM.out.2.2.2.2.1.size)
          have hor := order4_any _ _ _ _ w4 hd4 (HW.out _ hb5).2.1 (wl_mul HV.out.2.1 hN1 (by have := HM.out.1;have := HM.out.2.2.2.1;have := HM.out.2.2.2.2.2.1;omega)) (by rw [← HK.out.1];exact hkl)
          have HN := Lib.hid hb5
          clear hpr hd4 hb4 hb5
          go_wp2_with fail
          refine hcu.mono ?_
          rintro e w5 ⟨rfl,rfl⟩
          go_wp2_with fail
          refine hor.mono ?_
          rintro e w6 ⟨d,rfl,hl,h0,q,hw⟩
          have hb6 : Below w3.heap.size w3 w6 := by rw [hw];exact below_drewN HN.out q
          have HO := Lib.hid (And.intro hb6 (And.intro hl h0))
          clear hcu hor hw hb6 hl h0
          by_cases hd : d ≤ 0
          · have HD := Lib.hid (show b * m ≤ R' by have := HO.out.2.1;have := HO.out.2.2;omega)
            go_wp2_with fail
            go_roundg (hi - m)
            case measure => have := HM.out.1;have := HM.out.2.2.2.2.2;omega
            case rel => exact ⟨m,hi,rfl,rfl,rfl,by rw [Nat.mul_comm];exact HD.out,HM.out.2.2.1,HM.out.2.2.2.1,HO.out.1⟩
          · have HD := Lib.hid (show R' < b * m by have := HO.out.2.1;have := HO.out.2.2;omega)
            go_wp2_with fail
            go_roundg (m - lo)
            case measure => have := HM.out.1;have := HM.out.2.2.2.2.2;omega
            case rel => exact ⟨lo,m,rfl,rfl,rfl,HM.out.2.1,by rw [Nat.mul_comm];exact HD.out,by have := HM.out.1;have := HM.out.2.2.2.1;have := HM.out.2.2.2.2.2;omega,HO.out.1⟩
        · have hqd := found hlo hhi (by omega) HV.out.2.2.2.2.2.2.2.2.2
          have hl4 : lo < B4 := by
           have := HG.out.2.2.2.2
           rw [hqd,Nat.div_lt_iff_lt_mul HV.out.2.2.2.2.2.2.2.2.2,Nat.mul_comm];exact this
          have m2 : ¬ (1 : Int) < (hi : Int) - (lo : Int) := by omega
          have m3 : (0 : Int) ≤ (lo : Int) := by omega
          have m4 : (hi : Int) ≤ 10001 := by omega
          have m5 : (lo : Int) ≤ 10001 := by omega
          have m6 : (0 : Int) ≤ (hi : Int) := by omega
          obtain ⟨hx1,hx2,hx3,hx4⟩ := HW.out _ hbel
          have hjq : j < zs.length := by rw [HJ.out.1.len];exact HJ.out.1.il
          have hco := hx4.cell hjq
          have hfo := hx4.frozen j
          have hjI : (j : Int) < (Lq : Int) := by have := HJ.out.1.len;omega
          have hgw : g2 < w.heap.size := HS.out.2.2.2.1
          have hgw3 : w.heap.size < g3 := Nat.lt_of_lt_of_le HJ.out.1.row.lt HC.out.1
          have hal : Below (wr.setCell ⟨w.heap.size,j,none⟩ (.int .i64 (lo : Int))).heap.size (wr.setCell ⟨w.heap.size,j,none⟩ (.int .i64 (lo : Int))) ((wr.setCell ⟨w.heap.size,j,none⟩ (.int .i64 (lo : Int))).alloc (.cells #[.int .i64 (lo : Int)] 3)) := (Below.refl _ _).alloc (Nat.le_refl _) _
          have hB := (dig_far (p := ⟨w.heap.size,j,none⟩) hx1 (by show g2 ≠ w.heap.size;omega) (.int .i64 (lo : Int))).below hal
          have hRR := (dig_far (p := ⟨w.heap.size,j,none⟩) hx2 (by show g3 ≠ w.heap.size;omega) (.int .i64 (lo : Int))).below hal
          have hrow := (hx4.set j lo).below hal (by simpa using hx4.lt)
          have hbW := (hx3.setCell (p := ⟨w.heap.size,j,none⟩) (Nat.le_refl _) (.int .i64 (lo : Int))).trans (hal.mono (by simpa using hx3.size))
          have hpr := product4_one _ b lo wr.heap.size 1 _ hB (by rw [B4_eq] at hl4;omega) (by simp [go_sem]) (by rw [HV.out.2.1];omega)
          have HZ := Lib.hid (And.intro hqd (And.intro hl4 (And.intro hRR (And.intro hrow (And.intro hbW (show b * lo ≤ R' by rw [Nat.mul_comm];exact hlo))))))
          unfold I8 at hco
          clear hqd hl4 hRR hrow hbW hB hal hx1 hx2 hx3 hx4 hlo hhi hi9 hlh hc hgw hgw3 hjq hbel
          go_wp2_with fail
          refine hpr.mono ?_
          rintro e w4 ⟨A4,n4,c5,rfl,hd4,hb4⟩
          have hdf := difference4_any _ _ _ _ w4 (HZ.out.2.2.1.below hb4) hd4 (by rw [← HK.out.1];exact hkl) HZ.out.2.2.2.2.2
          have HB4 := Lib.hid hb4
          clear hpr hd4 hb4
          go_wp2_with fail
          refine hdf.mono ?_
          rintro e w5 ⟨A5,n5,c6,rfl,hd5,hb5⟩
          have hb45 := HB4.out.trans (hb5.mono HB4.out.size)
          have HF := Lib.hid (And.intro hd5 (And.intro (HZ.out.2.2.2.1.below hb45 HZ.out.2.2.2.1.lt) (HZ.out.2.2.2.2.1.trans (hb45.mono HZ.out.2.2.2.2.1.size))))
          clear hdf hd5 hb5 hb45
          go_wp2_with fail
          go_roundg j
          case measure => omega
          case rel => exact ⟨j,_,_,rfl,by go_num,HF.out.1,HJ.out.1.step HV.out.2.2.2.2.2.2.2.2.2 (by rw [length_ws,← HV.out.1];omega) HJ.out.2.1 HC.out.2.1 HZ.out.1 HZ.out.2.1 HF.out.2.1 HF.out.2.2⟩
theorem parts4_any (v1 v2 : Value) (a b : Nat) (w : World) (h1 : DigV w v1 a) (h2 : DigV w v2 b) (b1 : wlen B4 a ≤ 1000000) (b2 : wlen B4 b ≤ 1000000) (hb : 0 < b) :
 Calls Tryz.prog 142 #[v1,v2] w fun e w' => ∃ (A : Option Addr) (n c : Nat) (A' : Option Addr) (n' c' : Nat),e = .returned (.tuple #[.slice A n c,.slice A' n' c']) ∧ DigV w' (.slice A n c) (a / b) ∧ DigV w' (.slice A' n' c') (a % b) ∧ Below w.heap.size w w' := by
 have h0 : wlen B4 b ≠ 0 := fun e => by rw [wlen_eq_zero two_le_B4] at e;omega
 by_cases hone : wlen B4 b = 1
 · exact parts_one v1 v2 a b w h1 h2 (by omega) hone
 · by_cases hs : wlen B4 a ≤ wlen B4 b - 1
   · exact parts_short v1 v2 a b (wlen B4 b - 1) w h1 h2 b1 (by omega) (by omega) hs (by omega)
   · exact parts_main v1 v2 a b (wlen B4 b - 1) (wlen B4 b - 2) (wlen B4 b) w h1 h2 b1 rfl (by omega) (by omega) (by omega)
end Go.Proofs.YtlfgpmnjnpdkdaaGreatDoor
