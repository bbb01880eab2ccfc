/- Long division: plain mathematics on words. -/
import Derived.Test.YtlfgpmnjnpdkdaaGreatDoorNum
import Derived.Test.YtlfgpmnjnpdkdaaGreatDoorBits
import Derived.Test.YtlfgpmnjnpdkdaaGreatDoorDivA
namespace Vd
variable {b : Nat}
def DV (b X Y k : Nat) (Ls zs : List Nat) : Prop := X = val b Ls + Y * (b ^ k * val b (zs.drop k)) ∧ val b (Ls.drop k) < Y
theorem dv_mid {X Y j n2 : Nat} {Ls zs : List Nat} (hb : 2 ≤ b) (hY : Y < b ^ n2) (hl : j + n2 + 1 ≤ Ls.length) (hx : Ok b Ls) (h : DV b X Y (j + 1) Ls zs) :
 val b ((Ls.drop j).take (n2 + 1)) < Y * b ∧ val b (Ls.drop (j + n2 + 1)) = 0 := by
 have h1 := val_drop_step (b := b) (xs := Ls) (k := j) (by omega)
 have h2 := (hx.get hb j)
 have h3 : val b (Ls.drop j) < Y * b := by
  have := Nat.mul_le_mul_left b (show val b (Ls.drop (j + 1)) + 1 ≤ Y from h.2)
  rw [Nat.mul_add,Nat.mul_one] at this
  rw [Nat.mul_comm Y b]
  omega
 have h4 := val_take_drop (b := b) (Ls.drop j) (n2 + 1) (by rw [List.length_drop];omega)
 rw [List.drop_drop,← Nat.add_assoc] at h4
 have h5 : Y * b ≤ b ^ (n2 + 1) := by rw [Nat.pow_succ];exact Nat.mul_le_mul_right b (Nat.le_of_lt hY)
 refine ⟨by omega,?_⟩
 rcases Nat.eq_zero_or_pos (val b (Ls.drop (j + n2 + 1))) with h6 | h6
 · exact h6
 · have := Nat.mul_le_mul_left (b ^ (n2 + 1)) (show 1 ≤ val b (Ls.drop (j + n2 + 1)) from h6)
   omega
theorem dv_arith (P Bb Y X p q m' V : Nat) (h : X = p + P * (q * Y + m') + Y * (P * Bb * V)) : X = p + P * m' + Y * (P * (q + Bb * V)) := by grind
theorem dv_step {X Y j n2 : Nat} {Ls zs mid' : List Nat} (hb : 2 ≤ b) (hY0 : 0 < Y) (hY : Y < b ^ n2) (hl : j + n2 + 1 ≤ Ls.length) (hx : Ok b Ls) (h : DV b X Y (j + 1) Ls zs) (hj : j < zs.length)
 (hm : mid'.length = n2 + 1) (hv : val b mid' = val b ((Ls.drop j).take (n2 + 1)) % Y) :
 DV b X Y j (Ls.take j ++ (mid' ++ Ls.drop (j + n2 + 1))) (zs.set j (val b ((Ls.drop j).take (n2 + 1)) / Y)) := by
 obtain ⟨h1,h2⟩ := dv_mid hb hY hl hx h
 have hpl : (Ls.take j).length = j := by rw [List.length_take];omega
 have e0 := val_take_drop (b := b) Ls j (by omega)
 have e1 := val_take_drop (b := b) (Ls.drop j) (n2 + 1) (by rw [List.length_drop];omega)
 rw [List.drop_drop,← Nat.add_assoc,h2,Nat.mul_zero,Nat.add_zero] at e1
 rw [e1] at e0
 have e2 := Nat.div_add_mod (val b ((Ls.drop j).take (n2 + 1))) Y
 constructor
 · rw [val_append,val_append,h2,Nat.mul_zero,Nat.add_zero,hpl,hv,drop_set_self hj,val_cons]
   refine dv_arith _ _ _ _ _ _ _ _ ?_
   have := h.1
   rw [e0,Nat.pow_succ] at this
   rw [Nat.mul_comm (_ / Y) Y,e2]
   exact this
 · rw [List.drop_append_of_le_length (by omega),List.drop_of_length_le (by omega),List.nil_append,val_append,h2,hv]
   simpa using Nat.mod_lt _ hY0
theorem dv_end {X Y s m o : Nat} {Ls zs : List Nat} (hX : X = m * 2 ^ s) (hY : Y = o * 2 ^ s) (ho : 0 < o) (h : DV b X Y 0 Ls zs) : val b zs = m / o ∧ val b Ls / 2 ^ s = m % o := by
 obtain ⟨h1,h2⟩ := h
 have hp : 0 < 2 ^ s := Nat.pow_pos (by omega)
 have hY0 : 0 < Y := by rw [hY];exact Nat.mul_pos ho hp
 simp only [List.drop_zero,Nat.pow_zero,Nat.one_mul] at h1 h2
 have e1 : val b zs = X / Y := by rw [h1,Nat.add_mul_div_left _ _ hY0,Nat.div_eq_of_lt h2];simp
 have e2 : val b Ls = X % Y := by rw [h1,Nat.add_mul_mod_self_left,Nat.mod_eq_of_lt h2]
 rw [e1,e2,hX,hY,Nat.mul_div_mul_right _ _ hp,Nat.mul_mod_mul_right,Nat.mul_div_cancel _ hp]
 exact ⟨rfl,rfl⟩
theorem dv_start {X Y n1 n2 K : Nat} {Ls : List Nat} (hl : Ls.length = n1 + 1) (hX : X = val b Ls) (hK : K + n2 = n1 + 1) (hY : X < b ^ K * Y) : DV b X Y K Ls (List.replicate K 0) := by
 constructor
 · rw [List.drop_eq_nil_of_le (by simp)];simpa using hX
 · have := val_take_drop (b := b) Ls K (by omega)
   refine Nat.lt_of_mul_lt_mul_left (a := b ^ K) ?_
   omega
theorem dv_norm {o s n y : Nat} (hy : y = wd 18446744073709551616 o n) (hn : wlen 18446744073709551616 o = n + 1) (hs : s = 64 - Go.Lib.bitLen y) :
 s ≤ 63 ∧ 0 < y ∧ o * 2 ^ s < 18446744073709551616 ^ (n + 1) ∧ 18446744073709551616 ^ n * 2 ^ 63 ≤ o * 2 ^ s := by
 have hb : 2 ≤ 18446744073709551616 := by decide
 have e := val_take_succ (b := 18446744073709551616) (ws 18446744073709551616 o) n
 have hl : (ws 18446744073709551616 o).length = n + 1 := hn
 rw [List.take_of_length_le (by omega),val_ws hb,val_take_ws hb] at e
 rw [show nth (ws 18446744073709551616 o) n = y from hy.symm] at e
 have hlow : o % 18446744073709551616 ^ n < 18446744073709551616 ^ n := Nat.mod_lt _ (Nat.pow_pos (by omega))
 have hlt : y < 18446744073709551616 := by rw [hy];exact wd_lt hb o n
 generalize o % 18446744073709551616 ^ n = low at e hlow
 have hne : y ≠ 0 := by
  intro h0
  rw [h0] at e
  have : wlen 18446744073709551616 o ≤ n := (wlen_le_iff hb o n).2 (by omega)
  omega
 obtain ⟨h1,h2,h3⟩ := norm_spec hlt hne hs
 have hp : 0 < 2 ^ s := Nat.pow_pos (by omega)
 have e64 : (18446744073709551616 : Nat) = 2 ^ (64 - s) * 2 ^ s := by rw [← Nat.pow_add,show 64 - s + s = 64 by omega]
 have h4 : y + 1 ≤ 2 ^ (64 - s) := by
  have : y * 2 ^ s < 2 ^ (64 - s) * 2 ^ s := by rw [← e64];exact h2
  exact Nat.lt_of_mul_lt_mul_right this
 have h5 : (y + 1) * 2 ^ s ≤ 18446744073709551616 := by
  have := Nat.mul_le_mul_right (2 ^ s) h4
  rwa [← e64] at this
 refine ⟨h1,Nat.pos_of_ne_zero hne,?_,?_⟩
 · have h6 : o < (y + 1) * 18446744073709551616 ^ n := by rw [Nat.add_mul,Nat.one_mul];omega
   have h7 := Nat.mul_lt_mul_of_pos_right h6 hp
   have h8 := Nat.mul_le_mul_left (18446744073709551616 ^ n) h5
   rw [Nat.pow_succ]
   have e9 : (y + 1) * 18446744073709551616 ^ n * 2 ^ s = 18446744073709551616 ^ n * ((y + 1) * 2 ^ s) := by
    generalize 18446744073709551616 ^ n = P
    grind
   omega
 · have h6 : y * 18446744073709551616 ^ n ≤ o := by omega
   have h7 := Nat.mul_le_mul_right (2 ^ s) h6
   have e9 : y * 18446744073709551616 ^ n * 2 ^ s = 18446744073709551616 ^ n * (y * 2 ^ s) := by
    generalize 18446744073709551616 ^ n = P
    grind
   have h8 := Nat.mul_le_mul_left (18446744073709551616 ^ n) (show 2 ^ 63 ≤ y * 2 ^ s from h3)
   omega
end Vd
namespace Go.Proofs.YtlfgpmnjnpdkdaaGreatDoor
open Go.RowKit Vd
theorem MagV.zero (w : World) : MagV w (.slice none 0 0) 0 := by
 refine ⟨none,0,?_,?_,by omega,?_⟩
 · rw [wlen_zero]
 · rw [wlen_zero];omega
 · rw [wlen_zero,ws_zero];exact Sl.nil
theorem below_of_drewN {B : Nat} {w w1 : World} {d : Nat} (h : Below B (w.drewN d) w1) : Below B w w1 := ⟨h.os,h.tape,h.output,h.size,h.block⟩
theorem dv_words {o s n : Nat} (hn : wlen B64 o = n + 1) (hs : s = 64 - Lib.bitLen (wd B64 o n)) : s ≤ 63 ∧ 0 < wd B64 o n ∧ o * 2 ^ s < B64 ^ (n + 1) ∧ B64 ^ n * 2 ^ 63 ≤ o * 2 ^ s :=
 dv_norm (n := n) rfl hn hs
set_option maxRecDepth 100000 in
set_option maxHeartbeats 2000000 in
theorem divide_long (A1 A2 : Option Addr) (n1 m2 c1 c2 m o : Nat) (w : World) (e1 : wlen B64 m = n1) (e2 : wlen B64 o = m2 + 2) (hx : Sl w U A1 n1 (ws B64 m)) (hy : Sl w U A2 (m2 + 2) (ws B64 o)) (hle : o ≤ m) (hb0 : n1 + 1 ≤ maxW)
 (hv1 : MagV w (.slice A1 n1 c1) m) (hv2 : MagV w (.slice A2 (m2 + 2) c2) o) :
 Calls Tryz.prog 154 #[.slice A1 n1 c1,.slice A2 (m2 + 2) c2] w fun e w' => ∃ q r,e = .returned (.tuple #[q,r]) ∧ MagV w' q (m / o) ∧ MagV w' r (m % o) ∧ Below w.heap.size w w' := by
 have hb1 : n1 ≤ maxW := by omega
 have hn12 : m2 + 2 ≤ n1 := by rw [← e1,← e2];exact wlen_mono two_le_B hle
 have hb2 : m2 + 2 ≤ maxW := by omega
 have hb1' := hb1
 unfold maxW at hb1'
 have hcmp := compare_any _ _ m o w hv1 hv2 (by rw [e2];exact hb2)
 obtain ⟨cv,hcv⟩ : ∃ z,z = cmpN m o := ⟨_,rfl⟩
 have hcv0 : ¬ cv < 0 := by rw [hcv];unfold cmpN;rw [if_neg (by omega)];split <;> omega
 rw [← hcv] at hcmp
 have htopb := wd_lt (b := B64) two_le_B o (m2 + 1)
 obtain ⟨s,hs⟩ : ∃ s,s = 64 - Lib.bitLen (wd B64 o (m2 + 1)) := ⟨_,rfl⟩
 obtain ⟨s63,htop0,hYlt,hYge⟩ := dv_words e2 hs
 have hlz := fun W => lz_any (wd B64 o (m2 + 1)) htopb W
 rw [← hs] at hlz
 obtain ⟨g2,o2,rfl,hg2,hcy⟩ := hy.at_ (by omega)
 have hctop := hcy (m2 + 1) (by omega)
 rw [show nth (ws B64 o) (m2 + 1) = wd B64 o (m2 + 1) from rfl] at hctop
 unfold U at hctop
 have hctop2 := hctop
 rw [← Nat.add_assoc] at hctop2
 have HS := Lib.hid (And.intro hs hcv)
 have k1 : (((m2 : Int) + 2) == 1) = false := by rw [beq_eq_false_iff_ne];omega
 have i1 : (m2 : Int) + 1 < (m2 : Int) + 2 := by omega
 have i2 : (0 : Int) ≤ (m2 : Int) + 1 := by omega
 have i3 : ((m2 : Int) + 1).toNat = m2 + 1 := by omega
 clear hs hcv hcy
 go_enter Tryz.func154,Tryz.ntmps154
 go_wp2_with (first | (go_at_call 148;refine hcmp.mono ?_;rintro e w1 ⟨rfl,d,rfl⟩))
 refine (hlz _).mono ?_
 rintro e w1 ⟨rfl,rfl⟩
 go_wp2_with fail
 refine (raised_any A1 n1 c1 s (ws B64 m) (w.drewN d) (hx.drewN d) (ok_ws _) hb1 s63).mono ?_
 rintro e w1 ⟨L,rfl,hLl,oL,hrL,hvL,hbL⟩
 go_wp2_with fail
 have hbW : Below w.heap.size w w1 := below_of_drewN hbL
 have hrL : Row w1 U w.heap.size 139 L := hrL
 have hg1 : w.heap.size < w1.heap.size := hrL.lt
 refine (raised_any (some ⟨g2,o2,none⟩) (m2 + 2) c2 s (ws B64 o) w1 (hy.below hbW) (ok_ws _) hb2 s63).mono ?_
 rintro e w2 ⟨D,rfl,hDl,oD,hrD,hvD,hbD⟩
 have hrL2 := hrL.below hbD hg1
 have hg2' : w1.heap.size < w2.heap.size := hrD.lt
 have hbW2 : Below w.heap.size w w2 := hbW.trans (hbD.mono (Nat.le_of_lt hg1))
 -- the numbers
 obtain ⟨X,hX⟩ : ∃ X,X = m * 2 ^ s := ⟨_,rfl⟩
 obtain ⟨Y,hY⟩ : ∃ Y,Y = o * 2 ^ s := ⟨_,rfl⟩
 obtain ⟨K,hK⟩ : ∃ K,K = n1 - (m2 + 2) + 1 := ⟨_,rfl⟩
 rw [val_ws two_le_B,← hX] at hvL
 rw [val_ws two_le_B,← hY] at hvD
 rw [← hY] at hYlt hYge
 rw [show m2 + 1 + 1 = m2 + 2 from rfl] at hYlt
 have hp63 : (0 : Nat) < 2 ^ 63 := Nat.pow_pos (by omega)
 have hYpos : 0 < Y := by
  have : 0 < B64 ^ (m2 + 1) * 2 ^ 63 := Nat.mul_pos (Nat.pow_pos (by decide)) hp63
  omega
 have hDt : val B64 (D.take (m2 + 2)) = Y := by
  have h1 := val_take_drop (b := B64) D (m2 + 2) (by omega)
  rcases Nat.eq_zero_or_pos (val B64 (D.drop (m2 + 2))) with h2 | h2
  · rw [h2] at h1;omega
  · have := Nat.mul_le_mul_left (B64 ^ (m2 + 2)) (show 1 ≤ val B64 (D.drop (m2 + 2)) from h2)
    omega
 have hDtop : 0 < nth (D.take (m2 + 2)) (m2 + 1) := by
  have h1 := val_take_succ (b := B64) (D.take (m2 + 2)) (m2 + 1)
  rw [List.take_take,Nat.min_self,hDt,List.take_take,Nat.min_eq_left (by omega)] at h1
  have h2 := val_lt (oD.take (m2 + 1))
  rw [List.length_take,Nat.min_eq_left (by omega)] at h2
  rcases Nat.eq_zero_or_pos (nth (D.take (m2 + 2)) (m2 + 1)) with h3 | h3
  · rw [h3] at h1
    have := Nat.mul_le_mul_left (B64 ^ (m2 + 1)) (show 1 ≤ 2 ^ 63 from hp63)
    omega
  · exact h3
 have hXY : X < B64 ^ K * Y := by
  have h1 : m < B64 ^ n1 := by rw [← e1];exact lt_pow_wlen two_le_B m
  have h2 : X < B64 ^ n1 * 2 ^ 63 := by
   rw [hX]
   have h3 := Nat.mul_lt_mul_of_pos_right h1 (Nat.pow_pos (n := s) (show 0 < 2 by omega))
   have h4 := Nat.mul_le_mul_left (B64 ^ n1) (Nat.pow_le_pow_right (n := 2) (by omega) s63)
   omega
  have h5 := Nat.mul_le_mul_left (B64 ^ K) hYge
  rw [← Nat.mul_assoc,← Nat.pow_add,show K + (m2 + 1) = n1 by omega] at h5
  omega
 have hdv0 := dv_start (b := B64) (n1 := n1) (n2 := m2 + 2) hLl hvL.symm (show K + (m2 + 2) = n1 + 1 by omega) hXY
 have hmk := fun W => mkU K (by unfold maxW;omega) W
 rw [show (K : Int) = (n1 : Int) - ((m2 : Int) + 2) + 1 by omega] at hmk
 have HN := Lib.hid (And.intro hX (And.intro hY (And.intro hK (And.intro e1 (And.intro e2 (And.intro hLl (And.intro hDl (And.intro hDt (And.intro hvL (And.intro hvD hdv0))))))))))
 have hK1 : (K : Int) = (n1 : Int) - ((m2 : Int) + 2) + 1 := by omega
 have HK := Lib.hid hK1
 have kb1 : (K : Int) ≤ 1099511627777 := by unfold maxW at hb1;omega
 have kb0 : (1 : Int) ≤ (K : Int) := by omega
 clear hX hY hK e1 e2 hLl hDl hDt hvL hvD hdv0 hK1 hlz
 go_wp2_with fail
 go_loopg [11] K (fun k i wr => ∃ Ls zs : List Nat,k ≤ K ∧ i = .int .i64 ((k : Int) - 1) ∧ Ls.length = n1 + 1 ∧ Ok B64 Ls ∧ Row wr U w.heap.size 139 Ls ∧ zs.length = K ∧ Ok B64 zs ∧ Row wr U w2.heap.size 139 zs ∧
  DV B64 X Y k Ls zs ∧ Row wr U w1.heap.size 139 D ∧ Below w.heap.size w wr)
 case atStart =>
  obtain ⟨_,_,_,_,_,hLl,_,_,_,_,hdv0⟩ := HN.out
  exact ⟨L,List.replicate K 0,Nat.le_refl _,rfl,hLl,oL,hrL2.alloc _,by simp,Ok.rep two_le_B _,Row.newRep w2 U _ _,hdv0,hrD.alloc _,hbW2.alloc (by have := hbW2.size;omega) _⟩
 case round =>
  obtain ⟨Ls,zs,hk,rfl,hLsl,oLs,hrLs,hzl,oz,hrz,hdv,hrDr,hbel⟩ := hrel
  cases gk with
  | zero =>
    rw [show (((0 : Nat) : Int) - 1) = -1 from rfl]
    obtain ⟨hX,hY,-⟩ := HN.out
    have hpos : 0 < o := by
     rcases Nat.eq_zero_or_pos o with h0 | h0
     · rw [h0] at hY;omega
     · exact h0
    obtain ⟨f1,f2⟩ := dv_end hX hY hpos hdv
    have ht := fun W (h : Row W U w2.heap.size 139 zs) => trim_mag (some ⟨w2.heap.size,0,none⟩) K K zs W (by have := h.sl0;rw [hzl] at this;exact this) oz (by omega) (by omega)
    have hlow := fun W (h : Row W U w.heap.size 139 Ls) => lowered_any (some ⟨w.heap.size,0,none⟩) (n1 + 1) (n1 + 1) s Ls W (by have := h.sl0;rw [hLsl] at this;exact this) oLs hb0 s63
    rw [f1] at ht
    rw [f2] at hlow
    clear hX hY f1 f2 hLsl hzl hmk
    go_wp2_with fail
    refine (ht _ hrz).mono ?_
    rintro e w4 ⟨q,rfl,hq,rfl⟩
    go_wp2_with fail
    refine (hlow _ hrLs).mono ?_
    rintro e w5 ⟨r,rfl,hr,hb5⟩
    go_wp2_with fail
    go_ret2
    exact ⟨q,r,rfl,hq.below hb5,hr,hbel.trans (hb5.mono hbel.size)⟩
  | succ j =>
    rw [show (((j + 1 : Nat) : Int) - 1) = (j : Int) from by omega]
    have hb3 : j + (m2 + 2) + 1 ≤ n1 + 1 := by have := HN.out.2.2.1;omega
    obtain ⟨hm1,hm2⟩ := dv_mid (n2 := m2 + 2) two_le_B hYlt (by omega) oLs hdv
    have hsplit : Ls = Ls.take j ++ ((Ls.drop j).take (m2 + 3) ++ Ls.drop (j + (m2 + 3))) := by
     rw [← List.drop_drop,List.take_append_drop,List.take_append_drop]
    have hrLs' := hrLs
    rw [hsplit] at hrLs'
    have hpl : (Ls.take j).length = j := by rw [List.length_take];omega
    have hsD := hrDr.slk (k := m2 + 2) (by have := HN.out.2.2.2.2.2.2.1;omega)
    have hcall := takeMultiples_any w.heap.size (n1 + 1 - j) (some ⟨w1.heap.size,0,none⟩) (m2 + 2 + 1) (m2 + 1) (Ls.take j) ((Ls.drop j).take (m2 + 3)) (Ls.drop (j + (m2 + 3))) (D.take (m2 + 2)) wr hrLs' hsD
     (fun g3 o3 e3 _ => by injection e3 with e3;injection e3 with e4 _ _;omega) (by rw [List.length_take,List.length_drop];omega) ((oLs.drop j).take _) (oD.take _) hb2 hDtop (by rw [HN.out.2.2.2.2.2.2.2.1];exact hm1)
    rw [hpl,HN.out.2.2.2.2.2.2.2.1] at hcall
    rw [show m2 + 1 + 1 = m2 + 2 from rfl] at hcall
    have hj0 : (0 : Int) ≤ (j : Int) := by omega
    have hjn : (j : Int) + ((m2 : Int) + 2) + 1 ≤ (n1 : Int) + 1 := by omega
    have hjK : (j : Int) < (K : Int) := by omega
    have Hs := Lib.hid (And.intro hsplit (And.intro hpl (And.intro hLsl hzl)))
    clear hsplit hpl hLsl hzl hrLs' hmk
    go_wp2_with fail
    rw [show j + (m2 + 2) + 1 - j = m2 + 1 + 2 by omega]
    refine hcall.mono ?_
    rintro e w3 ⟨zs',rfl,hzl',oz',hr3,hg3,hv3⟩
    obtain ⟨hsplit,hpl,hLsl,hzl⟩ := Hs.out
    have hrz3 := hrz.grown hg3 (fun e => by injection e with e;omega)
    have hrD3 := hrDr.grown hg3 (fun e => by injection e with e;omega)
    have hcq := hrz3.cell (i := j) (by omega)
    have hfq := hrz3.frozen j
    unfold U at hcq
    obtain ⟨Q,hQ⟩ : ∃ Q,Q = val B64 ((Ls.drop j).take (m2 + 3)) / Y := ⟨_,rfl⟩
    rw [← hQ]
    have hQlt : Q < B64 := by rw [hQ,Nat.div_lt_iff_lt_mul hYpos,Nat.mul_comm];exact hm1
    have hrz4 := hrz3.set j Q
    have hdv' := dv_step (n2 := m2 + 2) (mid' := zs') two_le_B hYpos hYlt (by omega) oLs hdv (by omega) (by omega) hv3
    rw [show m2 + 2 + 1 = m2 + 3 from rfl,← hQ] at hdv'
    have Hd := Lib.hid (And.intro hdv' (And.intro hzl' hQ))
    clear hsplit hpl hLsl hzl hQ hdv' hzl' hv3 hcall
    go_wp2_with fail
    obtain ⟨hsplit,hpl,hLsl,hzl⟩ := Hs.out
    obtain ⟨hdv',hzl',hQ⟩ := Hd.out
    go_roundg j
    case measure => omega
    case rel =>
     refine ⟨Ls.take j ++ (zs' ++ Ls.drop (j + (m2 + 3))),zs.set j Q,by omega,rfl,?_,(oLs.take _).app (oz'.app (oLs.drop _)),hr3.far (by show w.heap.size ≠ w2.heap.size;omega) _,by rw [List.length_set];exact hzl,oz.set hQlt,hrz4,hdv',hrD3.far (by show w1.heap.size ≠ w2.heap.size;omega) _,?_⟩
     · rw [List.length_append,List.length_append,hpl,hzl',List.length_drop];omega
     · exact (below_grown_tr hbel hg3 (Nat.le_refl _)).setCell (by show w.heap.size ≤ w2.heap.size;omega) _
set_option maxRecDepth 100000 in
set_option maxHeartbeats 1000000 in
theorem divide_less (v1 v2 : Value) (m o : Nat) (w : World) (h1 : MagV w v1 m) (h2 : MagV w v2 o) (hb : wlen B64 o ≤ maxW) (hlt : m < o) :
 Calls Tryz.prog 154 #[v1,v2] w fun e w' => ∃ q r,e = .returned (.tuple #[q,r]) ∧ MagV w' q (m / o) ∧ MagV w' r (m % o) ∧ Below w.heap.size w w' := by
 have hcmp := compare_any _ _ m o w h1 h2 hb
 rw [show cmpN m o = -1 by unfold cmpN;rw [if_pos hlt]] at hcmp
 have z := MagV.zero w
 rw [show m / o = 0 from Nat.div_eq_of_lt hlt,show m % o = m from Nat.mod_eq_of_lt hlt]
 obtain ⟨A1,c1,rfl,_,s1⟩ := h1.ok_len
 obtain ⟨A2,c2,rfl,_,s2⟩ := h2.ok_len
 go_enter Tryz.func154,Tryz.ntmps154
 go_wp2_with (go_at_call 148;refine hcmp.mono ?_;rintro e w1 ⟨rfl,d,rfl⟩)
 go_ret2
 exact ⟨_,_,rfl,z.drewN d,h1.drewN d,below_drewN (Below.refl _ _) d⟩
set_option maxRecDepth 100000 in
set_option maxHeartbeats 1000000 in
theorem divide_word (v1 v2 : Value) (m o : Nat) (w : World) (h1 : MagV w v1 m) (h2 : MagV w v2 o) (hb : wlen B64 m ≤ maxW) (hle : o ≤ m) (ho : wlen B64 o = 1) :
 Calls Tryz.prog 154 #[v1,v2] w fun e w' => ∃ q r,e = .returned (.tuple #[q,r]) ∧ MagV w' q (m / o) ∧ MagV w' r (m % o) ∧ Below w.heap.size w w' := by
 have hcmp := compare_any _ _ m o w h1 h2 (by rw [ho];decide)
 obtain ⟨cv,hcv⟩ : ∃ z,z = cmpN m o := ⟨_,rfl⟩
 have hcv0 : ¬ cv < 0 := by rw [hcv];unfold cmpN;rw [if_neg (by omega)];split <;> omega
 rw [← hcv] at hcmp
 have hlt : o < B64 := by have := (wlen_le_iff two_le_B o 1).1 (by omega);simpa using this
 have hne : o ≠ 0 := by intro h0;rw [h0,wlen_zero] at ho;omega
 obtain ⟨A2,c2,rfl,_,s2⟩ := h2.ok_len
 rw [ho] at s2 hcmp ⊢
 obtain ⟨g2,o2,rfl,hg2,hcy⟩ := s2.at_ (by omega)
 have hc0 := hcy 0 (by omega)
 rw [ws_one two_le_B hlt hne,show nth [o] 0 = o from rfl] at hc0
 unfold U at hc0
 rw [Nat.add_zero] at hc0
 have hdw := fun d => divWord_any v1 m o (w.drewN d) (h1.drewN d) hb (by omega) hlt
 have hfw := fun W => fromWord_any (m % o) (Nat.lt_trans (Nat.mod_lt _ (by omega)) hlt) W
 obtain ⟨A1,c1,rfl,_,s1⟩ := h1.ok_len
 obtain ⟨rr,hrr⟩ : ∃ r,r = m % o := ⟨_,rfl⟩
 rw [← hrr] at hfw ⊢
 simp only [← hrr] at hdw
 clear hcv hcy ho hrr
 go_enter Tryz.func154,Tryz.ntmps154
 go_wp2_with (go_at_call 148;refine hcmp.mono ?_;rintro e w1 ⟨rfl,d,rfl⟩)
 refine (hdw d).mono ?_
 rintro e w2 ⟨q,rfl,hq,hb2⟩
 go_wp2_with fail
 refine (hfw w2).mono ?_
 rintro e w3 ⟨r,rfl,hr,hb3⟩
 go_wp2_with fail
 go_ret2
 have hb2' : Below w.heap.size w w2 := below_of_drewN hb2
 exact ⟨q,r,rfl,hq.below hb3,hr,hb2'.trans (hb3.mono hb2'.size)⟩
theorem divide_any (v1 v2 : Value) (m o : Nat) (w : World) (h1 : MagV w v1 m) (h2 : MagV w v2 o) (b1 : wlen B64 m + 1 ≤ maxW) (b2 : wlen B64 o ≤ maxW) (ho : 0 < o) :
 Calls Tryz.prog 154 #[v1,v2] w fun e w' => ∃ q r,e = .returned (.tuple #[q,r]) ∧ MagV w' q (m / o) ∧ MagV w' r (m % o) ∧ Below w.heap.size w w' := by
 rcases Nat.lt_or_ge m o with h | h
 · exact divide_less v1 v2 m o w h1 h2 b2 h
 · have hp : 0 < wlen B64 o := by
    rcases Nat.eq_zero_or_pos (wlen B64 o) with h0 | h0
    · rw [wlen_eq_zero two_le_B] at h0;omega
    · exact h0
   by_cases h1w : wlen B64 o = 1
   · exact divide_word v1 v2 m o w h1 h2 (by omega) h h1w
   · obtain ⟨n2,hn2⟩ : ∃ n,wlen B64 o = n + 2 := ⟨wlen B64 o - 2,by omega⟩
     have h1' := h1
     have h2' := h2
     obtain ⟨A1,c1,rfl,_,s1⟩ := h1.ok_len
     obtain ⟨A2,c2,rfl,_,s2⟩ := h2.ok_len
     rw [hn2] at s2 h2' ⊢
     exact divide_long A1 A2 _ n2 c1 c2 m o w rfl hn2 s1 s2 h b1 h1' h2'
end Go.Proofs.YtlfgpmnjnpdkdaaGreatDoor
