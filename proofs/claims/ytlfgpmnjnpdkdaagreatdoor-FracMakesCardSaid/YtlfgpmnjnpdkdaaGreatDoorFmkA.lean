/- FracMakes: the walk, over what it calls. -/
import Derived.Test.YtlfgpmnjnpdkdaaGreatDoorFsuA
namespace Go.Proofs.YtlfgpmnjnpdkdaaGreatDoor.makes
open Go.RowKit sums
attribute [local go_sem ↓] Go.wp_at_zero Go.wp_at_succ
def InR (n : Int) : Prop := -9223372036854775808 ≤ n ∧ n ≤ 9223372036854775807
theorem wpair (a b : Int) (W : World) : (Instr.build 34 #[(0,.int .i64 a),(1,.int .i64 b)]).run Tryz.prog W = .ok (.agg #[.int .i64 a,.int .i64 b]) W := run_build W _ _ _ (by kernel_rfl)
theorem wtrip (a b c d e f : Int) (W : World) : (Instr.build 36 #[(0,.agg #[.int .i64 a,.int .i64 b]),(1,.agg #[.int .i64 c,.int .i64 d]),(2,.agg #[.int .i64 e,.int .i64 f])]).run Tryz.prog W = .ok (.agg #[.int .i64 a,.int .i64 b,.int .i64 c,.int .i64 d,.int .i64 e,.int .i64 f]) W := run_build W _ _ _ (by kernel_rfl)
theorem wfrac (s t : ByteArray) (W : World) : (Instr.build 24 #[(0,.string s),(1,.string t)]).run Tryz.prog W = .ok (.agg #[.string s,.string t]) W := run_build W _ _ _ (by kernel_rfl)
theorem wt_0 (a b c d e f : Int) (W : World) : (Instr.index 36 (.agg #[.int .i64 a,.int .i64 b,.int .i64 c,.int .i64 d,.int .i64 e,.int .i64 f]) (.int .i64 0)).run Tryz.prog W = .ok (.agg #[.int .i64 a,.int .i64 b]) W := by kernel_rfl
theorem wt_1 (a b c d e f : Int) (W : World) : (Instr.index 36 (.agg #[.int .i64 a,.int .i64 b,.int .i64 c,.int .i64 d,.int .i64 e,.int .i64 f]) (.int .i64 1)).run Tryz.prog W = .ok (.agg #[.int .i64 c,.int .i64 d]) W := by kernel_rfl
theorem wt_2 (a b c d e f : Int) (W : World) : (Instr.index 36 (.agg #[.int .i64 a,.int .i64 b,.int .i64 c,.int .i64 d,.int .i64 e,.int .i64 f]) (.int .i64 2)).run Tryz.prog W = .ok (.agg #[.int .i64 e,.int .i64 f]) W := by kernel_rfl
attribute [local go_sem ↓] wpair wtrip wfrac
theorem three_at (a b c d e f : Int) (ha : InR a) (hb : InR b) (hc : InR c) (hd : InR d) (he : InR e) (hf : InR f) (i : Nat) (hi : i < 3) : ∃ x y : Int,InR x ∧ InR y ∧ ∀ W : World,(Instr.index 36 (.agg #[.int .i64 a,.int .i64 b,.int .i64 c,.int .i64 d,.int .i64 e,.int .i64 f]) (.int .i64 (i : Int))).run Tryz.prog W = .ok (.agg #[.int .i64 x,.int .i64 y]) W := by
 rcases (show i = 0 ∨ i = 1 ∨ i = 2 by omega) with rfl | rfl | rfl
 · exact ⟨a,b,ha,hb,fun W => wt_0 a b c d e f W⟩
 · exact ⟨c,d,hc,hd,fun W => wt_1 a b c d e f W⟩
 · exact ⟨e,f,he,hf,fun W => wt_2 a b c d e f W⟩
theorem tmod_in (n m : Int) (_hn : InR n) (hm : 0 < m) (hm2 : m ≤ 1000) : InR (n.tmod m) := by
 have h := Int.tmod_def n m
 have h1 := Int.tmod_lt_of_pos n hm
 have h2 := Int.lt_tmod_of_pos n hm
 exact ⟨by omega,by omega⟩
abbrev Both (G : World → Prop) (f g : FuncId) (args : Array Value) (V : Value) : Prop := Gv G f args V ∧ Gv G g args V
structure Same (G : World → Prop) : Prop where
 of : ∀ n d : Int,InR n → InR d → ∃ (s t : ByteArray) (k : Int),Both G 8 9 #[.int .i64 n,.int .i64 d] (tup s t k)
 make : ∀ l1 l2 : List UInt8,l1.length ≤ 1000000 → l2.length ≤ 1000000 → ∃ (s t : ByteArray) (k : Int),Both G 11 12 #[.string ⟨l1.toArray⟩,.string ⟨l2.toArray⟩] (tup s t k)
 sign : ∀ a1 a2 : List UInt8,(a1.length ≤ 1000000 ∧ a2.length ≤ 1000000) → ∃ c k : Int,Both G 13 14 #[fr ⟨a1.toArray⟩ ⟨a2.toArray⟩] (.tuple #[.int .i64 c,.int .i64 k])
 check : ∀ a1 a2 : List UInt8,(a1.length ≤ 1000000 ∧ a2.length ≤ 1000000) → ∃ k : Int,Both G 15 16 #[fr ⟨a1.toArray⟩ ⟨a2.toArray⟩] (.int .i64 k)
abbrev KA (G : World → Prop) (w : World) (V : Array Value) (W : World) : Prop := Below w.heap.size w W ∧ G W ∧ W.heap[w.heap.size]? = some (.cells V 32 (0,0))
theorem KA.step {G : World → Prop} (hG : ∀ W W',G W → Below W.heap.size W W' → G W') {w W W' : World} {V : Array Value} (k : KA G w V W) (hb : Below W.heap.size W W') : KA G w V W' :=
 ⟨below_more k.1 hb,hG _ _ k.2.1 hb,(hb.block _ (Array.getElem?_eq_some_iff.1 k.2.2).1).trans k.2.2⟩
abbrev KM (G : World → Prop) (w : World) (g h x y z : Nat) (l : List (List UInt8)) (a1 a2 b1 b2 : List UInt8) (u v s t : ByteArray) (V W : World) : Prop :=
 Below V.heap.size V W ∧ KS G w g h l a1 a2 b1 b2 W ∧ W.cell? ⟨x,0,none⟩ = some (.string s) ∧ W.cell? ⟨x,1,none⟩ = some (.string t) ∧ W.cell? ⟨y,0,none⟩ = some (.string s) ∧ W.cell? ⟨y,1,none⟩ = some (.string t) ∧ W.cell? ⟨z,0,none⟩ = some (.string u) ∧ W.cell? ⟨z,1,none⟩ = some (.string v)
set_option maxRecDepth 100000 in
set_option maxHeartbeats 8000000 in
theorem walk (G : World → Prop) (hG : ∀ W W',G W → Below W.heap.size W W' → G W') (hs : Same G) (p1 p2 q1 q2 : List UInt8) (b1 : Bool) (A1 : Option Addr) (n1 c1 z1 : Nat) (b2 : Bool) (A2 : Option Addr) (n2 c2 z2 : Nat) (b3 : Bool) (A3 : Option Addr) (n3 c3 z3 : Nat) (b4 : Bool) (A4 : Option Addr) (n4 c4 z4 : Nat) (N M : Int) (hN : InR N) (hM : InR M) (w : World) (hg : G w)
    (hwk : ∀ W,G W → Calls Tryz.prog 7 #[] W fun e w' => e = .returned (.bool true) ∧ Below W.heap.size W w')
    (hpr : ∀ W,G W → Below w.heap.size w W → Calls Tryz.prog 10 #[.agg (TwoVF p1 p2 q1 q2 b1 A1 n1 c1 z1 b2 A2 n2 c2 z2 b3 A3 n3 c3 z3 b4 A4 n4 c4 z4)] W fun e w' => ∃ (g : Nat) (l : List (List UInt8)),e = .returned (.slice (some ⟨g,0,none⟩) 4 4) ∧ l.length = 16 ∧ (∀ s ∈ l,s.length ≤ 1000000) ∧ w'.heap[g]? = some (.cells (sixteen l) 42 (0,0)) ∧ Below W.heap.size W w') :
    Calls Tryz.prog 3 #[.agg (TwoVF p1 p2 q1 q2 b1 A1 n1 c1 z1 b2 A2 n2 c2 z2 b3 A3 n3 c3 z3 b4 A4 n4 c4 z4),.int .i64 N,.int .i64 M] w fun e w' => e = .returned (.bool true) ∧ Below w.heap.size w w' := by
 have hb0 : Below w.heap.size w (w.alloc (.cells (TwoVF p1 p2 q1 q2 b1 A1 n1 c1 z1 b2 A2 n2 c2 z2 b3 A3 n3 c3 z3 b4 A4 n4 c4 z4) 32)) := (Below.refl _ _).alloc (Nat.le_refl _) _
 have hk0 : KA G w (TwoVF p1 p2 q1 q2 b1 A1 n1 c1 z1 b2 A2 n2 c2 z2 b3 A3 n3 c3 z3 b4 A4 n4 c4 z4) (w.alloc (.cells (TwoVF p1 p2 q1 q2 b1 A1 n1 c1 z1 b2 A2 n2 c2 z2 b3 A3 n3 c3 z3 b4 A4 n4 c4 z4) 32)) := ⟨hb0,hG _ _ hg hb0,heap_alloc_new w _⟩
 have hw0 := hwk _ hk0.2.1
 have H := Lib.hid (And.intro hk0 (And.intro hpr hs))
 have HG := Lib.hid hG
 have HN := Lib.hid (And.intro hN hM)
 obtain ⟨N0,N1⟩ := hN
 obtain ⟨M0,M1⟩ := hM
 clear hb0 hk0 hpr hs hg hwk hG
 go_enter Tryz.func3,Tryz.ntmps3
 go_wp2_with fail
 refine hw0.mono ?_
 rintro e w1 ⟨rfl,hb1⟩
 clear hw0
 have HK1 := Lib.hid (H.out.1.step HG.out hb1)
 clear hb1
 go_wp2_with fail
 go_loopg [40] 3 (fun r iv W => ∃ i : Nat,r = 3 - i ∧ iv = .int .i64 (i : Int) ∧ i ≤ 3 ∧ KA G w (TwoVF p1 p2 q1 q2 b1 A1 n1 c1 z1 b2 A2 n2 c2 z2 b3 A3 n3 c3 z3 b4 A4 n4 c4 z4) W)
 case atStart => exact ⟨0,rfl,rfl,by omega,HK1.out⟩
 case round =>
  obtain ⟨i,rfl,rfl,hi,hK⟩ := hrel
  rename World => V
  by_cases ha : i < 3
  · have i1 : (i : Int) < 3 := by omega
    obtain ⟨x,y,hx,hy,hix⟩ := three_at N M (N / 1099511627776) (M / 1099511627776) (N.tmod 100) (M.tmod 10) HN.out.1 HN.out.2 ⟨by omega,by omega⟩ ⟨by omega,by omega⟩ (tmod_in N 100 HN.out.1 (by omega) (by omega)) (tmod_in M 10 HN.out.2 (by omega) (by omega)) i ha
    obtain ⟨s1,t1,k1,e1,e2⟩ := H.out.2.2.of x y hx hy
    have E1 := Lib.hid e1
    have E2 := Lib.hid e2
    have HI := Lib.hid (And.intro ha hi)
    have HK2 := Lib.hid (hK.step HG.out ((Below.refl V.heap.size V).alloc (Nat.le_refl _) (.cells #[.int .i64 x,.int .i64 y] 34)))
    clear ha hi hx hy e1 e2 hK
    go_wp2_with fail
    refine (E1.out _ HK2.out.2.1).mono ?_
    rintro e v0 ⟨rfl,hb⟩
    have z0 : v0.cell? ⟨V.heap.size,0,none⟩ = some (.int .i64 x) := keep hb (by simp [go_sem])
    have z1 : v0.cell? ⟨V.heap.size,1,none⟩ = some (.int .i64 y) := keep hb (by simp [go_sem])
    have l0 := World.block_lt_of_cell? v0 _ z0
    (try simp only at l0)
    have hk := HK2.out.step HG.out hb
    have HK3 := Lib.hid (hk.step HG.out ((Below.refl v0.heap.size v0).alloc (Nat.le_refl _) (.cells #[.string s1,.string t1] 24)))
    clear hb hk
    go_wp2_with fail
    refine (E2.out _ HK3.out.2.1).mono ?_
    rintro e v1 ⟨rfl,hb⟩
    have y0 : v1.cell? ⟨v0.heap.size,0,none⟩ = some (.string s1) := keep hb (by simp [go_sem])
    have y1 : v1.cell? ⟨v0.heap.size,1,none⟩ = some (.string t1) := keep hb (by simp [go_sem])
    have l1 := World.block_lt_of_cell? v1 _ y0
    (try simp only at l1)
    have hk := HK3.out.step HG.out hb
    have HK4 := Lib.hid (hk.step HG.out ((Below.refl v1.heap.size v1).alloc (Nat.le_refl _) (.cells #[.string s1,.string t1] 24)))
    clear hb hk z0 z1 l0
    go_wp2_with fail
    go_roundg (3 - (i + 1))
    case measure => have := HI.out.1;omega
    case rel => exact ⟨i + 1,rfl,by go_num,by have := HI.out.1;omega,HK4.out⟩
  · obtain rfl : i = 3 := by omega
    have f0 : V.cell? ⟨w.heap.size,0,none⟩ = _ := cell_of_row V w.heap.size 0 _ _ (0,0) hK.2.2
    have f1 : V.cell? ⟨w.heap.size,1,none⟩ = _ := cell_of_row V w.heap.size 1 _ _ (0,0) hK.2.2
    have f2 : V.cell? ⟨w.heap.size,2,none⟩ = _ := cell_of_row V w.heap.size 2 _ _ (0,0) hK.2.2
    have f3 : V.cell? ⟨w.heap.size,3,none⟩ = _ := cell_of_row V w.heap.size 3 _ _ (0,0) hK.2.2
    have f4 : V.cell? ⟨w.heap.size,4,none⟩ = _ := cell_of_row V w.heap.size 4 _ _ (0,0) hK.2.2
    have f5 : V.cell? ⟨w.heap.size,5,none⟩ = _ := cell_of_row V w.heap.size 5 _ _ (0,0) hK.2.2
    have f6 : V.cell? ⟨w.heap.size,6,none⟩ = _ := cell_of_row V w.heap.size 6 _ _ (0,0) hK.2.2
    have f7 : V.cell? ⟨w.heap.size,7,none⟩ = _ := cell_of_row V w.heap.size 7 _ _ (0,0) hK.2.2
    have f8 : V.cell? ⟨w.heap.size,8,none⟩ = _ := cell_of_row V w.heap.size 8 _ _ (0,0) hK.2.2
    have f9 : V.cell? ⟨w.heap.size,9,none⟩ = _ := cell_of_row V w.heap.size 9 _ _ (0,0) hK.2.2
    have f10 : V.cell? ⟨w.heap.size,10,none⟩ = _ := cell_of_row V w.heap.size 10 _ _ (0,0) hK.2.2
    have f11 : V.cell? ⟨w.heap.size,11,none⟩ = _ := cell_of_row V w.heap.size 11 _ _ (0,0) hK.2.2
    have f12 : V.cell? ⟨w.heap.size,12,none⟩ = _ := cell_of_row V w.heap.size 12 _ _ (0,0) hK.2.2
    have f13 : V.cell? ⟨w.heap.size,13,none⟩ = _ := cell_of_row V w.heap.size 13 _ _ (0,0) hK.2.2
    have f14 : V.cell? ⟨w.heap.size,14,none⟩ = _ := cell_of_row V w.heap.size 14 _ _ (0,0) hK.2.2
    have f15 : V.cell? ⟨w.heap.size,15,none⟩ = _ := cell_of_row V w.heap.size 15 _ _ (0,0) hK.2.2
    have hp1 := H.out.2.1 _ hK.2.1 hK.1
    have HB := Lib.hid hK
    clear hK hi ha
    go_wp2_with fail
    refine hp1.mono ?_
    rintro e w2 ⟨g,l,rfl,hll,hls,hF,hb2⟩
    have HP := Lib.hid (And.intro hll (And.intro hls (And.intro (below_more HB.out.1 hb2) (And.intro (HG.out _ _ HB.out.2.1 hb2) hF))))
    clear hp1 hll hls hF hb2 HB f0 f1 f2 f3 f4 f5 f6 f7 f8 f9 f10 f11 f12 f13 f14 f15
    go_wp2_with fail
    go_loopg [71] 4 (fun r iv W => ∃ i : Nat,r = 4 - i ∧ iv = .int .i64 (i : Int) ∧ i ≤ 4 ∧ Below w.heap.size w W ∧ G W ∧ W.heap[g]? = some (.cells (sixteen l) 42 (0,0)))
    case atStart => exact ⟨0,rfl,rfl,by omega,HP.out.2.2.1,HP.out.2.2.2.1,HP.out.2.2.2.2⟩
    case round =>
     obtain ⟨i,rfl,rfl,hi,hb,hgw,hF⟩ := hrel
     rename World => U
     by_cases ha : i < 4
     · have i1 : (i : Int) < 4 := by omega
       have i2 : (0 : Int) ≤ (i : Int) := by omega
       obtain ⟨a1,a2,b1,b2,la,lb,g0,g1,g2,g3⟩ := sixteen_at HP.out.1 HP.out.2.1 hF i ha
       have hK : KS G w g U.heap.size l a1 a2 b1 b2 (U.alloc (.cells #[.string ⟨a1.toArray⟩,.string ⟨a2.toArray⟩,.string ⟨b1.toArray⟩,.string ⟨b2.toArray⟩] 42)) := by
        have hba : Below U.heap.size U (U.alloc (.cells #[.string ⟨a1.toArray⟩,.string ⟨a2.toArray⟩,.string ⟨b1.toArray⟩,.string ⟨b2.toArray⟩] 42)) := (Below.refl _ _).alloc (Nat.le_refl _) _
        refine ⟨below_more hb hba,HG.out _ _ hgw hba,(hba.block g (Array.getElem?_eq_some_iff.1 hF).1).trans hF,?_,?_,?_,?_⟩ <;> simp [go_sem]
       obtain ⟨s1,t1,k1,e1,e2⟩ := H.out.2.2.make a1 b1 la.1 lb.1
       obtain ⟨c,k2,e3,e4⟩ := H.out.2.2.sign a1 a2 la
       obtain ⟨k3,e5,e6⟩ := H.out.2.2.check a1 a2 la
       obtain ⟨k4,e7,e8⟩ := H.out.2.2.check a1 b2 ⟨la.1,lb.2⟩
       have E1 := Lib.hid e1
       have E2 := Lib.hid e2
       have E3 := Lib.hid e3
       have E4 := Lib.hid e4
       have E5 := Lib.hid (And.intro e5 (And.intro e6 (And.intro e7 e8)))
       have HK0 := Lib.hid hK
       have HI := Lib.hid (And.intro ha hi)
       clear hK ha hi la lb hb hgw hF e1 e2 e3 e4 e5 e6 e7 e8
       go_wp2_with fail
       refine (E1.out _ HK0.out.2.1).mono ?_
       rintro e v0 ⟨rfl,hb⟩
       have hk := HK0.out.step HG.out hb
       have c0 := hk.2.2.2.1
       have c1 := hk.2.2.2.2.1
       have c2 := hk.2.2.2.2.2.1
       have c3 := hk.2.2.2.2.2.2
       have l0 := World.block_lt_of_cell? v0 _ c0
       (try simp only at l0)
       have HK1 := Lib.hid (hk.step HG.out ((Below.refl v0.heap.size v0).alloc (Nat.le_refl _) (.cells #[.string s1,.string t1] 24)))
       clear hb hk g0 g1 g2 g3
       go_wp2_with fail
       refine (E2.out _ HK1.out.2.1).mono ?_
       rintro e v1 ⟨rfl,hb⟩
       have hk := HK1.out.step HG.out hb
       have c0 := hk.2.2.2.1
       have c1 := hk.2.2.2.2.1
       have c2 := hk.2.2.2.2.2.1
       have c3 := hk.2.2.2.2.2.2
       have y00 : v1.cell? ⟨v0.heap.size,0,none⟩ = some (.string s1) := keep hb (by simp [go_sem])
       have y01 : v1.cell? ⟨v0.heap.size,1,none⟩ = some (.string t1) := keep hb (by simp [go_sem])
       have l0 := World.block_lt_of_cell? v1 _ c0
       have l1 := World.block_lt_of_cell? v1 _ y00
       (try simp only at l0 l1)
       have hba : Below v1.heap.size v1 (v1.alloc (.cells #[.string s1,.string t1] 24)) := (Below.refl _ _).alloc (Nat.le_refl _) _
       have HK2 := Lib.hid (hk.step HG.out hba)
       have HY2 := Lib.hid (And.intro (keep hba y00) (keep hba y01))
       have HQ2 : Hid ((v1.alloc (.cells #[.string s1,.string t1] 24)).cell? ⟨v1.heap.size,0,none⟩ = some (.string s1) ∧ (v1.alloc (.cells #[.string s1,.string t1] 24)).cell? ⟨v1.heap.size,1,none⟩ = some (.string t1)) := Lib.hid (by constructor <;> simp [go_sem])
       clear hb hk hba
       go_wp2_with fail
       refine (E3.out _ HK2.out.2.1).mono ?_
       rintro e v2 ⟨rfl,hb⟩
       have hk := HK2.out.step HG.out hb
       have HK3 := Lib.hid hk
       have HY3 := Lib.hid (And.intro (keep hb HY2.out.1) (And.intro (keep hb HY2.out.2) (And.intro (keep hb HQ2.out.1) (keep hb HQ2.out.2))))
       have c0 := hk.2.2.2.1
       have c1 := hk.2.2.2.2.1
       clear hb hk y00 y01 c2 c3 l0 l1
       go_wp2_with fail
       refine (E4.out _ HK3.out.2.1).mono ?_
       rintro e v3 ⟨rfl,hb⟩
       have hk := HK3.out.step HG.out hb
       have hy := HY3.out
       have y00 := keep hb hy.1
       have y01 := keep hb hy.2.1
       have y10 := keep hb hy.2.2.1
       have y11 := keep hb hy.2.2.2
       have c0 := hk.2.2.2.1
       have c1 := hk.2.2.2.2.1
       have c2 := hk.2.2.2.2.2.1
       have c3 := hk.2.2.2.2.2.2
       have l0 := World.block_lt_of_cell? v3 _ c0
       have l1 := World.block_lt_of_cell? v3 _ y00
       have l2 := World.block_lt_of_cell? v3 _ y10
       (try simp only at l0 l1 l2)
       have HK4 := Lib.hid hk
       clear hb hk hy
       go_upto_region 19 with fail
       obtain ⟨V4,hV4⟩ : ∃ V4,V4 = v3.alloc (.cells #[.string ⟨a1.toArray⟩,.string ⟨b2.toArray⟩] 24) := ⟨_,rfl⟩
       have hba : Below v3.heap.size v3 V4 := by rw [hV4];exact (Below.refl _ _).alloc (Nat.le_refl _) _
       have hk4 := HK4.out.step HG.out hba
       have d0 := keep hba y00
       have d1 := keep hba y01
       have d2 := keep hba y10
       have d3 := keep hba y11
       have d4 : V4.cell? ⟨v3.heap.size,0,none⟩ = some (.string ⟨a1.toArray⟩) := by rw [hV4];simp [go_sem]
       have d5 : V4.cell? ⟨v3.heap.size,1,none⟩ = some (.string ⟨b2.toArray⟩) := by rw [hV4];simp [go_sem]
       have hKB : ∀ W,Below V4.heap.size V4 W → KM G w g U.heap.size v0.heap.size v1.heap.size v3.heap.size l a1 a2 b1 b2 ⟨a1.toArray⟩ ⟨b2.toArray⟩ s1 t1 V4 W := fun W hb => ⟨hb,hk4.step HG.out hb,keep hb d0,keep hb d1,keep hb d2,keep hb d3,keep hb d4,keep hb d5⟩
       have K1 : Hid (∀ W,KM G w g U.heap.size v0.heap.size v1.heap.size v3.heap.size l a1 a2 b1 b2 ⟨a1.toArray⟩ ⟨b2.toArray⟩ s1 t1 V4 W → Calls Tryz.prog 15 #[fr ⟨a1.toArray⟩ ⟨a2.toArray⟩] W fun e w' => e = .returned (.int .i64 k3) ∧ KM G w g U.heap.size v0.heap.size v1.heap.size v3.heap.size l a1 a2 b1 b2 ⟨a1.toArray⟩ ⟨b2.toArray⟩ s1 t1 V4 w') := Lib.hid fun W hS => (E5.out.1 W hS.2.1.2.1).mono fun e w' ⟨he,hb⟩ => ⟨he,hKB _ (below_more hS.1 hb)⟩
       have K2 : Hid (∀ W,KM G w g U.heap.size v0.heap.size v1.heap.size v3.heap.size l a1 a2 b1 b2 ⟨a1.toArray⟩ ⟨b2.toArray⟩ s1 t1 V4 W → Calls Tryz.prog 16 #[fr ⟨a1.toArray⟩ ⟨a2.toArray⟩] W fun e w' => e = .returned (.int .i64 k3) ∧ KM G w g U.heap.size v0.heap.size v1.heap.size v3.heap.size l a1 a2 b1 b2 ⟨a1.toArray⟩ ⟨b2.toArray⟩ s1 t1 V4 w') := Lib.hid fun W hS => (E5.out.2.1 W hS.2.1.2.1).mono fun e w' ⟨he,hb⟩ => ⟨he,hKB _ (below_more hS.1 hb)⟩
       have K3 : Hid (∀ W,KM G w g U.heap.size v0.heap.size v1.heap.size v3.heap.size l a1 a2 b1 b2 ⟨a1.toArray⟩ ⟨b2.toArray⟩ s1 t1 V4 W → Calls Tryz.prog 15 #[fr ⟨a1.toArray⟩ ⟨b2.toArray⟩] W fun e w' => e = .returned (.int .i64 k4) ∧ KM G w g U.heap.size v0.heap.size v1.heap.size v3.heap.size l a1 a2 b1 b2 ⟨a1.toArray⟩ ⟨b2.toArray⟩ s1 t1 V4 w') := Lib.hid fun W hS => (E5.out.2.2.1 W hS.2.1.2.1).mono fun e w' ⟨he,hb⟩ => ⟨he,hKB _ (below_more hS.1 hb)⟩
       have K4 : Hid (∀ W,KM G w g U.heap.size v0.heap.size v1.heap.size v3.heap.size l a1 a2 b1 b2 ⟨a1.toArray⟩ ⟨b2.toArray⟩ s1 t1 V4 W → Calls Tryz.prog 16 #[fr ⟨a1.toArray⟩ ⟨b2.toArray⟩] W fun e w' => e = .returned (.int .i64 k4) ∧ KM G w g U.heap.size v0.heap.size v1.heap.size v3.heap.size l a1 a2 b1 b2 ⟨a1.toArray⟩ ⟨b2.toArray⟩ s1 t1 V4 w') := Lib.hid fun W hS => (E5.out.2.2.2 W hS.2.1.2.1).mono fun e w' ⟨he,hb⟩ => ⟨he,hKB _ (below_more hS.1 hb)⟩
       have HKB := Lib.hid hKB
       rw [← hV4]
       clear hV4 hba hk4 d0 d1 d2 d3 d4 d5 hKB c0 c1 c2 c3 y00 y01 y10 y11 l0 l1 l2
       go_region_held3 (fun W => KM G w g U.heap.size v0.heap.size v1.heap.size v3.heap.size l a1 a2 b1 b2 ⟨a1.toArray⟩ ⟨b2.toArray⟩ s1 t1 V4 W) (first | with_reducible assumption | (refine HKB.out _ ?_;(repeat (first | with_reducible assumption | with_reducible exact Below.refl _ _ | with_reducible refine Below.drew ?_ | with_reducible refine Below.alloc ?_ (by first | omega | (simp;done) | (simp;omega)) _ | with_reducible refine Below.setCell ?_ (by first | (simp;done) | (simp;omega) | omega) _))))
        (first
         | (go_at_call 15;with_reducible refine (K1.out _ ?_).mono ?_;with_reducible assumption;rintro e x1 ⟨rfl,hS1⟩)
         | (go_at_call 16;with_reducible refine (K2.out _ ?_).mono ?_;with_reducible assumption;rintro e x2 ⟨rfl,hS2⟩)
         | (go_at_call 15;with_reducible refine (K3.out _ ?_).mono ?_;with_reducible assumption;rintro e x3 ⟨rfl,hS3⟩)
         | (go_at_call 16;with_reducible refine (K4.out _ ?_).mono ?_;with_reducible assumption;rintro e x4 ⟨rfl,hS4⟩))
       all_goals
        go_wp2_with fail
        go_roundg (4 - (i + 1))
        case measure => have := HI.out.1;omega
        case rel =>
         refine ⟨i + 1,rfl,by go_num,by have := HI.out.1;omega,?_⟩
         have hfin : KS G w g U.heap.size l a1 a2 b1 b2 _ := hS4.2.1
         exact ⟨hfin.1,hfin.2.1,hfin.2.2.1⟩
     · obtain rfl : i = 4 := by omega
       go_wp2_with fail
       go_ret
       exact ⟨rfl,hb⟩
end Go.Proofs.YtlfgpmnjnpdkdaaGreatDoor.makes
