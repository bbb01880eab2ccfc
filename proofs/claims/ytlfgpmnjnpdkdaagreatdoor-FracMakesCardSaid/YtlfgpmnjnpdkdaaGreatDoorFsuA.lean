/- FracSums: the walk, over what it calls. -/
import Derived.Test.YtlfgpmnjnpdkdaaGreatDoorProg
import Derived.WalkKit
import Derived.WalkSpells
import Derived.WalkLawsBesides
import Derived.Below
import Derived.Laws.OwnMore
import Derived.Laws.StructEq
import Derived.Laws.Tables
import Derived.Deep.LoopGhost
import Derived.Deep.QuietTactic
import Derived.BigQuiet
import Derived.Lib.Hide
import Derived.Deep.DrawnRows
import Derived.RegionTactic
import Derived.ChangeAlike
import Derived.Deep.RegionHeld3
import Derived.Shelf.Lay
import Derived.Deep.Cut
namespace Go.Proofs.YtlfgpmnjnpdkdaaGreatDoor.sums
open Go.RowKit
attribute [local go_sem ↓] Go.wp_at_zero Go.wp_at_succ
theorem below_more {W W1 W2 : World} (h : Below W.heap.size W W1) (k : Below W1.heap.size W1 W2) : Below W.heap.size W W2 := h.trans (k.mono h.size)
abbrev Gv (G : World → Prop) (f : FuncId) (args : Array Value) (V : Value) : Prop := ∀ W,G W → Calls Tryz.prog f args W fun e w' => e = .returned V ∧ Below W.heap.size W w'
abbrev fr (s t : ByteArray) : Value := .agg #[.string s,.string t]
abbrev tup (s t : ByteArray) (k : Int) : Value := .tuple #[fr s t,.int .i64 k]
abbrev gv (f : FuncId) : Value := .func (.func f) #[] #[]
abbrev tabP : Array Value := #[gv 26,gv 27,gv 28,gv 29]
abbrev tabR : Array Value := #[gv 30,gv 31,gv 32,gv 33]
theorem wtabP (W : World) : (Instr.build 53 #[(0,gv 26),(1,gv 27),(2,gv 28),(3,gv 29)]).run Tryz.prog W = .ok (.agg tabP) W := run_build W _ _ _ (by kernel_rfl)
theorem wtP_0 (W : World) : (Instr.index 53 (.agg tabP) (.int .i64 0)).run Tryz.prog W = .ok (gv 26) W := by kernel_rfl
theorem wtP_1 (W : World) : (Instr.index 53 (.agg tabP) (.int .i64 1)).run Tryz.prog W = .ok (gv 27) W := by kernel_rfl
theorem wtP_2 (W : World) : (Instr.index 53 (.agg tabP) (.int .i64 2)).run Tryz.prog W = .ok (gv 28) W := by kernel_rfl
theorem wtP_3 (W : World) : (Instr.index 53 (.agg tabP) (.int .i64 3)).run Tryz.prog W = .ok (gv 29) W := by kernel_rfl
theorem wtabR (W : World) : (Instr.build 53 #[(0,gv 30),(1,gv 31),(2,gv 32),(3,gv 33)]).run Tryz.prog W = .ok (.agg tabR) W := run_build W _ _ _ (by kernel_rfl)
theorem wtR_0 (W : World) : (Instr.index 53 (.agg tabR) (.int .i64 0)).run Tryz.prog W = .ok (gv 30) W := by kernel_rfl
theorem wtR_1 (W : World) : (Instr.index 53 (.agg tabR) (.int .i64 1)).run Tryz.prog W = .ok (gv 31) W := by kernel_rfl
theorem wtR_2 (W : World) : (Instr.index 53 (.agg tabR) (.int .i64 2)).run Tryz.prog W = .ok (gv 32) W := by kernel_rfl
theorem wtR_3 (W : World) : (Instr.index 53 (.agg tabR) (.int .i64 3)).run Tryz.prog W = .ok (gv 33) W := by kernel_rfl
attribute [local go_sem ↓] wtabP wtabR
structure Pair (G : World → Prop) (args : Array Value) (j : Nat) (f g : FuncId) (s t : ByteArray) (k : Int) : Prop where
 fp : ∀ W : World,(Instr.index 53 (.agg tabP) (.int .i64 (j : Int))).run Tryz.prog W = .ok (gv f) W
 gp : ∀ W : World,(Instr.index 53 (.agg tabR) (.int .i64 (j : Int))).run Tryz.prog W = .ok (gv g) W
 fe : ∀ args (W : World),(callFunc f args).run Tryz.prog W = .ok (.enter f args) W
 ge : ∀ args (W : World),(callFunc g args).run Tryz.prog W = .ok (.enter g args) W
 fc : Gv G f args (tup s t k)
 gc : Gv G g args (tup s t k)
abbrev Alike2 (G : World → Prop) (f g : FuncId) : Prop := ∀ a1 a2 b1 b2 : List UInt8,(a1.length ≤ 1000000 ∧ a2.length ≤ 1000000) → (b1.length ≤ 1000000 ∧ b2.length ≤ 1000000) → ∃ (s t : ByteArray) (k : Int),Gv G f #[fr ⟨a1.toArray⟩ ⟨a2.toArray⟩,fr ⟨b1.toArray⟩ ⟨b2.toArray⟩] (tup s t k) ∧ Gv G g #[fr ⟨a1.toArray⟩ ⟨a2.toArray⟩,fr ⟨b1.toArray⟩ ⟨b2.toArray⟩] (tup s t k)
abbrev Alike1 (G : World → Prop) (f g : FuncId) : Prop := ∀ a1 a2 : List UInt8,(a1.length ≤ 1000000 ∧ a2.length ≤ 1000000) → ∃ (s t : ByteArray) (k : Int),Gv G f #[fr ⟨a1.toArray⟩ ⟨a2.toArray⟩] (tup s t k) ∧ Gv G g #[fr ⟨a1.toArray⟩ ⟨a2.toArray⟩] (tup s t k)
structure Same (G : World → Prop) : Prop where
 add : Alike2 G 26 30
 sub : Alike2 G 27 31
 mul : Alike2 G 28 32
 div : Alike2 G 29 33
 neg : Alike1 G 34 35
 abs : Alike1 G 36 37
theorem pairF_at {G : World → Prop} (hs : Same G) (a1 a2 b1 b2 : List UInt8) (la : a1.length ≤ 1000000 ∧ a2.length ≤ 1000000) (lb : b1.length ≤ 1000000 ∧ b2.length ≤ 1000000) (j : Nat) (hj : j < 4) : ∃ f g s t k,Pair G #[fr ⟨a1.toArray⟩ ⟨a2.toArray⟩,fr ⟨b1.toArray⟩ ⟨b2.toArray⟩] j f g s t k := by
 rcases (show j = 0 ∨ j = 1 ∨ j = 2 ∨ j = 3 by omega) with rfl | rfl | rfl | rfl
 · obtain ⟨s,t,k,h1,h2⟩ := hs.add a1 a2 b1 b2 la lb
   exact ⟨_,_,s,t,k,fun W => wtP_0 W,fun W => wtR_0 W,enters_of Tryz.func26 (by kernel_rfl) rfl,enters_of Tryz.func30 (by kernel_rfl) rfl,h1,h2⟩
 · obtain ⟨s,t,k,h1,h2⟩ := hs.sub a1 a2 b1 b2 la lb
   exact ⟨_,_,s,t,k,fun W => wtP_1 W,fun W => wtR_1 W,enters_of Tryz.func27 (by kernel_rfl) rfl,enters_of Tryz.func31 (by kernel_rfl) rfl,h1,h2⟩
 · obtain ⟨s,t,k,h1,h2⟩ := hs.mul a1 a2 b1 b2 la lb
   exact ⟨_,_,s,t,k,fun W => wtP_2 W,fun W => wtR_2 W,enters_of Tryz.func28 (by kernel_rfl) rfl,enters_of Tryz.func32 (by kernel_rfl) rfl,h1,h2⟩
 · obtain ⟨s,t,k,h1,h2⟩ := hs.div a1 a2 b1 b2 la lb
   exact ⟨_,_,s,t,k,fun W => wtP_3 W,fun W => wtR_3 W,enters_of Tryz.func29 (by kernel_rfl) rfl,enters_of Tryz.func33 (by kernel_rfl) rfl,h1,h2⟩
def sixteen (l : List (List UInt8)) : Array Value := (l.map fun s => Value.string ⟨s.toArray⟩).toArray
theorem sixteen_at {W : World} {g : Nat} {l : List (List UInt8)} (hl : l.length = 16) (hs : ∀ s ∈ l,s.length ≤ 1000000) (hf : W.heap[g]? = some (.cells (sixteen l) 42 (0,0))) (i : Nat) (hi : i < 4) :
 ∃ a1 a2 b1 b2 : List UInt8,(a1.length ≤ 1000000 ∧ a2.length ≤ 1000000) ∧ (b1.length ≤ 1000000 ∧ b2.length ≤ 1000000) ∧ W.cell? ⟨g,i * 4,none⟩ = some (.string ⟨a1.toArray⟩) ∧ W.cell? ⟨g,i * 4 + 1,none⟩ = some (.string ⟨a2.toArray⟩) ∧ W.cell? ⟨g,i * 4 + 2,none⟩ = some (.string ⟨b1.toArray⟩) ∧ W.cell? ⟨g,i * 4 + 3,none⟩ = some (.string ⟨b2.toArray⟩) := by
 have hc : ∀ o (ho : o < l.length),W.cell? ⟨g,o,none⟩ = some (.string ⟨l[o].toArray⟩) := fun o ho => by
  rw [cell_of_row W g o _ _ (0,0) hf]
  simp [sixteen,ho]
 have hm : ∀ o (ho : o < l.length),l[o].length ≤ 1000000 := fun o ho => hs _ (List.getElem_mem ho)
 exact ⟨l[i * 4],l[i * 4 + 1],l[i * 4 + 2],l[i * 4 + 3],⟨hm _ _,hm _ _⟩,⟨hm _ _,hm _ _⟩,hc _ (by omega),hc _ (by omega),hc _ (by omega),hc _ (by omega)⟩
abbrev TwoVF (p1 p2 q1 q2 : List UInt8) (b1 : Bool) (A1 : Option Addr) (n1 c1 z1 : Nat) (b2 : Bool) (A2 : Option Addr) (n2 c2 z2 : Nat) (b3 : Bool) (A3 : Option Addr) (n3 c3 z3 : Nat) (b4 : Bool) (A4 : Option Addr) (n4 c4 z4 : Nat) : Array Value := #[.string ⟨p1.toArray⟩,.string ⟨p2.toArray⟩,.string ⟨q1.toArray⟩,.string ⟨q2.toArray⟩,.bool b1,.slice A1 n1 c1,.int .u16 (z1 : Int),.bool b2,.slice A2 n2 c2,.int .u16 (z2 : Int),.bool b3,.slice A3 n3 c3,.int .u16 (z3 : Int),.bool b4,.slice A4 n4 c4,.int .u16 (z4 : Int)]
abbrev KS (G : World → Prop) (w : World) (g h : Nat) (l : List (List UInt8)) (a1 a2 b1 b2 : List UInt8) (W : World) : Prop :=
 Below w.heap.size w W ∧ G W ∧ W.heap[g]? = some (.cells (sixteen l) 42 (0,0)) ∧ W.cell? ⟨h,0,none⟩ = some (.string ⟨a1.toArray⟩) ∧ W.cell? ⟨h,1,none⟩ = some (.string ⟨a2.toArray⟩) ∧ W.cell? ⟨h,2,none⟩ = some (.string ⟨b1.toArray⟩) ∧ W.cell? ⟨h,3,none⟩ = some (.string ⟨b2.toArray⟩)
theorem keep {W W' : World} {p : Addr} {v : Value} (hb : Below W.heap.size W W') (h : W.cell? p = some v) : W'.cell? p = some v := (hb.cell (World.block_lt_of_cell? W _ h)).trans h
theorem KS.step {G : World → Prop} (hG : ∀ W W',G W → Below W.heap.size W W' → G W') {w W W' : World} {g h : Nat} {l : List (List UInt8)} {a1 a2 b1 b2 : List UInt8} (k : KS G w g h l a1 a2 b1 b2 W) (hb : Below W.heap.size W W') : KS G w g h l a1 a2 b1 b2 W' :=
 ⟨below_more k.1 hb,hG _ _ k.2.1 hb,(hb.block g (Array.getElem?_eq_some_iff.1 k.2.2.1).1).trans k.2.2.1,keep hb k.2.2.2.1,keep hb k.2.2.2.2.1,keep hb k.2.2.2.2.2.1,keep hb k.2.2.2.2.2.2⟩
theorem olds {W W1 : World} (hb : Below W.heap.size W W1) : (∀ b o,b < W.heap.size → W1.cell? ⟨b,o,none⟩ = W.cell? ⟨b,o,none⟩) ∧ (∀ b o,b < W.heap.size → W1.frozen? ⟨b,o,none⟩ = W.frozen? ⟨b,o,none⟩) :=
 ⟨fun b o h => hb.cell (p := ⟨b,o,none⟩) h,fun b o h => hb.frozen (p := ⟨b,o,none⟩) h⟩
abbrev KQ (G : World → Prop) (w : World) (g h x : Nat) (l : List (List UInt8)) (a1 a2 b1 b2 : List UInt8) (s t : ByteArray) (W : World) : Prop :=
 KS G w g h l a1 a2 b1 b2 W ∧ W.cell? ⟨x,0,none⟩ = some (.string s) ∧ W.cell? ⟨x,1,none⟩ = some (.string t)
set_option maxRecDepth 100000 in
set_option maxHeartbeats 8000000 in
theorem walk (G : World → Prop) (hG : ∀ W W',G W → Below W.heap.size W W' → G W') (hs : Same G) (p1 p2 q1 q2 : List UInt8) (b1 : Bool) (A1 : Option Addr) (n1 c1 z1 : Nat) (b2 : Bool) (A2 : Option Addr) (n2 c2 z2 : Nat) (b3 : Bool) (A3 : Option Addr) (n3 c3 z3 : Nat) (b4 : Bool) (A4 : Option Addr) (n4 c4 z4 : Nat) (w : World) (hg : G w)
 (hwk : ∀ W,G W → Calls Tryz.prog 7 #[] W fun e w' => e = .returned (.bool true) ∧ Below W.heap.size W w')
 (hpr : ∀ W,G W → Below w.heap.size w W → Calls Tryz.prog 10 #[.agg (TwoVF p1 p2 q1 q2 b1 A1 n1 c1 z1 b2 A2 n2 c2 z2 b3 A3 n3 c3 z3 b4 A4 n4 c4 z4)] W fun e w' => ∃ (g : Nat) (l : List (List UInt8)),e = .returned (.slice (some ⟨g,0,none⟩) 4 4) ∧ l.length = 16 ∧ (∀ s ∈ l,s.length ≤ 1000000) ∧ w'.heap[g]? = some (.cells (sixteen l) 42 (0,0)) ∧ Below W.heap.size W w') :
 Calls Tryz.prog 5 #[.agg (TwoVF p1 p2 q1 q2 b1 A1 n1 c1 z1 b2 A2 n2 c2 z2 b3 A3 n3 c3 z3 b4 A4 n4 c4 z4)] w fun e w' => e = .returned (.bool true) ∧ Below w.heap.size w w' := by
 have hb0 : Below w.heap.size w (w.alloc (.cells (TwoVF p1 p2 q1 q2 b1 A1 n1 c1 z1 b2 A2 n2 c2 z2 b3 A3 n3 c3 z3 b4 A4 n4 c4 z4) 32)) := (Below.refl _ _).alloc (Nat.le_refl _) _
 have hc0 : ∀ o : Nat,(w.alloc (.cells (TwoVF p1 p2 q1 q2 b1 A1 n1 c1 z1 b2 A2 n2 c2 z2 b3 A3 n3 c3 z3 b4 A4 n4 c4 z4) 32)).cell? ⟨w.heap.size,o,none⟩ = (TwoVF p1 p2 q1 q2 b1 A1 n1 c1 z1 b2 A2 n2 c2 z2 b3 A3 n3 c3 z3 b4 A4 n4 c4 z4)[o]? := fun o => cell_of_row _ w.heap.size o _ _ (0,0) (heap_alloc_new w _)
 have hw0 := hwk _ (hG _ _ hg hb0)
 have H := Lib.hid (And.intro hb0 (And.intro hc0 (And.intro hpr (And.intro hs hg))))
 have HG := Lib.hid hG
 clear hb0 hc0 hpr hs hg hwk hG
 go_enter Tryz.func5,Tryz.ntmps5
 go_wp2_with fail
 refine hw0.mono ?_
 rintro e w1 ⟨rfl,hb1⟩
 clear hw0
 have hbw := below_more H.out.1 hb1
 have hg1 : G w1 := HG.out _ _ H.out.2.2.2.2 hbw
 have f0 : w1.cell? ⟨w.heap.size,0,none⟩ = _ := keep hb1 (H.out.2.1 0)
 have f1 : w1.cell? ⟨w.heap.size,1,none⟩ = _ := keep hb1 (H.out.2.1 1)
 have f2 : w1.cell? ⟨w.heap.size,2,none⟩ = _ := keep hb1 (H.out.2.1 2)
 have f3 : w1.cell? ⟨w.heap.size,3,none⟩ = _ := keep hb1 (H.out.2.1 3)
 have f4 : w1.cell? ⟨w.heap.size,4,none⟩ = _ := keep hb1 (H.out.2.1 4)
 have f5 : w1.cell? ⟨w.heap.size,5,none⟩ = _ := keep hb1 (H.out.2.1 5)
 have f6 : w1.cell? ⟨w.heap.size,6,none⟩ = _ := keep hb1 (H.out.2.1 6)
 have f7 : w1.cell? ⟨w.heap.size,7,none⟩ = _ := keep hb1 (H.out.2.1 7)
 have f8 : w1.cell? ⟨w.heap.size,8,none⟩ = _ := keep hb1 (H.out.2.1 8)
 have f9 : w1.cell? ⟨w.heap.size,9,none⟩ = _ := keep hb1 (H.out.2.1 9)
 have f10 : w1.cell? ⟨w.heap.size,10,none⟩ = _ := keep hb1 (H.out.2.1 10)
 have f11 : w1.cell? ⟨w.heap.size,11,none⟩ = _ := keep hb1 (H.out.2.1 11)
 have f12 : w1.cell? ⟨w.heap.size,12,none⟩ = _ := keep hb1 (H.out.2.1 12)
 have f13 : w1.cell? ⟨w.heap.size,13,none⟩ = _ := keep hb1 (H.out.2.1 13)
 have f14 : w1.cell? ⟨w.heap.size,14,none⟩ = _ := keep hb1 (H.out.2.1 14)
 have f15 : w1.cell? ⟨w.heap.size,15,none⟩ = _ := keep hb1 (H.out.2.1 15)
 have hp1 := H.out.2.2.1 _ hg1 hbw
 have HB := Lib.hid (And.intro hbw hg1)
 clear hb1 hbw hg1
 go_wp2_with fail
 refine hp1.mono ?_
 rintro e w2 ⟨g,l,rfl,hll,hls,hF,hb2⟩
 have HP := Lib.hid (And.intro hll (And.intro hls (And.intro (below_more HB.out.1 hb2) (And.intro (HG.out _ _ HB.out.2 hb2) hF))))
 clear hp1 hll hls hF hb2 HB f0 f1 f2 f3 f4 f5 f6 f7 f8 f9 f10 f11 f12 f13 f14 f15
 go_wp2_with fail
 go_loopg [24] 4 (fun r iv W => ∃ i : Nat,r = 4 - i ∧ iv = .int .i64 (i : Int) ∧ i ≤ 4 ∧ Below w.heap.size w W ∧ G W ∧ W.heap[g]? = some (.cells (sixteen l) 42 (0,0)))
 case atStart => exact ⟨0,rfl,rfl,by omega,HP.out.2.2.1,HP.out.2.2.2.1,HP.out.2.2.2.2⟩
 case round =>
  obtain ⟨i,rfl,rfl,hi,hb,hgw,hF⟩ := hrel
  rename World => V
  by_cases ha : i < 4
  · have i1 : (i : Int) < 4 := by omega
    have i2 : (0 : Int) ≤ (i : Int) := by omega
    obtain ⟨a1,a2,b1,b2,la,lb,g0,g1,g2,g3⟩ := sixteen_at HP.out.1 HP.out.2.1 hF i ha
    have hK : KS G w g V.heap.size l a1 a2 b1 b2 (V.alloc (.cells #[.string ⟨a1.toArray⟩,.string ⟨a2.toArray⟩,.string ⟨b1.toArray⟩,.string ⟨b2.toArray⟩] 42)) := by
     have hba : Below V.heap.size V (V.alloc (.cells #[.string ⟨a1.toArray⟩,.string ⟨a2.toArray⟩,.string ⟨b1.toArray⟩,.string ⟨b2.toArray⟩] 42)) := (Below.refl _ _).alloc (Nat.le_refl _) _
     refine ⟨below_more hb hba,HG.out _ _ hgw hba,(hba.block g (Array.getElem?_eq_some_iff.1 hF).1).trans hF,?_,?_,?_,?_⟩ <;> simp [go_sem]
    have HK := Lib.hid hK
    have HI := Lib.hid (And.intro ha (And.intro hi (And.intro la lb)))
    clear hK ha hi la lb hb hgw hF
    go_wp2_with fail
    go_loopg [29] 4 (fun r jv W => ∃ j : Nat,r = 4 - j ∧ jv = .int .i64 (j : Int) ∧ j ≤ 4 ∧ KS G w g V.heap.size l a1 a2 b1 b2 W)
    case atStart => exact ⟨0,rfl,rfl,by omega,HK.out⟩
    case round =>
     obtain ⟨j,rfl,rfl,hj,hK⟩ := hrel
     by_cases hb : j < 4
     · have j1 : (j : Int) < 4 := by omega
       obtain ⟨f,q,s,t,k,hp⟩ := pairF_at H.out.2.2.2.1 a1 a2 b1 b2 HI.out.2.2.1 HI.out.2.2.2 j hb
       have fp := hp.fp
       have gp := hp.gp
       have fe := hp.fe
       have ge := hp.ge
       have c0 := hK.2.2.2.1
       have c1 := hK.2.2.2.2.1
       have c2 := hK.2.2.2.2.2.1
       have c3 := hK.2.2.2.2.2.2
       have HP2 := Lib.hid (And.intro hp.fc (And.intro hp.gc (And.intro hb (And.intro hj hK))))
       clear hp hb hj hK
       go_wp2_with fail
       refine (HP2.out.1 _ HP2.out.2.2.2.2.2.1).mono ?_
       rintro e w3 ⟨rfl,hb3⟩
       have hK3 := HP2.out.2.2.2.2.step HG.out hb3
       obtain ⟨V3,hV3⟩ : ∃ V3,V3 = w3.alloc (.cells #[.string s,.string t] 24) := ⟨_,rfl⟩
       have hba : Below w3.heap.size w3 V3 := by rw [hV3];exact (Below.refl _ _).alloc (Nat.le_refl _) _
       have hq0 : V3.cell? ⟨w3.heap.size,0,none⟩ = some (.string s) := by rw [hV3];simp [go_sem]
       have hq1 : V3.cell? ⟨w3.heap.size,1,none⟩ = some (.string t) := by rw [hV3];simp [go_sem]
       have hk4 := hK3.step HG.out hba
       have hKB : ∀ W,Below V3.heap.size V3 W → Below V3.heap.size V3 W ∧ KQ G w g V.heap.size w3.heap.size l a1 a2 b1 b2 s t W := fun W hb => ⟨hb,hk4.step HG.out hb,keep hb hq0,keep hb hq1⟩
       have hlt : w3.heap.size < V3.heap.size := by rw [hV3];simp
       have hlt2 : V.heap.size < w3.heap.size := World.block_lt_of_cell? w3 _ hK3.2.2.2.1
       (try simp only at hlt2)
       have K : Hid (∀ W,Below V3.heap.size V3 W ∧ KQ G w g V.heap.size w3.heap.size l a1 a2 b1 b2 s t W → Calls Tryz.prog q #[fr ⟨a1.toArray⟩ ⟨a2.toArray⟩,fr ⟨b1.toArray⟩ ⟨b2.toArray⟩] W fun e w' => e = .returned (tup s t k) ∧ Below W.heap.size W w' ∧ (Below V3.heap.size V3 w' ∧ KQ G w g V.heap.size w3.heap.size l a1 a2 b1 b2 s t w')) := Lib.hid fun W hS =>
        (HP2.out.2.1 W hS.2.1.2.1).mono fun e w' ⟨he,hb⟩ => ⟨he,hb,hKB _ (below_more hS.1 hb)⟩
       have HKB := Lib.hid hKB
       clear hb3 hK3 hba c0 c1 c2 c3 hk4 hKB hq0 hq1
       go_upto_region 10 with fail
       rw [← hV3]
       clear hV3
       go_region_held3 (fun W => Below V3.heap.size V3 W ∧ KQ G w g V.heap.size w3.heap.size l a1 a2 b1 b2 s t W) (first | with_reducible assumption | (refine HKB.out _ ?_;(repeat (first | with_reducible assumption | with_reducible exact Below.refl _ _ | with_reducible refine Below.drew ?_ | with_reducible refine Below.alloc ?_ (by first | omega | (simp;done) | (simp;omega)) _ | with_reducible refine Below.setCell ?_ (by first | (simp;done) | (simp;omega) | omega) _))))
        (first
         | (go_at_fn q;with_reducible refine (K.out _ ?_).mono ?_;with_reducible assumption;rintro e w4 ⟨rfl,hb4,hS4⟩;have hB4 := hS4.1;have hs4 := hB4.size;have hz4 := hb4.size;(try simp at hz4);obtain ⟨o4,z4⟩ := olds hb4))
       all_goals
        go_wp2_with fail
        go_roundg (4 - (j + 1))
        case measure => have := HP2.out.2.2.1;omega
        case rel =>
         refine ⟨j + 1,rfl,by go_num,by have := HP2.out.2.2.1;omega,(HKB.out _ ?_).2.1⟩
         (repeat (first | with_reducible assumption | with_reducible exact Below.refl _ _ | with_reducible refine Below.drew ?_ | with_reducible refine Below.alloc ?_ (by first | omega | (simp;done) | (simp;omega)) _ | with_reducible refine Below.setCell ?_ (by first | (simp;done) | (simp;omega) | omega) _))
     · obtain rfl : j = 4 := by omega
       obtain ⟨s1,t1,k1,e1,e2⟩ := H.out.2.2.2.1.neg a1 a2 HI.out.2.2.1
       obtain ⟨s2,t2,k2,e3,e4⟩ := H.out.2.2.2.1.abs a1 a2 HI.out.2.2.1
       have E1 := Lib.hid e1
       have E2 := Lib.hid e2
       have E3 := Lib.hid e3
       have E4 := Lib.hid e4
       have c0 := hK.2.2.2.1
       have c1 := hK.2.2.2.2.1
       have HK0 := Lib.hid hK
       clear hj hb hK e1 e2 e3 e4
       go_wp2_with fail
       refine (E1.out _ HK0.out.2.1).mono ?_
       rintro e v0 ⟨rfl,hb0⟩
       have hk0 := HK0.out.step HG.out hb0
       have HK1 := Lib.hid (hk0.step HG.out ((Below.refl v0.heap.size v0).alloc (Nat.le_refl _) (.cells #[.string s1,.string t1] 24)))
       have c0 := hk0.2.2.2.1
       have c1 := hk0.2.2.2.2.1
       have p0 := World.block_lt_of_cell? v0 _ c0
       (try simp only at p0)
       clear hb0 hk0
       go_wp2_with fail
       refine (E2.out _ HK1.out.2.1).mono ?_
       rintro e v1 ⟨rfl,hb1⟩
       have y00 : v1.cell? ⟨v0.heap.size,0,none⟩ = some (.string s1) := keep hb1 (by simp [go_sem])
       have y01 : v1.cell? ⟨v0.heap.size,1,none⟩ = some (.string t1) := keep hb1 (by simp [go_sem])
       have hk1 := HK1.out.step HG.out hb1
       have HK2 := Lib.hid (hk1.step HG.out ((Below.refl v1.heap.size v1).alloc (Nat.le_refl _) (.cells #[.string s1,.string t1] 24)))
       have c0 := hk1.2.2.2.1
       have c1 := hk1.2.2.2.2.1
       have p0 := World.block_lt_of_cell? v1 _ c0
       (try simp only at p0)
       have q0 := World.block_lt_of_cell? v1 _ y00
       (try simp only at q0)
       clear hb1 hk1
       go_wp2_with fail
       refine (E3.out _ HK2.out.2.1).mono ?_
       rintro e v2 ⟨rfl,hb2⟩
       have y00 : v2.cell? ⟨v0.heap.size,0,none⟩ = some (.string s1) := keep (below_more ((Below.refl _ _).alloc (Nat.le_refl _) _) hb2) y00
       have y01 : v2.cell? ⟨v0.heap.size,1,none⟩ = some (.string t1) := keep (below_more ((Below.refl _ _).alloc (Nat.le_refl _) _) hb2) y01
       have y10 : v2.cell? ⟨v1.heap.size,0,none⟩ = some (.string s1) := keep hb2 (by simp [go_sem])
       have y11 : v2.cell? ⟨v1.heap.size,1,none⟩ = some (.string t1) := keep hb2 (by simp [go_sem])
       have hk2 := HK2.out.step HG.out hb2
       have HK3 := Lib.hid (hk2.step HG.out ((Below.refl v2.heap.size v2).alloc (Nat.le_refl _) (.cells #[.string s2,.string t2] 24)))
       have c0 := hk2.2.2.2.1
       have c1 := hk2.2.2.2.2.1
       have p0 := World.block_lt_of_cell? v2 _ c0
       (try simp only at p0)
       have q0 := World.block_lt_of_cell? v2 _ y00
       (try simp only at q0)
       have q1 := World.block_lt_of_cell? v2 _ y10
       (try simp only at q1)
       clear hb2 hk2
       go_wp2_with fail
       refine (E4.out _ HK3.out.2.1).mono ?_
       rintro e v3 ⟨rfl,hb3⟩
       have y00 : v3.cell? ⟨v0.heap.size,0,none⟩ = some (.string s1) := keep (below_more ((Below.refl _ _).alloc (Nat.le_refl _) _) hb3) y00
       have y01 : v3.cell? ⟨v0.heap.size,1,none⟩ = some (.string t1) := keep (below_more ((Below.refl _ _).alloc (Nat.le_refl _) _) hb3) y01
       have y10 : v3.cell? ⟨v1.heap.size,0,none⟩ = some (.string s1) := keep (below_more ((Below.refl _ _).alloc (Nat.le_refl _) _) hb3) y10
       have y11 : v3.cell? ⟨v1.heap.size,1,none⟩ = some (.string t1) := keep (below_more ((Below.refl _ _).alloc (Nat.le_refl _) _) hb3) y11
       have y20 : v3.cell? ⟨v2.heap.size,0,none⟩ = some (.string s2) := keep hb3 (by simp [go_sem])
       have y21 : v3.cell? ⟨v2.heap.size,1,none⟩ = some (.string t2) := keep hb3 (by simp [go_sem])
       have hk3 := HK3.out.step HG.out hb3
       have HK4 := Lib.hid (hk3.step HG.out ((Below.refl v3.heap.size v3).alloc (Nat.le_refl _) (.cells #[.string s2,.string t2] 24)))
       have c0 := hk3.2.2.2.1
       have c1 := hk3.2.2.2.2.1
       have p0 := World.block_lt_of_cell? v3 _ c0
       (try simp only at p0)
       have q0 := World.block_lt_of_cell? v3 _ y00
       (try simp only at q0)
       have q1 := World.block_lt_of_cell? v3 _ y10
       (try simp only at q1)
       have q2 := World.block_lt_of_cell? v3 _ y20
       (try simp only at q2)
       clear hb3 hk3
       go_wp2_with fail
       go_roundg (4 - (i + 1))
       case measure => have := HI.out.1;omega
       case rel => exact ⟨i + 1,rfl,by go_num,by have := HI.out.1;omega,HK4.out.1,HK4.out.2.1,HK4.out.2.2.1⟩
  · obtain rfl : i = 4 := by omega
    go_wp2_with fail
    go_ret
    exact ⟨rfl,hb⟩
end Go.Proofs.YtlfgpmnjnpdkdaaGreatDoor.sums
