/- Contracts: package whole: reading and writing. Contracts: package whole: two numbers read, one written. -/
import Derived.Test.YtlfgpmnjnpdkdaaGreatDoorSgnA
import Derived.RegionTactic
import Derived.ChangeAlike
import Derived.Laws.EntriesVeiled
import Derived.Deep.RegionHeld3
import Derived.Deep.DrawnRows
namespace Go.Proofs.YtlfgpmnjnpdkdaaGreatDoor
open Go.RowKit Vd
theorem readP_some {l : List UInt8} {ok : Bool} {z z' : Int} (h : rd l = some z) (hp : ReadP 600 l ok z') : ok = true ∧ z' = z := by
 rcases hp with ⟨h1,h2⟩ | ⟨h1,h2,_⟩
 · rw [rdMost_maxDigits,h] at h2
   injection h2 with h2
   exact ⟨h1,h2.symm⟩
 · rw [rdMost_maxDigits,h] at h2;cases h2
theorem readP_none {l : List UInt8} {ok : Bool} {z' : Int} (h : rd l = none) (hp : ReadP 600 l ok z') : ok = false ∧ z' = 0 := by
 rcases hp with ⟨h1,h2⟩ | ⟨h1,h2,h3⟩
 · rw [rdMost_maxDigits,h] at h2;cases h2
 · exact ⟨h1,h3⟩
theorem read600_some (l : List UInt8) (z : Int) (w : World) (h : rd l = some z) :
 Calls Tryz.prog 111 #[.string ⟨l.toArray⟩,.int .i64 600] w fun e w' => ∃ (A : Option Addr) (n c : Nat) (k : Bool),e = .returned (.tuple #[.agg #[.slice A n c,.bool k],.bool true]) ∧ SgV w' (.agg #[.slice A n c,.bool k]) z ∧ Below w.heap.size w w' := by
 refine (read_any l 600 w (by omega)).mono ?_
 rintro e w' ⟨x,ok,z',he,hv,hp,hb⟩
 obtain ⟨rfl,rfl⟩ := readP_some h hp
 obtain ⟨A,n,c,k,rfl⟩ := hv.open
 exact ⟨A,n,c,k,he,hv,hb⟩
theorem read600_none (l : List UInt8) (w : World) (h : rd l = none) :
 Calls Tryz.prog 111 #[.string ⟨l.toArray⟩,.int .i64 600] w fun e w' => ∃ (A : Option Addr) (n c : Nat) (k : Bool),e = .returned (.tuple #[.agg #[.slice A n c,.bool k],.bool false]) ∧ Below w.heap.size w w' := by
 refine (read_any l 600 w (by omega)).mono ?_
 rintro e w' ⟨x,ok,z',he,hv,hp,hb⟩
 obtain ⟨rfl,rfl⟩ := readP_none h hp
 obtain ⟨A,n,c,k,rfl⟩ := hv.open
 exact ⟨A,n,c,k,he,hb⟩
set_option maxRecDepth 100000 in
set_option maxHeartbeats 1000000 in
theorem wread_some (l : List UInt8) (z : Int) (w : World) (h : rd l = some z) :
 Calls Tryz.prog 155 #[.string ⟨l.toArray⟩] w fun e w' => ∃ (A : Option Addr) (n c : Nat) (k : Bool),e = .returned (.tuple #[.agg #[.slice A n c,.bool k],.int .i64 0]) ∧ SgV w' (.agg #[.slice A n c,.bool k]) z ∧ Below w.heap.size w w' := by
 have hr := fun W => read600_some l z W h
 have hbx := BoxS.alloc w none 0 0 false
 have hbW : Below w.heap.size w (w.alloc (.cells #[.slice none 0 0,.bool false] 80)) := (Below.refl _ _).alloc (Nat.le_refl _) _
 clear h
 go_enter Tryz.func155,Tryz.ntmps155
 go_wp2_with fail
 refine (hr _).mono ?_
 rintro e w1 ⟨A,n,c,k,rfl,hv,hb⟩
 have hbx1 := hbx.below hb (by simp)
 obtain ⟨⟨q0,hc0⟩,⟨q1,hc1⟩,hf0,hf1⟩ := hbx1.facts
 have hlt := hbx1.lt
 have HB := Lib.hid (hbW.trans (hb.mono hbW.size))
 clear hb hr
 go_wp2_with fail
 exact bodyPost_ret (v := .tuple #[.agg #[.slice A n c,.bool k],.int .i64 0]) (by simp [results,Tryz.results155,go_sem,hc0,hc1,hlt,World.cell?_alloc_lt]) rfl ⟨A,n,c,k,rfl,(hv.sets hbx1 _ _).below ((Below.refl _ _).alloc (Nat.le_refl _) _),((HB.out.setCell (Nat.le_refl _) _).setCell (Nat.le_refl _) _).alloc (by simpa using HB.out.size) _⟩
end Go.Proofs.YtlfgpmnjnpdkdaaGreatDoor
namespace Go.Proofs.YtlfgpmnjnpdkdaaGreatDoor
open Go.RowKit Vd
theorem small_iff (z : Int) : small z ↔ dlen z.natAbs ≤ 600 := by
 unfold small
 rw [← maxDigits_eq,dlen_le_iff _ _ (by decide)]
def outV (z : Int) : Value := if small z then .tuple #[.string ⟨(wr z).toArray⟩,.int .i64 0] else .tuple #[.string ⟨#[]⟩,.int .i64 6]
structure TwoS (w W : World) : Prop where
 b1 : BoxS W w.heap.size
 b2 : BoxS W (w.heap.size + 1)
 bel : Below w.heap.size w W
theorem TwoS.step {w W w1 : World} (h : TwoS w W) (hb : Below W.heap.size W w1) : TwoS w w1 :=
 ⟨h.b1.below hb h.b1.lt,h.b2.below hb h.b2.lt,h.bel.trans (hb.mono h.bel.size)⟩
theorem TwoS.start (w : World) : TwoS w ((w.alloc (.cells #[.slice none 0 0,.bool false] 80)).alloc (.cells #[.slice none 0 0,.bool false] 80)) := by
 have hb := BoxS.alloc w none 0 0 false
 have hb2 := BoxS.alloc (w.alloc (.cells #[.slice none 0 0,.bool false] 80)) none 0 0 false
 rw [World.size_alloc] at hb2
 exact ⟨hb.below (B := w.heap.size + 1) ((Below.refl _ _).alloc (by simp) _) (by omega),hb2,((Below.refl _ _).alloc (Nat.le_refl _) _).alloc (by simp) _⟩
theorem TwoS.set1 {w W : World} (h : TwoS w W) (A : Option Addr) (n c : Nat) (k : Bool) : TwoS w ((W.setCell ⟨w.heap.size,0,none⟩ (.slice A n c)).setCell ⟨w.heap.size,1,none⟩ (.bool k)) :=
 ⟨h.b1.set A n c k,(h.b2.far (by simp) _).far (by simp) _,(h.bel.setCell (Nat.le_refl _) _).setCell (Nat.le_refl _) _⟩
theorem TwoS.set2 {w W : World} (h : TwoS w W) (A : Option Addr) (n c : Nat) (k : Bool) : TwoS w ((W.setCell ⟨w.heap.size + 1,0,none⟩ (.slice A n c)).setCell ⟨w.heap.size + 1,1,none⟩ (.bool k)) :=
 ⟨(h.b1.far (by simp) _).far (by simp) _,h.b2.set A n c k,(h.bel.setCell (by simp) _).setCell (by simp) _⟩
theorem BoxS.read {W : World} {b : Nat} (h : BoxS W b) (A : Option Addr) (n c : Nat) (k : Bool) :
 ((W.setCell ⟨b,0,none⟩ (.slice A n c)).setCell ⟨b,1,none⟩ (.bool k)).cell? ⟨b,0,none⟩ = some (.slice A n c) ∧ ((W.setCell ⟨b,0,none⟩ (.slice A n c)).setCell ⟨b,1,none⟩ (.bool k)).cell? ⟨b,1,none⟩ = some (.bool k) := by
 obtain ⟨A',n',c',k',h⟩ := h
 constructor <;> simp [World.setCell,World.cell?,Array.getElem?_modify,h]
theorem TwoS.fin {w W : World} (h : TwoS w W) (A1 : Option Addr) (n1 c1 : Nat) (k1 : Bool) (A2 : Option Addr) (n2 c2 : Nat) (k2 : Bool) :
 ∃ F,F = ((((W.setCell ⟨w.heap.size,0,none⟩ (.slice A1 n1 c1)).setCell ⟨w.heap.size,1,none⟩ (.bool k1)).setCell ⟨w.heap.size + 1,0,none⟩ (.slice A2 n2 c2)).setCell ⟨w.heap.size + 1,1,none⟩ (.bool k2)) ∧
   F.cell? ⟨w.heap.size,0,none⟩ = some (.slice A1 n1 c1) ∧ F.cell? ⟨w.heap.size,1,none⟩ = some (.bool k1) ∧ F.cell? ⟨w.heap.size + 1,0,none⟩ = some (.slice A2 n2 c2) ∧ F.cell? ⟨w.heap.size + 1,1,none⟩ = some (.bool k2) ∧ Below w.heap.size w F := by
 have hS4 := h.set1 A1 n1 c1 k1
 have hS5 := hS4.set2 A2 n2 c2 k2
 obtain ⟨r2,r3⟩ := hS4.b2.read A2 n2 c2 k2
 obtain ⟨r0,r1⟩ := h.b1.read A1 n1 c1 k1
 refine ⟨_,rfl,?_,?_,r2,r3,hS5.bel⟩
 · rw [World.cell?_setCell_other _ _ _ _ (by intro e;injection e with e;omega),World.cell?_setCell_other _ _ _ _ (by intro e;injection e with e;omega)];exact r0
 · rw [World.cell?_setCell_other _ _ _ _ (by intro e;injection e with e;omega),World.cell?_setCell_other _ _ _ _ (by intro e;injection e with e;omega)];exact r1
end Go.Proofs.YtlfgpmnjnpdkdaaGreatDoor
namespace Go.Proofs.YtlfgpmnjnpdkdaaGreatDoor
open Go.RowKit Vd
attribute [local go_sem ↓] Go.wp_at_zero Go.wp_at_succ
theorem outV_open (z : Int) : ∃ (s : ByteArray) (c : Int),outV z = .tuple #[.string s,.int .i64 c] := by
 unfold outV;split <;> exact ⟨_,_,rfl⟩
end Go.Proofs.YtlfgpmnjnpdkdaaGreatDoor
namespace Go.Proofs.YtlfgpmnjnpdkdaaGreatDoor
open Go.RowKit Vd
theorem pow600 : 10 ^ maxDigits ≤ B64 ^ 32 := by decide +kernel
theorem small_wlen {z : Int} (h : small z) : wlen B64 z.natAbs ≤ 32 := by
 rw [wlen_le_iff two_le_B]
 exact Nat.lt_of_lt_of_le h pow600
theorem rd_wlen {l : List UInt8} {z : Int} (h : rd l = some z) : wlen B64 z.natAbs ≤ 32 := small_wlen (rd_some h).2
theorem wlen_addZ (x y : Int) : wlen B64 (x + y).natAbs ≤ max (wlen B64 x.natAbs) (wlen B64 y.natAbs) + 1 := by
 refine Nat.le_trans (wlen_mono (b := B64) two_le_B (Int.natAbs_add_le x y)) (wlen_add two_le_B _ _)
end Go.Proofs.YtlfgpmnjnpdkdaaGreatDoor
namespace Go.Proofs.YtlfgpmnjnpdkdaaGreatDoor
open Go.RowKit Vd
set_option maxRecDepth 100000 in
set_option maxHeartbeats 1000000 in
theorem wcheck_some (l : List UInt8) (z : Int) (w : World) (h : rd l = some z) :
 Calls Tryz.prog 128 #[.string ⟨l.toArray⟩] w fun e w' => e = .returned (.int .i64 0) ∧ Below w.heap.size w w' := by
 have hr := fun W => wread_some l z W h
 clear h
 go_enter Tryz.func128,Tryz.ntmps128
 go_wp2_with fail
 refine (hr _).mono ?_
 rintro e w1 ⟨A,n,c,k,rfl,hv,hb⟩
 go_wp2_with fail
 go_ret
 exact ⟨rfl,hb.alloc hb.size _⟩
theorem SgV.zero (W : World) : SgV W (.agg #[.slice none 0 0,.bool false]) 0 := ⟨_,rfl,MagV.zero W⟩
end Go.Proofs.YtlfgpmnjnpdkdaaGreatDoor
namespace Go.Proofs.YtlfgpmnjnpdkdaaGreatDoor
open Go.RowKit Vd
theorem small_of_le {x z : Int} (h : small x) (hz : z.natAbs ≤ x.natAbs) : small z := Nat.lt_of_le_of_lt hz h
theorem outV_small {z : Int} (h : small z) : outV z = .tuple #[.string ⟨(wr z).toArray⟩,.int .i64 0] := by unfold outV;rw [if_pos h]
theorem div_small {x y : Int} (hx : small x) (hy : y ≠ 0) : small (x / y) := by
 refine small_of_le hx ?_
 have hb : 0 < y.natAbs := Int.natAbs_pos.2 hy
 rw [← (over_eq x y hy).1,sgn_abs]
 split
 · rename_i h
   simp only [Bool.and_eq_true,Bool.not_eq_true',decide_eq_true_eq,decide_eq_false_iff_not] at h
   have hd := Nat.div_add_mod x.natAbs y.natAbs
   have h1 : x.natAbs / y.natAbs ≤ y.natAbs * (x.natAbs / y.natAbs) := Nat.le_mul_of_pos_left _ hb
   omega
 · exact Nat.div_le_self _ _
end Go.Proofs.YtlfgpmnjnpdkdaaGreatDoor
