/- A fraction of a draft that came in; a short fraction of it. -/
import Derived.Test.YtlfgpmnjnpdkdaaGreatDoorFrcB
import Derived.Test.YtlfgpmnjnpdkdaaGreatDoorFrcA
import Derived.Test.YtlfgpmnjnpdkdaaGreatDoorCardF
import Derived.ChangeSame
import Derived.Lay
import Derived.Shelf.Vars
import Derived.ChangeMaps5
namespace Go.Proofs.YtlfgpmnjnpdkdaaGreatDoor
open Go.RowKit Vd
theorem short_q {i : World} {b1 : Bool} {A1 : Option Addr} {n1 c1 z1 : Nat} {xs1 : List Nat} {b2 : Bool} {A2 : Option Addr} {n2 c2 z2 : Nat} {xs2 : List Nat} (h1 : DraftIn i b1 A1 n1 c1 z1 xs1) (h2 : DraftIn i b2 A2 n2 c2 z2 xs2) (W : World) (hb : Below i.heap.size i W) :
 Calls Tryz.prog 24 #[.agg #[.bool b1,.slice A1 n1 c1,.int .u16 (z1 : Int),.bool b2,.slice A2 n2 c2,.int .u16 (z2 : Int)]] W fun e w' => ∃ l m : List UInt8,e = .returned (qV l m) ∧ (∃ x : Rat,Bq x 3 ∧ l = tN x ∧ m = tD x) ∧ Below W.heap.size W w' := by
 have e1 := h1.below hb
 have e2 := h2.below hb
 refine (fshort_any b1 A1 n1 c1 z1 xs1 b2 A2 n2 c2 z2 xs2 W e1.sl e1.ok e1.n e2.sl e2.ok e2.n).mono ?_
 rintro e w' ⟨m,d,h3,h4,h5,h6,he,hbw⟩
 exact ⟨_,_,he,⟨Rat.divInt m d,Bq.divInt (by omega) (Nat.le_trans (show m.natAbs ≤ 1000 by omega) (by decide)) (Nat.le_trans (show d.natAbs ≤ 1000 by omega) (by decide)),rfl,rfl⟩,hbw⟩
end Go.Proofs.YtlfgpmnjnpdkdaaGreatDoor
namespace Go.Proofs.YtlfgpmnjnpdkdaaGreatDoor
open Go.ChangeShapes Go.WideShapes Go.ChangeAt Go.RowKit Vd
section
variable {H : Type} {enc : TypeId × Value → H}
set_option maxRecDepth 100000 in
theorem draft_of_trod {W : World} {m : Nat} {c0 c1 c2 : Value} {y : DataW H × List MemPlace} (h : DataW.trod enc Tryz.prog W 0 (fun _ => true) true m 28 [c0,c1,c2] = some y) :
    ∃ (b : Bool) (A : Option Addr) (n c z : Nat) (xs : List Nat),c0 = .bool b ∧ c1 = .slice A n c ∧ c2 = .int .u16 (z : Int) ∧ DraftIn W b A n c z xs := by
 obtain ⟨y0,y1,y2,k,_,_,g0,g1,g2⟩ := Go.Deep.trod_struct3 Tryz.underlying28 h
 have hy0 : DataW.trod enc Tryz.prog W 0 (fun _ => true) true k 4 [c0] = some y0 := g0
 have hy1 : DataW.trod enc Tryz.prog W 0 (fun _ => true) true k 25 [c1] = some y1 := g1
 have hy2 : DataW.trod enc Tryz.prog W 0 (fun _ => true) true k 26 [c2] = some y2 := g2
 clear g0 g1 g2
 obtain ⟨b,e0,_⟩ := DataW.trod_bool Tryz.underlying4 hy0
 obtain ⟨z,e2,_,wz⟩ := DataW.trod_int Tryz.underlying26 hy2
 simp at e0 e2
 subst e0 e2
 have hz := u16_wf wz
 rcases open_ints Tryz.underlying25 Tryz.underlying26 (by kernel_rfl) hy1 with ⟨e1,_⟩ | ⟨a,len,cap,zs,e1,_,hlc,hcm,hzl,_,hcell,hw⟩
 · simp at e1
   subst e1
   exact ⟨b,none,0,0,z.toNat,[],rfl,rfl,by rw [Int.toNat_of_nonneg hz.1],⟨Sl.nil,Ok.nil,by omega,by omega⟩⟩
 · simp at e1
   subst e1
   rw [if_pos rfl] at hzl
   have hn : len ≤ 9223372036854775807 := by unfold maxLen at hcm;omega
   have hd := fun i hi => dropInts zs hw i hi
   refine ⟨b,some a,len,cap,z.toNat,(zs.map Int.toNat).take len,rfl,rfl,by rw [Int.toNat_of_nonneg hz.1],⟨⟨?_,fun h0 => ?_⟩,?_,by omega,hn⟩⟩
   · rw [List.length_take,List.length_map];omega
   · have hs := spot_none (hcell 0 (by omega))
     have hs' : a.spot = none := by simpa [Addr.add] using hs
     obtain ⟨g,o,sp⟩ := a
     simp only at hs'
     subst hs'
     refine ⟨g,o,rfl,?_,fun i hi => ?_⟩
     · have h1 := World.block_lt_of_cell? W _ (hcell 0 (by omega))
       simpa [Addr.add] using h1
     · have h1 := hcell i (by omega)
       rw [add_plain,(hd i (by omega)).1] at h1
       rw [h1,nth_take hi]
       rfl
   · refine okOf _ fun i hi => ?_
     rw [List.length_take,List.length_map] at hi
     rw [nth_take (by omega)]
     exact (hd i (by omega)).2
end
end Go.Proofs.YtlfgpmnjnpdkdaaGreatDoor
