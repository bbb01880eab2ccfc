/- Laws on two fractions and two drafts that came in; FracSums from what it calls. -/
import Derived.Test.YtlfgpmnjnpdkdaaGreatDoorFsuA
import Derived.Test.YtlfgpmnjnpdkdaaGreatDoorFrfK
import Derived.Test.YtlfgpmnjnpdkdaaGreatDoorFrcG
import Derived.Test.YtlfgpmnjnpdkdaaGreatDoorCardF
namespace Go.Proofs.YtlfgpmnjnpdkdaaGreatDoor
open Go.ChangeShapes Go.WideShapes Go.ChangeAt Go.RowKit Vd
theorem array16 {α : Type} {cs : Array α} (h : cs.size = 16) : ∃ c0 c1 c2 c3 c4 c5 c6 c7 c8 c9 c10 c11 c12 c13 c14 c15,cs = #[c0,c1,c2,c3,c4,c5,c6,c7,c8,c9,c10,c11,c12,c13,c14,c15] := by
 obtain ⟨l⟩ := cs
 match l,h with
 | [c0,c1,c2,c3,c4,c5,c6,c7,c8,c9,c10,c11,c12,c13,c14,c15],_ => exact ⟨c0,c1,c2,c3,c4,c5,c6,c7,c8,c9,c10,c11,c12,c13,c14,c15,rfl⟩
section
variable {H : Type} {enc : TypeId × Value → H}
theorem str_of_trod {W : World} {n : Nat} {c : Value} {y : DataW H × List MemPlace} (h : DataW.trod enc Tryz.prog W 0 (fun _ => true) true n 22 [c] = some y) : ∃ l : List UInt8,c = .string ⟨l.toArray⟩ := by
 obtain ⟨s,e,_⟩ := DataW.trod_string Tryz.underlying22 h
 simp at e
 exact ⟨s.data.toList,by rw [e]⟩
set_option maxRecDepth 100000 in
theorem frac_of_trod {W : World} {m : Nat} {c0 c1 : Value} {y : DataW H × List MemPlace} (h : DataW.trod enc Tryz.prog W 0 (fun _ => true) true m 24 [c0,c1] = some y) : ∃ l1 l2 : List UInt8,c0 = .string ⟨l1.toArray⟩ ∧ c1 = .string ⟨l2.toArray⟩ := by
 obtain ⟨y0,y1,n,_,_,h0,h1⟩ := trod_struct2 Tryz.underlying24 h
 obtain ⟨l1,rfl⟩ := str_of_trod (show DataW.trod enc Tryz.prog W 0 (fun _ => true) true n 22 [c0] = some y0 from h0)
 obtain ⟨l2,rfl⟩ := str_of_trod (show DataW.trod enc Tryz.prog W 0 (fun _ => true) true n 22 [c1] = some y1 from h1)
 exact ⟨l1,l2,rfl,rfl⟩
set_option maxRecDepth 100000 in
theorem fdraft_of_trod {W : World} {m : Nat} {u0 u1 u2 u3 u4 u5 : Value} {y : DataW H × List MemPlace} (hf : DataW.trod enc Tryz.prog W 0 (fun _ => true) true m 30 [u0,u1,u2,u3,u4,u5] = some y) :
 ∃ (b1 : Bool) (A1 : Option Addr) (n1 c1 z1 : Nat) (xs1 : List Nat) (b2 : Bool) (A2 : Option Addr) (n2 c2 z2 : Nat) (xs2 : List Nat),[u0,u1,u2,u3,u4,u5] = [.bool b1,.slice A1 n1 c1,.int .u16 (z1 : Int),.bool b2,.slice A2 n2 c2,.int .u16 (z2 : Int)] ∧ DraftIn W b1 A1 n1 c1 z1 xs1 ∧ DraftIn W b2 A2 n2 c2 z2 xs2 := by
 obtain ⟨y0,y1,n,_,_,h0,h1⟩ := trod_struct2 Tryz.underlying30 hf
 obtain ⟨b1,A1,n1,c1,z1,xs1,rfl,rfl,rfl,D1⟩ := draft_of_trod (show DataW.trod enc Tryz.prog W 0 (fun _ => true) true n 28 [u0,u1,u2] = some y0 from h0)
 obtain ⟨b2,A2,n2,c2,z2,xs2,rfl,rfl,rfl,D2⟩ := draft_of_trod (show DataW.trod enc Tryz.prog W 0 (fun _ => true) true n 28 [u3,u4,u5] = some y1 from h1)
 exact ⟨b1,A1,n1,c1,z1,xs1,b2,A2,n2,c2,z2,xs2,rfl,D1,D2⟩
set_option maxRecDepth 100000 in
theorem open_twoF {W : World} {base : Nat} {v : Value} {d : DataW H} {p : List MemPlace} (hv : Value.okWide Tryz.prog W .any base 32 v) (h : DataW.Trod enc Tryz.prog W 0 (fun _ => true) true 32 v d p) :
 ∃ (p1 p2 q1 q2 : List UInt8) (b1 : Bool) (A1 : Option Addr) (n1 c1 z1 : Nat) (xs1 : List Nat) (b2 : Bool) (A2 : Option Addr) (n2 c2 z2 : Nat) (xs2 : List Nat) (b3 : Bool) (A3 : Option Addr) (n3 c3 z3 : Nat) (xs3 : List Nat) (b4 : Bool) (A4 : Option Addr) (n4 c4 z4 : Nat) (xs4 : List Nat),v = .agg (sums.TwoVF p1 p2 q1 q2 b1 A1 n1 c1 z1 b2 A2 n2 c2 z2 b3 A3 n3 c3 z3 b4 A4 n4 c4 z4) ∧ DraftIn W b1 A1 n1 c1 z1 xs1 ∧ DraftIn W b2 A2 n2 c2 z2 xs2 ∧ DraftIn W b3 A3 n3 c3 z3 xs3 ∧ DraftIn W b4 A4 n4 c4 z4 xs4 := by
 obtain ⟨cs,rfl,hsz⟩ := okWide_struct Tryz.underlying32 hv
 obtain ⟨u0,u1,u2,u3,u4,u5,u6,u7,u8,u9,u10,u11,u12,u13,u14,u15,rfl⟩ := array16 (hsz.trans (by kernel_rfl))
 obtain ⟨fuel,hf⟩ := h
 obtain ⟨y0,y1,y2,y3,n,_,_,h0,h1,h2,h3⟩ := Joins.trod_struct4 Tryz.underlying32 hf
 obtain ⟨p1,p2,rfl,rfl⟩ := frac_of_trod (show DataW.trod enc Tryz.prog W 0 (fun _ => true) true n 24 [u0,u1] = some y0 from h0)
 obtain ⟨q1,q2,rfl,rfl⟩ := frac_of_trod (show DataW.trod enc Tryz.prog W 0 (fun _ => true) true n 24 [u2,u3] = some y1 from h1)
 obtain ⟨b1,A1,n1,c1,z1,xs1,b2,A2,n2,c2,z2,xs2,e1,D1,D2⟩ := fdraft_of_trod (show DataW.trod enc Tryz.prog W 0 (fun _ => true) true n 30 [u4,u5,u6,u7,u8,u9] = some y2 from h2)
 obtain ⟨b3,A3,n3,c3,z3,xs3,b4,A4,n4,c4,z4,xs4,e2,D3,D4⟩ := fdraft_of_trod (show DataW.trod enc Tryz.prog W 0 (fun _ => true) true n 30 [u10,u11,u12,u13,u14,u15] = some y3 from h3)
 simp only [List.cons.injEq,and_true] at e1 e2
 obtain ⟨rfl,rfl,rfl,rfl,rfl,rfl⟩ := e1
 obtain ⟨rfl,rfl,rfl,rfl,rfl,rfl⟩ := e2
 exact ⟨p1,p2,q1,q2,b1,A1,n1,c1,z1,xs1,b2,A2,n2,c2,z2,xs2,b3,A3,n3,c3,z3,xs3,b4,A4,n4,c4,z4,xs4,rfl,D1,D2,D3,D4⟩
end
end Go.Proofs.YtlfgpmnjnpdkdaaGreatDoor
