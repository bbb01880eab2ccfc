/- The laws of fractions: the library and the reference answer alike. -/
import Derived.Test.YtlfgpmnjnpdkdaaGreatDoorFrfJ
namespace Go.Proofs.YtlfgpmnjnpdkdaaGreatDoor
open Go.RowKit Vd
abbrev Both (f g : FuncId) (args : Array Value) (V : Value) : Prop := Gives f args V ∧ Gives g args V
abbrev Lens (a1 a2 : List UInt8) : Prop := a1.length ≤ 1000000 ∧ a2.length ≤ 1000000
abbrev tupF (s t : ByteArray) (k : Int) : Value := .tuple #[.agg #[.string s,.string t],.int .i64 k]
theorem two_opt {l1 l2 : List UInt8} : rdF l1 l2 = none ∨ ∃ x,rdF l1 l2 = some x := by
 cases rdF l1 l2 with
 | none => exact .inl rfl
 | some x => exact .inr ⟨x,rfl⟩
theorem same_signF (a1 a2 : List UInt8) (la : Lens a1 a2) : ∃ c k : Int,Both 13 14 #[.agg #[.string ⟨a1.toArray⟩,.string ⟨a2.toArray⟩]] (.tuple #[.int .i64 c,.int .i64 k]) := by
 rcases two_opt (l1 := a1) (l2 := a2) with ha | ⟨x,ha⟩
 · exact ⟨0,20,fun W _ => fsign_none a1 a2 W ha,fun W _ => rsignF_none0 a1 a2 W la ha⟩
 · exact ⟨signZ x.num,0,fun W _ => fsign_some a1 a2 x W ha,fun W _ => rsignF_some a1 a2 x W ha⟩
theorem same_checkF (a1 a2 : List UInt8) (la : Lens a1 a2) : ∃ k : Int,Both 15 16 #[.agg #[.string ⟨a1.toArray⟩,.string ⟨a2.toArray⟩]] (.int .i64 k) := by
 rcases two_opt (l1 := a1) (l2 := a2) with ha | ⟨x,ha⟩
 · exact ⟨20,fun W _ => fcheck_none a1 a2 W ha,fun W _ => rcheck_none0 a1 a2 W la ha⟩
 · exact ⟨0,fun W _ => fcheck_some a1 a2 x W ha,fun W _ => rcheckF_some a1 a2 x W ha⟩
theorem same_ofF (n d : Int) (hn0 : -9223372036854775808 ≤ n) (hn1 : n ≤ 9223372036854775807) (hd0 : -9223372036854775808 ≤ d) (hd1 : d ≤ 9223372036854775807) : ∃ (s t : ByteArray) (k : Int),Both 8 9 #[.int .i64 n,.int .i64 d] (tupF s t k) := by
 by_cases hd : d = 0
 · subst hd
   exact ⟨_,_,7,fun W _ => fof_zero n W,fun W _ => rofF_zero n W⟩
 · obtain ⟨s,t,k,e⟩ := outF_open (Rat.divInt n d)
   exact ⟨s,t,k,fun W _ => by have h := fof_some n d W hn0 hn1 hd0 hd1 hd;rwa [e] at h,fun W _ => by have h := rofF_some n d W hn0 hn1 hd0 hd1 hd;rwa [e] at h⟩
theorem same_makeF (l1 l2 : List UInt8) (h1 : l1.length ≤ 1000000) (h2 : l2.length ≤ 1000000) : ∃ (s t : ByteArray) (k : Int),Both 11 12 #[.string ⟨l1.toArray⟩,.string ⟨l2.toArray⟩] (tupF s t k) := by
 cases e1 : rd l1 with
 | none => exact ⟨_,_,10,fun W _ => fmake_none1 l1 l2 W e1,fun W _ => rmakeF_none1 l1 l2 h1 e1 W⟩
 | some x =>
   cases e2 : rd l2 with
   | none => exact ⟨_,_,10,fun W _ => fmake_none2 l1 l2 x W e1 e2,fun W _ => rmakeF_none2 l1 l2 x e1 h2 e2 W⟩
   | some y =>
     by_cases hy : y = 0
     · subst hy
       exact ⟨_,_,7,fun W _ => fmake_zero l1 l2 x W e1 e2,fun W _ => rmakeF_zero l1 l2 x e1 e2 W⟩
     · obtain ⟨s,t,k,e⟩ := outF_open (Rat.divInt x y)
       exact ⟨s,t,k,fun W _ => by have h := fmake_some l1 l2 x y W e1 e2 hy;rwa [e] at h,fun W _ => by have h := rmakeF_some l1 l2 x y e1 e2 hy W;rwa [e] at h⟩
end Go.Proofs.YtlfgpmnjnpdkdaaGreatDoor
