/- The laws of fractions: the library and the reference answer alike. -/
import Derived.Test.YtlfgpmnjnpdkdaaGreatDoorFrfJ
namespace Go.Proofs.YtlfgpmnjnpdkdaaGreatDoor
open Go.RowKit Vd
abbrev Both (f g : FuncId) (args : Array Value) (V : Value) : Prop := Gives f args V ∧ Gives g args V
abbrev Lens (a1 a2 : List UInt8) : Prop := a1.length ≤ 1000000 ∧ a2.length ≤ 1000000
abbrev tupF (s t : ByteArray) (k : Int) : Value := .tuple #[.agg #[.string s,.string t],.int .i64 k]
theorem two_opt {l1 l2 : List UInt8} : rdF l1 l2 = none ∨ ∃ x,rdF l1 l2 = some x := by
 cases rdF l1 l2 with
 | none => exact .inl rfl
 | some x => exact .inr ⟨x,rfl⟩
theorem same_addF (a1 a2 b1 b2 : List UInt8) (la : Lens a1 a2) (lb : Lens b1 b2) : ∃ (s t : ByteArray) (k : Int),Both 26 30 #[.agg #[.string ⟨a1.toArray⟩,.string ⟨a2.toArray⟩],.agg #[.string ⟨b1.toArray⟩,.string ⟨b2.toArray⟩]] (tupF s t k) := by
 rcases two_opt (l1 := a1) (l2 := a2) with ha | ⟨x,ha⟩
 · exact ⟨_,_,20,fun W _ => fadd_none a1 a2 b1 b2 W (.inl ha),fun W _ => radd_none0 a1 a2 b1 b2 W la ha⟩
 · rcases two_opt (l1 := b1) (l2 := b2) with hb | ⟨y,hb⟩
   · exact ⟨_,_,20,fun W _ => fadd_none a1 a2 b1 b2 W (.inr hb),fun W _ => radd_none1 a1 a2 b1 b2 x W ha lb hb⟩
   · obtain ⟨s,t,k,e⟩ := outF_open (x + y)
     exact ⟨s,t,k,fun W _ => by have h := fadd_some a1 a2 b1 b2 x y W ha hb;rwa [e] at h,fun W _ => by have h := rqadd_some a1 a2 b1 b2 x y W ha hb;rwa [e] at h⟩
theorem same_subF (a1 a2 b1 b2 : List UInt8) (la : Lens a1 a2) (lb : Lens b1 b2) : ∃ (s t : ByteArray) (k : Int),Both 27 31 #[.agg #[.string ⟨a1.toArray⟩,.string ⟨a2.toArray⟩],.agg #[.string ⟨b1.toArray⟩,.string ⟨b2.toArray⟩]] (tupF s t k) := by
 rcases two_opt (l1 := a1) (l2 := a2) with ha | ⟨x,ha⟩
 · exact ⟨_,_,20,fun W _ => fsub_none a1 a2 b1 b2 W (.inl ha),fun W _ => rsub_none0 a1 a2 b1 b2 W la ha⟩
 · rcases two_opt (l1 := b1) (l2 := b2) with hb | ⟨y,hb⟩
   · exact ⟨_,_,20,fun W _ => fsub_none a1 a2 b1 b2 W (.inr hb),fun W _ => rsub_none1 a1 a2 b1 b2 x W ha lb hb⟩
   · obtain ⟨s,t,k,e⟩ := outF_open (x - y)
     exact ⟨s,t,k,fun W _ => by have h := fsub_some a1 a2 b1 b2 x y W ha hb;rwa [e] at h,fun W _ => by have h := rqsub_some a1 a2 b1 b2 x y W ha hb;rwa [e] at h⟩
theorem same_mulF (a1 a2 b1 b2 : List UInt8) (la : Lens a1 a2) (lb : Lens b1 b2) : ∃ (s t : ByteArray) (k : Int),Both 28 32 #[.agg #[.string ⟨a1.toArray⟩,.string ⟨a2.toArray⟩],.agg #[.string ⟨b1.toArray⟩,.string ⟨b2.toArray⟩]] (tupF s t k) := by
 rcases two_opt (l1 := a1) (l2 := a2) with ha | ⟨x,ha⟩
 · exact ⟨_,_,20,fun W _ => fmul_none a1 a2 b1 b2 W (.inl ha),fun W _ => rmul_none0 a1 a2 b1 b2 W la ha⟩
 · rcases two_opt (l1 := b1) (l2 := b2) with hb | ⟨y,hb⟩
   · exact ⟨_,_,20,fun W _ => fmul_none a1 a2 b1 b2 W (.inr hb),fun W _ => rmul_none1 a1 a2 b1 b2 x W ha lb hb⟩
   · obtain ⟨s,t,k,e⟩ := outF_open (x * y)
     exact ⟨s,t,k,fun W _ => by have h := fmul_some a1 a2 b1 b2 x y W ha hb;rwa [e] at h,fun W _ => by have h := rqmul_some a1 a2 b1 b2 x y W ha hb;rwa [e] at h⟩
theorem same_divF (a1 a2 b1 b2 : List UInt8) (la : Lens a1 a2) (lb : Lens b1 b2) : ∃ (s t : ByteArray) (k : Int),Both 29 33 #[.agg #[.string ⟨a1.toArray⟩,.string ⟨a2.toArray⟩],.agg #[.string ⟨b1.toArray⟩,.string ⟨b2.toArray⟩]] (tupF s t k) := by
 rcases two_opt (l1 := a1) (l2 := a2) with ha | ⟨x,ha⟩
 · exact ⟨_,_,20,fun W _ => fdiv_none a1 a2 b1 b2 W (.inl ha),fun W _ => rdiv_none0 a1 a2 b1 b2 W la ha⟩
 · rcases two_opt (l1 := b1) (l2 := b2) with hb | ⟨y,hb⟩
   · exact ⟨_,_,20,fun W _ => fdiv_none a1 a2 b1 b2 W (.inr hb),fun W _ => rdiv_none1 a1 a2 b1 b2 x W ha lb hb⟩
   · by_cases hy : y = 0
     · subst hy
       exact ⟨_,_,7,fun W _ => fdiv_zero a1 a2 b1 b2 x W ha hb,fun W _ => rqdiv_zero a1 a2 b1 b2 x W ha hb⟩
     · obtain ⟨s,t,k,e⟩ := outF_open (x / y)
       exact ⟨s,t,k,fun W _ => by have h := fdiv_some a1 a2 b1 b2 x y W ha hb hy;rwa [e] at h,fun W _ => by have h := rqdiv_some a1 a2 b1 b2 x y W ha hb hy;rwa [e] at h⟩
theorem same_negF (a1 a2 : List UInt8) (la : Lens a1 a2) : ∃ (s t : ByteArray) (k : Int),Both 34 35 #[.agg #[.string ⟨a1.toArray⟩,.string ⟨a2.toArray⟩]] (tupF s t k) := by
 rcases two_opt (l1 := a1) (l2 := a2) with ha | ⟨x,ha⟩
 · exact ⟨_,_,20,fun W _ => fneg_none a1 a2 W ha,fun W _ => rneg_none0 a1 a2 W la ha⟩
 · obtain ⟨s,t,k,e⟩ := outF_open (-x)
   exact ⟨s,t,k,fun W _ => by have h := fneg_some a1 a2 x W ha;rwa [e] at h,fun W _ => by have h := rqneg_some a1 a2 x W ha;rwa [e] at h⟩
theorem same_absF (a1 a2 : List UInt8) (la : Lens a1 a2) : ∃ (s t : ByteArray) (k : Int),Both 36 37 #[.agg #[.string ⟨a1.toArray⟩,.string ⟨a2.toArray⟩]] (tupF s t k) := by
 rcases two_opt (l1 := a1) (l2 := a2) with ha | ⟨x,ha⟩
 · exact ⟨_,_,20,fun W _ => fabs_none a1 a2 W ha,fun W _ => rabsF_none0 a1 a2 W la ha⟩
 · obtain ⟨s,t,k,e⟩ := outF_open (mkRat (x.num.natAbs : Int) x.den)
   exact ⟨s,t,k,fun W _ => by have h := fabs_some a1 a2 x W ha;rwa [e] at h,fun W _ => by have h := rabsF_some a1 a2 x W ha;rwa [e] at h⟩
end Go.Proofs.YtlfgpmnjnpdkdaaGreatDoor
