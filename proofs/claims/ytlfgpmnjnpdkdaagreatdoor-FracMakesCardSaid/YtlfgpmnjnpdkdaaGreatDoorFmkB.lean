/- FracMakes from what it calls. -/
import Derived.Test.YtlfgpmnjnpdkdaaGreatDoorFmkA
import Derived.Test.YtlfgpmnjnpdkdaaGreatDoorFsuB
namespace Go.Proofs.YtlfgpmnjnpdkdaaGreatDoor
open Go.RowKit Vd
theorem fmakes_core (p1 p2 q1 q2 : List UInt8) (b1 : Bool) (A1 : Option Addr) (n1 c1 z1 : Nat) (xs1 : List Nat) (b2 : Bool) (A2 : Option Addr) (n2 c2 z2 : Nat) (xs2 : List Nat) (b3 : Bool) (A3 : Option Addr) (n3 c3 z3 : Nat) (xs3 : List Nat) (b4 : Bool) (A4 : Option Addr) (n4 c4 z4 : Nat) (xs4 : List Nat) (N M : Int) (hN : makes.InR N) (hM : makes.InR M) (w : World) (hg : Gnd w) (D1 : DraftIn w b1 A1 n1 c1 z1 xs1) (D2 : DraftIn w b2 A2 n2 c2 z2 xs2) (D3 : DraftIn w b3 A3 n3 c3 z3 xs3) (D4 : DraftIn w b4 A4 n4 c4 z4 xs4) :
 Calls Tryz.prog 3 #[.agg (sums.TwoVF p1 p2 q1 q2 b1 A1 n1 c1 z1 b2 A2 n2 c2 z2 b3 A3 n3 c3 z3 b4 A4 n4 c4 z4),.int .i64 N,.int .i64 M] w fun e w' => e = .returned (.bool true) ∧ Below w.heap.size w w' :=
 makes.walk Gnd (fun _ _ h hb => h.below hb) ⟨fun n d hn hd => same_ofF n d hn.1 hn.2 hd.1 hd.2,same_makeF,same_signF,same_checkF⟩ p1 p2 q1 q2 b1 A1 n1 c1 z1 b2 A2 n2 c2 z2 b3 A3 n3 c3 z3 b4 A4 n4 c4 z4 N M hN hM w hg (fun W h => fworks_any W h)
  (fun W _ hb => pairsF_any p1 p2 q1 q2 b1 A1 n1 c1 z1 xs1 b2 A2 n2 c2 z2 xs2 b3 A3 n3 c3 z3 xs3 b4 A4 n4 c4 z4 xs4 W (D1.below hb) (D2.below hb) (D3.below hb) (D4.below hb))
end Go.Proofs.YtlfgpmnjnpdkdaaGreatDoor
