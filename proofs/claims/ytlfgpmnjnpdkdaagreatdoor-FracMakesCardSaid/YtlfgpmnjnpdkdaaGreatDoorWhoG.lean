/- Contracts: package whole: Pow, Root. Contracts: package whole: Of, Int. Contracts of the laws' small -/
import Derived.Test.YtlfgpmnjnpdkdaaGreatDoorWhoA
import Derived.Test.YtlfgpmnjnpdkdaaGreatDoorShelfB
import Derived.Lib.AppendIntMem
import Derived.Lib.AtoiErrMem
import Derived.Test.YtlfgpmnjnpdkdaaGreatDoorRefG
namespace Go.Proofs.YtlfgpmnjnpdkdaaGreatDoor
open Go.RowKit Vd
end Go.Proofs.YtlfgpmnjnpdkdaaGreatDoor
namespace Go.Proofs.YtlfgpmnjnpdkdaaGreatDoor
open Go.RowKit Vd
structure Gnd (w : World) : Prop where
 tab : Lib.TabIs Tryz.prog w "internal/strconv.uint64pow10" .u64 Lib.pow10Tab
 rng : ∃ te pe,w.cell? ⟨1,0,none⟩ = some (.iface te pe)
theorem gTab : Tryz.prog.globalNamed "internal/strconv.uint64pow10" = some 7 := by kernel_rfl
theorem Gnd.below {w w' : World} (h : Gnd w) (hb : Below w.heap.size w w') : Gnd w' := by
 obtain ⟨h1,te,pe,h2⟩ := h
 refine ⟨?_,te,pe,?_⟩
 · unfold Lib.TabIs World.var? at *
   rw [gTab] at *
   have hlt : 7 < w.heap.size := by
    rcases Nat.lt_or_ge 7 w.heap.size with hl | hl
    · exact hl
    · simp only [Option.bind_some,Array.getElem?_eq_none hl] at h1
      cases h1
   simp only [Option.bind_some,hb.block _ hlt] at *
   exact h1
 · rw [hb.cell (World.block_lt_of_cell? w _ h2)];exact h2
theorem parse_ok : ∀ (l : List UInt8) (acc : Nat),l.all isDig = true → acc * 10 ^ l.length + dval l < 18446744073709551616 → Lib.parseUint10 acc l = .ok (acc * 10 ^ l.length + dval l)
 | [],acc,_,_ => by simp [Lib.parseUint10,dval_nil]
 | c :: t,acc,h,hlt => by
   rw [List.all_cons] at h
   simp only [Bool.and_eq_true] at h
   have hc := isDig_iff.1 h.1
   have e : dval (c :: t) = (c.toNat - 48) * 10 ^ t.length + dval t := by
    have := dval_append [c] t
    rw [List.singleton_append] at this
    rw [this]
    simp [dval]
   rw [List.length_cons,Nat.pow_succ,e] at hlt
   have hp : 0 < 10 ^ t.length := Nat.pow_pos (by omega)
   have e2 : acc * (10 ^ t.length * 10) + ((c.toNat - 48) * 10 ^ t.length + dval t) = (acc * 10 + (c.toNat - 48)) * 10 ^ t.length + dval t := by grind
   rw [e2] at hlt
   have hb : acc * 10 + (c.toNat - 48) < 18446744073709551616 := by
    have := Nat.le_mul_of_pos_right (acc * 10 + (c.toNat - 48)) hp
    omega
   unfold Lib.parseUint10
   rw [if_pos hc,if_neg (by omega),if_neg (by omega),parse_ok t _ h.2 hlt,List.length_cons,Nat.pow_succ,e,e2]
theorem parse_range : ∀ (l : List UInt8) (acc : Nat),l.all isDig = true → acc < 18446744073709551616 → 18446744073709551616 ≤ acc * 10 ^ l.length + dval l → Lib.parseUint10 acc l = .range
 | [],acc,_,ha,hge => by simp [dval_nil] at hge;omega
 | c :: t,acc,h,ha,hge => by
   rw [List.all_cons] at h
   simp only [Bool.and_eq_true] at h
   have hc := isDig_iff.1 h.1
   have e : dval (c :: t) = (c.toNat - 48) * 10 ^ t.length + dval t := by
    have := dval_append [c] t
    rw [List.singleton_append] at this
    rw [this]
    simp [dval]
   rw [List.length_cons,Nat.pow_succ,e] at hge
   have e2 : acc * (10 ^ t.length * 10) + ((c.toNat - 48) * 10 ^ t.length + dval t) = (acc * 10 + (c.toNat - 48)) * 10 ^ t.length + dval t := by grind
   rw [e2] at hge
   unfold Lib.parseUint10
   rw [if_pos hc]
   by_cases h1 : 1844674407370955162 ≤ acc
   · rw [if_pos h1]
   · rw [if_neg h1]
     by_cases h2 : 18446744073709551616 ≤ acc * 10 + (c.toNat - 48)
     · rw [if_pos h2]
     · rw [if_neg h2]
       exact parse_range t _ h.2 (by omega) hge
theorem parseMag_digs (n : Nat) : Lib.parseMag (digs n) = if n < 18446744073709551616 then .ok n else .range := by
 unfold Lib.parseMag
 rw [if_neg (digs_ne_nil n)]
 have hv := dval_digs n
 split
 · rename_i h
   rw [parse_ok (digs n) 0 (digs_all n) (by rw [hv];omega),hv,Nat.zero_mul,Nat.zero_add]
 · rename_i h
   exact parse_range (digs n) 0 (digs_all n) (by omega) (by rw [hv];omega)
theorem atoi_wr (z : Int) : Lib.atoiAll (wr z) = if -9223372036854775808 ≤ z ∧ z ≤ 9223372036854775807 then .ok z else .range := by
 unfold wr
 by_cases hz : z < 0
 · rw [if_pos hz]
   unfold Lib.atoiAll
   simp only [show (45 : UInt8).toNat = 45 from rfl,or_true,if_true]
   rw [parseMag_digs]
   by_cases h1 : z.natAbs < 18446744073709551616
   · rw [if_pos h1]
     by_cases h2 : -9223372036854775808 ≤ z
     · rw [if_pos ⟨h2,by omega⟩]
       simp only [not_true_eq_false,false_and,if_false,true_and]
       rw [if_neg (by omega)]
       congr 1
       omega
     · rw [if_neg (by omega)]
       simp only [not_true_eq_false,false_and,if_false,true_and]
       rw [if_pos (by omega)]
   · rw [if_neg h1,if_neg (by omega)]
 · rw [if_neg hz]
   have hd := digs_all z.natAbs
   have hn := digs_ne_nil z.natAbs
   have hp := parseMag_digs z.natAbs
   cases hl : digs z.natAbs with
   | nil => exact absurd hl hn
   | cons c t =>
     rw [hl] at hd hp
     rw [List.all_cons] at hd
     simp only [Bool.and_eq_true] at hd
     have hc := isDig_iff.1 hd.1
     have n43 : ¬ c.toNat = 43 := by omega
     have n45 : ¬ c.toNat = 45 := by omega
     unfold Lib.atoiAll
     simp only [n43,n45,or_self,if_false]
     rw [hp]
     by_cases h1 : z.natAbs < 18446744073709551616
     · rw [if_pos h1]
       simp only [not_false_eq_true,true_and,false_and,if_false]
       by_cases h2 : 9223372036854775808 ≤ z.natAbs
       · rw [if_pos h2,if_neg (by omega)]
       · rw [if_neg h2,if_pos (by omega)]
         congr 1
         omega
     · rw [if_neg h1,if_neg (by omega)]
theorem rd_length {l : List UInt8} {z : Int} (h : rd l = some z) : l.length ≤ 601 := by
 unfold rd at h
 split at h
 · rename_i hl
   unfold cutm at hl
   rw [maxDigits_eq] at hl
   split at hl
   · simp at hl;omega
   · exact Nat.le_succ_of_le hl
 · cases h
set_option maxRecDepth 100000 in
set_option maxHeartbeats 1000000 in
theorem wint_some (l : List UInt8) (z : Int) (w : World) (h : rd l = some z) (h0 : -9223372036854775808 ≤ z) (h1 : z ≤ 9223372036854775807) :
 Calls Tryz.prog 96 #[.string ⟨l.toArray⟩] w fun e w' => e = .returned (.tuple #[.int .i64 z,.int .i64 0]) ∧ Below w.heap.size w w' := by
 have hc := fun W => wcheck_some l z W h
 have ha : Hid (∀ W,Calls Tryz.prog 129 #[.string ⟨l.toArray⟩] W fun e w' => e = .returned (.tuple #[.int .i64 z,.nilIface]) ∧ Below W.heap.size W w') := Lib.hid (fun W => by
  refine (Tryz.strconv_Atoi_ok ⟨l.toArray⟩ (by have := rd_length h;show l.toArray.size ≤ _;rw [List.size_toArray];omega) z (by
   show Lib.atoiAll l = _
   rw [← (rd_some h).1,atoi_wr,if_pos ⟨h0,h1⟩]) W).mono ?_
  rintro e w' ⟨he,hw⟩
  refine ⟨he,?_⟩
  rcases hw with rfl | ⟨t,rfl⟩
  · exact Below.refl _ _
  · exact Lib.bytesWorld_below _ _ _)
 clear h h0 h1
 go_enter Tryz.func96,Tryz.ntmps96
 go_wp2_with fail
 refine (hc _).mono ?_
 rintro e w1 ⟨rfl,hb⟩
 go_wp2_with fail
 refine (ha.out _).mono ?_
 rintro e w2 ⟨rfl,hb2⟩
 go_wp2_with fail
 go_ret2
 exact ⟨rfl,hb.trans (hb2.mono hb.size)⟩
end Go.Proofs.YtlfgpmnjnpdkdaaGreatDoor
namespace Go.Proofs.YtlfgpmnjnpdkdaaGreatDoor
open Go.RowKit Vd
theorem mkf (fn : Fn) (first cap : Array Value) (w : World) : (Instr.makeFunc fn first cap).run Tryz.prog w = .ok (.func fn first cap) w := rfl
def Wk (w W : World) : Prop := Below w.heap.size w W ∧ Gnd W
theorem Wk.step {w W w' : World} (h : Wk w W) (hb : Below W.heap.size W w') : Wk w w' := ⟨h.1.trans (hb.mono h.1.size),h.2.below hb⟩
theorem Wk.start {w : World} (h : Gnd w) : Wk w w := ⟨Below.refl _ _,h⟩
end Go.Proofs.YtlfgpmnjnpdkdaaGreatDoor
namespace Go.Proofs.YtlfgpmnjnpdkdaaGreatDoor
open Go.RowKit Vd
theorem outV_rd {l : List UInt8} {z : Int} (h : rd l = some z) : outV z = .tuple #[.string ⟨l.toArray⟩,.int .i64 0] := by
 rw [outV_small (rd_some h).2,(rd_some h).1]
theorem op_keep {f : FuncId} {args : Array Value} {V : Value} (h : ∀ W,Gnd W → Calls Tryz.prog f args W fun e w' => e = .returned V ∧ Below W.heap.size W w') (w W : World) (hS : Wk w W) (p : Addr) (u : Value) (hc : W.cell? p = some u) :
 Calls Tryz.prog f args W fun e w' => e = .returned V ∧ w'.cell? p = some u ∧ Wk w w' :=
 (h W hS.2).mono fun _ _ ⟨he,hb⟩ => ⟨he,(hb.cell (World.block_lt_of_cell? W _ hc)).trans hc,hS.step hb⟩
theorem op_keep2 {f : FuncId} {args : Array Value} {V : Value} (h : ∀ W,Gnd W → Calls Tryz.prog f args W fun e w' => e = .returned V ∧ Below W.heap.size W w') (w W : World) (hS : Wk w W) (p q : Addr) (u v : Value) (hc : W.cell? p = some u) (hd : W.cell? q = some v) :
 Calls Tryz.prog f args W fun e w' => e = .returned V ∧ w'.cell? p = some u ∧ w'.cell? q = some v ∧ Wk w w' :=
 (h W hS.2).mono fun _ _ ⟨he,hb⟩ => ⟨he,(hb.cell (World.block_lt_of_cell? W _ hc)).trans hc,(hb.cell (World.block_lt_of_cell? W _ hd)).trans hd,hS.step hb⟩
theorem op_only {f : FuncId} {args : Array Value} {V : Value} (h : ∀ W,Gnd W → Calls Tryz.prog f args W fun e w' => e = .returned V ∧ Below W.heap.size W w') (w W : World) (hS : Wk w W) :
 Calls Tryz.prog f args W fun e w' => e = .returned V ∧ Wk w w' :=
 (h W hS.2).mono fun _ _ ⟨he,hb⟩ => ⟨he,hS.step hb⟩
end Go.Proofs.YtlfgpmnjnpdkdaaGreatDoor
namespace Go.Proofs.YtlfgpmnjnpdkdaaGreatDoor
open Go.RowKit Vd
end Go.Proofs.YtlfgpmnjnpdkdaaGreatDoor
namespace Go.Proofs.YtlfgpmnjnpdkdaaGreatDoor
open Go.RowKit Vd
structure DraftIn (W : World) (b : Bool) (A : Option Addr) (n c z : Nat) (xs : List Nat) : Prop where
 sl : Sl W U16 A n xs
 ok : Ok 65536 xs
 z : z < 65536
 n : n ≤ 9223372036854775807
theorem DraftIn.below {W W' : World} {b : Bool} {A : Option Addr} {n c z : Nat} {xs : List Nat} (h : DraftIn W b A n c z xs) (hb : Below W.heap.size W W') : DraftIn W' b A n c z xs := ⟨h.sl.below hb,h.ok,h.z,h.n⟩
end Go.Proofs.YtlfgpmnjnpdkdaaGreatDoor
