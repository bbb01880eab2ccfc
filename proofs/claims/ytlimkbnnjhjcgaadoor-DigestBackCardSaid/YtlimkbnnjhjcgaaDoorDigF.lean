/- Package digest: the blocks of octets, which are yielded. -/
import Derived.Test.YtlimkbnnjhjcgaaDoorDigE
import Derived.RangeFuncNested
import Derived.RangeFuncBound
import Derived.RangeFuncCalls
import Derived.RangeFuncLeaves
import Derived.Shelf.Abstract
import Derived.Shelf.RegionOpen
import Derived.OwnWalkIn
import Derived.TacticsInMore
import Derived.LoopNIn
import Derived.LoopIn
namespace Go.Proofs.YtlimkbnnjhjcgaaDoor
open Go.RowKit Vo
attribute [local go_sem] Oper.semAt_some

/-- a block's words -/
abbrev Blk := { ws : List Nat // ws.length = 16 }
def blks : Nat → List UInt8 → List Blk
  | 0, _ => []
  | n + 1, l => ⟨wordsN (l.take 64), wordsN_length _⟩ :: blks n (l.drop 64)
@[irreducible] def blkQ (q : Q) (ws : List Nat) : Q := addQ (stepsN ws q 64) q
theorem blkQ_eq (q : Q) (ws : List Nat) : blkQ q ws = addQ (stepsN ws q 64) q := by rw [blkQ]
def fold (q : Q) (xs : List Blk) : Q := xs.foldl (fun q x => blkQ q x.1) q
theorem fold_snoc (q : Q) (xs : List Blk) (x : Blk) : fold q (xs ++ [x]) = blkQ (fold q xs) x.1 := by
  rw [fold, List.foldl_append, List.foldl_cons, List.foldl_nil, ← fold]
theorem fold_blks (n : Nat) (q : Q) (l : List UInt8) : fold q (blks n l) = chgN n q l := by
  induction n generalizing q l with
  | zero => rw [blks, fold, List.foldl_nil, chgN]
  | succ n ih =>
    rw [blks, fold, List.foldl_cons, ← fold, ih, chgN, blockN, blkQ_eq]
theorem blks_cons {r : List UInt8} (h : 64 ≤ r.length) : blks (r.length / 64) r = ⟨wordsN (r.take 64), wordsN_length _⟩ :: blks ((r.drop 64).length / 64) (r.drop 64) := by
  have e : r.length / 64 = (r.drop 64).length / 64 + 1 := by rw [List.length_drop]; omega
  rw [e, blks]
theorem blks_nil {r : List UInt8} (h : r.length < 64) : blks (r.length / 64) r = [] := by
  rw [show r.length / 64 = 0 by omega, blks]
def slen : Value → Nat
  | .string s => s.size
  | _ => 0

set_option maxRecDepth 100000 in
set_option maxHeartbeats 2000000 in
theorem blocks_stops (n : Nat) (hn : 1 ≤ n) (l : List UInt8) (hll : l.length ≤ 1000000) (Bs : Nat) (w : World) (hc : w.cell? ⟨Bs, 0, none⟩ = some (.string (B l))) :
    SeqStopsK Fence.wide n Tryd.prog 74 #[.pointer (some ⟨Bs, 0, none⟩)] (fun x : Blk => #[.agg (wc x.1)]) (fun _ _ => True) (fun xs => xs = blks (l.length / 64) l) (fun _ => True) (blks (l.length / 64) l).length w := by
  intro lp J Jx W hW hJ hJx hY h0
  have hc1 : W.cell? ⟨Bs, 0, none⟩ = some (.string (B l)) := (hW.cell (World.block_lt_of_cell? w _ hc)).trans hc
  refine callsIn_of_wp Tryd.func74 rfl trivial ?_ rfl
  simp only [Tryd.ntmps74, List.size_toArray, List.length_cons, List.length_nil, Nat.reduceAdd, Nat.reduceSub, Array.replicate_succ, Array.replicate_zero, List.push_toArray, List.append_toArray, List.nil_append, List.cons_append]
  gi_wp2
  gi_loopw [3] (fun p wr => ∃ (pre : List Blk) (r : List UInt8), p = .string (B r) ∧ r.length ≤ 1000000 ∧ pre ++ blks (r.length / 64) r = blks (l.length / 64) l ∧ J pre wr) (fun p wr => slen p)
  case atStart => exact ⟨[], l, rfl, hll, rfl, h0⟩
  case round =>
    obtain ⟨pre, r, rfl, hr, hp, hJp⟩ := hrel
    have hz := B_size r
    by_cases h64 : 64 ≤ r.length
    · obtain ⟨x, hx⟩ : ∃ x : Blk, (⟨wordsN (r.take 64), wordsN_length _⟩ : Blk) = x := ⟨_, rfl⟩
      have hbl := blks_cons h64
      rw [hx] at hbl
      have hlen : pre.length < (blks (l.length / 64) l).length := by rw [← hp, hbl, List.length_append, List.length_cons]; omega
      have ex1 : (B r).extract 0 64 = B (r.take 64) := by rw [B_extract, List.drop_zero]
      have ex2 : (B r).extract 64 r.length = B (r.drop 64) := by rw [B_extract, List.take_of_length_le (by rw [List.length_drop]; omega)]
      have hbo := fun W => blockOf_any (r.take 64) W (by rw [List.length_take]; omega)
      rw [← ex1, show wordsN (r.take 64) = x.1 by rw [← hx]] at hbo
      have b1 : (64 : Int) ≤ (r.length : Int) := by omega
      have b2 : 64 ≤ r.length := h64
      have HH := Lib.hid (And.intro hp (And.intro hbl ex2))
      clear hp hbl hx ex1 ex2
      gi_wp2
      refine ⟨trivial, ?_⟩
      refine (callsIn_wide.2 (hbo _)).mono ?_
      rintro e w1 ⟨rfl, hb1⟩
      obtain ⟨fn, tmps, assign, body, hy, hR⟩ := hY pre x w1 (hJ pre wr w1 none hJp ⟨hb1.os, hb1.tape, hb1.output, hb1.size, fun k hk _ => hb1.block k hk⟩ (fun r e => by cases e)) hlen
      gi_wp2
      refine hR.mono ?_
      rintro e W3 (⟨rfl, hJ3, -⟩ | ⟨rfl, hJx3⟩)
      · gi_wp2
        obtain ⟨hp, hbl, ex2⟩ := HH.out
        exact ⟨⟨pre ++ [x], r.drop 64, by rw [ex2], by rw [List.length_drop]; omega, by rw [← hp, hbl, List.append_assoc, List.singleton_append], hJ3⟩, by rw [ex2]; show (B _).size < (B r).size; rw [B_size, B_size, List.length_drop]; omega⟩
      · gi_wp2
        refine bodyPost_ret (results_none rfl _ _ _) rfl ?_
        exact ⟨⟨_, rfl⟩, .inr ⟨_, trivial, hJx3⟩⟩
    · have hlt : (r.length : Int) < 64 := by omega
      rw [blks_nil (by omega), List.append_nil] at hp
      have HH := Lib.hid hp
      clear hp
      gi_wp2
      go_end0
      exact ⟨⟨_, rfl⟩, .inl ⟨pre, HH.out, hJp⟩⟩
end Go.Proofs.YtlimkbnnjhjcgaaDoor
