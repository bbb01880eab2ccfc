/- A Builder of the law's own, and all text octets. -/
import Derived.Test.YtieklokffmjcfaaDoorOctI
import Derived.Deep.OwnRows
namespace Go.Proofs.YtieklokffmjcfaaDoor
open Go.RowKit Vo
attribute [local go_sem ↓] Go.wp_at_zero Go.wp_at_succ

theorem sizeBd : (Tryd.prog.info? 72).map (·.size) = some 2 := by kernel_rfl
theorem liesBd : liesAt Tryd.prog Tryd.prog.depth 72 (2 / Tryd.prog.cellsOf 72) 0 72 1 = true := by kernel_rfl

/-- the builder's block, with the octets that it holds; 'p': what its first cell holds -/
abbrev Bd (B b : Nat) (p : Value) (l : List UInt8) (w : World) : Prop := Lib.BuilderAt 72 5 B b p (Lib.byteCells l) w
abbrev me (b : Nat) : Value := .pointer (some ⟨b, 0, none⟩)

set_option maxHeartbeats 1000000 in
set_option maxRecDepth 100000 in
theorem check_any (B b : Nat) (p : Value) (l : List UInt8) (w : World) (hp : p = .pointer none ∨ p = me b) (h : Bd B b p l w) :
    Calls Tryd.prog 72 #[me b] w fun e w' => e = .returned (.tuple #[]) ∧ Bd B b (me b) l w' ∧ Below B w w' := by
  obtain ⟨j, hj, hjs⟩ := Option.map_eq_some_iff.1 sizeBd
  have h0 := h.cell0
  rcases hp with rfl | rfl
  · have r1 := Lib.run_to_unsafe (P := Tryd.prog) w ⟨b, 0, none⟩ Tryd.underlying69 Tryd.underlying101 hj (by rw [hjs]; decide) h.shape (Nat.zero_lt_succ 1)
    have r2 : (callFunc 80 #[me b]).run Tryd.prog w = .ok (.value (me b)) w := by
      rw [run_callFunc_extern Tryd.func80 (by kernel_rfl) (by kernel_rfl) (by kernel_rfl) (e := Extern.AbiNoEscape.same) (by kernel_rfl), Lib.run_noEscape]
      rfl
    have r3 := Lib.run_from_unsafe (P := Tryd.prog) w ⟨b, 0, none⟩ Tryd.underlying101 Tryd.underlying69 hj h.shape liesBd
    have hf := h.frozen0
    have H := Lib.hid h
    clear h
    go_enter Tryd.func72, Tryd.ntmps72
    go_wp2_with fail
    go_end0
    exact ⟨rfl, H.out.used _, (Below.refl B w).setCell (p := ⟨b, 0, none⟩) H.out.1 _⟩
  · have r4 := Lib.run_neq_ptr_same (P := Tryd.prog) w ⟨b, 0, none⟩ Tryd.underlying69 hj
    have H := Lib.hid h
    clear h
    go_enter Tryd.func72, Tryd.ntmps72
    go_wp2_with fail
    go_end0
    exact ⟨rfl, H.out, Below.refl _ _⟩

/-- what an appended octet makes of a builder -/
theorem bd_put {B b cap g : Nat} {v : Value} {l : List UInt8} {c : UInt8} {w1 w2 : World} (hB : B ≤ b) (hk : w1.heap[b]? = some (.cells #[me b, v] 72 (0, 0))) (hne : v.ownBlock ≠ some b)
    (o : Obj) (hg : (w1.alloc o).grownBy w2 v.ownBlock) (h2 : w2.ownsRow B 5 1 (.slice (some ⟨g, 0, none⟩) ((Lib.byteCells l).length + 1) cap) ((Lib.byteCells l).length + 1) (Lib.byteCells l ++ [.int .u8 c.toNat])) :
    w2.heap[b]? = some (.cells #[me b, v] 72 (0, 0)) ∧ Bd B b (me b) (l ++ [c]) (w2.setCell ⟨b, 1, none⟩ (.slice (some ⟨g, 0, none⟩) ((Lib.byteCells l).length + 1) cap)) := by
  have hlt : b < w1.heap.size := (Array.getElem?_eq_some_iff.1 hk).1
  have e : w2.heap[b]? = some (.cells #[me b, v] 72 (0, 0)) := by
    rw [hg.block b (by simp; omega) (fun e => hne e.symm), Below.heap_alloc w1 o b hlt]
    exact hk
  have hl : Lib.byteCells l ++ [.int .u8 c.toNat] = Lib.byteCells (l ++ [c]) := by simp [Lib.byteCells]
  refine ⟨e, Lib.BuilderAt.put hB e ?_ (by decide)⟩
  rw [← hl, List.length_append]
  exact h2

set_option maxHeartbeats 2000000 in
set_option maxRecDepth 100000 in
theorem writeByte_any (B b : Nat) (p : Value) (l : List UInt8) (c : UInt8) (w : World) (hp : p = .pointer none ∨ p = me b) (h : Bd B b p l w) (hlen : l.length ≤ 1000) (hBw : B ≤ w.heap.size) :
    Calls Tryd.prog 53 #[me b, .int .u8 c.toNat] w fun e w' => e = .returned .nilIface ∧ Bd B b (me b) (l ++ [c]) w' ∧ Below B w w' := by
  obtain ⟨i0, hi, hz0, hz1, hz2⟩ := info_parts infoU8
  have hll : (Lib.byteCells l).length ≤ 1000 := by simp [Lib.byteCells]; omega
  go_enter Tryd.func53, Tryd.ntmps53
  go_wp2_with fail
  refine (check_any B b p l _ hp h).mono ?_
  rintro e w1 ⟨rfl, ⟨hB, v, hbk, hown, hne⟩, hb1⟩
  have hz := hb1.size
  have c1 : w1.cell? ⟨b, 1, none⟩ = some v := by rw [Lib.cell_of_heap hbk]; rfl
  have HA := Lib.hid (And.intro hbk (And.intro hown (And.intro hne hb1)))
  have hnew : (∀ j x, [Value.int .u8 (c.toNat : Int)][j]? = some x → (w1.alloc (.cells #[.int .u8 (c.toNat : Int)] 5)).cell? ((⟨w1.heap.size, 0, none⟩ : Addr).add j) = some x) ∧ ∀ x ∈ [Value.int .u8 (c.toNat : Int)], x.oneCell' = true := by
    refine ⟨fun j x hj => ?_, fun x hx => by rw [List.mem_singleton.1 hx]; rfl⟩
    rw [addr_plain, cell_of_row _ w1.heap.size _ _ _ (0, 0) (heap_alloc_new w1 _), Nat.zero_add, ← hj]
    simp
  clear hbk hne hb1 h hp
  go_wp2_with (at_builtin; refine wpList_append_own _ rfl _ _ 70 rfl B 5 i0 (.int .u8 0) 1 1 Tryd.underlying70 hi hz0 hz1 hz2 rfl (by decide) _ _ _ rfl (hown.alloc _) ⟨w1.heap.size, 0, none⟩ 1 1 [.int .u8 c.toNat] rfl rfl hnew.1 hnew.2 (by unfold maxLen; omega) (by omega) (by simp; omega) ?_)
  intro v' w2 hown' hgrow _
  obtain ⟨hbk, _, hne, hb1⟩ := HA.out
  obtain ⟨g, cap, rfl⟩ : ∃ g cap, v' = .slice (some ⟨g, 0, none⟩) ((Lib.byteCells l).length + 1) cap := by
    rcases hown'.2 with ⟨_, h0⟩ | ⟨g, cap, cur, hv, _⟩
    · omega
    · exact ⟨g, cap, hv⟩
  obtain ⟨hb2, hfin⟩ := bd_put hB hbk hne _ hgrow hown'
  have hbel : Below B w (w2.setCell ⟨b, 1, none⟩ (.slice (some ⟨g, 0, none⟩) ((Lib.byteCells l).length + 1) cap)) :=
    Below.setCell (p := ⟨b, 1, none⟩) (Below.grown (hb1.alloc (by omega) _) hgrow (by simp; omega) (fun k hk => (hown.lt k hk).1)) hB _
  have d1 : w2.cell? ⟨b, 1, none⟩ = some v := by rw [Lib.cell_of_heap hb2]; rfl
  have f1 : w2.frozen? ⟨b, 1, none⟩ = false := Lib.frozen_of_heap hb2 1
  clear hbk hne hb1 HA hown hown' hgrow hnew c1 hb2
  go_wp2_with fail
  go_ret
  exact ⟨rfl, hfin, hbel⟩

/-- the first k text octets -/
def pr (k : Nat) : List UInt8 := (List.range k).map fun i => UInt8.ofNat (32 + i)
theorem pr_succ (k : Nat) : pr (k + 1) = pr k ++ [UInt8.ofNat (32 + k)] := by simp [pr, List.range_succ]
theorem pr_length (k : Nat) : (pr k).length = k := by simp [pr]

set_option maxHeartbeats 2000000 in
set_option maxRecDepth 100000 in
theorem printable_any (w : World) :
    Calls Tryd.prog 27 #[] w fun e w' => e = .returned (.string (B (pr 95))) ∧ Below w.heap.size w w' := by
  have hst : Bd w.heap.size w.heap.size (.pointer none) (pr 0) (w.alloc (.cells #[.pointer none, .slice none 0 0] 72)) :=
    ⟨Nat.le_refl _, .slice none 0 0, heap_alloc_new w _, ⟨rfl, Or.inl ⟨rfl, rfl⟩⟩, fun h => by cases h⟩
  have hb0 : Below w.heap.size w (w.alloc (.cells #[.pointer none, .slice none 0 0] 72)) := (Below.refl _ _).alloc (Nat.le_refl _) _
  have H := Lib.hid (And.intro hst hb0)
  clear hst hb0
  go_enter Tryd.func27, Tryd.ntmps27
  go_wp2_with fail
  go_loopg [2] 95 (fun r cv W => ∃ (k : Nat) (p : Value), r = 95 - k ∧ cv = .int .u8 ((32 + k : Nat) : Int) ∧ k ≤ 95 ∧ (p = .pointer none ∨ p = me w.heap.size) ∧ Bd w.heap.size w.heap.size p (pr k) W ∧ Below w.heap.size w W)
  case atStart => exact ⟨0, _, rfl, rfl, by omega, Or.inl rfl, H.out.1, H.out.2⟩
  case round =>
    obtain ⟨k, p, rfl, rfl, hk, hp, hbd, hb⟩ := hrel
    by_cases hlt : k < 95
    · have hc : ((UInt8.ofNat (32 + k)).toNat : Int) = ((32 + k : Nat) : Int) := by rw [UInt8.toNat_ofNat']; omega
      have hw := writeByte_any w.heap.size w.heap.size p (pr k) (UInt8.ofNat (32 + k)) wr hp hbd (by rw [pr_length]; omega) hb.size
      rw [hc, ← pr_succ] at hw
      have b1 : ((32 + k : Nat) : Int) < 127 := by omega
      have HB := Lib.hid (And.intro hb hk)
      clear hc hp hbd hb hk
      go_wp2_with fail
      refine hw.mono ?_
      rintro e w2 ⟨rfl, hbd, hb2⟩
      clear hw
      go_wp2_with fail
      go_roundg (95 - (k + 1))
      case measure => omega
      case rel => exact ⟨k + 1, _, rfl, by go_num, by omega, Or.inr rfl, hbd, HB.out.1.trans hb2⟩
    · obtain rfl : k = 95 := by omega
      have hs : Lib.IsBuilder 72 5 w.heap.size w.heap.size (Lib.byteCells (pr 95)) wr := by
        rcases hp with rfl | rfl
        · exact Or.inl hbd
        · exact Or.inr hbd
      have h9 := Tryd.Builder_String_any w.heap.size w.heap.size (pr 95) wr hs hb.size
      have HB := Lib.hid hb
      clear hs hbd hb hp hk
      go_wp2_with fail
      refine h9.mono ?_
      rintro e w2 ⟨rfl, hb2⟩
      go_wp2_with fail
      go_ret
      exact ⟨rfl, HB.out.trans hb2⟩
end Go.Proofs.YtieklokffmjcfaaDoor
