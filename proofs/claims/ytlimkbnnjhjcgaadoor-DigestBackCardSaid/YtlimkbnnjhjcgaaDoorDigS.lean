/- A Builder of the program's own; Hex. -/
import Derived.Test.YtlimkbnnjhjcgaaDoorDigR
import Derived.Lib.BufferWrite
namespace Go.Proofs.YtlimkbnnjhjcgaaDoor
open Go.RowKit Vo
attribute [local go_sem ↓] Go.wp_at_zero Go.wp_at_succ

theorem sizeBd : (Tryd.prog.info? 72).map (·.size) = some 2 := by kernel_rfl
theorem liesBd : liesAt Tryd.prog Tryd.prog.depth 72 (2 / Tryd.prog.cellsOf 72) 0 72 1 = true := by kernel_rfl

/-- the builder's block, with the octets that it holds; 'p': what its first cell holds -/
abbrev Bd (B b : Nat) (p : Value) (l : List UInt8) (w : World) : Prop := Lib.BuilderAt 72 5 B b p (Lib.byteCells l) w
abbrev me (b : Nat) : Value := .pointer (some ⟨b, 0, none⟩)

set_option maxHeartbeats 1000000 in
set_option maxRecDepth 100000 in
theorem copyCheck_any (B b : Nat) (p : Value) (l : List UInt8) (w : World) (hp : p = .pointer none ∨ p = me b) (h : Bd B b p l w) :
    Calls Tryd.prog 57 #[me b] w fun e w' => e = .returned (.tuple #[]) ∧ Bd B b (me b) l w' ∧ Below B w w' := by
  obtain ⟨j, hj, hjs⟩ := Option.map_eq_some_iff.1 sizeBd
  have h0 := h.cell0
  rcases hp with rfl | rfl
  · have r1 := Lib.run_to_unsafe (P := Tryd.prog) w ⟨b, 0, none⟩ Tryd.underlying70 Tryd.underlying117 hj (by rw [hjs]; decide) h.shape (Nat.zero_lt_succ 1)
    have r2 : (callFunc 72 #[me b]).run Tryd.prog w = .ok (.value (me b)) w := by
      rw [run_callFunc_extern Tryd.func72 (by kernel_rfl) (by kernel_rfl) (by kernel_rfl) (e := Extern.AbiNoEscape.same) (by kernel_rfl), Lib.run_noEscape]
      rfl
    have r3 := Lib.run_from_unsafe (P := Tryd.prog) w ⟨b, 0, none⟩ Tryd.underlying117 Tryd.underlying70 hj h.shape liesBd
    have hf := h.frozen0
    have H := Lib.hid h
    clear h
    go_enter Tryd.func57, Tryd.ntmps57
    go_wp2_with fail
    go_end0
    exact ⟨rfl, H.out.used _, (Below.refl B w).setCell (p := ⟨b, 0, none⟩) H.out.1 _⟩
  · have r4 := Lib.run_neq_ptr_same (P := Tryd.prog) w ⟨b, 0, none⟩ Tryd.underlying70 hj
    have H := Lib.hid h
    clear h
    go_enter Tryd.func57, Tryd.ntmps57
    go_wp2_with fail
    go_end0
    exact ⟨rfl, H.out, Below.refl _ _⟩

/-- what an appended octet makes of a builder -/
theorem bd_put {B b cap g : Nat} {v : Value} {l : List UInt8} {c : UInt8} {w1 w2 : World} (hB : B ≤ b) (hk : w1.heap[b]? = some (.cells #[me b, v] 72 (0, 0))) (hne : v.ownBlock ≠ some b)
    (o : Obj) (hg : (w1.alloc o).grownBy w2 v.ownBlock) (h2 : w2.ownsRow B 5 1 (.slice (some ⟨g, 0, none⟩) ((Lib.byteCells l).length + 1) cap) ((Lib.byteCells l).length + 1) (Lib.byteCells l ++ [.int .u8 c.toNat])) :
    w2.heap[b]? = some (.cells #[me b, v] 72 (0, 0)) ∧ Bd B b (me b) (l ++ [c]) (w2.setCell ⟨b, 1, none⟩ (.slice (some ⟨g, 0, none⟩) ((Lib.byteCells l).length + 1) cap)) := by
  have hlt : b < w1.heap.size := (Array.getElem?_eq_some_iff.1 hk).1
  have e : w2.heap[b]? = some (.cells #[me b, v] 72 (0, 0)) := by
    rw [hg.block b (by simp; omega) (fun e => hne e.symm), Below.heap_alloc w1 o b hlt]
    exact hk
  have hl : Lib.byteCells l ++ [.int .u8 c.toNat] = Lib.byteCells (l ++ [c]) := by simp [Lib.byteCells]
  refine ⟨e, Lib.BuilderAt.put hB e ?_ (by decide)⟩
  rw [← hl, List.length_append]
  exact h2

set_option maxHeartbeats 2000000 in
set_option maxRecDepth 100000 in
theorem writeByte_any (B b : Nat) (p : Value) (l : List UInt8) (c : UInt8) (w : World) (hp : p = .pointer none ∨ p = me b) (h : Bd B b p l w) (hlen : l.length ≤ 1000) (hBw : B ≤ w.heap.size) :
    Calls Tryd.prog 39 #[me b, .int .u8 c.toNat] w fun e w' => e = .returned .nilIface ∧ Bd B b (me b) (l ++ [c]) w' ∧ Below B w w' := by
  obtain ⟨i0, hi, hz0, hz1, hz2⟩ := info_parts infoU8
  have hll : (Lib.byteCells l).length ≤ 1000 := by simp [Lib.byteCells]; omega
  go_enter Tryd.func39, Tryd.ntmps39
  go_wp2_with fail
  refine (copyCheck_any B b p l _ hp h).mono ?_
  rintro e w1 ⟨rfl, ⟨hB, v, hbk, hown, hne⟩, hb1⟩
  have hz := hb1.size
  have c1 : w1.cell? ⟨b, 1, none⟩ = some v := by rw [Lib.cell_of_heap hbk]; rfl
  have HA := Lib.hid (And.intro hbk (And.intro hown (And.intro hne hb1)))
  have hnew : (∀ j x, [Value.int .u8 (c.toNat : Int)][j]? = some x → (w1.alloc (.cells #[.int .u8 (c.toNat : Int)] 5)).cell? ((⟨w1.heap.size, 0, none⟩ : Addr).add j) = some x) ∧ ∀ x ∈ [Value.int .u8 (c.toNat : Int)], x.oneCell' = true := by
    refine ⟨fun j x hj => ?_, fun x hx => by rw [List.mem_singleton.1 hx]; rfl⟩
    rw [addr_plain, cell_of_row _ w1.heap.size _ _ _ (0, 0) (heap_alloc_new w1 _), Nat.zero_add, ← hj]
    simp
  clear hbk hne hb1 h hp
  go_wp2_with (at_builtin; refine wpList_append_own _ rfl _ _ 34 rfl B 5 i0 (.int .u8 0) 1 1 Tryd.underlying34 hi hz0 hz1 hz2 rfl (by decide) _ _ _ rfl (hown.alloc _) ⟨w1.heap.size, 0, none⟩ 1 1 [.int .u8 c.toNat] rfl rfl hnew.1 hnew.2 (by unfold maxLen; omega) (by omega) (by simp; omega) ?_)
  intro v' w2 hown' hgrow _
  obtain ⟨hbk, _, hne, hb1⟩ := HA.out
  obtain ⟨g, cap, rfl⟩ : ∃ g cap, v' = .slice (some ⟨g, 0, none⟩) ((Lib.byteCells l).length + 1) cap := by
    rcases hown'.2 with ⟨_, h0⟩ | ⟨g, cap, cur, hv, _⟩
    · omega
    · exact ⟨g, cap, hv⟩
  obtain ⟨hb2, hfin⟩ := bd_put hB hbk hne _ hgrow hown'
  have hbel : Below B w (w2.setCell ⟨b, 1, none⟩ (.slice (some ⟨g, 0, none⟩) ((Lib.byteCells l).length + 1) cap)) :=
    Below.setCell (p := ⟨b, 1, none⟩) (Below.grown (hb1.alloc (by omega) _) hgrow (by simp; omega) (fun k hk => (hown.lt k hk).1)) hB _
  have d1 : w2.cell? ⟨b, 1, none⟩ = some v := by rw [Lib.cell_of_heap hb2]; rfl
  have f1 : w2.frozen? ⟨b, 1, none⟩ = false := Lib.frozen_of_heap hb2 1
  clear hbk hne hb1 HA hown hown' hgrow hnew c1 hb2
  go_wp2_with fail
  go_ret
  exact ⟨rfl, hfin, hbel⟩


theorem ix_o (l : List UInt8) (hl : l.length = 16) (i : Nat) (hi : i < 16) (W : World) : (Instr.index 28 (.agg (bcA l)) (.int .i64 (i : Int))).run Tryd.prog W = .ok (.int .u8 (l.getD i 0).toNat) W := by
  obtain ⟨b0, b1, b2, b3, b4, b5, b6, b7, b8, b9, b10, b11, b12, b13, b14, b15, rfl⟩ : ∃ b0 b1 b2 b3 b4 b5 b6 b7 b8 b9 b10 b11 b12 b13 b14 b15, l = [b0, b1, b2, b3, b4, b5, b6, b7, b8, b9, b10, b11, b12, b13, b14, b15] := by
    match l, hl with
    | [b0, b1, b2, b3, b4, b5, b6, b7, b8, b9, b10, b11, b12, b13, b14, b15], _ => exact ⟨_, _, _, _, _, _, _, _, _, _, _, _, _, _, _, _, rfl⟩
  obtain rfl | rfl | rfl | rfl | rfl | rfl | rfl | rfl | rfl | rfl | rfl | rfl | rfl | rfl | rfl | rfl := (by omega : i = 0 ∨ i = 1 ∨ i = 2 ∨ i = 3 ∨ i = 4 ∨ i = 5 ∨ i = 6 ∨ i = 7 ∨ i = 8 ∨ i = 9 ∨ i = 10 ∨ i = 11 ∨ i = 12 ∨ i = 13 ∨ i = 14 ∨ i = 15)
  all_goals kernel_rfl
theorem hexL_take (l : List UInt8) (i : Nat) (h : i < l.length) : hexL (l.take (i + 1)) = hexL (l.take i) ++ [dig ((l.getD i 0).toNat / 16)] ++ [dig ((l.getD i 0).toNat % 16)] := by
  induction l generalizing i with
  | nil => cases h
  | cons c l ih =>
    cases i with
    | zero => simp [hexL]
    | succ i =>
      have := ih i (by simpa using h)
      simp only [List.take_succ_cons, hexL, this, List.getD_cons_succ, List.cons_append]
theorem dgx (n : Nat) (h : n < 16) {hh} : (⟨#[48, 49, 50, 51, 52, 53, 54, 55, 56, 57, 97, 98, 99, 100, 101, 102]⟩ : ByteArray)[n]'hh = dig n := by
  obtain rfl | rfl | rfl | rfl | rfl | rfl | rfl | rfl | rfl | rfl | rfl | rfl | rfl | rfl | rfl | rfl := (by omega : n = 0 ∨ n = 1 ∨ n = 2 ∨ n = 3 ∨ n = 4 ∨ n = 5 ∨ n = 6 ∨ n = 7 ∨ n = 8 ∨ n = 9 ∨ n = 10 ∨ n = 11 ∨ n = 12 ∨ n = 13 ∨ n = 14 ∨ n = 15)
  all_goals rfl

set_option maxHeartbeats 2000000 in
set_option maxRecDepth 100000 in
theorem hex_any (l : List UInt8) (hl : l.length = 16) (w : World) :
    Calls Tryd.prog 16 #[.agg (bcA l)] w fun e w' => e = .returned (.string (B (hexL l))) ∧ Below w.heap.size w w' := by
  have hf : ∀ o, Fr ((w.alloc (.cells (bcA l) 28)).alloc o) w.heap.size (bcA l) 28 := fun o => Fr.old (Fr.new rfl)
  have hst : Bd w.heap.size (w.heap.size + 1) (.pointer none) (hexL (l.take 0)) ((w.alloc (.cells (bcA l) 28)).alloc (.cells #[.pointer none, .slice none 0 0] 72)) :=
    ⟨by omega, .slice none 0 0, heap_alloc2_new w _ _, ⟨rfl, Or.inl ⟨rfl, rfl⟩⟩, fun h => by cases h⟩
  have hb0 : Below w.heap.size w ((w.alloc (.cells (bcA l) 28)).alloc (.cells #[.pointer none, .slice none 0 0] 72)) := ((Below.refl _ _).alloc (Nat.le_refl _) _).alloc (by simp) _
  have H := Lib.hid (And.intro hst hb0)
  clear hst hb0
  go_enter Tryd.func16, Tryd.ntmps16
  go_wp2_with (refine wpList_load_row rfl 28 _ rfl _ rfl _ _ _ _ (hf _) Tryd.underlying28 rfl (size28.trans (by rw [bcA_size, hl])) ?_)
  go_loopg [7] 16 (fun r cv W => ∃ (k : Nat) (p : Value), r = 16 - k ∧ cv = .int .i64 k ∧ k ≤ 16 ∧ (p = .pointer none ∨ p = me (w.heap.size + 1)) ∧ Bd w.heap.size (w.heap.size + 1) p (hexL (l.take k)) W ∧ Below w.heap.size w W)
  case atStart => exact ⟨0, _, rfl, rfl, by omega, Or.inl rfl, H.out.1, H.out.2⟩
  case round =>
    obtain ⟨k, p, rfl, rfl, hk, hp, hbd, hb⟩ := hrel
    by_cases hlt : k < 16
    · have b1 : (k : Int) < 16 := by omega
      have x1 := fun W => ix_o l hl k hlt W
      generalize hc : l.getD k 0 = c at x1
      have hcl := c.toNat_lt
      have w1 := writeByte_any w.heap.size (w.heap.size + 1) p (hexL (l.take k)) (dig (c.toNat / 16)) wr hp hbd (by rw [hexL_length]; simp; omega) hb.size
      have HB := Lib.hid (And.intro hb (And.intro hk (And.intro hbd hp)))
      clear hp hbd hb hk
      go_wp2_with fail
      rw [dgx _ (by omega)]
      refine w1.mono ?_
      rintro e w2 ⟨rfl, hbd, hb2⟩
      have w3 := writeByte_any w.heap.size (w.heap.size + 1) _ _ (dig (c.toNat % 16)) w2 (Or.inr rfl) hbd (by simp [hexL_length]; omega) (Nat.le_trans HB.out.1.size hb2.size)
      have HC := Lib.hid hb2
      clear w1 hbd hb2
      go_wp2_with fail
      rw [dgx _ (by omega)]
      refine w3.mono ?_
      rintro e w4 ⟨rfl, hbd, hb4⟩
      clear w3
      rw [← hc, ← hexL_take l k (by omega)] at hbd
      go_wp2_with fail
      go_roundg (16 - (k + 1))
      case measure => omega
      case rel => exact ⟨k + 1, _, rfl, by go_num, by omega, Or.inr rfl, hbd, HB.out.1.trans (HC.out.trans hb4)⟩
    · obtain rfl : k = 16 := by omega
      have e16 : hexL (l.take 16) = hexL l := by rw [← hl, List.take_length]
      rw [e16] at hbd
      have hs : Lib.IsBuilder 72 5 w.heap.size (w.heap.size + 1) (Lib.byteCells (hexL l)) wr := by
        rcases hp with rfl | rfl
        · exact Or.inl hbd
        · exact Or.inr hbd
      have h9 := Tryd.Builder_String_any w.heap.size (w.heap.size + 1) (hexL l) wr hs hb.size
      have HB := Lib.hid hb
      clear hs hbd hb hp hk
      go_wp2_with fail
      refine h9.mono ?_
      rintro e w2 ⟨rfl, hb2⟩
      go_wp2_with fail
      go_ret
      exact ⟨rfl, HB.out.trans hb2⟩
end Go.Proofs.YtlimkbnnjhjcgaaDoor
