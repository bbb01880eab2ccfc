/- Package digest: more octets; numbers as octets. -/
import Derived.Test.YtlimkbnnjhjcgaaDoorDigG
import Derived.Laws.BytesString
import Derived.Laws.MakeOwn
import Derived.Laws.AppendOwn
import Derived.Lib.FrozenHead
import Derived.Laws.IdiomStrings
import Derived.Deep.OwnRows
namespace Go.Proofs.YtlimkbnnjhjcgaaDoor
open Go.RowKit Vo
attribute [local go_sem ↓] Go.wp_at_zero Go.wp_at_succ

def zp : Array Value := #[.int .u32 0, .int .u32 0, .int .u32 0, .int .u32 0, .int .i64 0, .string ⟨#[]⟩]
theorem one6 (q : Q) (n : Int) (r : List UInt8) : (pg q n r).all (·.oneCell') = true := by kernel_rfl

set_option maxRecDepth 100000 in
set_option maxHeartbeats 2000000 in
theorem more_any (q : Q) (n : Nat) (r s : List UInt8) (w : World) (hq : OkQ q) (hK : KT w) (hn : n ≤ 1000000) (hr : r.length ≤ 100000) (hs : s.length ≤ 100000) :
    Calls Tryd.prog 31 #[.agg (pg q n r), .string (B s)] w fun e w' => e = .returned (.agg (pg (chg q (r ++ s)) ((n + s.length : Nat) : Int) (restL (r ++ s)))) ∧ Below w.heap.size w w' := by
  have hz := B_size s
  have hz2 := B_size r
  have hmf := mkf
  have hcat : B r ++ B s = B (r ++ s) := B_append _ _
  go_enter Tryd.func31, Tryd.ntmps31
  go_wp2_with fail
  have hb2 : Below w.heap.size w ((w.alloc (.cells (pg q ((n : Int) + (s.length : Int)) r) 60)).alloc (.cells zp 60)) := ((Below.refl _ _).alloc (Nat.le_refl _) _).alloc (by simp) _
  refine (each_any (r ++ s) (by rw [List.length_append]; omega) w.heap.size q ((n : Int) + (s.length : Int)) r _ hq (hK.step hb2) (Fr.old (Fr.new rfl))).mono ?_
  rintro e w1 ⟨rfl, hP, hG⟩
  have hZ : Fr w1 (w.heap.size + 1) zp 60 := Fr.grown (Fr.new (by simp)) hG (fun e => by have := Option.some.inj e; omega)
  have hb3 : Below w.heap.size w w1 := hb2.grown hG (by simp; omega) (fun k e => by cases e; exact Nat.le_refl _)
  have hP2 : Fr (w1.setCell ⟨w.heap.size, 5, none⟩ (.string (B (restL (r ++ s))))) w.heap.size (pg (chg q (r ++ s)) ((n : Int) + (s.length : Int)) (restL (r ++ s))) 60 := hP.set
  have hZ2 := Fr.far (o := 5) (v := .string (B (restL (r ++ s)))) (show w.heap.size + 1 ≠ w.heap.size by omega) hZ
  have c5 := hP.cell 5
  have f5 := hP.frozen 5
  clear hP hG hZ hb2
  go_wp2_with (first | (refine wpList_load_row rfl 60 _ rfl _ rfl _ _ _ _ hP2 Tryd.underlying60 rfl size60 ?_) | (refine wpList_store_row rfl 60 _ _ rfl _ _ rfl rfl _ _ hZ2 size60 rfl (one6 _ _ _) ?_))
  refine bodyPost_ret (v := .agg (pg (chg q (r ++ s)) ((n : Int) + (s.length : Int)) (restL (r ++ s)))) (results_cell_row rfl _ _ (w.heap.size + 1) _ _ _ _ rfl (setRow_heap _ _ _ _ _ _ hZ2) Tryd.underlying60 rfl size60) rfl ⟨?_, below_setRow (hb3.setCell (p := ⟨_, _, _⟩) (Nat.le_refl _) _) (by omega) _⟩
  rw [Int.natCast_add]

theorem infoU8 : (Tryd.prog.info? 5).map (fun i => (i.zero, i.size, i.bytes)) = some (some (.int .u8 0), 1, 1) := by kernel_rfl
theorem addr_plain (g o j : Nat) : (⟨g, o, none⟩ : Addr).add j = ⟨g, o + j, none⟩ := by simp [Addr.add]
theorem les_snoc (x k : Nat) : les x (k + 1) = les x k ++ [UInt8.ofNat (x / 2 ^ (8 * k) % 256)] := by
  induction k generalizing x with
  | zero => simp [les]
  | succ k ih =>
    rw [les, ih, les, List.cons_append, Nat.div_div_eq_div_mul, show 256 * 2 ^ (8 * k) = 2 ^ (8 * (k + 1)) by rw [Nat.mul_add, Nat.pow_add]; omega]
theorem bc_append (l : List UInt8) (c : UInt8) : Lib.byteCells l ++ [.int .u8 c.toNat] = Lib.byteCells (l ++ [c]) := by simp [Lib.byteCells]
theorem bc_length (l : List UInt8) : (Lib.byteCells l).length = l.length := by simp [Lib.byteCells]

/-- a slice of octets of the call's own, the mark of a conversion behind it, or none -/
def ownM (w : World) (B0 : Nat) (v : Value) (l : List UInt8) : Prop :=
  w.ownsRow B0 5 1 v l.length (Lib.byteCells l) ∨
  ∃ g cap cur fz, v = .slice (some ⟨g, 0, none⟩) l.length cap ∧ B0 ≤ g ∧ w.heap[g]? = some (.cells cur 5 fz) ∧ l.length ≤ cap ∧ cap ≤ maxLen ∧ cur.size = cap ∧ cur.toList.take l.length = Lib.byteCells l ∧ cap ≤ fz.1
theorem ownM.kept {w w' : World} {B0 : Nat} {v : Value} {l : List UInt8} (h : ownM w B0 v l) (hb : Below w.heap.size w w') : ownM w' B0 v l := by
  rcases h with h | ⟨g, cap, cur, fz, h1, h2, h3, h4⟩
  · exact Or.inl (h.kept (row := none) ⟨hb.os, hb.tape, hb.output, hb.size, fun k hk _ => hb.block k hk⟩ (by cases v.ownBlock <;> simp))
  · exact Or.inr ⟨g, cap, cur, fz, h1, h2, (hb.block g (Array.getElem?_eq_some_iff.1 h3).1).trans h3, h4⟩
theorem ownM.lt {w : World} {B0 : Nat} {v : Value} {l : List UInt8} (h : ownM w B0 v l) : ∀ k, v.ownBlock = some k → B0 ≤ k := by
  rcases h with h | ⟨g, cap, cur, fz, rfl, h2, h3, h4⟩
  · exact fun k hk => (h.lt k hk).1
  · intro k hk
    cases hk
    exact h2
theorem ownM.cells {w : World} {B0 : Nat} {v : Value} {l : List UInt8} (h : ownM w B0 v l) (h0 : l ≠ []) : ∃ g cap, v = .slice (some ⟨g, 0, none⟩) l.length cap ∧ ∀ j u, (Lib.byteCells l)[j]? = some u → w.cell? ((⟨g, 0, none⟩ : Addr).add j) = some u := by
  rcases h with h | ⟨g, cap, cur, fz, rfl, h2, h3, h4, h5, h6, h7, h8⟩
  · rcases h.2 with ⟨_, hl⟩ | ⟨g, cap, cur, rfl, _⟩
    · exact absurd (List.length_eq_zero_iff.1 hl) h0
    · refine ⟨g, cap, rfl, fun j u hj => ?_⟩
      have hjl : j < l.length := by
        have := (List.getElem?_eq_some_iff.1 hj).1
        rwa [bc_length] at this
      rw [addr_plain, Nat.zero_add, World.ownsRow.cellAt h j (by omega)]
      exact hj
  · refine ⟨g, cap, rfl, fun j u hj => ?_⟩
    rw [addr_plain, Nat.zero_add, cell_of_row w g j cur _ fz h3]
    rw [← h7, List.getElem?_take] at hj
    split at hj
    · simpa using hj
    · cases hj
theorem append_mark (w : World) (B0 : Nat) (v : Value) (l : List UInt8) (c : UInt8) (ty : TypeId) (h : ownM w B0 v l) (hl : l.length ≤ 100000) (hB : B0 ≤ w.heap.size) (ad : Addr)
    (hnews : ∀ j u, [Value.int .u8 (c.toNat : Int)][j]? = some u → w.cell? (ad.add j) = some u) (h1 : ∀ u ∈ [Value.int .u8 (c.toNat : Int)], u.oneCell' = true) :
    ∃ v' w', (Builtin.append_ #[34, 34] ty #[v, .slice (some ad) 1 1]).run Tryd.prog w = .ok v' w' ∧ ownM w' B0 v' (l ++ [c]) ∧ w.grownBy w' v.ownBlock := by
  obtain ⟨i, hi, hz, hs, hby⟩ := info_parts infoU8
  rcases h with h | ⟨g, cap, cur, fz, rfl, h2, h3, h4, h5, h6, h7, h8⟩
  · obtain ⟨v', w', r1, r2, r3, _⟩ := run_append_own (P := Tryd.prog) w B0 34 ty 5 i (.int .u8 0) 1 1 Tryd.underlying34 hi hz hs hby rfl (by decide) v l.length (Lib.byteCells l) h ad 1 1 [.int .u8 c.toNat] rfl hnews h1 (by unfold maxLen; omega) (by omega) hB
    exact ⟨v', w', r1, Or.inl (by rw [← bc_append, List.length_append]; exact r2), r3⟩
  · have hbc := bc_length l
    by_cases hroom : l.length + 1 ≤ cap
    · have hlt : l.length < cur.size := by omega
      have hcell : w.cell? ⟨g, l.length, none⟩ = some cur[l.length] := by simp [World.cell?, h3, hlt]
      have hfro : w.frozen? ⟨g, l.length, none⟩ = false := by
        obtain ⟨lo, hi'⟩ := fz
        simp only [World.frozen?, h3, Bool.and_eq_false_iff, decide_eq_false_iff_not]
        left
        simp only at h8
        omega
      have hf := run_firstCells_some (P := Tryd.prog) w 1 1 ad 1 1 [.int .u8 c.toNat] rfl hnews
      have hst : (storeCells ⟨g, l.length, none⟩ [.int .u8 (c.toNat : Int)]).run Tryd.prog w = .ok () (w.setRow g (cur.setIfInBounds l.length (.int .u8 c.toNat))) := by
        have hadd : (⟨g, l.length, none⟩ : Addr).add 0 = ⟨g, l.length, none⟩ := addr_plain _ _ _
        simp only [storeCells, Sem.run_bind, hadd, run_store Tryd.prog w _ _ _ (h1 _ (List.mem_singleton.2 rfl)), hcell, hfro]
        simp [setCell_eq_setRow w g l.length cur _ fz _ h3]
      refine ⟨.slice (some ⟨g, 0, none⟩) (l.length + 1) cap, w.setRow g (cur.setIfInBounds l.length (.int .u8 (c.toNat : Int))), ?_, Or.inr ⟨g, cap, cur.setIfInBounds l.length (.int .u8 (c.toNat : Int)), fz, by rw [List.length_append]; rfl, h2, setRow_heap w g cur _ _ _ h3, by rw [List.length_append]; exact hroom, h5, by simpa using h6, ?_, h8⟩, ⟨rfl, rfl, rfl, by simp, fun k _ hk => setRow_other w g k _ (fun e => hk (by simp [Value.ownBlock, e]))⟩⟩
      · simp [Builtin.append_, run_underlying Tryd.underlying34, sizeOf, typeInfo, hi, hs, Builtin.lenOf, hroom, hf, Addr.add_lit, hst]
      · rw [← bc_append, ← h7, List.length_append, List.length_singleton, Array.toList_setIfInBounds, List.take_add_one, List.take_set_of_le (Nat.le_refl _)]
        simp [hlt]
    · have holds : ∀ j u, (Lib.byteCells l)[j]? = some u → w.cell? ((⟨g, 0, none⟩ : Addr).add j) = some u := fun j u hj => by
        rw [addr_plain, Nat.zero_add, cell_of_row w g j cur _ fz h3]
        rw [← h7, List.getElem?_take] at hj
        split at hj
        · simpa using hj
        · cases hj
      have hr := run_append_grow (P := Tryd.prog) w 34 ty 5 i (.int .u8 0) Tryd.underlying34 hi hz ⟨g, 0, none⟩ l.length cap (Lib.byteCells l) (by rw [hs, hbc]; omega) holds ad 1 1 [.int .u8 c.toNat] (by rw [hs]; rfl) hnews (by omega) (by omega) (growslice_fits (by omega) (by rw [hby]; omega))
      have hge := grownCap_ge w (l.length + 1) cap 5
      have hcm2 : grownCap w (l.length + 1) cap 5 ≤ maxLen := grownCap_le_maxLen w (l.length + 1) cap 5 (by unfold maxLen; omega)
      have hlen : (Lib.byteCells l ++ [Value.int .u8 (c.toNat : Int)]).length = l.length + 1 := by rw [List.length_append, hbc]; rfl
      refine ⟨_, _, hr, Or.inl ?_, ⟨rfl, rfl, rfl, by simp, fun k hk _ => heap_alloc_old w.drew _ hk⟩⟩
      rw [← bc_append, List.length_append]
      refine ⟨by rw [hlen]; simp, .inr ⟨w.heap.size, _, _, rfl, hB, heap_alloc_new w.drew _, hge, hcm2, ?_, ?_⟩⟩
      · simp only [Array.size_append, List.size_toArray, size_zeroCells, hbc, List.length_singleton, show (Value.int IntKind.u8 0).cells.size = 1 from rfl]
        omega
      · simp only [Array.toList_append, List.append_assoc]
        rw [← List.append_assoc, List.length_singleton, Nat.mul_one, ← hlen]
        exact List.take_left
theorem wpList_append_mark (w : World) {ops : Array Oper} {rest : List Oper} {o : Oper} {a : Act} {Q : Exit → Act → World → Prop} (hgd : o.guard = none) (s x : Operand)
    (ho : o.op = .call { callee := .builtin .append, args := #[s, x], argTypes := #[34, 34] }) (B0 : Nat) (v : Value) (l : List UInt8) (c : UInt8) (hs : a.eval s = v) (hown : ownM w B0 v l) (hl : l.length ≤ 100000) (hB : B0 ≤ w.heap.size)
    (ad : Addr) (hx : a.eval x = .slice (some ad) 1 1) (hnews : ∀ j u, [Value.int .u8 (c.toNat : Int)][j]? = some u → w.cell? (ad.add j) = some u) (h1 : ∀ u ∈ [Value.int .u8 (c.toNat : Int)], u.oneCell' = true)
    (h : ∀ v' w', ownM w' B0 v' (l ++ [c]) → w.grownBy w' v.ownBlock → wpList Tryd.prog ops Q rest (a.put o.dst v') w') : wpList Tryd.prog ops Q (o :: rest) a w := by
  refine wpList_plain hgd fun K hK => ?_
  obtain ⟨v', w', hr, h2, h3⟩ := append_mark w B0 v l c o.type hown hl hB ad hnews h1
  unfold Oper.wp execOp
  simp only [ho, resolve, invoke, builtin, Sem.run_bind, Sem.run_pure, Result.andThen_ok, List.map_toArray, List.map_cons, List.map_nil, hs, hx, hr]
  exact hK _ _ (h v' w' h2 h3)

set_option maxHeartbeats 2000000 in
set_option maxRecDepth 100000 in
theorem little_any (B0 : Nat) (v : Value) (xs : List UInt8) (n k : Nat) (w : World) (hB : B0 ≤ w.heap.size) (hown : ownM w B0 v xs) (hx : xs.length ≤ 1000) (hk : k ≤ 8) (_hn : n < 4611686018427387904) :
    Calls Tryd.prog 67 #[v, .int .i64 n, .int .i64 k] w fun e w' => ∃ v', e = .returned v' ∧ ownM w' B0 v' (xs ++ les n k) ∧ Below B0 w w' := by
  go_enter Tryd.func67, Tryd.ntmps67
  go_wp2_with fail
  go_loopg [0, 7, 9] k (fun r ov iv cv W => ∃ i : Nat, r = k - i ∧ cv = .int .i64 i ∧ i ≤ k ∧ ownM W B0 ov (xs ++ les n i) ∧ Below B0 w W)
  case atStart => exact ⟨0, rfl, rfl, by omega, by rw [les, List.append_nil]; exact hown, Below.refl _ _⟩
  case round =>
    obtain ⟨i, rfl, rfl, hik, ho, hb⟩ := hrel
    by_cases hlt : i < k
    · obtain ⟨c, hc⟩ : ∃ c : UInt8, UInt8.ofNat (n / 2 ^ (8 * i) % 256) = c := ⟨_, rfl⟩
      have hcv : (n : Int) / 2 ^ (8 * i) % 256 = (c.toNat : Int) := by
        rw [← hc, UInt8.toNat_ofNat']
        have : ((n : Int) / 2 ^ (8 * i)) = ((n / 2 ^ (8 * i) : Nat) : Int) := by simp
        rw [this]
        omega
      have hls := les_snoc n i
      rw [hc] at hls
      have b1 : (i : Int) < (k : Int) := by omega
      have b2 : (0 : Int) ≤ 8 * (i : Int) := by omega
      have hnew : (∀ j x, [Value.int .u8 (c.toNat : Int)][j]? = some x → (wr.alloc (.cells #[.int .u8 (c.toNat : Int)] 5)).cell? ((⟨wr.heap.size, 0, none⟩ : Addr).add j) = some x) ∧ ∀ x ∈ [Value.int .u8 (c.toNat : Int)], x.oneCell' = true := by
        refine ⟨fun j x hj => ?_, fun x hx => by rw [List.mem_singleton.1 hx]; rfl⟩
        rw [addr_plain, cell_of_row _ wr.heap.size _ _ _ (0, 0) (heap_alloc_new wr _), Nat.zero_add, ← hj]
        simp
      have HH := Lib.hid (And.intro hls hb)
      have hsz := hb.size
      clear hls hc hb
      have hlx : (xs ++ les n i).length ≤ 100000 := by rw [List.length_append, les_length]; omega
      go_wp2_with (at_builtin; refine wpList_append_mark _ rfl _ _ rfl B0 _ (xs ++ les n i) c rfl (ho.kept ((Below.refl _ _).alloc (Nat.le_refl _) _)) hlx (by simp; omega) ⟨wr.heap.size, 0, none⟩ rfl hnew.1 hnew.2 ?_)
      intro v' w2 hown' hgrow
      go_wp2_with fail
      go_roundg (k - (i + 1))
      case measure => omega
      case rel =>
        obtain ⟨hls, hb⟩ := HH.out
        exact ⟨i + 1, rfl, by go_num, by omega, by rw [hls]; exact hown', Below.grown (hb.alloc (by omega) _) hgrow (by simp; omega) ho.lt⟩
    · obtain rfl : i = k := by omega
      go_wp2_with fail
      go_ret
      exact ⟨_, rfl, ho, hb⟩
end Go.Proofs.YtlimkbnnjhjcgaaDoor
