/- From the row's reading to the walks' words: a draft that came in; the library's variables; the row's last step. What the row's list of variables gives the walks, and the row's last step: the law answered true, and nothing that came in changed. -/
import Derived.Test.YtdclloledfjfjaaGreatDoorLawA
import Derived.Test.YtdclloledfjfjaaGreatDoorRows
import Derived.ProofKit
import Derived.OpenShut
import Derived.LaidMore
import Derived.Lib.SmallJoins
import Derived.Lib.LaidTab
import Derived.MakeChecks
import Derived.DataShut
import Derived.Stop.Joined
import Derived.Test.YtdclloledfjfjaaGreatDoorCards
import Derived.Test.YtdclloledfjfjaaGreatDoorTie
namespace Go.Proofs.YtdclloledfjfjaaGreatDoor
open Go.ChangeShapes Go.WideShapes Go.ChangeAt Go.RowKit Vd

theorem u16_wf {n : Int} (h : (Lit.int .u16 n).wf = true) : 0 ≤ n ∧ n ≤ 65535 := (Lit.wf_int_iff .u16 n).1 h

theorem dropInts (zs : List Int) (h : ∀ n ∈ zs, (Lit.int .u16 n).wf = true) (i : Nat) (hi : i < zs.length) : zs.getD i 0 = ((nth (zs.map Int.toNat) i : Nat) : Int) ∧ nth (zs.map Int.toNat) i < 65536 := by
  have hm : zs[i] ∈ zs := List.getElem_mem hi
  have hw := u16_wf (h _ hm)
  have e1 : zs.getD i 0 = zs[i] := by simp [List.getD, hi]
  have e2 : nth (zs.map Int.toNat) i = (zs[i]).toNat := by unfold nth; simp [hi]
  rw [e1, e2]
  omega

theorem spot_none {w : World} {a : Addr} {v : Value} (h : w.cell? a = some v) : a.spot = none := by
  unfold World.cell? at h
  cases hs : a.spot with
  | none => rfl
  | some k => simp [hs] at h; split at h <;> simp at h

section
variable {H : Type} {enc : TypeId × Value → H}

theorem okOf (xs : List Nat) (h : ∀ i, i < xs.length → nth xs i < 65536) : Ok 65536 xs := by
  intro x hx
  obtain ⟨i, hi, rfl⟩ := List.mem_iff_getElem.1 hx
  have := h i hi
  rwa [nth_lt hi] at this

set_option maxRecDepth 100000 in
/-- A DRAFT THAT CAME IN. -/
theorem open_draft {W : World} {base : Nat} {v : Value} {d : DataW H} {p : List MemPlace} (hv : Value.okWide Tryz.prog W .any base 25 v) (h : DataW.Trod enc Tryz.prog W 0 (fun _ => true) true 25 v d p) :
    ∃ (b : Bool) (A : Option Addr) (n c z : Nat) (xs : List Nat), v = .agg #[.bool b, .slice A n c, .int .u16 (z : Int)] ∧ DraftIn W b A n c z xs := by
  obtain ⟨c0, c1, c2, y0, y1, y2, m, rfl, _, _, hy0, hy1, hy2⟩ := Joins.open_agg3 Tryz.underlying25 (by kernel_rfl) (by kernel_rfl) hv h
  obtain ⟨b, e0, _⟩ := DataW.trod_bool Tryz.underlying4 hy0
  obtain ⟨z, e2, _, wz⟩ := DataW.trod_int Tryz.underlying23 hy2
  simp at e0 e2
  subst e0 e2
  have hz := u16_wf wz
  rcases open_ints Tryz.underlying22 Tryz.underlying23 (by kernel_rfl) hy1 with ⟨e1, _⟩ | ⟨a, len, cap, zs, e1, _, hlc, hcm, hzl, _, hcell, hw⟩
  · simp at e1
    subst e1
    exact ⟨b, none, 0, 0, z.toNat, [], by rw [Int.toNat_of_nonneg hz.1], ⟨Sl.nil, Ok.nil, by omega, by omega⟩⟩
  · simp at e1
    subst e1
    rw [if_pos rfl] at hzl
    have hn : len ≤ 9223372036854775807 := by unfold maxLen at hcm; omega
    have hd := fun i hi => dropInts zs hw i hi
    refine ⟨b, some a, len, cap, z.toNat, (zs.map Int.toNat).take len, by rw [Int.toNat_of_nonneg hz.1], ⟨⟨?_, fun h0 => ?_⟩, ?_, by omega, hn⟩⟩
    · rw [List.length_take, List.length_map]; omega
    · have hs := spot_none (hcell 0 (by omega))
      have hs' : a.spot = none := by simpa [Addr.add] using hs
      obtain ⟨g, o, sp⟩ := a
      simp only at hs'
      subst hs'
      refine ⟨g, o, rfl, ?_, fun i hi => ?_⟩
      · have h1 := World.block_lt_of_cell? W _ (hcell 0 (by omega))
        simpa [Addr.add] using h1
      · have h1 := hcell i (by omega)
        rw [add_plain, (hd i (by omega)).1] at h1
        rw [h1, nth_take hi]
        rfl
    · refine okOf _ fun i hi => ?_
      rw [List.length_take, List.length_map] at hi
      rw [nth_take (by omega)]
      exact (hd i (by omega)).2

theorem trodAll_stays {P : Program} {W W' : World} (hl : laidOutB P = true) (hb : Below W.heap.size W W') (sp : Nat → Bool) : ∀ {ts : List TypeId} {vs : List Value} {ds : List (DataW H)} {ps : List MemPlace},
    (ts.all fun t => P.readableRec t && decide (t < P.types.size)) = true → DataW.TrodAll enc P W 0 (fun _ => true) true ts vs ds ps → (∀ p ∈ ps, p.block < W.heap.size) → (∀ p ∈ ps, sp p.block = true) → DataW.TrodAll enc P W' 0 sp true ts vs ds ps := by
  intro ts
  induction ts with
  | nil =>
    intro vs ds ps _ h _ _
    cases vs <;> cases ds <;> simp [DataW.TrodAll] at h ⊢
    exact h
  | cons t ts ih =>
    intro vs ds ps ht h hlt hsp
    obtain ⟨v, vs', d, ds', p, q, rfl, rfl, rfl, h0, h1⟩ := trodAll_cons h
    simp only [List.all_cons, Bool.and_eq_true, decide_eq_true_eq] at ht
    refine ⟨p, q, WideElems.Trod_stays hl ht.1.1 ht.1.2 h0 (fun x hx => hb.same (hlt x (List.mem_append_left _ hx))) (fun x hx => hsp x (List.mem_append_left _ hx)), ?_, rfl⟩
    exact ih ht.2 h1 (fun x hx => hlt x (List.mem_append_right _ hx)) (fun x hx => hsp x (List.mem_append_right _ hx))
end

end Go.Proofs.YtdclloledfjfjaaGreatDoor

namespace Go.Proofs.YtdclloledfjfjaaGreatDoor
open Go.ChangeShapes Go.WideShapes Go.ChangeAt Go.RowKit Vd

theorem ownKnobNone : ownKnob Tryz.prog.godebug = none := by kernel_rfl
theorem gRange : Tryz.prog.globalNamed "strconv.ErrRange" = some 1 := by kernel_rfl
theorem gRangeT : (Tryz.prog.globals[1]?).map (·.type) = some 96 := by kernel_rfl
theorem gTabT : (Tryz.prog.globals[2]?).map (·.type) = some 256 := by kernel_rfl
theorem tabCells : Tryz.prog.cellsOf 256 = 20 := by kernel_rfl
theorem tabCell : Tryz.prog.cellsOf 182 = 1 := by kernel_rfl

/-- THE VARIABLES THAT THE ROW LISTS: the table of the powers of ten, and the one error that is compared with. -/
theorem gnd_of_laid {W : World} (h : laidMetH Tryz.prog [("math/bits.deBruijn32tab", Rows.laid_math_bits_deBruijn32tab), ("math/bits.deBruijn64tab", Rows.laid_math_bits_deBruijn64tab), ("internal/strconv.uint64pow10", Rows.laid_internal_strconv_uint64pow10), ("strconv.ErrRange", Rows.laid_strconv_ErrRange), ("strconv.ErrSyntax", Rows.laid_strconv_ErrSyntax)] W) : Gnd W := by
  rw [MakeChecks.laidMetH_plain _ _ _ (by kernel_rfl)] at h
  obtain ⟨ps, ⟨_, _, _, _, _, _, _, _, _, _, ⟨_, _, _, _, _, _, _, _, _, _, ⟨g2, t2, cs2, f2, p2, q2, hg2, ht2, hv2, hd2, ⟨g3, t3, cs3, f3, p3, q3, hg3, ht3, hv3, hd3, _, _⟩, _⟩, _⟩, _⟩, _, _⟩ := h
  obtain rfl := Option.some.inj (gTab.symm.trans hg2)
  obtain rfl := Option.some.inj (gRange.symm.trans hg3)
  obtain rfl := Option.some.inj (gTabT.symm.trans ht2)
  obtain rfl := Option.some.inj (gRangeT.symm.trans ht3)
  refine ⟨?_, ?_⟩
  · unfold Lib.TabIs
    rw [hv2, ← Lib.cells_of_tab (zs := Lib.pow10Tab) Tryz.underlying256 Tryz.underlying182 tabCell tabCells hd2]
  · obtain ⟨_, u, v, hc, _, _⟩ := iface_of_trod Tryz.underlying96 hd3
    refine ⟨u, v, ?_⟩
    have := World.var?_cell hg3 hv3 0
    rw [Array.eq_one_of_toList hc] at this
    simpa using this

section
variable {H : Type} {enc : TypeId × Value → H}

/-- THE ROW's LAST STEP. -/
theorem post_true {P : Program} {f : Func} {s : ChangeSpec} {apart fresh handsOn again : Bool} {W W' : World} {args : Array Value} {ds gs : List (DataW H)} {before : List MemPlace} {tb : TypeId}
    (hl : laidOutB P = true) (hp : (f.params.toList.all fun t => P.readableRec t && decide (t < P.types.size)) = true) (htb : P.underlying tb = some .bool) (hr : f.resultTypes = #[tb]) (hs : s.vars = [])
    (hfn : s.fn H (ds ++ gs) = { results := [.lit (.bool true)], args := ds })
    (hW : DataW.Whole enc P f.params.toList s.vars apart W args.toList ds gs before) (hb : Below W.heap.size W W') :
    s.post enc P f apart fresh handsOn again W args (.bool true) W' := by
  have hlt := hW.lt
  have hW' := hW
  obtain ⟨p, q, hA, hV, rfl, hfz, hnd⟩ := hW
  rw [hs] at hV
  obtain ⟨rfl, rfl⟩ := trodVars_none hV
  rw [List.append_nil] at *
  have hres : ∀ (b : Nat) (sp : Nat → Bool) (hd : Bool), DataW.TrodAll enc P W' b sp hd f.resultTypes.toList ((Value.bool true).resultList f.resultTypes.size) [.lit (.bool true)] [] := by
    intro b sp hd
    rw [hr]
    exact trodAll_mk1 (shut_bool htb _)
  have hargs : ∀ sp : Nat → Bool, (∀ x ∈ p, sp x.block = true) → DataW.TrodAll enc P W' 0 sp true f.params.toList args.toList ds p := fun sp hsp => trodAll_stays hl hb sp hp hA hlt hsp
  have hvars : ∀ sp : Nat → Bool, DataW.TrodVars enc P W' sp s.vars ([] : List (DataW H)) [] := by
    intro sp
    rw [hs]
    simp [DataW.TrodVars]
  refine ⟨ds, [], p, [], p, [], hW', ?_, ?_, ?_, hb.frame _, fun _ => ?_⟩
  · rw [List.append_nil, hfn]
    exact hres _ _ _
  · rw [List.append_nil, hfn]
    exact hargs _ fun x hx => by simpa using hlt x hx
  · rw [List.append_nil, hfn]
    exact hvars _
  · refine ⟨ok_one hr rfl (okWide_bool_mk htb _), [.lit (.bool true)] ++ ds, [], p, ⟨p, [], ?_, hvars _, (List.append_nil _).symm, ?_, hnd⟩, fun x hx _ => hx⟩
    · have := trodAll_append (hargs (fun _ => true) fun _ _ => rfl) (hres 0 (fun _ => true) true)
      simpa using this
    · intro b off hx
      rw [hb.frozen (p := ⟨b, off, none⟩) (hlt _ hx)]
      exact hfz b off hx
end

/- numbers of the drafts, and the steps of a law -/
theorem rd_short {x : Int} {k : Nat} (h : x.natAbs < 10 ^ k) (hk : k ≤ 600) : small x := Nat.lt_of_lt_of_le h (Nat.pow_le_pow_right (by omega) (by rw [maxDigits_eq]; exact hk))

theorem wstep {w W : World} {f : FuncId} {args : Array Value} {V : Value} (hS : Wk w W) (h : Calls Tryz.prog f args W fun e w' => e = .returned V ∧ Below W.heap.size W w') : Calls Tryz.prog f args W fun e w' => e = .returned V ∧ Wk w w' :=
  h.mono fun _ _ ⟨he, hb⟩ => ⟨he, hS.step hb⟩
theorem wstepc {w W : World} {f : FuncId} {args : Array Value} {V : Value} (hS : Wk w W) {p : Addr} {u : Value} (hc : W.cell? p = some u) (h : Calls Tryz.prog f args W fun e w' => e = .returned V ∧ Below W.heap.size W w') : Calls Tryz.prog f args W fun e w' => e = .returned V ∧ w'.cell? p = some u ∧ Wk w w' :=
  h.mono fun _ _ ⟨he, hb⟩ => ⟨he, (hb.cell (World.block_lt_of_cell? W _ hc)).trans hc, hS.step hb⟩

theorem sub_small {x y : Int} {k : Nat} (hx : x.natAbs < 10 ^ k) (hy : y.natAbs < 10 ^ k) (hk : k ≤ 599) : small (x - y) := by
  refine rd_short (k := k + 1) ?_ (by omega)
  have := Int.natAbs_sub_le x y
  rw [Nat.pow_succ]; omega
theorem wr_ne {x y : Int} (h : x ≠ y) : wr x ≠ wr y := fun e => h (wr_inj e)

/-- the boxes of three drafts are kept -/
abbrev ThreeD (w : World) (b1 s1 z1 b2 s2 z2 b3 s3 z3 : Value) (W : World) : Prop :=
  (Below w.heap.size w W ∧ Gnd W) ∧ W.cell? ⟨w.heap.size, 0, none⟩ = some b1 ∧ W.cell? ⟨w.heap.size, 1, none⟩ = some s1 ∧ W.cell? ⟨w.heap.size, 2, none⟩ = some z1 ∧ W.cell? ⟨w.heap.size + 1, 0, none⟩ = some b2 ∧ W.cell? ⟨w.heap.size + 1, 1, none⟩ = some s2 ∧ W.cell? ⟨w.heap.size + 1, 2, none⟩ = some z2 ∧ W.cell? ⟨w.heap.size + 2, 0, none⟩ = some b3 ∧ W.cell? ⟨w.heap.size + 2, 1, none⟩ = some s3 ∧ W.cell? ⟨w.heap.size + 2, 2, none⟩ = some z3
theorem threeD_step {w : World} {b1 s1 z1 b2 s2 z2 b3 s3 z3 : Value} (W W' : World) (h : ThreeD w b1 s1 z1 b2 s2 z2 b3 s3 z3 W) (hb : Below W.heap.size W W') : ThreeD w b1 s1 z1 b2 s2 z2 b3 s3 z3 W' := by
  have hc : ∀ p u, W.cell? p = some u → W'.cell? p = some u := fun p u hu => (hb.cell (World.block_lt_of_cell? W _ hu)).trans hu
  obtain ⟨h0, h1, h2, h3, h4, h5, h6, h7, h8, h9⟩ := h
  exact ⟨⟨h0.1.trans (hb.mono h0.1.size), h0.2.below hb⟩, hc _ _ h1, hc _ _ h2, hc _ _ h3, hc _ _ h4, hc _ _ h5, hc _ _ h6, hc _ _ h7, hc _ _ h8, hc _ _ h9⟩

theorem add_low {x y : Int} {k : Nat} (hx : x.natAbs < 10 ^ k) (hy : y.natAbs < 10 ^ k) : (x + y).natAbs < 10 ^ (k + 1) := by
  have := Int.natAbs_add_le x y
  rw [Nat.pow_succ]; omega
theorem mul_low {x y : Int} {k j : Nat} (hx : x.natAbs < 10 ^ k) (hy : y.natAbs < 10 ^ j) : (x * y).natAbs < 10 ^ (k + j) := by
  rw [Int.natAbs_mul, Nat.pow_add]
  exact Nat.mul_lt_mul'' hx hy
theorem more_low {x : Int} {k j : Nat} (hx : x.natAbs < 10 ^ k) (h : k ≤ j) : x.natAbs < 10 ^ j := Nat.lt_of_lt_of_le hx (Nat.pow_le_pow_right (by decide) h)

end Go.Proofs.YtdclloledfjfjaaGreatDoor
