/- From the row's reading to the walks' words: what the laws' cards share. -/
import Derived.Test.YtlimkbnnjhjcgaaDoorDigV
import Derived.Lib.LaidTab
import Derived.Test.YtlimkbnnjhjcgaaDoorRows
import Derived.ProofKit
import Derived.OpenShut
import Derived.LaidMore
import Derived.Lib.SmallJoins
import Derived.MakeChecks
import Derived.DataShut
import Derived.Stop.Joined
import Derived.Test.YtlimkbnnjhjcgaaDoorCards
import Derived.Test.YtlimkbnnjhjcgaaDoorTie
import Derived.ChangeSame
import Derived.Lay
import Derived.Shelf.Vars
import Derived.ChangeMaps5
namespace Go.Proofs.YtlimkbnnjhjcgaaDoor
open Go.ChangeShapes Go.WideShapes Go.ChangeAt Go.RowKit Vo

section
variable {H : Type} {enc : TypeId × Value → H}
theorem trodAll_stays {P : Program} {W W' : World} (hl : laidOutB P = true) (hb : Below W.heap.size W W') (sp : Nat → Bool) : ∀ {ts : List TypeId} {vs : List Value} {ds : List (DataW H)} {ps : List MemPlace},
    (ts.all fun t => P.readableRec t && decide (t < P.types.size)) = true → DataW.TrodAll enc P W 0 (fun _ => true) true ts vs ds ps → (∀ p ∈ ps, p.block < W.heap.size) → (∀ p ∈ ps, sp p.block = true) → DataW.TrodAll enc P W' 0 sp true ts vs ds ps := by
  intro ts
  induction ts with
  | nil =>
    intro vs ds ps _ h _ _
    cases vs <;> cases ds <;> simp [DataW.TrodAll] at h ⊢
    exact h
  | cons t ts ih =>
    intro vs ds ps ht h hlt hsp
    obtain ⟨v, vs', d, ds', p, q, rfl, rfl, rfl, h0, h1⟩ := trodAll_cons h
    simp only [List.all_cons, Bool.and_eq_true, decide_eq_true_eq] at ht
    refine ⟨p, q, WideElems.Trod_stays hl ht.1.1 ht.1.2 h0 (fun x hx => hb.same (hlt x (List.mem_append_left _ hx))) (fun x hx => hsp x (List.mem_append_left _ hx)), ?_, rfl⟩
    exact ih ht.2 h1 (fun x hx => hlt x (List.mem_append_right _ hx)) (fun x hx => hsp x (List.mem_append_right _ hx))
end
theorem ownKnobNone : ownKnob Tryd.prog.godebug = none := by kernel_rfl
theorem laidOutHere : laidOutB Tryd.prog = true := by kernel_rfl
theorem u8_wf {n : Int} (h : (Lit.int .u8 n).wf = true) : 0 ≤ n ∧ n ≤ 255 := (Lit.wf_int_iff .u8 n).1 h
theorem i64_wf {n : Int} (h : (Lit.int .i64 n).wf = true) : -9223372036854775808 ≤ n ∧ n ≤ 9223372036854775807 := (Lit.wf_int_iff .i64 n).1 h

section
variable {H : Type} {enc : TypeId × Value → H}
/-- THE ROW's LAST STEP. -/
theorem post_true {P : Program} {f : Func} {s : ChangeSpec} {apart fresh handsOn again : Bool} {W W' : World} {args : Array Value} {ds gs : List (DataW H)} {before : List MemPlace} {tb : TypeId}
    (hl : laidOutB P = true) (hp : (f.params.toList.all fun t => P.readableRec t && decide (t < P.types.size)) = true) (htb : P.underlying tb = some .bool) (hr : f.resultTypes = #[tb]) (hs : s.vars = [])
    (hfn : s.fn H (ds ++ gs) = { results := [.lit (.bool true)], args := ds })
    (hW : DataW.Whole enc P f.params.toList s.vars apart W args.toList ds gs before) (hb : Below W.heap.size W W') :
    s.post enc P f apart fresh handsOn again W args (.bool true) W' := by
  have hlt := hW.lt
  have hW' := hW
  obtain ⟨p, q, hA, hV, rfl, hfz, hnd⟩ := hW
  rw [hs] at hV
  obtain ⟨rfl, rfl⟩ := trodVars_none hV
  rw [List.append_nil] at *
  have hres : ∀ (b : Nat) (sp : Nat → Bool) (hd : Bool), DataW.TrodAll enc P W' b sp hd f.resultTypes.toList ((Value.bool true).resultList f.resultTypes.size) [.lit (.bool true)] [] := by
    intro b sp hd
    rw [hr]
    exact trodAll_mk1 (shut_bool htb _)
  have hargs : ∀ sp : Nat → Bool, (∀ x ∈ p, sp x.block = true) → DataW.TrodAll enc P W' 0 sp true f.params.toList args.toList ds p := fun sp hsp => trodAll_stays hl hb sp hp hA hlt hsp
  have hvars : ∀ sp : Nat → Bool, DataW.TrodVars enc P W' sp s.vars ([] : List (DataW H)) [] := by
    intro sp
    rw [hs]
    simp [DataW.TrodVars]
  refine ⟨ds, [], p, [], p, [], hW', ?_, ?_, ?_, hb.frame _, fun _ => ?_⟩
  · rw [List.append_nil, hfn]
    exact hres _ _ _
  · rw [List.append_nil, hfn]
    exact hargs _ fun x hx => by simpa using hlt x hx
  · rw [List.append_nil, hfn]
    exact hvars _
  · refine ⟨ok_one hr rfl (okWide_bool_mk htb _), [.lit (.bool true)] ++ ds, [], p, ⟨p, [], ?_, hvars _, (List.append_nil _).symm, ?_, hnd⟩, fun x hx _ => hx⟩
    · have := trodAll_append (hargs (fun _ => true) fun _ _ => rfl) (hres 0 (fun _ => true) true)
      simpa using this
    · intro b off hx
      rw [hb.frozen (p := ⟨b, off, none⟩) (hlt _ hx)]
      exact hfz b off hx
end

section
variable {H : Type} {enc : TypeId × Value → H}
theorem okWide_arr {P : Program} {W : World} {r : Reach} {b : Nat} {t e : TypeId} {n : Nat} {v : Value} (hu : P.underlying t = some (.array n e)) (h : Value.okWide P W r b t v) : ∃ cs, v = .agg cs ∧ cs.size = P.cellsOf t := by
  unfold Value.okWide at h
  rw [hu] at h
  obtain ⟨cs, h1, h2, -⟩ := h
  exact ⟨cs, h1, h2⟩
/-- an array of 16 octets, opened -/
theorem open_octets {P : Program} {t e : TypeId} (hu : P.underlying t = some (.array 16 e)) (he : P.underlying e = some (.int .u8)) (hC : P.cellsOf t = 16) (hE : P.cellsOf e = 1)
    {W : World} {base : Nat} {v : Value} {d : DataW H} {p : List MemPlace} (hval : Value.okWide P W .any base t v) (h : DataW.Trod enc P W 0 (fun _ => true) true t v d p) : ∃ m : List UInt8, m.length = 16 ∧ v = .agg (bcA m) := by
  obtain ⟨cs, rfl, hsz⟩ := okWide_arr hu hval
  rw [hC] at hsz
  obtain ⟨fuel, hf⟩ := h
  obtain ⟨xs, n, _, _, hl, hxs, hel⟩ := DataW.trod_array hu hf
  have hcs : ∀ i (hi : i < cs.toList.length), ∃ z : Int, cs.toList[i] = .int .u8 z ∧ 0 ≤ z ∧ z ≤ 255 := by
    intro i hi
    have hi16 : i < 16 := by simpa [hsz] using hi
    have h1 := hel i hi16
    rw [hE, List.getElem?_eq_getElem (by omega)] at h1
    obtain ⟨z, hz, _, hw⟩ := DataW.trod_int he h1
    refine ⟨z, ?_, u8_wf hw⟩
    have h2 : (cs.toList.drop i).take 1 = [cs.toList[i]] := by
      rw [List.drop_eq_getElem_cons hi]; rfl
    simp only [Value.cells, Nat.mul_one] at hz
    rw [h2] at hz
    exact (List.cons.inj hz).1
  refine ⟨cs.toList.map fun v => match v with | .int _ z => UInt8.ofNat z.toNat | _ => 0, by simp [hsz], ?_⟩
  congr 1
  apply Array.toList_inj.1
  apply List.ext_getElem
  · simp [bcA, Lib.byteCells]
  intro i hi hi2
  obtain ⟨z, hz, h0, h1⟩ := hcs i hi
  simp only [bcA, Lib.byteCells, List.map_map, List.getElem_map, Function.comp, hz]
  congr 1
  rw [UInt8.toNat_ofNat']
  omega
end
/-- the table of the digest's constants, as the row lists it -/
theorem kt_of {w : World} (h : Lib.TabIs Tryd.prog w "verdigris/digest.constants" .u32 (kL.map fun (n : Nat) => (n : Int))) : KT w := by
  have hg : Tryd.prog.globalNamed "verdigris/digest.constants" = some 0 := by kernel_rfl
  have hc : ∀ i, i < 64 → w.cell? ⟨0, i, none⟩ = some (.int .u32 (kN i)) := by
    intro i hi
    have h1 := h.cell hg i (by rw [List.length_map]; exact hi)
    rw [h1, kN]
    have hl : i < kL.length := hi
    simp [List.getD, hl]
  exact ⟨Nat.lt_of_le_of_lt (Nat.zero_le _) (World.block_lt_of_cell? w _ (hc 0 (by omega))), hc⟩
theorem kt_laid {w : World} {rest : List (String × DataW Unit)} (h : laidMet Tryd.prog (("verdigris/digest.constants", Lib.tabData .u32 (kL.map fun (n : Nat) => (n : Int))) :: rest) w) : KT w :=
  kt_of (Lib.tabIs_of_head (t := 123) (e := 56) (n := 64) (g := 0) (by kernel_rfl) (by kernel_rfl) Tryd.underlying123 Tryd.underlying56 (by kernel_rfl) (by kernel_rfl) h)
end Go.Proofs.YtlimkbnnjhjcgaaDoor
