/- From the row's reading to the walks' words: a draft that came in; the library's variables; the row's last -/
import Derived.Test.YtlfgpmnjnpdkdaaGreatDoorWhoG
import Derived.Test.YtlfgpmnjnpdkdaaGreatDoorRows
import Derived.ProofKit
import Derived.OpenShut
import Derived.LaidMore
import Derived.Lib.SmallJoins
import Derived.Lib.LaidTab
import Derived.MakeChecks
import Derived.DataShut
import Derived.Stop.Joined
import Derived.Test.YtlfgpmnjnpdkdaaGreatDoorCards
import Derived.Test.YtlfgpmnjnpdkdaaGreatDoorTie
namespace Go.Proofs.YtlfgpmnjnpdkdaaGreatDoor
open Go.ChangeShapes Go.WideShapes Go.ChangeAt Go.RowKit Vd
theorem u16_wf {n : Int} (h : (Lit.int .u16 n).wf = true) : 0 ≤ n ∧ n ≤ 65535 := (Lit.wf_int_iff .u16 n).1 h
theorem dropInts (zs : List Int) (h : ∀ n ∈ zs,(Lit.int .u16 n).wf = true) (i : Nat) (hi : i < zs.length) : zs.getD i 0 = ((nth (zs.map Int.toNat) i : Nat) : Int) ∧ nth (zs.map Int.toNat) i < 65536 := by
 have hm : zs[i] ∈ zs := List.getElem_mem hi
 have hw := u16_wf (h _ hm)
 have e1 : zs.getD i 0 = zs[i] := by simp [List.getD,hi]
 have e2 : nth (zs.map Int.toNat) i = (zs[i]).toNat := by unfold nth;simp [hi]
 rw [e1,e2]
 omega
theorem spot_none {w : World} {a : Addr} {v : Value} (h : w.cell? a = some v) : a.spot = none := by
 unfold World.cell? at h
 cases hs : a.spot with
 | none => rfl
 | some k => simp [hs] at h;split at h <;> simp at h
section
variable {H : Type} {enc : TypeId × Value → H}
theorem okOf (xs : List Nat) (h : ∀ i,i < xs.length → nth xs i < 65536) : Ok 65536 xs := by
 intro x hx
 obtain ⟨i,hi,rfl⟩ := List.mem_iff_getElem.1 hx
 have := h i hi
 rwa [nth_lt hi] at this
theorem trodAll_stays {P : Program} {W W' : World} (hl : laidOutB P = true) (hb : Below W.heap.size W W') (sp : Nat → Bool) : ∀ {ts : List TypeId} {vs : List Value} {ds : List (DataW H)} {ps : List MemPlace},
 (ts.all fun t => P.readableRec t && decide (t < P.types.size)) = true → DataW.TrodAll enc P W 0 (fun _ => true) true ts vs ds ps → (∀ p ∈ ps,p.block < W.heap.size) → (∀ p ∈ ps,sp p.block = true) → DataW.TrodAll enc P W' 0 sp true ts vs ds ps := by
 intro ts
 induction ts with
 | nil =>
   intro vs ds ps _ h _ _
   cases vs <;> cases ds <;> simp [DataW.TrodAll] at h ⊢
   exact h
 | cons t ts ih =>
   intro vs ds ps ht h hlt hsp
   obtain ⟨v,vs',d,ds',p,q,rfl,rfl,rfl,h0,h1⟩ := trodAll_cons h
   simp only [List.all_cons,Bool.and_eq_true,decide_eq_true_eq] at ht
   refine ⟨p,q,WideElems.Trod_stays hl ht.1.1 ht.1.2 h0 (fun x hx => hb.same (hlt x (List.mem_append_left _ hx))) (fun x hx => hsp x (List.mem_append_left _ hx)),?_,rfl⟩
   exact ih ht.2 h1 (fun x hx => hlt x (List.mem_append_right _ hx)) (fun x hx => hsp x (List.mem_append_right _ hx))
end
end Go.Proofs.YtlfgpmnjnpdkdaaGreatDoor
namespace Go.Proofs.YtlfgpmnjnpdkdaaGreatDoor
open Go.ChangeShapes Go.WideShapes Go.ChangeAt Go.RowKit Vd
theorem ownKnobNone : ownKnob Tryz.prog.godebug = none := by kernel_rfl
theorem gRange : Tryz.prog.globalNamed "strconv.ErrRange" = some 1 := by kernel_rfl
theorem gRangeT : (Tryz.prog.globals[1]?).map (·.type) = some 160 := by kernel_rfl
theorem gTabT : (Tryz.prog.globals[7]?).map (·.type) = some 264 := by kernel_rfl
theorem tabCells : Tryz.prog.cellsOf 264 = 20 := by kernel_rfl
theorem tabCell : Tryz.prog.cellsOf 139 = 1 := by kernel_rfl
theorem gnd_of_laid {W : World} (h : laidMetH Tryz.prog [("math/bits.deBruijn32tab",Rows.laid_math_bits_deBruijn32tab),("math/bits.deBruijn64tab",Rows.laid_math_bits_deBruijn64tab),("internal/strconv.uint64pow10",Rows.laid_internal_strconv_uint64pow10),("unicode/utf8.acceptRanges",Rows.laid_unicode_utf8_acceptRanges),("strconv.ErrRange",Rows.laid_strconv_ErrRange),("strconv.ErrSyntax",Rows.laid_strconv_ErrSyntax),("unicode/utf8.first",Rows.laid_unicode_utf8_first)] W) : Gnd W := by
 rw [MakeChecks.laidMetH_plain _ _ _ (by kernel_rfl)] at h
 obtain ⟨ps,⟨_,_,_,_,_,_,_,_,_,_,⟨_,_,_,_,_,_,_,_,_,_,⟨g2,t2,cs2,f2,p2,q2,hg2,ht2,hv2,hd2,⟨_,_,_,_,_,_,_,_,_,_,⟨g3,t3,cs3,f3,p3,q3,hg3,ht3,hv3,hd3,_,_⟩,_⟩,_⟩,_⟩,_⟩,_,_⟩ := h
 obtain rfl := Option.some.inj (gTab.symm.trans hg2)
 obtain rfl := Option.some.inj (gRange.symm.trans hg3)
 obtain rfl := Option.some.inj (gTabT.symm.trans ht2)
 obtain rfl := Option.some.inj (gRangeT.symm.trans ht3)
 refine ⟨?_,?_⟩
 · unfold Lib.TabIs
   rw [hv2,← Lib.cells_of_tab (zs := Lib.pow10Tab) Tryz.underlying264 Tryz.underlying139 tabCell tabCells hd2]
 · obtain ⟨_,u,v,hc,_,_⟩ := iface_of_trod Tryz.underlying160 hd3
   refine ⟨u,v,?_⟩
   have := World.var?_cell hg3 hv3 0
   rw [Array.eq_one_of_toList hc] at this
   simpa using this
section
variable {H : Type} {enc : TypeId × Value → H}
theorem post_true {P : Program} {f : Func} {s : ChangeSpec} {apart fresh handsOn again : Bool} {W W' : World} {args : Array Value} {ds gs : List (DataW H)} {before : List MemPlace} {tb : TypeId}
 (hl : laidOutB P = true) (hp : (f.params.toList.all fun t => P.readableRec t && decide (t < P.types.size)) = true) (htb : P.underlying tb = some .bool) (hr : f.resultTypes = #[tb]) (hs : s.vars = [])
 (hfn : s.fn H (ds ++ gs) = { results := [.lit (.bool true)],args := ds })
 (hW : DataW.Whole enc P f.params.toList s.vars apart W args.toList ds gs before) (hb : Below W.heap.size W W') :
 s.post enc P f apart fresh handsOn again W args (.bool true) W' := by
 have hlt := hW.lt
 have hW' := hW
 obtain ⟨p,q,hA,hV,rfl,hfz,hnd⟩ := hW
 rw [hs] at hV
 obtain ⟨rfl,rfl⟩ := trodVars_none hV
 rw [List.append_nil] at *
 have hres : ∀ (b : Nat) (sp : Nat → Bool) (hd : Bool),DataW.TrodAll enc P W' b sp hd f.resultTypes.toList ((Value.bool true).resultList f.resultTypes.size) [.lit (.bool true)] [] := by
  intro b sp hd
  rw [hr]
  exact trodAll_mk1 (shut_bool htb _)
 have hargs : ∀ sp : Nat → Bool,(∀ x ∈ p,sp x.block = true) → DataW.TrodAll enc P W' 0 sp true f.params.toList args.toList ds p := fun sp hsp => trodAll_stays hl hb sp hp hA hlt hsp
 have hvars : ∀ sp : Nat → Bool,DataW.TrodVars enc P W' sp s.vars ([] : List (DataW H)) [] := by
  intro sp
  rw [hs]
  simp [DataW.TrodVars]
 refine ⟨ds,[],p,[],p,[],hW',?_,?_,?_,hb.frame _,fun _ => ?_⟩
 · rw [List.append_nil,hfn]
   exact hres _ _ _
 · rw [List.append_nil,hfn]
   exact hargs _ fun x hx => by simpa using hlt x hx
 · rw [List.append_nil,hfn]
   exact hvars _
 · refine ⟨ok_one hr rfl (okWide_bool_mk htb _),[.lit (.bool true)] ++ ds,[],p,⟨p,[],?_,hvars _,(List.append_nil _).symm,?_,hnd⟩,fun x hx _ => hx⟩
   · have := trodAll_append (hargs (fun _ => true) fun _ _ => rfl) (hres 0 (fun _ => true) true)
     simpa using this
   · intro b off hx
     rw [hb.frozen (p := ⟨b,off,none⟩) (hlt _ hx)]
     exact hfz b off hx
end
end Go.Proofs.YtlfgpmnjnpdkdaaGreatDoor
