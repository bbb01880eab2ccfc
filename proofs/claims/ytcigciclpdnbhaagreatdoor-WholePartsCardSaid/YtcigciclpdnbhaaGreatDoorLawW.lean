/- WholeParts: for every two texts and two drafts the law returns true, and every argument reads behind the call as it read before. CONDITIONS: none on the arguments; the five package-level variables that the row lists read, when the call begins, as the text of the program lays them. -/
import Derived.Test.YtcigciclpdnbhaaGreatDoorLawU
import Derived.Test.YtcigciclpdnbhaaGreatDoorRefN
namespace Go.Proofs.YtcigciclpdnbhaaGreatDoor
open Go.RowKit Vd
attribute [local go_sem ↓] Go.wp_at_zero Go.wp_at_succ

theorem same_div (l1 l2 : List UInt8) (b1 : l1.length ≤ 1000000) (b2 : l2.length ≤ 1000000) : ∃ (s t : ByteArray) (k : Int),
    (∀ W, Calls Tryz.prog 33 #[.string ⟨l1.toArray⟩, .string ⟨l2.toArray⟩] W fun e w' => e = .returned (.tuple #[.string s, .string t, .int .i64 k]) ∧ Below W.heap.size W w') ∧
    (∀ W, Calls Tryz.prog 34 #[.string ⟨l1.toArray⟩, .string ⟨l2.toArray⟩] W fun e w' => e = .returned (.tuple #[.string s, .string t, .int .i64 k]) ∧ Below W.heap.size W w') := by
  cases h1 : rd l1 with
  | none => exact ⟨_, _, _, fun W => wdiv_none l1 l2 W (Or.inl h1), fun W => rdiv_none l1 l2 W b1 b2 (Or.inl h1)⟩
  | some x =>
    cases h2 : rd l2 with
    | none => exact ⟨_, _, _, fun W => wdiv_none l1 l2 W (Or.inr h2), fun W => rdiv_none l1 l2 W b1 b2 (Or.inr h2)⟩
    | some y =>
      by_cases hy : y = 0
      · subst hy
        exact ⟨_, _, _, fun W => wdiv_zero l1 l2 x W h1 h2, fun W => rdiv_zero l1 l2 x W h1 h2⟩
      · exact ⟨_, _, _, fun W => wdiv_some l1 l2 x y W h1 h2 hy, fun W => rdiv_some l1 l2 x y W h1 h2 hy⟩

set_option maxRecDepth 100000 in
set_option maxHeartbeats 8000000 in
theorem parts_core (a b : List UInt8) (b1 : Bool) (A1 : Option Addr) (n1 c1 z1 : Nat) (xs1 : List Nat) (b2 : Bool) (A2 : Option Addr) (n2 c2 z2 : Nat) (xs2 : List Nat) (w : World) (hg : Gnd w) (h1 : DraftIn w b1 A1 n1 c1 z1 xs1) (h2 : DraftIn w b2 A2 n2 c2 z2 xs2) :
    Calls Tryz.prog 5 #[.agg (TwoV a b b1 A1 n1 c1 z1 b2 A2 n2 c2 z2)] w fun e w' => e = .returned (.bool true) ∧ Below w.heap.size w w' := by
  have hbW : Below w.heap.size w (w.alloc (.cells (TwoV a b b1 A1 n1 c1 z1 b2 A2 n2 c2 z2) 27)) := (Below.refl _ _).alloc (Nat.le_refl _) _
  have hwk := works_any _ (hg.below hbW)
  have hcl : ∀ W, Below (w.alloc (.cells (TwoV a b b1 A1 n1 c1 z1 b2 A2 n2 c2 z2) 27)).heap.size (w.alloc (.cells (TwoV a b b1 A1 n1 c1 z1 b2 A2 n2 c2 z2) 27)) W → ∀ o, o < 8 → W.cell? ⟨w.heap.size, o, none⟩ = (TwoV a b b1 A1 n1 c1 z1 b2 A2 n2 c2 z2)[o]? := fun W hW o ho => by
    rw [hW.cell (p := ⟨w.heap.size, o, none⟩) (by simp), cell_of_row _ w.heap.size o _ _ (0, 0) (heap_alloc_new w _)]
  have HC := Lib.hid (And.intro hcl (And.intro hbW (And.intro hg (And.intro h1 h2))))
  clear hcl hbW hg h1 h2
  go_enter Tryz.func5, Tryz.ntmps5
  go_wp2_with fail
  refine hwk.mono ?_
  rintro e w1 ⟨rfl, hb1⟩
  obtain ⟨hcl, hbW, hg, h1, h2⟩ := HC.out
  have f0 := hcl w1 hb1 0 (by decide)
  have f1 := hcl w1 hb1 1 (by decide)
  have f2 := hcl w1 hb1 2 (by decide)
  have f3 := hcl w1 hb1 3 (by decide)
  have f4 := hcl w1 hb1 4 (by decide)
  have f5 := hcl w1 hb1 5 (by decide)
  have f6 := hcl w1 hb1 6 (by decide)
  have f7 := hcl w1 hb1 7 (by decide)
  simp only [TwoV] at f0 f1 f2 f3 f4 f5 f6 f7
  have hbw1 := hbW.trans (hb1.mono hbW.size)
  have hK1 : Wk w w1 := ⟨hbw1, (hg.below hbw1)⟩
  have hpr := pairs_any a b b1 A1 n1 c1 z1 xs1 b2 A2 n2 c2 z2 xs2 w1 (h1.below hbw1) (h2.below hbw1)
  have HK := Lib.hid hK1
  clear hcl hbW hg h1 h2 hb1 hbw1 hK1 hwk HC
  go_wp2_with fail
  refine hpr.mono ?_
  rintro e w2 ⟨g, ta, tb, x, y, rfl, hF, la, lb, lx, ly, hb2⟩
  have hK2 := HK.out.step hb2
  have HL := Lib.hid (And.intro la (And.intro lb (And.intro lx ly)))
  have HF := Lib.hid (And.intro hF hK2)
  clear f0 f1 f2 f3 f4 f5 f6 f7 hpr la lb lx ly hF hK2 hb2 HK
  go_wp2_with fail
  go_loopg [20] 4 (fun r iv W => ∃ i : Nat, r = 4 - i ∧ iv = .int .i64 (i : Int) ∧ i ≤ 4 ∧ W.heap[g]? = some (.cells (four4 ta tb x y) 33 (0, 0)) ∧ Wk w W)
  case atStart => exact ⟨0, rfl, rfl, by omega, HF.out.1, HF.out.2⟩
  case round =>
    clear HF
    obtain ⟨i, rfl, rfl, hi, hf, hk⟩ := hrel
    by_cases ha : i < 4
    · have i1 : (i : Int) < 4 := by omega
      have i2 : (0 : Int) ≤ (i : Int) := by omega
      obtain ⟨p, q, hp0, hq0, lp, lq⟩ := pair_at ta tb x y g i wr hf HL.out.1 HL.out.2.1 HL.out.2.2.1 HL.out.2.2.2 ha
      have hP0 := PairW.start (s := .string ⟨p.toArray⟩) (t := .string ⟨q.toArray⟩) hk hf
      obtain ⟨h, hh⟩ : ∃ h, h = wr.heap.size := ⟨_, rfl⟩
      obtain ⟨s1, t1, k1, e1, e2⟩ := same_div p q lp lq
      obtain ⟨s2, k2, e3, e4⟩ := same_gcd p q lp lq
      have E1 := Lib.hid e1
      have E2 := Lib.hid e2
      have E3 := Lib.hid e3
      have E4 := Lib.hid e4
      have HI := Lib.hid (And.intro ha hi)
      have hc0 := hP0.c0
      have hc1 := hP0.c1
      clear e1 e2 e3 e4 ha hi hf hk lp lq hh
      go_wp2_with fail
      refine (E1.out _).mono ?_
      rintro e v1 ⟨rfl, hb⟩
      have hP1 := hP0.step hb
      clear hP0 hb hc0 hc1 E1
      have hc0 := hP1.c0
      have hc1 := hP1.c1
      go_wp2_with fail
      refine (E2.out _).mono ?_
      rintro e v2 ⟨rfl, hb⟩
      have hP2 := hP1.step hb
      clear hP1 hb hc0 hc1 E2
      have hc0 := hP2.c0
      have hc1 := hP2.c1
      go_wp2_with fail
      refine (E3.out _).mono ?_
      rintro e v3 ⟨rfl, hb⟩
      have hP3 := hP2.step hb
      clear hP2 hb hc0 hc1 E3
      have hc0 := hP3.c0
      have hc1 := hP3.c1
      go_wp2_with fail
      refine (E4.out _).mono ?_
      rintro e v4 ⟨rfl, hb⟩
      have hP4 := hP3.step hb
      clear hP3 hb hc0 hc1 E4
      have hc0 := hP4.c0
      have hc1 := hP4.c1
      go_wp2_with fail
      go_roundg (4 - (i + 1))
      case measure => have := HI.out.1; omega
      case rel => exact ⟨i + 1, rfl, by go_num, by have := HI.out.1; omega, hP4.f, hP4.k⟩
    · obtain rfl : i = 4 := by omega
      go_wp2_with fail
      go_ret
      exact ⟨rfl, hk.1⟩

end Go.Proofs.YtcigciclpdnbhaaGreatDoor

namespace Go.Proofs.YtcigciclpdnbhaaGreatDoor.parts
open Go.ChangeShapes Go.WideShapes Go.ChangeAt Go.RowKit Vd

/-- The door's own heap meets the row's list. -/
theorem door_met (os : Os) (args : Array Value) : laidMetH Tryz.prog Rows.wholePartsRow.laid ((World.doorLaid Tryz.prog 400 os).forCall (fun _ _ => 0) ⟨#[], args, []⟩).memory :=
  laidMetH_of_parts3 (fuel := 8) (laidMet_of_run' 8 (by kernel_rfl) (by kernel_rfl)) (by kernel_rfl) (by kernel_rfl)

theorem laidOutHere : laidOutB Tryz.prog = true := by kernel_rfl

def wit : Array Value := #[.agg #[.string ⟨#[]⟩, .string ⟨#[]⟩, .bool false, .slice none 0 0, .int .u16 0, .bool false, .slice none 0 0, .int .u16 0]]

set_option maxRecDepth 100000 in
theorem lifted (os : Os) (started : os.Started) (H : Type) (enc : TypeId × Value → H) :
    ReturnsInHanded {} Tryz.checked os 5 .any (fun w args => (Rows.wholePartsSpec.pre enc Tryz.prog Tryz.f5 [] false w args ∧ laidMetH Tryz.prog Rows.wholePartsRow.laid w) ∧ sizedMet enc Tryz.prog Tryz.f5 (OpenSpec.ofChange Rows.wholePartsSpec) false w args)
      (Rows.wholePartsSpec.post enc Tryz.prog Tryz.f5 false true false false) := by
  refine returnsInHanded_of_change_and (C := Tryz.checked) (X := fun w _ => laidMetH Tryz.prog Rows.wholePartsRow.laid w) (fun _ _ _ hh h => h.of_heap hh) ownKnobNone started (by kernel_rfl) Tryz.func5
    (ChangeSpec.witness_shaped (enc := enc) (C := Tryz.checked) (os := os) (X := fun w _ => laidMetH Tryz.prog Rows.wholePartsRow.laid w) false (World.doorLaid Tryz.prog 400 os) wit 8 rfl (World.shaped_of_RefB (by kernel_rfl) (by kernel_rfl)) (by kernel_rfl) (by kernel_rfl) (by kernel_rfl) (door_met os _)) ?_
  intro W base args ds gs before hval0 hW _ _ hL _
  have hval : ∀ (j : Nat) t v, Tryz.f5.params[j]? = some t → args[j]? = some v → Value.okWide Tryz.prog W .any base t v := hval0
  have hW' := hW
  obtain ⟨p, q, hA0, hV, rfl, hfz, hnd⟩ := hW
  have hA : DataW.TrodAll enc Tryz.prog W 0 (fun _ => true) true Tryz.f5.params.toList args.toList ds p := hA0
  rw [Tryz.params5] at hA hval
  obtain ⟨v0, vs0, d0, ds0, p0, q0, hargs, rfl, rfl, h0, r0⟩ := trodAll_cons hA
  obtain ⟨rfl, rfl, rfl⟩ := trodAll_nil r0
  obtain rfl : args = #[v0] := by cases args; simp_all
  obtain ⟨rfl, rfl⟩ := trodVars_none hV
  obtain ⟨a, b, b1, A1, n1, c1, z1, xs1, b2, A2, n2, c2, z2, xs2, rfl, D1, D2⟩ := open_two (hval 0 _ _ rfl rfl) h0
  refine (parts_core a b b1 A1 n1 c1 z1 xs1 b2 A2 n2 c2 z2 xs2 W (gnd_of_laid hL) D1 D2).mono fun e W' ⟨he, hb⟩ => ?_
  subst he
  exact ⟨_, rfl, post_true (tb := 4) laidOutHere (by kernel_rfl) Tryz.underlying4 (by kernel_rfl) rfl rfl hW' hb⟩

theorem said : Rows.WholePartsSaid :=
  OpenClaim.holds_of_wide 5 Tryz.f5 rfl rfl rfl rfl rfl rfl rfl ⟨rfl, rfl, rfl, rfl, rfl⟩ rfl rfl rfl rfl rfl (by kernel_rfl) Tryz.func5 (by kernel_rfl)
    (of_decide_eq_true (by kernel_rfl)) (by unfold Func.isWrapper; first | (rw [if_pos (by decide +kernel)]; kernel_rfl) | (rw [if_neg (by decide +kernel)]; exact ⟨rfl, rfl⟩))
    (fun os started H enc _ => lifted os started H enc)

theorem plain (f : FuncId) (fn : Func) (hf : Tryz.pinned.checked.prog.funcNamed "verdigris/verdigrislaw01.WholeParts" = some f) (hfn : Tryz.pinned.checked.prog.funcs[f]? = some fn) :
    true = Tryz.pinned.checked.prog.looks [] ∧ ∀ (j : Nat) t, fn.params[j]? = some t → Tryz.pinned.checked.prog.wantsStandIn t = false := by
  obtain rfl : f = 5 := Option.some.inj ((show Tryz.prog.funcNamed "verdigris/verdigrislaw01.WholeParts" = some 5 by kernel_rfl).symm.trans hf) |>.symm
  obtain rfl : fn = Tryz.f5 := (Option.some.inj (Tryz.func5.symm.trans hfn)).symm
  refine ⟨by kernel_rfl, fun j t ht => ?_⟩
  rw [Tryz.params5] at ht
  obtain rfl : t = 27 := by simpa using Array.mem_of_getElem? ht
  exact (show Tryz.prog.wantsStandIn 27 = false by kernel_rfl)

/-- THE CARD. -/
theorem card : Rows.WholePartsCardSaid :=
  Claim7.holds_tied_plain_at .later [] _ _ _ _ said (fun _ h => by cases h) (by kernel_rfl) (fun _ h => by cases h) wholeParts_row_tie rfl ⟨rfl, rfl⟩ (by kernel_rfl) rfl plain (by kernel_rfl)
#print axioms card
end Go.Proofs.YtcigciclpdnbhaaGreatDoor.parts
