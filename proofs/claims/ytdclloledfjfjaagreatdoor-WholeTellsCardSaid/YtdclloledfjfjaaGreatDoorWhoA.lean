/- Contracts: package whole: reading and writing. Contracts: package whole: two numbers read, one written. Contracts: package whole: operations, combine. -/
import Derived.Test.YtdclloledfjfjaaGreatDoorSgnE
import Derived.RegionTactic
import Derived.ChangeAlike
import Derived.Laws.EntriesVeiled
import Derived.Deep.RegionHeld3
import Derived.Deep.DrawnRows
namespace Go.Proofs.YtdclloledfjfjaaGreatDoor
open Go.RowKit Vd

theorem readP_some {l : List UInt8} {ok : Bool} {z z' : Int} (h : rd l = some z) (hp : ReadP 600 l ok z') : ok = true ∧ z' = z := by
  rcases hp with ⟨h1, h2⟩ | ⟨h1, h2, _⟩
  · rw [rdMost_maxDigits, h] at h2
    injection h2 with h2
    exact ⟨h1, h2.symm⟩
  · rw [rdMost_maxDigits, h] at h2; cases h2
theorem readP_none {l : List UInt8} {ok : Bool} {z' : Int} (h : rd l = none) (hp : ReadP 600 l ok z') : ok = false ∧ z' = 0 := by
  rcases hp with ⟨h1, h2⟩ | ⟨h1, h2, h3⟩
  · rw [rdMost_maxDigits, h] at h2; cases h2
  · exact ⟨h1, h3⟩


theorem read600_some (l : List UInt8) (z : Int) (w : World) (h : rd l = some z) :
    Calls Tryz.prog 145 #[.string ⟨l.toArray⟩, .int .i64 600] w fun e w' => ∃ (A : Option Addr) (n c : Nat) (k : Bool), e = .returned (.tuple #[.agg #[.slice A n c, .bool k], .bool true]) ∧ SgV w' (.agg #[.slice A n c, .bool k]) z ∧ Below w.heap.size w w' := by
  refine (read_any l 600 w (by omega)).mono ?_
  rintro e w' ⟨x, ok, z', he, hv, hp, hb⟩
  obtain ⟨rfl, rfl⟩ := readP_some h hp
  obtain ⟨A, n, c, k, rfl⟩ := hv.open
  exact ⟨A, n, c, k, he, hv, hb⟩
theorem read600_none (l : List UInt8) (w : World) (h : rd l = none) :
    Calls Tryz.prog 145 #[.string ⟨l.toArray⟩, .int .i64 600] w fun e w' => ∃ (A : Option Addr) (n c : Nat) (k : Bool), e = .returned (.tuple #[.agg #[.slice A n c, .bool k], .bool false]) ∧ Below w.heap.size w w' := by
  refine (read_any l 600 w (by omega)).mono ?_
  rintro e w' ⟨x, ok, z', he, hv, hp, hb⟩
  obtain ⟨rfl, rfl⟩ := readP_none h hp
  obtain ⟨A, n, c, k, rfl⟩ := hv.open
  exact ⟨A, n, c, k, he, hb⟩


set_option maxRecDepth 100000 in
set_option maxHeartbeats 1000000 in
theorem wread_some (l : List UInt8) (z : Int) (w : World) (h : rd l = some z) :
    Calls Tryz.prog 79 #[.string ⟨l.toArray⟩] w fun e w' => ∃ (A : Option Addr) (n c : Nat) (k : Bool), e = .returned (.tuple #[.agg #[.slice A n c, .bool k], .int .i64 0]) ∧ SgV w' (.agg #[.slice A n c, .bool k]) z ∧ Below w.heap.size w w' := by
  have hr := fun W => read600_some l z W h
  have hbx := BoxS.alloc w none 0 0 false
  have hbW : Below w.heap.size w (w.alloc (.cells #[.slice none 0 0, .bool false] 105)) := (Below.refl _ _).alloc (Nat.le_refl _) _
  clear h
  go_enter Tryz.func79, Tryz.ntmps79
  go_wp2_with fail
  refine (hr _).mono ?_
  rintro e w1 ⟨A, n, c, k, rfl, hv, hb⟩
  have hbx1 := hbx.below hb (by simp)
  obtain ⟨⟨q0, hc0⟩, ⟨q1, hc1⟩, hf0, hf1⟩ := hbx1.facts
  have hlt := hbx1.lt
  have HB := Lib.hid (hbW.trans (hb.mono hbW.size))
  clear hb hr
  go_wp2_with fail
  exact bodyPost_ret (v := .tuple #[.agg #[.slice A n c, .bool k], .int .i64 0]) (by simp [results, Tryz.results79, go_sem, hc0, hc1, hlt, World.cell?_alloc_lt]) rfl ⟨A, n, c, k, rfl, (hv.sets hbx1 _ _).below ((Below.refl _ _).alloc (Nat.le_refl _) _), ((HB.out.setCell (Nat.le_refl _) _).setCell (Nat.le_refl _) _).alloc (by simpa using HB.out.size) _⟩

set_option maxRecDepth 100000 in
set_option maxHeartbeats 1000000 in
theorem wread_none (l : List UInt8) (w : World) (h : rd l = none) :
    Calls Tryz.prog 79 #[.string ⟨l.toArray⟩] w fun e w' => e = .returned (.tuple #[.agg #[.slice none 0 0, .bool false], .int .i64 10]) ∧ Below w.heap.size w w' := by
  have hr := fun W => read600_none l W h
  have hbx := BoxS.alloc w none 0 0 false
  have hbW : Below w.heap.size w (w.alloc (.cells #[.slice none 0 0, .bool false] 105)) := (Below.refl _ _).alloc (Nat.le_refl _) _
  clear h
  go_enter Tryz.func79, Tryz.ntmps79
  go_wp2_with fail
  refine (hr _).mono ?_
  rintro e w1 ⟨A, n, c, k, rfl, hb⟩
  have hbx1 := hbx.below hb (by simp)
  obtain ⟨⟨q0, hc0⟩, ⟨q1, hc1⟩, hf0, hf1⟩ := hbx1.facts
  have hlt := hbx1.lt
  have HB := Lib.hid (hbW.trans (hb.mono hbW.size))
  clear hb hr
  go_wp2_with fail
  exact bodyPost_ret (v := .tuple #[.agg #[.slice none 0 0, .bool false], .int .i64 10]) (by simp [results, Tryz.results79, go_sem, hc0, hc1, hlt, World.cell?_alloc_lt]) rfl ⟨rfl, ((HB.out.setCell (Nat.le_refl _) _).setCell (Nat.le_refl _) _).alloc (by simpa using HB.out.size) _⟩

end Go.Proofs.YtdclloledfjfjaaGreatDoor

namespace Go.Proofs.YtdclloledfjfjaaGreatDoor
open Go.RowKit Vd

theorem small_iff (z : Int) : small z ↔ dlen z.natAbs ≤ 600 := by
  unfold small
  rw [← maxDigits_eq, dlen_le_iff _ _ (by decide)]

/-- what 'write' answers -/
def outV (z : Int) : Value := if small z then .tuple #[.string ⟨(wr z).toArray⟩, .int .i64 0] else .tuple #[.string ⟨#[]⟩, .int .i64 6]

set_option maxRecDepth 100000 in
set_option maxHeartbeats 1000000 in
theorem wwrite_any (v : Value) (z : Int) (w : World) (hv : SgV w v z) (hb : wlen B64 z.natAbs ≤ 1000000) :
    Calls Tryz.prog 133 #[v] w fun e w' => e = .returned (outV z) ∧ Below w.heap.size w w' := by
  obtain ⟨A, n, c, k, rfl⟩ := hv.open
  have ht := fun W (hb2 : Below w.heap.size w W) => text_any _ z 600 W (hv.below hb2) hb (by omega) (by omega)
  rw [show ((600 : Nat) : Int) = 600 from rfl] at ht
  have hbW : Below w.heap.size w (w.alloc (.cells #[.slice A n c, .bool k] 105)) := (Below.refl _ _).alloc (Nat.le_refl _) _
  have ht := ht _ hbW
  by_cases hs : small z
  · have HE : Hid (outV z = .tuple #[.string ⟨(wr z).toArray⟩, .int .i64 0]) := Lib.hid (by unfold outV; rw [if_pos hs])
    rw [show textV z 600 = .tuple #[.string ⟨(wr z).toArray⟩, .bool true] by unfold textV; rw [if_pos ((small_iff z).1 hs)]] at ht
    clear hs hv hb
    go_enter Tryz.func133, Tryz.ntmps133
    go_wp2_with fail
    refine ht.mono ?_
    rintro e w1 ⟨rfl, hb1⟩
    go_wp2_with fail
    go_ret2
    exact ⟨by rw [HE.out]; rfl, hbW.trans (hb1.mono hbW.size)⟩
  · have HE : Hid (outV z = .tuple #[.string ⟨#[]⟩, .int .i64 6]) := Lib.hid (by unfold outV; rw [if_neg hs])
    rw [show textV z 600 = .tuple #[.string ⟨#[]⟩, .bool false] by unfold textV; rw [if_neg (fun h => hs ((small_iff z).2 h))]] at ht
    clear hs hv hb
    go_enter Tryz.func133, Tryz.ntmps133
    go_wp2_with fail
    refine ht.mono ?_
    rintro e w1 ⟨rfl, hb1⟩
    go_wp2_with fail
    go_ret2
    exact ⟨by rw [HE.out]; rfl, hbW.trans (hb1.mono hbW.size)⟩

/-- two boxes at w's end stay, and the world grows only above w -/
structure TwoS (w W : World) : Prop where
  b1 : BoxS W w.heap.size
  b2 : BoxS W (w.heap.size + 1)
  bel : Below w.heap.size w W
theorem TwoS.step {w W w1 : World} (h : TwoS w W) (hb : Below W.heap.size W w1) : TwoS w w1 :=
  ⟨h.b1.below hb h.b1.lt, h.b2.below hb h.b2.lt, h.bel.trans (hb.mono h.bel.size)⟩
theorem TwoS.start (w : World) : TwoS w ((w.alloc (.cells #[.slice none 0 0, .bool false] 105)).alloc (.cells #[.slice none 0 0, .bool false] 105)) := by
  have hb := BoxS.alloc w none 0 0 false
  have hb2 := BoxS.alloc (w.alloc (.cells #[.slice none 0 0, .bool false] 105)) none 0 0 false
  rw [World.size_alloc] at hb2
  exact ⟨hb.below (B := w.heap.size + 1) ((Below.refl _ _).alloc (by simp) _) (by omega), hb2, ((Below.refl _ _).alloc (Nat.le_refl _) _).alloc (by simp) _⟩
theorem TwoS.set1 {w W : World} (h : TwoS w W) (A : Option Addr) (n c : Nat) (k : Bool) : TwoS w ((W.setCell ⟨w.heap.size, 0, none⟩ (.slice A n c)).setCell ⟨w.heap.size, 1, none⟩ (.bool k)) :=
  ⟨h.b1.set A n c k, (h.b2.far (by simp) _).far (by simp) _, (h.bel.setCell (Nat.le_refl _) _).setCell (Nat.le_refl _) _⟩
theorem TwoS.set2 {w W : World} (h : TwoS w W) (A : Option Addr) (n c : Nat) (k : Bool) : TwoS w ((W.setCell ⟨w.heap.size + 1, 0, none⟩ (.slice A n c)).setCell ⟨w.heap.size + 1, 1, none⟩ (.bool k)) :=
  ⟨(h.b1.far (by simp) _).far (by simp) _, h.b2.set A n c k, (h.bel.setCell (by simp) _).setCell (by simp) _⟩

theorem BoxS.read {W : World} {b : Nat} (h : BoxS W b) (A : Option Addr) (n c : Nat) (k : Bool) :
    ((W.setCell ⟨b, 0, none⟩ (.slice A n c)).setCell ⟨b, 1, none⟩ (.bool k)).cell? ⟨b, 0, none⟩ = some (.slice A n c) ∧ ((W.setCell ⟨b, 0, none⟩ (.slice A n c)).setCell ⟨b, 1, none⟩ (.bool k)).cell? ⟨b, 1, none⟩ = some (.bool k) := by
  obtain ⟨A', n', c', k', h⟩ := h
  constructor <;> simp [World.setCell, World.cell?, Array.getElem?_modify, h]

theorem TwoS.fin {w W : World} (h : TwoS w W) (A1 : Option Addr) (n1 c1 : Nat) (k1 : Bool) (A2 : Option Addr) (n2 c2 : Nat) (k2 : Bool) :
    ∃ F, F = ((((W.setCell ⟨w.heap.size, 0, none⟩ (.slice A1 n1 c1)).setCell ⟨w.heap.size, 1, none⟩ (.bool k1)).setCell ⟨w.heap.size + 1, 0, none⟩ (.slice A2 n2 c2)).setCell ⟨w.heap.size + 1, 1, none⟩ (.bool k2)) ∧
      F.cell? ⟨w.heap.size, 0, none⟩ = some (.slice A1 n1 c1) ∧ F.cell? ⟨w.heap.size, 1, none⟩ = some (.bool k1) ∧ F.cell? ⟨w.heap.size + 1, 0, none⟩ = some (.slice A2 n2 c2) ∧ F.cell? ⟨w.heap.size + 1, 1, none⟩ = some (.bool k2) ∧ Below w.heap.size w F := by
  have hS4 := h.set1 A1 n1 c1 k1
  have hS5 := hS4.set2 A2 n2 c2 k2
  obtain ⟨r2, r3⟩ := hS4.b2.read A2 n2 c2 k2
  obtain ⟨r0, r1⟩ := h.b1.read A1 n1 c1 k1
  refine ⟨_, rfl, ?_, ?_, r2, r3, hS5.bel⟩
  · rw [World.cell?_setCell_other _ _ _ _ (by intro e; injection e with e; omega), World.cell?_setCell_other _ _ _ _ (by intro e; injection e with e; omega)]; exact r0
  · rw [World.cell?_setCell_other _ _ _ _ (by intro e; injection e with e; omega), World.cell?_setCell_other _ _ _ _ (by intro e; injection e with e; omega)]; exact r1

set_option maxRecDepth 100000 in
set_option maxHeartbeats 2000000 in
theorem wboth_some (l1 l2 : List UInt8) (x y : Int) (w : World) (h1 : rd l1 = some x) (h2 : rd l2 = some y) :
    Calls Tryz.prog 82 #[.string ⟨l1.toArray⟩, .string ⟨l2.toArray⟩] w fun e w' => ∃ (A1 : Option Addr) (n1 c1 : Nat) (k1 : Bool) (A2 : Option Addr) (n2 c2 : Nat) (k2 : Bool), e = .returned (.tuple #[.agg #[.slice A1 n1 c1, .bool k1], .agg #[.slice A2 n2 c2, .bool k2], .int .i64 0]) ∧ SgV w' (.agg #[.slice A1 n1 c1, .bool k1]) x ∧ SgV w' (.agg #[.slice A2 n2 c2, .bool k2]) y ∧ Below w.heap.size w w' := by
  have hr1 := fun W => wread_some l1 x W h1
  have hr2 := fun W => wread_some l2 y W h2
  have hS0 := TwoS.start w
  clear h1 h2
  go_enter Tryz.func82, Tryz.ntmps82
  go_wp2_with fail
  refine (hr1 _).mono ?_
  rintro e w1 ⟨A1, n1, c1, k1, rfl, hv1, hb1⟩
  have hS1 := hS0.step hb1
  obtain ⟨⟨q0, hc0⟩, ⟨q1, hc1⟩, hf0, hf1⟩ := hS1.b1.facts
  have hS1' := hS1.set1 A1 n1 c1 k1
  have hv1' := hv1.sets hS1.b1 (.slice A1 n1 c1) (.bool k1)
  clear hr1 hb1
  go_wp2_with fail
  refine (hr2 _).mono ?_
  rintro e w2 ⟨A2, n2, c2, k2, rfl, hv2, hb2⟩
  have hS2 := hS1'.step hb2
  have hv12 := hv1'.below hb2
  have hd0 : w2.cell? ⟨w.heap.size, 0, none⟩ = some (.slice A1 n1 c1) := by rw [hb2.cell (by have := hS1.b1.lt; simpa using this)]; simp [go_sem, hc0]
  have hd1 : w2.cell? ⟨w.heap.size, 1, none⟩ = some (.bool k1) := by rw [hb2.cell (by have := hS1.b1.lt; simpa using this)]; simp [go_sem, hc1]
  obtain ⟨⟨p0, he0⟩, ⟨p1, he1⟩, hg0, hg1⟩ := hS2.b2.facts
  obtain ⟨_, _, hh0, hh1⟩ := hS2.b1.facts
  clear hr2 hb2 hc0 hc1 hf0 hf1
  have hS3 := hS2.set2 A2 n2 c2 k2
  have hv13 := hv12.sets hS2.b2 (.slice A2 n2 c2) (.bool k2)
  have hv23 := hv2.sets hS2.b2 (.slice A2 n2 c2) (.bool k2)
  go_wp2_with fail
  go_region
  all_goals go_wp2
  have hS4 := hS3.set1 A1 n1 c1 k1
  have hS5 := hS4.set2 A2 n2 c2 k2
  have hv14 := (hv13.sets hS3.b1 (.slice A1 n1 c1) (.bool k1)).sets hS4.b2 (.slice A2 n2 c2) (.bool k2)
  have hv24 := (hv23.sets hS3.b1 (.slice A1 n1 c1) (.bool k1)).sets hS4.b2 (.slice A2 n2 c2) (.bool k2)
  obtain ⟨r2, r3⟩ := hS4.b2.read A2 n2 c2 k2
  obtain ⟨r0, r1⟩ := hS3.b1.read A1 n1 c1 k1
  have r0' : ((((((w2.setCell ⟨w.heap.size + 1, 0, none⟩ (.slice A2 n2 c2)).setCell ⟨w.heap.size + 1, 1, none⟩ (.bool k2)).setCell ⟨w.heap.size, 0, none⟩ (.slice A1 n1 c1)).setCell ⟨w.heap.size, 1, none⟩ (.bool k1)).setCell ⟨w.heap.size + 1, 0, none⟩ (.slice A2 n2 c2)).setCell ⟨w.heap.size + 1, 1, none⟩ (.bool k2)).cell? ⟨w.heap.size, 0, none⟩ = some (.slice A1 n1 c1) := by
    rw [World.cell?_setCell_other _ _ _ _ (by intro e; injection e with e; omega), World.cell?_setCell_other _ _ _ _ (by intro e; injection e with e; omega)]; exact r0
  have r1' : ((((((w2.setCell ⟨w.heap.size + 1, 0, none⟩ (.slice A2 n2 c2)).setCell ⟨w.heap.size + 1, 1, none⟩ (.bool k2)).setCell ⟨w.heap.size, 0, none⟩ (.slice A1 n1 c1)).setCell ⟨w.heap.size, 1, none⟩ (.bool k1)).setCell ⟨w.heap.size + 1, 0, none⟩ (.slice A2 n2 c2)).setCell ⟨w.heap.size + 1, 1, none⟩ (.bool k2)).cell? ⟨w.heap.size, 1, none⟩ = some (.bool k1) := by
    rw [World.cell?_setCell_other _ _ _ _ (by intro e; injection e with e; omega), World.cell?_setCell_other _ _ _ _ (by intro e; injection e with e; omega)]; exact r1
  have hbel := hS5.bel
  clear hS0 hS1 hS1' hS2 hS3 hS4 hS5 hv1 hv1' hv2 hv12 hv13 hv23 hd0 hd1 he0 he1 hg0 hg1 hh0 hh1 r0 r1
  generalize (((((w2.setCell ⟨w.heap.size + 1, 0, none⟩ (.slice A2 n2 c2)).setCell ⟨w.heap.size + 1, 1, none⟩ (.bool k2)).setCell ⟨w.heap.size, 0, none⟩ (.slice A1 n1 c1)).setCell ⟨w.heap.size, 1, none⟩ (.bool k1)).setCell ⟨w.heap.size + 1, 0, none⟩ (.slice A2 n2 c2)).setCell ⟨w.heap.size + 1, 1, none⟩ (.bool k2) = F at *
  exact bodyPost_ret (v := .tuple #[.agg #[.slice A1 n1 c1, .bool k1], .agg #[.slice A2 n2 c2, .bool k2], .int .i64 0]) (by simp [results, Tryz.results82, go_sem, r0', r1', r2, r3]) rfl ⟨A1, n1, c1, k1, A2, n2, c2, k2, rfl, hv14.drewN 1, hv24.drewN 1, hbel.drew⟩

set_option maxRecDepth 100000 in
set_option maxHeartbeats 2000000 in
theorem wboth_none (l1 l2 : List UInt8) (w : World) (h : rd l1 = none ∨ rd l2 = none) :
    Calls Tryz.prog 82 #[.string ⟨l1.toArray⟩, .string ⟨l2.toArray⟩] w fun e w' => e = .returned (.tuple #[.agg #[.slice none 0 0, .bool false], .agg #[.slice none 0 0, .bool false], .int .i64 10]) ∧ Below w.heap.size w w' := by
  have hS0 := TwoS.start w
  cases h1 : rd l1 with
  | none =>
    have hr1 := fun W => wread_none l1 W h1
    clear h1 h
    go_enter Tryz.func82, Tryz.ntmps82
    go_wp2_with fail
    refine (hr1 _).mono ?_
    rintro e w1 ⟨rfl, hb1⟩
    have hS1 := hS0.step hb1
    obtain ⟨⟨q0, hc0⟩, ⟨q1, hc1⟩, hf0, hf1⟩ := hS1.b1.facts
    obtain ⟨⟨p0, he0⟩, ⟨p1, he1⟩, hg0, hg1⟩ := hS1.b2.facts
    obtain ⟨F, hF, r0, r1, r2, r3, hbel⟩ := (hS1.set1 none 0 0 false).fin none 0 0 false none 0 0 false
    have HF := Lib.hid (And.intro r0 (And.intro r1 (And.intro r2 (And.intro r3 hF))))
    clear hr1 hb1 hS1 hS0 r0 r1 r2 r3 hF
    go_wp2_with fail
    obtain ⟨r0, r1, r2, r3, hF⟩ := HF.out
    rw [← hF]
    clear hF HF
    exact bodyPost_ret (v := .tuple #[.agg #[.slice none 0 0, .bool false], .agg #[.slice none 0 0, .bool false], .int .i64 10]) (by simp [results, Tryz.results82, go_sem, r0, r1, r2, r3]) rfl ⟨rfl, hbel⟩
  | some x =>
    have h2 : rd l2 = none := by
      rcases h with h | h
      · rw [h] at h1; cases h1
      · exact h
    have hr1 := fun W => wread_some l1 x W h1
    have hr2 := fun W => wread_none l2 W h2
    clear h1 h2 h
    go_enter Tryz.func82, Tryz.ntmps82
    go_wp2_with fail
    refine (hr1 _).mono ?_
    rintro e w1 ⟨A1, n1, c1, k1, rfl, hv1, hb1⟩
    have hS1 := hS0.step hb1
    obtain ⟨⟨q0, hc0⟩, ⟨q1, hc1⟩, hf0, hf1⟩ := hS1.b1.facts
    have hS1' := hS1.set1 A1 n1 c1 k1
    clear hr1 hb1 hv1 hS0
    go_wp2_with fail
    refine (hr2 _).mono ?_
    rintro e w2 ⟨rfl, hb2⟩
    have hS2 := hS1'.step hb2
    obtain ⟨⟨p0, he0⟩, ⟨p1, he1⟩, hg0, hg1⟩ := hS2.b2.facts
    obtain ⟨⟨r0, hd0⟩, ⟨r1, hd1⟩, hh0, hh1⟩ := hS2.b1.facts
    obtain ⟨F, hF, r0, r1, r2, r3, hbel⟩ := (hS2.set2 none 0 0 false).fin none 0 0 false none 0 0 false
    have HF := Lib.hid (And.intro r0 (And.intro r1 (And.intro r2 (And.intro r3 hF))))
    clear hr2 hb2 hc0 hc1 hf0 hf1 r0 r1 r2 r3 hF hS1 hS1'
    go_wp2_with fail
    obtain ⟨r0, r1, r2, r3, hF⟩ := HF.out
    rw [← hF]
    clear hF HF
    exact bodyPost_ret (v := .tuple #[.agg #[.slice none 0 0, .bool false], .agg #[.slice none 0 0, .bool false], .int .i64 10]) (by simp [results, Tryz.results82, go_sem, r0, r1, r2, r3]) rfl ⟨rfl, hbel⟩

end Go.Proofs.YtdclloledfjfjaaGreatDoor

namespace Go.Proofs.YtdclloledfjfjaaGreatDoor
open Go.RowKit Vd
attribute [local go_sem ↓] Go.wp_at_zero Go.wp_at_succ

/-- the table of operations -/
def opsV : Value := .agg #[.func (.func 169) #[] #[], .func (.func 202) #[] #[], .func (.func 168) #[] #[], .func (.func 161) #[] #[]]

set_option maxRecDepth 100000 in
set_option maxHeartbeats 1000000 in
theorem operations_any (w : World) :
    Calls Tryz.prog 171 #[] w fun e w' => e = .returned opsV ∧ Below w.heap.size w w' := by
  go_enter Tryz.func171, Tryz.ntmps171
  go_wp2
  exact bodyPost_ret (v := opsV) (by simp [results, Tryz.results171, go_sem, opsV]) rfl ⟨rfl, (Below.refl _ _).alloc (Nat.le_refl _) _⟩

/-- the two boxes are kept, and the world grows only above W0 -/
abbrev CoS (W0 : World) (b : Nat) (m1 : Value) (k1 : Bool) (m2 : Value) (k2 : Bool) (W : World) : Prop :=
  Below W0.heap.size W0 W ∧ W.cell? ⟨b, 0, none⟩ = some m1 ∧ W.cell? ⟨b, 1, none⟩ = some (.bool k1) ∧ W.cell? ⟨b + 1, 0, none⟩ = some m2 ∧ W.cell? ⟨b + 1, 1, none⟩ = some (.bool k2)
theorem co_step {W0 W w1 : World} {b : Nat} {m1 m2 : Value} {k1 k2 : Bool} (h : CoS W0 b m1 k1 m2 k2 W) (hb : Below W.heap.size W w1) : CoS W0 b m1 k1 m2 k2 w1 := by
  have hlt : ∀ p o u, W.cell? ⟨p, o, none⟩ = some u → p < W.heap.size := fun p o u hu => World.block_lt_of_cell? W ⟨p, o, none⟩ hu
  refine ⟨h.1.trans (hb.mono h.1.size), ?_, ?_, ?_, ?_⟩
  · rw [hb.cell (p := ⟨b, 0, none⟩) (hlt _ _ _ h.2.1)]; exact h.2.1
  · rw [hb.cell (p := ⟨b, 1, none⟩) (hlt _ _ _ h.2.2.1)]; exact h.2.2.1
  · rw [hb.cell (p := ⟨b + 1, 0, none⟩) (hlt _ _ _ h.2.2.2.1)]; exact h.2.2.2.1
  · rw [hb.cell (p := ⟨b + 1, 1, none⟩) (hlt _ _ _ h.2.2.2.2)]; exact h.2.2.2.2
theorem co_start (w : World) (m1 m2 : Value) (k1 k2 : Bool) : CoS ((w.alloc (.cells #[m1, .bool k1] 105)).alloc (.cells #[m2, .bool k2] 105)) w.heap.size m1 k1 m2 k2 ((w.alloc (.cells #[m1, .bool k1] 105)).alloc (.cells #[m2, .bool k2] 105)) := by
  refine ⟨Below.refl _ _, ?_, ?_, ?_, ?_⟩ <;> simp [go_sem]

theorem idx0 (w : World) : (Instr.index 189 opsV (.int .i64 0)).run Tryz.prog w = .ok (.agg #[.func (.func 169) #[] #[]]) w := by kernel_rfl
theorem idx1 (w : World) : (Instr.index 189 opsV (.int .i64 1)).run Tryz.prog w = .ok (.agg #[.func (.func 202) #[] #[]]) w := by kernel_rfl
theorem idx2 (w : World) : (Instr.index 189 opsV (.int .i64 2)).run Tryz.prog w = .ok (.agg #[.func (.func 168) #[] #[]]) w := by kernel_rfl
theorem idx3 (w : World) : (Instr.index 189 opsV (.int .i64 3)).run Tryz.prog w = .ok (.agg #[.func (.func 161) #[] #[]]) w := by kernel_rfl

theorem fld_fn (n : Nat) (w : World) : (Instr.field 188 (.agg #[.func (.func n) #[] #[]]) 0).run Tryz.prog w = .ok (.func (.func n) #[] #[]) w := by kernel_rfl

theorem outV_open (z : Int) : ∃ (s : ByteArray) (c : Int), outV z = .tuple #[.string s, .int .i64 c] := by
  unfold outV; split <;> exact ⟨_, _, rfl⟩

set_option maxRecDepth 100000 in
set_option maxHeartbeats 2000000 in
theorem combine_none (l1 l2 : List UInt8) (k : Int) (w : World) (h : rd l1 = none ∨ rd l2 = none) :
    Calls Tryz.prog 130 #[.int .i64 k, .string ⟨l1.toArray⟩, .string ⟨l2.toArray⟩] w fun e w' => e = .returned (.tuple #[.string ⟨#[]⟩, .int .i64 10]) ∧ Below w.heap.size w w' := by
  have hr := fun W => wboth_none l1 l2 W h
  clear h
  go_enter Tryz.func130, Tryz.ntmps130
  go_wp2_with fail
  refine (hr _).mono ?_
  rintro e w1 ⟨rfl, hb⟩
  go_wp2_with fail
  go_ret2
  exact ⟨rfl, (hb.alloc hb.size _).alloc (by simp; have := hb.size; omega) _⟩

set_option maxRecDepth 100000 in
set_option maxHeartbeats 2000000 in
theorem combine_plus (l1 l2 : List UInt8) (x y : Int) (w : World) (h1 : rd l1 = some x) (h2 : rd l2 = some y) (z : Int) (hbz : wlen B64 z.natAbs ≤ 1000000)
    (hop : ∀ v1 v2 W, SgV W v1 x → SgV W v2 y → Calls Tryz.prog 169 #[v1, v2] W fun e w' => ∃ v, e = .returned v ∧ SgV w' v z ∧ Below W.heap.size W w') :
    Calls Tryz.prog 130 #[.int .i64 0, .string ⟨l1.toArray⟩, .string ⟨l2.toArray⟩] w fun e w' => e = .returned (outV z) ∧ Below w.heap.size w w' := by
  have hr := fun W => wboth_some l1 l2 x y W h1 h2
  obtain ⟨s, c, hsc⟩ := outV_open z
  have hww := fun v W (hv : SgV W v z) => wwrite_any v z W hv hbz
  rw [hsc] at hww ⊢
  have HR := Lib.hid hop
  clear h1 h2 hbz hsc hop
  go_enter Tryz.func130, Tryz.ntmps130
  go_wp2_with fail
  refine (hr _).mono ?_
  rintro e w1 ⟨A1, n1, c1, k1, A2, n2, c2, k2, rfl, hv1, hv2, hb⟩
  clear hr
  have hS0 := co_start w1 (.slice A1 n1 c1) (.slice A2 n2 c2) k1 k2
  have hB0 : Below w.heap.size w ((w1.alloc (.cells #[.slice A1 n1 c1, .bool k1] 105)).alloc (.cells #[.slice A2 n2 c2, .bool k2] 105)) := (hb.alloc hb.size _).alloc (by simp; have := hb.size; omega) _
  have hl1 : Below w1.heap.size w1 ((w1.alloc (.cells #[.slice A1 n1 c1, .bool k1] 105)).alloc (.cells #[.slice A2 n2 c2, .bool k2] 105)) := ((Below.refl _ _).alloc (Nat.le_refl _) _).alloc (by simp) _
  have hv1' := hv1.below hl1
  have hv2' := hv2.below hl1
  have HB := Lib.hid hB0
  obtain ⟨W0, hW0⟩ : ∃ W0, W0 = ((w1.alloc (.cells #[.slice A1 n1 c1, .bool k1] 105)).alloc (.cells #[.slice A2 n2 c2, .bool k2] 105)) := ⟨_, rfl⟩
  rw [← hW0] at hv1' hv2' HB
  have hS0' := hS0
  rw [← hW0] at hS0'
  have hopS : Hid (∀ W, CoS W0 w1.heap.size (.slice A1 n1 c1) k1 (.slice A2 n2 c2) k2 W → Calls Tryz.prog 169 #[.agg #[.slice A1 n1 c1, .bool k1], .agg #[.slice A2 n2 c2, .bool k2]] W fun e w' => ∃ v, e = .returned v ∧ SgV w' v z ∧ CoS W0 w1.heap.size (.slice A1 n1 c1) k1 (.slice A2 n2 c2) k2 w') := Lib.hid (fun W hS => (HR.out _ _ W (hv1'.below hS.1) (hv2'.below hS.1)).mono fun e w' ⟨v, he, hv, hb⟩ => ⟨v, he, hv, co_step hS hb⟩)
  have hwS : Hid (∀ W v, SgV W v z → CoS W0 w1.heap.size (.slice A1 n1 c1) k1 (.slice A2 n2 c2) k2 W → Calls Tryz.prog 133 #[v] W fun e w' => e = .returned (.tuple #[.string s, .int .i64 c]) ∧ CoS W0 w1.heap.size (.slice A1 n1 c1) k1 (.slice A2 n2 c2) k2 w') := Lib.hid (fun W v hv hS => (hww v W hv).mono fun e w' ⟨he, hb⟩ => ⟨he, co_step hS hb⟩)
  have hoS : Hid (∀ W, CoS W0 w1.heap.size (.slice A1 n1 c1) k1 (.slice A2 n2 c2) k2 W → Calls Tryz.prog 171 #[] W fun e w' => e = .returned opsV ∧ CoS W0 w1.heap.size (.slice A1 n1 c1) k1 (.slice A2 n2 c2) k2 w') := Lib.hid (fun W hS => (operations_any W).mono fun e w' ⟨he, hb⟩ => ⟨he, co_step hS hb⟩)
  have hfx := fld_fn 169
  have hix := idx0
  unfold opsV at hoS hix
  have HW := Lib.hid hW0
  clear hv1 hv2 hb hl1 hv1' hv2' HR hww hS0' hB0 hW0
  go_wp2_with fail
  rw [← HW.out] at hS0 ⊢
  go_region_held3 (fun W => Below W0.heap.size W0 W ∧ W.cell? ⟨w1.heap.size, 0, none⟩ = some (.slice A1 n1 c1) ∧ W.cell? ⟨w1.heap.size, 1, none⟩ = some (.bool k1) ∧ W.cell? ⟨w1.heap.size + 1, 0, none⟩ = some (.slice A2 n2 c2) ∧ W.cell? ⟨w1.heap.size + 1, 1, none⟩ = some (.bool k2)) (first | with_reducible assumption | exact ⟨hS0.1.drew, hS0.2⟩)
    (first
      | (go_at_call 171; refine (hoS.out _ ?_).mono ?_; with_reducible assumption; rintro e w2 ⟨rfl, hS1⟩)
      | (go_at_call 169; refine (hopS.out _ ?_).mono ?_; with_reducible assumption; rintro e w3 ⟨v, rfl, hv, hS2⟩)
      | (go_at_call 133; refine (hwS.out _ _ ?_ ?_).mono ?_; with_reducible assumption; with_reducible assumption; rintro e w4 ⟨rfl, hS3⟩))
  go_wp2
  go_ret2
  exact ⟨rfl, HB.out.trans (hS3.1.mono HB.out.size)⟩

set_option maxRecDepth 100000 in
set_option maxHeartbeats 2000000 in
theorem combine_minus (l1 l2 : List UInt8) (x y : Int) (w : World) (h1 : rd l1 = some x) (h2 : rd l2 = some y) (z : Int) (hbz : wlen B64 z.natAbs ≤ 1000000)
    (hop : ∀ v1 v2 W, SgV W v1 x → SgV W v2 y → Calls Tryz.prog 202 #[v1, v2] W fun e w' => ∃ v, e = .returned v ∧ SgV w' v z ∧ Below W.heap.size W w') :
    Calls Tryz.prog 130 #[.int .i64 1, .string ⟨l1.toArray⟩, .string ⟨l2.toArray⟩] w fun e w' => e = .returned (outV z) ∧ Below w.heap.size w w' := by
  have hr := fun W => wboth_some l1 l2 x y W h1 h2
  obtain ⟨s, c, hsc⟩ := outV_open z
  have hww := fun v W (hv : SgV W v z) => wwrite_any v z W hv hbz
  rw [hsc] at hww ⊢
  have HR := Lib.hid hop
  clear h1 h2 hbz hsc hop
  go_enter Tryz.func130, Tryz.ntmps130
  go_wp2_with fail
  refine (hr _).mono ?_
  rintro e w1 ⟨A1, n1, c1, k1, A2, n2, c2, k2, rfl, hv1, hv2, hb⟩
  clear hr
  have hS0 := co_start w1 (.slice A1 n1 c1) (.slice A2 n2 c2) k1 k2
  have hB0 : Below w.heap.size w ((w1.alloc (.cells #[.slice A1 n1 c1, .bool k1] 105)).alloc (.cells #[.slice A2 n2 c2, .bool k2] 105)) := (hb.alloc hb.size _).alloc (by simp; have := hb.size; omega) _
  have hl1 : Below w1.heap.size w1 ((w1.alloc (.cells #[.slice A1 n1 c1, .bool k1] 105)).alloc (.cells #[.slice A2 n2 c2, .bool k2] 105)) := ((Below.refl _ _).alloc (Nat.le_refl _) _).alloc (by simp) _
  have hv1' := hv1.below hl1
  have hv2' := hv2.below hl1
  have HB := Lib.hid hB0
  obtain ⟨W0, hW0⟩ : ∃ W0, W0 = ((w1.alloc (.cells #[.slice A1 n1 c1, .bool k1] 105)).alloc (.cells #[.slice A2 n2 c2, .bool k2] 105)) := ⟨_, rfl⟩
  rw [← hW0] at hv1' hv2' HB
  have hS0' := hS0
  rw [← hW0] at hS0'
  have hopS : Hid (∀ W, CoS W0 w1.heap.size (.slice A1 n1 c1) k1 (.slice A2 n2 c2) k2 W → Calls Tryz.prog 202 #[.agg #[.slice A1 n1 c1, .bool k1], .agg #[.slice A2 n2 c2, .bool k2]] W fun e w' => ∃ v, e = .returned v ∧ SgV w' v z ∧ CoS W0 w1.heap.size (.slice A1 n1 c1) k1 (.slice A2 n2 c2) k2 w') := Lib.hid (fun W hS => (HR.out _ _ W (hv1'.below hS.1) (hv2'.below hS.1)).mono fun e w' ⟨v, he, hv, hb⟩ => ⟨v, he, hv, co_step hS hb⟩)
  have hwS : Hid (∀ W v, SgV W v z → CoS W0 w1.heap.size (.slice A1 n1 c1) k1 (.slice A2 n2 c2) k2 W → Calls Tryz.prog 133 #[v] W fun e w' => e = .returned (.tuple #[.string s, .int .i64 c]) ∧ CoS W0 w1.heap.size (.slice A1 n1 c1) k1 (.slice A2 n2 c2) k2 w') := Lib.hid (fun W v hv hS => (hww v W hv).mono fun e w' ⟨he, hb⟩ => ⟨he, co_step hS hb⟩)
  have hoS : Hid (∀ W, CoS W0 w1.heap.size (.slice A1 n1 c1) k1 (.slice A2 n2 c2) k2 W → Calls Tryz.prog 171 #[] W fun e w' => e = .returned opsV ∧ CoS W0 w1.heap.size (.slice A1 n1 c1) k1 (.slice A2 n2 c2) k2 w') := Lib.hid (fun W hS => (operations_any W).mono fun e w' ⟨he, hb⟩ => ⟨he, co_step hS hb⟩)
  have hfx := fld_fn 202
  have hix := idx1
  unfold opsV at hoS hix
  have HW := Lib.hid hW0
  clear hv1 hv2 hb hl1 hv1' hv2' HR hww hS0' hB0 hW0
  go_wp2_with fail
  rw [← HW.out] at hS0 ⊢
  go_region_held3 (fun W => Below W0.heap.size W0 W ∧ W.cell? ⟨w1.heap.size, 0, none⟩ = some (.slice A1 n1 c1) ∧ W.cell? ⟨w1.heap.size, 1, none⟩ = some (.bool k1) ∧ W.cell? ⟨w1.heap.size + 1, 0, none⟩ = some (.slice A2 n2 c2) ∧ W.cell? ⟨w1.heap.size + 1, 1, none⟩ = some (.bool k2)) (first | with_reducible assumption | exact ⟨hS0.1.drew, hS0.2⟩)
    (first
      | (go_at_call 171; refine (hoS.out _ ?_).mono ?_; with_reducible assumption; rintro e w2 ⟨rfl, hS1⟩)
      | (go_at_call 202; refine (hopS.out _ ?_).mono ?_; with_reducible assumption; rintro e w3 ⟨v, rfl, hv, hS2⟩)
      | (go_at_call 133; refine (hwS.out _ _ ?_ ?_).mono ?_; with_reducible assumption; with_reducible assumption; rintro e w4 ⟨rfl, hS3⟩))
  go_wp2
  go_ret2
  exact ⟨rfl, HB.out.trans (hS3.1.mono HB.out.size)⟩

set_option maxRecDepth 100000 in
set_option maxHeartbeats 2000000 in
theorem combine_times (l1 l2 : List UInt8) (x y : Int) (w : World) (h1 : rd l1 = some x) (h2 : rd l2 = some y) (z : Int) (hbz : wlen B64 z.natAbs ≤ 1000000)
    (hop : ∀ v1 v2 W, SgV W v1 x → SgV W v2 y → Calls Tryz.prog 168 #[v1, v2] W fun e w' => ∃ v, e = .returned v ∧ SgV w' v z ∧ Below W.heap.size W w') :
    Calls Tryz.prog 130 #[.int .i64 2, .string ⟨l1.toArray⟩, .string ⟨l2.toArray⟩] w fun e w' => e = .returned (outV z) ∧ Below w.heap.size w w' := by
  have hr := fun W => wboth_some l1 l2 x y W h1 h2
  obtain ⟨s, c, hsc⟩ := outV_open z
  have hww := fun v W (hv : SgV W v z) => wwrite_any v z W hv hbz
  rw [hsc] at hww ⊢
  have HR := Lib.hid hop
  clear h1 h2 hbz hsc hop
  go_enter Tryz.func130, Tryz.ntmps130
  go_wp2_with fail
  refine (hr _).mono ?_
  rintro e w1 ⟨A1, n1, c1, k1, A2, n2, c2, k2, rfl, hv1, hv2, hb⟩
  clear hr
  have hS0 := co_start w1 (.slice A1 n1 c1) (.slice A2 n2 c2) k1 k2
  have hB0 : Below w.heap.size w ((w1.alloc (.cells #[.slice A1 n1 c1, .bool k1] 105)).alloc (.cells #[.slice A2 n2 c2, .bool k2] 105)) := (hb.alloc hb.size _).alloc (by simp; have := hb.size; omega) _
  have hl1 : Below w1.heap.size w1 ((w1.alloc (.cells #[.slice A1 n1 c1, .bool k1] 105)).alloc (.cells #[.slice A2 n2 c2, .bool k2] 105)) := ((Below.refl _ _).alloc (Nat.le_refl _) _).alloc (by simp) _
  have hv1' := hv1.below hl1
  have hv2' := hv2.below hl1
  have HB := Lib.hid hB0
  obtain ⟨W0, hW0⟩ : ∃ W0, W0 = ((w1.alloc (.cells #[.slice A1 n1 c1, .bool k1] 105)).alloc (.cells #[.slice A2 n2 c2, .bool k2] 105)) := ⟨_, rfl⟩
  rw [← hW0] at hv1' hv2' HB
  have hS0' := hS0
  rw [← hW0] at hS0'
  have hopS : Hid (∀ W, CoS W0 w1.heap.size (.slice A1 n1 c1) k1 (.slice A2 n2 c2) k2 W → Calls Tryz.prog 168 #[.agg #[.slice A1 n1 c1, .bool k1], .agg #[.slice A2 n2 c2, .bool k2]] W fun e w' => ∃ v, e = .returned v ∧ SgV w' v z ∧ CoS W0 w1.heap.size (.slice A1 n1 c1) k1 (.slice A2 n2 c2) k2 w') := Lib.hid (fun W hS => (HR.out _ _ W (hv1'.below hS.1) (hv2'.below hS.1)).mono fun e w' ⟨v, he, hv, hb⟩ => ⟨v, he, hv, co_step hS hb⟩)
  have hwS : Hid (∀ W v, SgV W v z → CoS W0 w1.heap.size (.slice A1 n1 c1) k1 (.slice A2 n2 c2) k2 W → Calls Tryz.prog 133 #[v] W fun e w' => e = .returned (.tuple #[.string s, .int .i64 c]) ∧ CoS W0 w1.heap.size (.slice A1 n1 c1) k1 (.slice A2 n2 c2) k2 w') := Lib.hid (fun W v hv hS => (hww v W hv).mono fun e w' ⟨he, hb⟩ => ⟨he, co_step hS hb⟩)
  have hoS : Hid (∀ W, CoS W0 w1.heap.size (.slice A1 n1 c1) k1 (.slice A2 n2 c2) k2 W → Calls Tryz.prog 171 #[] W fun e w' => e = .returned opsV ∧ CoS W0 w1.heap.size (.slice A1 n1 c1) k1 (.slice A2 n2 c2) k2 w') := Lib.hid (fun W hS => (operations_any W).mono fun e w' ⟨he, hb⟩ => ⟨he, co_step hS hb⟩)
  have hfx := fld_fn 168
  have hix := idx2
  unfold opsV at hoS hix
  have HW := Lib.hid hW0
  clear hv1 hv2 hb hl1 hv1' hv2' HR hww hS0' hB0 hW0
  go_wp2_with fail
  rw [← HW.out] at hS0 ⊢
  go_region_held3 (fun W => Below W0.heap.size W0 W ∧ W.cell? ⟨w1.heap.size, 0, none⟩ = some (.slice A1 n1 c1) ∧ W.cell? ⟨w1.heap.size, 1, none⟩ = some (.bool k1) ∧ W.cell? ⟨w1.heap.size + 1, 0, none⟩ = some (.slice A2 n2 c2) ∧ W.cell? ⟨w1.heap.size + 1, 1, none⟩ = some (.bool k2)) (first | with_reducible assumption | exact ⟨hS0.1.drew, hS0.2⟩)
    (first
      | (go_at_call 171; refine (hoS.out _ ?_).mono ?_; with_reducible assumption; rintro e w2 ⟨rfl, hS1⟩)
      | (go_at_call 168; refine (hopS.out _ ?_).mono ?_; with_reducible assumption; rintro e w3 ⟨v, rfl, hv, hS2⟩)
      | (go_at_call 133; refine (hwS.out _ _ ?_ ?_).mono ?_; with_reducible assumption; with_reducible assumption; rintro e w4 ⟨rfl, hS3⟩))
  go_wp2
  go_ret2
  exact ⟨rfl, HB.out.trans (hS3.1.mono HB.out.size)⟩

set_option maxRecDepth 100000 in
set_option maxHeartbeats 2000000 in
theorem combine_divisor (l1 l2 : List UInt8) (x y : Int) (w : World) (h1 : rd l1 = some x) (h2 : rd l2 = some y) (z : Int) (hbz : wlen B64 z.natAbs ≤ 1000000)
    (hop : ∀ v1 v2 W, SgV W v1 x → SgV W v2 y → Calls Tryz.prog 161 #[v1, v2] W fun e w' => ∃ v, e = .returned v ∧ SgV w' v z ∧ Below W.heap.size W w') :
    Calls Tryz.prog 130 #[.int .i64 3, .string ⟨l1.toArray⟩, .string ⟨l2.toArray⟩] w fun e w' => e = .returned (outV z) ∧ Below w.heap.size w w' := by
  have hr := fun W => wboth_some l1 l2 x y W h1 h2
  obtain ⟨s, c, hsc⟩ := outV_open z
  have hww := fun v W (hv : SgV W v z) => wwrite_any v z W hv hbz
  rw [hsc] at hww ⊢
  have HR := Lib.hid hop
  clear h1 h2 hbz hsc hop
  go_enter Tryz.func130, Tryz.ntmps130
  go_wp2_with fail
  refine (hr _).mono ?_
  rintro e w1 ⟨A1, n1, c1, k1, A2, n2, c2, k2, rfl, hv1, hv2, hb⟩
  clear hr
  have hS0 := co_start w1 (.slice A1 n1 c1) (.slice A2 n2 c2) k1 k2
  have hB0 : Below w.heap.size w ((w1.alloc (.cells #[.slice A1 n1 c1, .bool k1] 105)).alloc (.cells #[.slice A2 n2 c2, .bool k2] 105)) := (hb.alloc hb.size _).alloc (by simp; have := hb.size; omega) _
  have hl1 : Below w1.heap.size w1 ((w1.alloc (.cells #[.slice A1 n1 c1, .bool k1] 105)).alloc (.cells #[.slice A2 n2 c2, .bool k2] 105)) := ((Below.refl _ _).alloc (Nat.le_refl _) _).alloc (by simp) _
  have hv1' := hv1.below hl1
  have hv2' := hv2.below hl1
  have HB := Lib.hid hB0
  obtain ⟨W0, hW0⟩ : ∃ W0, W0 = ((w1.alloc (.cells #[.slice A1 n1 c1, .bool k1] 105)).alloc (.cells #[.slice A2 n2 c2, .bool k2] 105)) := ⟨_, rfl⟩
  rw [← hW0] at hv1' hv2' HB
  have hS0' := hS0
  rw [← hW0] at hS0'
  have hopS : Hid (∀ W, CoS W0 w1.heap.size (.slice A1 n1 c1) k1 (.slice A2 n2 c2) k2 W → Calls Tryz.prog 161 #[.agg #[.slice A1 n1 c1, .bool k1], .agg #[.slice A2 n2 c2, .bool k2]] W fun e w' => ∃ v, e = .returned v ∧ SgV w' v z ∧ CoS W0 w1.heap.size (.slice A1 n1 c1) k1 (.slice A2 n2 c2) k2 w') := Lib.hid (fun W hS => (HR.out _ _ W (hv1'.below hS.1) (hv2'.below hS.1)).mono fun e w' ⟨v, he, hv, hb⟩ => ⟨v, he, hv, co_step hS hb⟩)
  have hwS : Hid (∀ W v, SgV W v z → CoS W0 w1.heap.size (.slice A1 n1 c1) k1 (.slice A2 n2 c2) k2 W → Calls Tryz.prog 133 #[v] W fun e w' => e = .returned (.tuple #[.string s, .int .i64 c]) ∧ CoS W0 w1.heap.size (.slice A1 n1 c1) k1 (.slice A2 n2 c2) k2 w') := Lib.hid (fun W v hv hS => (hww v W hv).mono fun e w' ⟨he, hb⟩ => ⟨he, co_step hS hb⟩)
  have hoS : Hid (∀ W, CoS W0 w1.heap.size (.slice A1 n1 c1) k1 (.slice A2 n2 c2) k2 W → Calls Tryz.prog 171 #[] W fun e w' => e = .returned opsV ∧ CoS W0 w1.heap.size (.slice A1 n1 c1) k1 (.slice A2 n2 c2) k2 w') := Lib.hid (fun W hS => (operations_any W).mono fun e w' ⟨he, hb⟩ => ⟨he, co_step hS hb⟩)
  have hfx := fld_fn 161
  have hix := idx3
  unfold opsV at hoS hix
  have HW := Lib.hid hW0
  clear hv1 hv2 hb hl1 hv1' hv2' HR hww hS0' hB0 hW0
  go_wp2_with fail
  rw [← HW.out] at hS0 ⊢
  go_region_held3 (fun W => Below W0.heap.size W0 W ∧ W.cell? ⟨w1.heap.size, 0, none⟩ = some (.slice A1 n1 c1) ∧ W.cell? ⟨w1.heap.size, 1, none⟩ = some (.bool k1) ∧ W.cell? ⟨w1.heap.size + 1, 0, none⟩ = some (.slice A2 n2 c2) ∧ W.cell? ⟨w1.heap.size + 1, 1, none⟩ = some (.bool k2)) (first | with_reducible assumption | exact ⟨hS0.1.drew, hS0.2⟩)
    (first
      | (go_at_call 171; refine (hoS.out _ ?_).mono ?_; with_reducible assumption; rintro e w2 ⟨rfl, hS1⟩)
      | (go_at_call 161; refine (hopS.out _ ?_).mono ?_; with_reducible assumption; rintro e w3 ⟨v, rfl, hv, hS2⟩)
      | (go_at_call 133; refine (hwS.out _ _ ?_ ?_).mono ?_; with_reducible assumption; with_reducible assumption; rintro e w4 ⟨rfl, hS3⟩))
  go_wp2
  go_ret2
  exact ⟨rfl, HB.out.trans (hS3.1.mono HB.out.size)⟩

end Go.Proofs.YtdclloledfjfjaaGreatDoor
