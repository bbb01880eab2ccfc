/- A fraction of a draft that came in; a short fraction of it. -/
import Derived.Test.YtfkdcgjphnoioaaGreatDoorFrcB
import Derived.Test.YtfkdcgjphnoioaaGreatDoorFrcA
import Derived.Test.YtfkdcgjphnoioaaGreatDoorCardF
import Derived.ChangeSame
import Derived.Lay
import Derived.Shelf.Vars
import Derived.ChangeMaps5
namespace Go.Proofs.YtfkdcgjphnoioaaGreatDoor
open Go.RowKit Vd

theorem wk_of {w W : World} (h : Gnd w) (hb : Below w.heap.size w W) : Wk w W := ⟨hb, h.below hb⟩
end Go.Proofs.YtfkdcgjphnoioaaGreatDoor

namespace Go.Proofs.YtfkdcgjphnoioaaGreatDoor
open Go.ChangeShapes Go.WideShapes Go.ChangeAt Go.RowKit Vd

theorem array6 {α : Type} {cs : Array α} (h : cs.size = 6) : ∃ c0 c1 c2 c3 c4 c5, cs = #[c0, c1, c2, c3, c4, c5] := by
  obtain ⟨l⟩ := cs
  match l, h with
  | [c0, c1, c2, c3, c4, c5], _ => exact ⟨c0, c1, c2, c3, c4, c5, rfl⟩

section
variable {H : Type} {enc : TypeId × Value → H}
set_option maxRecDepth 100000 in
theorem draft_of_trod {W : World} {m : Nat} {c0 c1 c2 : Value} {y : DataW H × List MemPlace} (h : DataW.trod enc Tryz.prog W 0 (fun _ => true) true m 28 [c0, c1, c2] = some y) :
    ∃ (b : Bool) (A : Option Addr) (n c z : Nat) (xs : List Nat), c0 = .bool b ∧ c1 = .slice A n c ∧ c2 = .int .u16 (z : Int) ∧ DraftIn W b A n c z xs := by
  obtain ⟨y0, y1, y2, k, _, _, g0, g1, g2⟩ := Go.Deep.trod_struct3 Tryz.underlying28 h
  have hy0 : DataW.trod enc Tryz.prog W 0 (fun _ => true) true k 4 [c0] = some y0 := g0
  have hy1 : DataW.trod enc Tryz.prog W 0 (fun _ => true) true k 25 [c1] = some y1 := g1
  have hy2 : DataW.trod enc Tryz.prog W 0 (fun _ => true) true k 26 [c2] = some y2 := g2
  clear g0 g1 g2
  obtain ⟨b, e0, _⟩ := DataW.trod_bool Tryz.underlying4 hy0
  obtain ⟨z, e2, _, wz⟩ := DataW.trod_int Tryz.underlying26 hy2
  simp at e0 e2
  subst e0 e2
  have hz := u16_wf wz
  rcases open_ints Tryz.underlying25 Tryz.underlying26 (by kernel_rfl) hy1 with ⟨e1, _⟩ | ⟨a, len, cap, zs, e1, _, hlc, hcm, hzl, _, hcell, hw⟩
  · simp at e1
    subst e1
    exact ⟨b, none, 0, 0, z.toNat, [], rfl, rfl, by rw [Int.toNat_of_nonneg hz.1], ⟨Sl.nil, Ok.nil, by omega, by omega⟩⟩
  · simp at e1
    subst e1
    rw [if_pos rfl] at hzl
    have hn : len ≤ 9223372036854775807 := by unfold maxLen at hcm; omega
    have hd := fun i hi => dropInts zs hw i hi
    refine ⟨b, some a, len, cap, z.toNat, (zs.map Int.toNat).take len, rfl, rfl, by rw [Int.toNat_of_nonneg hz.1], ⟨⟨?_, fun h0 => ?_⟩, ?_, by omega, hn⟩⟩
    · rw [List.length_take, List.length_map]; omega
    · have hs := spot_none (hcell 0 (by omega))
      have hs' : a.spot = none := by simpa [Addr.add] using hs
      obtain ⟨g, o, sp⟩ := a
      simp only at hs'
      subst hs'
      refine ⟨g, o, rfl, ?_, fun i hi => ?_⟩
      · have h1 := World.block_lt_of_cell? W _ (hcell 0 (by omega))
        simpa [Addr.add] using h1
      · have h1 := hcell i (by omega)
        rw [add_plain, (hd i (by omega)).1] at h1
        rw [h1, nth_take hi]
        rfl
    · refine okOf _ fun i hi => ?_
      rw [List.length_take, List.length_map] at hi
      rw [nth_take (by omega)]
      exact (hd i (by omega)).2

set_option maxRecDepth 100000 in
/-- THE DRAFT OF A FRACTION THAT CAME IN. -/
theorem open_fdraft {W : World} {base : Nat} {v : Value} {d : DataW H} {p : List MemPlace} (hv : Value.okWide Tryz.prog W .any base 30 v) (h : DataW.Trod enc Tryz.prog W 0 (fun _ => true) true 30 v d p) :
    ∃ (b1 : Bool) (A1 : Option Addr) (n1 c1 z1 : Nat) (xs1 : List Nat) (b2 : Bool) (A2 : Option Addr) (n2 c2 z2 : Nat) (xs2 : List Nat), v = .agg #[.bool b1, .slice A1 n1 c1, .int .u16 (z1 : Int), .bool b2, .slice A2 n2 c2, .int .u16 (z2 : Int)] ∧ DraftIn W b1 A1 n1 c1 z1 xs1 ∧ DraftIn W b2 A2 n2 c2 z2 xs2 := by
  obtain ⟨cs, rfl, hsz⟩ := okWide_struct Tryz.underlying30 hv
  obtain ⟨u0, u1, u2, u3, u4, u5, rfl⟩ := array6 (hsz.trans (by kernel_rfl))
  obtain ⟨fuel, hf⟩ := h
  obtain ⟨y0, y1, n, _, _, h0, h1⟩ := trod_struct2 Tryz.underlying30 hf
  obtain ⟨b1, A1, n1, c1, z1, xs1, rfl, rfl, rfl, D1⟩ := draft_of_trod (show DataW.trod enc Tryz.prog W 0 (fun _ => true) true n 28 [u0, u1, u2] = some y0 from h0)
  obtain ⟨b2, A2, n2, c2, z2, xs2, rfl, rfl, rfl, D2⟩ := draft_of_trod (show DataW.trod enc Tryz.prog W 0 (fun _ => true) true n 28 [u3, u4, u5] = some y1 from h1)
  exact ⟨b1, A1, n1, c1, z1, xs1, b2, A2, n2, c2, z2, xs2, rfl, D1, D2⟩
end
end Go.Proofs.YtfkdcgjphnoioaaGreatDoor
