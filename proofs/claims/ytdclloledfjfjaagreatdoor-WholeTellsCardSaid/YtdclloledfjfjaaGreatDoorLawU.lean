/- WholeSums, WholeParts: pairs of numbers; what the library and the reference both answer. What the library and the reference both answer; what a round over pairs keeps. From the row's reading to the walks' words: two texts and two drafts that came in. -/
import Derived.Test.YtdclloledfjfjaaGreatDoorLawA
import Derived.Test.YtdclloledfjfjaaGreatDoorRefN
import Derived.Laws.Tables
import Derived.Test.YtdclloledfjfjaaGreatDoorCardA
namespace Go.Proofs.YtdclloledfjfjaaGreatDoor
open Go.RowKit Vd
attribute [local go_sem ↓] Go.wp_at_zero Go.wp_at_succ

theorem pair_built (s t : ByteArray) (W : World) : (Instr.build 33 #[(0, .string s), (1, .string t)]).run Tryz.prog W = .ok (.agg #[.string s, .string t]) W :=
  run_build W _ _ _ (by kernel_rfl)

theorem ext_take (l : List UInt8) (m : Nat) : (⟨l.toArray⟩ : ByteArray).extract 0 m = ⟨(l.take m).toArray⟩ := by
  apply ByteArray.ext
  simp

/-- four pairs of texts -/
def four4 (a b x y : List UInt8) : Array Value := #[.string ⟨a.toArray⟩, .string ⟨b.toArray⟩, .string ⟨x.toArray⟩, .string ⟨y.toArray⟩, .string ⟨a.toArray⟩, .string ⟨y.toArray⟩, .string ⟨y.toArray⟩, .string ⟨b.toArray⟩]

abbrev TwoV (a b : List UInt8) (b1 : Bool) (A1 : Option Addr) (n1 c1 z1 : Nat) (b2 : Bool) (A2 : Option Addr) (n2 c2 z2 : Nat) : Array Value :=
  #[.string ⟨a.toArray⟩, .string ⟨b.toArray⟩, .bool b1, .slice A1 n1 c1, .int .u16 (z1 : Int), .bool b2, .slice A2 n2 c2, .int .u16 (z2 : Int)]

abbrev TwoS2 (w : World) (b1 s1 z1 b2 s2 z2 : Value) (W : World) : Prop :=
  Below w.heap.size w W ∧ W.cell? ⟨w.heap.size, 2, none⟩ = some b1 ∧ W.cell? ⟨w.heap.size, 3, none⟩ = some s1 ∧ W.cell? ⟨w.heap.size, 4, none⟩ = some z1 ∧ W.cell? ⟨w.heap.size, 5, none⟩ = some b2 ∧ W.cell? ⟨w.heap.size, 6, none⟩ = some s2 ∧ W.cell? ⟨w.heap.size, 7, none⟩ = some z2
theorem twoS2_step {w W W' : World} {b1 s1 z1 b2 s2 z2 : Value} (h : TwoS2 w b1 s1 z1 b2 s2 z2 W) (hb : Below W.heap.size W W') : TwoS2 w b1 s1 z1 b2 s2 z2 W' := by
  obtain ⟨h0, h1, h2, h3, h4, h5, h6⟩ := h
  have hl := World.block_lt_of_cell? W _ h1
  have hc : ∀ o, W'.cell? ⟨w.heap.size, o, none⟩ = W.cell? ⟨w.heap.size, o, none⟩ := fun o => hb.cell (p := ⟨w.heap.size, o, none⟩) hl
  exact ⟨h0.trans (hb.mono h0.size), (hc 2).trans h1, (hc 3).trans h2, (hc 4).trans h3, (hc 5).trans h4, (hc 6).trans h5, (hc 7).trans h6⟩

theorem draft_len (b : Bool) (A : Option Addr) (n c z : Nat) (xs : List Nat) (w : World) (h : DraftIn w b A n c z xs) :
    Calls Tryz.prog 74 #[.agg #[.bool b, .slice A n c, .int .u16 (z : Int)]] w fun e w' => ∃ l : List UInt8, e = .returned (.string ⟨l.toArray⟩) ∧ l.length ≤ 1000000 ∧ Below w.heap.size w w' := by
  refine (draft_any b A n c z xs w h.sl h.ok h.z h.n).mono ?_
  rintro e w' ⟨x, he, hx, hb⟩
  refine ⟨wr x, he, ?_, hb⟩
  refine rd_len (z := x) (rd_wr ?_)
  unfold small
  refine Nat.lt_of_lt_of_le hx (Nat.pow_le_pow_right (by omega) ?_)
  rw [maxDigits_eq]
  have := Nat.mod_lt z (show 0 < 501 by omega)
  omega

set_option maxRecDepth 100000 in
set_option maxHeartbeats 4000000 in
theorem pairs_any2 (a b : List UInt8) (b1 : Bool) (A1 : Option Addr) (n1 c1 z1 : Nat) (xs1 : List Nat) (b2 : Bool) (A2 : Option Addr) (n2 c2 z2 : Nat) (xs2 : List Nat) (w : World) (h1 : DraftIn w b1 A1 n1 c1 z1 xs1) (h2 : DraftIn w b2 A2 n2 c2 z2 xs2) :
    Calls Tryz.prog 13 #[.agg (TwoV a b b1 A1 n1 c1 z1 b2 A2 n2 c2 z2)] w fun e w' => ∃ (g : Nat) (ta tb x y : List UInt8), e = .returned (.slice (some ⟨g, 0, none⟩) 4 4) ∧ w'.heap[g]? = some (.cells (four4 ta tb x y) 33 (0, 0)) ∧ ta.length ≤ 1000000 ∧ tb.length ≤ 1000000 ∧ x.length ≤ 1000000 ∧ y.length ≤ 1000000 ∧ Below w.heap.size w w' ∧ w.heap.size ≤ g := by
  have K1 : Hid (∀ W, TwoS2 w (.bool b1) (.slice A1 n1 c1) (.int .u16 (z1 : Int)) (.bool b2) (.slice A2 n2 c2) (.int .u16 (z2 : Int)) W → Calls Tryz.prog 74 #[.agg #[.bool b1, .slice A1 n1 c1, .int .u16 (z1 : Int)]] W fun e w' => ∃ l : List UInt8, e = .returned (.string ⟨l.toArray⟩) ∧ l.length ≤ 1000000 ∧ TwoS2 w (.bool b1) (.slice A1 n1 c1) (.int .u16 (z1 : Int)) (.bool b2) (.slice A2 n2 c2) (.int .u16 (z2 : Int)) w') := Lib.hid (fun W hS => (draft_len b1 A1 n1 c1 z1 xs1 W (h1.below hS.1)).mono fun e w' ⟨l, he, hl, hb⟩ => ⟨l, he, hl, twoS2_step hS hb⟩)
  have K2 : Hid (∀ W, TwoS2 w (.bool b1) (.slice A1 n1 c1) (.int .u16 (z1 : Int)) (.bool b2) (.slice A2 n2 c2) (.int .u16 (z2 : Int)) W → Calls Tryz.prog 74 #[.agg #[.bool b2, .slice A2 n2 c2, .int .u16 (z2 : Int)]] W fun e w' => ∃ l : List UInt8, e = .returned (.string ⟨l.toArray⟩) ∧ l.length ≤ 1000000 ∧ TwoS2 w (.bool b1) (.slice A1 n1 c1) (.int .u16 (z1 : Int)) (.bool b2) (.slice A2 n2 c2) (.int .u16 (z2 : Int)) w') := Lib.hid (fun W hS => (draft_len b2 A2 n2 c2 z2 xs2 W (h2.below hS.1)).mono fun e w' ⟨l, he, hl, hb⟩ => ⟨l, he, hl, twoS2_step hS hb⟩)
  have hT0 : TwoS2 w (.bool b1) (.slice A1 n1 c1) (.int .u16 (z1 : Int)) (.bool b2) (.slice A2 n2 c2) (.int .u16 (z2 : Int)) (w.alloc (.cells (TwoV a b b1 A1 n1 c1 z1 b2 A2 n2 c2 z2) 27)).drew := by
    refine ⟨((Below.refl _ _).alloc (Nat.le_refl _) _).drew, ?_, ?_, ?_, ?_, ?_, ?_⟩ <;> simp [go_sem, TwoV]
  have HT0 := Lib.hid hT0
  clear h1 h2 hT0
  go_enter Tryz.func13, Tryz.ntmps13
  go_wp2_with fail
  go_region
  simp only [ext_take]
  obtain ⟨ta, hta⟩ : ∃ l, l = a.take (min (a.length : Int) 620).toNat := ⟨_, rfl⟩
  obtain ⟨tb, htb⟩ : ∃ l, l = b.take (min (b.length : Int) 620).toNat := ⟨_, rfl⟩
  have la : ta.length ≤ 620 := by rw [hta, List.length_take]; omega
  have lb : tb.length ≤ 620 := by rw [htb, List.length_take]; omega
  rw [← hta, ← htb]
  have hT1 := HT0.out
  have HL := Lib.hid (And.intro la lb)
  clear hta htb la lb HT0
  go_wp2_with fail
  go_region_held3 (fun W => Below w.heap.size w W ∧ W.cell? ⟨w.heap.size, 2, none⟩ = some (.bool b1) ∧ W.cell? ⟨w.heap.size, 3, none⟩ = some (.slice A1 n1 c1) ∧ W.cell? ⟨w.heap.size, 4, none⟩ = some (.int .u16 (z1 : Int)) ∧ W.cell? ⟨w.heap.size, 5, none⟩ = some (.bool b2) ∧ W.cell? ⟨w.heap.size, 6, none⟩ = some (.slice A2 n2 c2) ∧ W.cell? ⟨w.heap.size, 7, none⟩ = some (.int .u16 (z2 : Int)))
    (first | with_reducible assumption | exact ⟨hT1.1.drew, hT1.2⟩)
    (first
      | (go_at_call 74; with_reducible refine (K1.out _ ?_).mono ?_; with_reducible assumption; rintro e w2 ⟨l1, rfl, hl1, hS2⟩)
      | (go_at_call 74; with_reducible refine (K2.out _ ?_).mono ?_; with_reducible assumption; rintro e w3 ⟨l2, rfl, hl2, hS3⟩))
  have hbd := fun (s t : ByteArray) W => pair_built s t W
  have HL2 := Lib.hid (And.intro hl1 hl2)
  clear hT1 hS2 K1 K2 hl1 hl2
  have hbel := hS3.1
  clear hS3
  go_wp2_with fail
  go_ret
  exact ⟨w3.heap.size, ta, tb, l1, l2, rfl, heap_alloc_new w3 _, by have := HL.out; omega, by have := HL.out; omega, HL2.out.1, HL2.out.2, hbel.alloc hbel.size _, hbel.size⟩

theorem pairs_any (a b : List UInt8) (b1 : Bool) (A1 : Option Addr) (n1 c1 z1 : Nat) (xs1 : List Nat) (b2 : Bool) (A2 : Option Addr) (n2 c2 z2 : Nat) (xs2 : List Nat) (w : World) (h1 : DraftIn w b1 A1 n1 c1 z1 xs1) (h2 : DraftIn w b2 A2 n2 c2 z2 xs2) :
    Calls Tryz.prog 13 #[.agg (TwoV a b b1 A1 n1 c1 z1 b2 A2 n2 c2 z2)] w fun e w' => ∃ (g : Nat) (ta tb x y : List UInt8), e = .returned (.slice (some ⟨g, 0, none⟩) 4 4) ∧ w'.heap[g]? = some (.cells (four4 ta tb x y) 33 (0, 0)) ∧ ta.length ≤ 1000000 ∧ tb.length ≤ 1000000 ∧ x.length ≤ 1000000 ∧ y.length ≤ 1000000 ∧ Below w.heap.size w w' :=
  (pairs_any2 a b b1 A1 n1 c1 z1 xs1 b2 A2 n2 c2 z2 xs2 w h1 h2).mono fun _ _ ⟨g, ta, tb, x, y, he, hF, l1, l2, l3, l4, hb, _⟩ => ⟨g, ta, tb, x, y, he, hF, l1, l2, l3, l4, hb⟩

end Go.Proofs.YtdclloledfjfjaaGreatDoor

namespace Go.Proofs.YtdclloledfjfjaaGreatDoor
open Go.RowKit Vd
attribute [local go_sem ↓] Go.wp_at_zero Go.wp_at_succ

/-- what a round keeps: the pairs, and the pair at hand -/
structure PairW (w : World) (g h : Nat) (F : Array Value) (s t : Value) (W : World) : Prop where
  k : Wk w W
  f : W.heap[g]? = some (.cells F 33 (0, 0))
  c0 : W.cell? ⟨h, 0, none⟩ = some s
  c1 : W.cell? ⟨h, 1, none⟩ = some t
theorem heap_lt {W : World} {g : Nat} {o : Obj} (h : W.heap[g]? = some o) : g < W.heap.size := (Array.getElem?_eq_some_iff.1 h).1
theorem PairW.step {w : World} {g h : Nat} {F : Array Value} {s t : Value} {W W' : World} (p : PairW w g h F s t W) (hb : Below W.heap.size W W') : PairW w g h F s t W' :=
  ⟨p.k.step hb, (hb.block g (heap_lt p.f)).trans p.f, (hb.cell (World.block_lt_of_cell? W _ p.c0)).trans p.c0, (hb.cell (World.block_lt_of_cell? W _ p.c1)).trans p.c1⟩
theorem PairW.start {w : World} {g : Nat} {F : Array Value} {s t : Value} {W : World} (k : Wk w W) (f : W.heap[g]? = some (.cells F 33 (0, 0))) : PairW w g W.heap.size F s t (W.alloc (.cells #[s, t] 33)) := by
  have hb : Below W.heap.size W (W.alloc (.cells #[s, t] 33)) := (Below.refl _ _).alloc (Nat.le_refl _) _
  refine ⟨k.step hb, (hb.block g (heap_lt f)).trans f, ?_, ?_⟩ <;> simp [go_sem]
theorem pair_at (a b x y : List UInt8) (g i : Nat) (W : World) (f : W.heap[g]? = some (.cells (four4 a b x y) 33 (0, 0))) (ha : a.length ≤ 1000000) (hb : b.length ≤ 1000000) (hx : x.length ≤ 1000000) (hy : y.length ≤ 1000000) (hi : i < 4) :
    ∃ p q : List UInt8, W.cell? ⟨g, i * 2, none⟩ = some (.string ⟨p.toArray⟩) ∧ W.cell? ⟨g, i * 2 + 1, none⟩ = some (.string ⟨q.toArray⟩) ∧ p.length ≤ 1000000 ∧ q.length ≤ 1000000 := by
  have hc : ∀ o, W.cell? ⟨g, o, none⟩ = (four4 a b x y)[o]? := fun o => cell_of_row W g o _ _ (0, 0) f
  rcases (show i = 0 ∨ i = 1 ∨ i = 2 ∨ i = 3 by omega) with rfl | rfl | rfl | rfl
  · exact ⟨a, b, by rw [hc]; rfl, by rw [hc]; rfl, ha, hb⟩
  · exact ⟨x, y, by rw [hc]; rfl, by rw [hc]; rfl, hx, hy⟩
  · exact ⟨a, y, by rw [hc]; rfl, by rw [hc]; rfl, ha, hy⟩
  · exact ⟨y, b, by rw [hc]; rfl, by rw [hc]; rfl, hy, hb⟩


end Go.Proofs.YtdclloledfjfjaaGreatDoor

namespace Go.Proofs.YtdclloledfjfjaaGreatDoor
open Go.ChangeShapes Go.WideShapes Go.ChangeAt Go.RowKit Vd

theorem array8 {α : Type} {cs : Array α} (h : cs.size = 8) : ∃ c0 c1 c2 c3 c4 c5 c6 c7, cs = #[c0, c1, c2, c3, c4, c5, c6, c7] := by
  obtain ⟨l⟩ := cs
  match l, h with
  | [c0, c1, c2, c3, c4, c5, c6, c7], _ => exact ⟨c0, c1, c2, c3, c4, c5, c6, c7, rfl⟩

section
variable {H : Type} {enc : TypeId × Value → H}

theorem text_of_trod {W : World} {n : Nat} {c : Value} {y : DataW H × List MemPlace} (h : DataW.trod enc Tryz.prog W 0 (fun _ => true) true n 9 [c] = some y) : ∃ l : List UInt8, c = .string ⟨l.toArray⟩ := by
  obtain ⟨s, e, _⟩ := DataW.trod_string Tryz.underlying9 h
  simp at e
  exact ⟨s.data.toList, by rw [e]⟩

set_option maxRecDepth 100000 in
theorem draft_of_trod {W : World} {m : Nat} {c0 c1 c2 : Value} {y : DataW H × List MemPlace} (h : DataW.trod enc Tryz.prog W 0 (fun _ => true) true m 25 [c0, c1, c2] = some y) :
    ∃ (b : Bool) (A : Option Addr) (n c z : Nat) (xs : List Nat), c0 = .bool b ∧ c1 = .slice A n c ∧ c2 = .int .u16 (z : Int) ∧ DraftIn W b A n c z xs := by
  obtain ⟨y0, y1, y2, k, _, _, g0, g1, g2⟩ := Go.Deep.trod_struct3 Tryz.underlying25 h
  have hy0 : DataW.trod enc Tryz.prog W 0 (fun _ => true) true k 4 [c0] = some y0 := g0
  have hy1 : DataW.trod enc Tryz.prog W 0 (fun _ => true) true k 22 [c1] = some y1 := g1
  have hy2 : DataW.trod enc Tryz.prog W 0 (fun _ => true) true k 23 [c2] = some y2 := g2
  clear g0 g1 g2
  obtain ⟨b, e0, _⟩ := DataW.trod_bool Tryz.underlying4 hy0
  obtain ⟨z, e2, _, wz⟩ := DataW.trod_int Tryz.underlying23 hy2
  simp at e0 e2
  subst e0 e2
  have hz := u16_wf wz
  rcases open_ints Tryz.underlying22 Tryz.underlying23 (by kernel_rfl) hy1 with ⟨e1, _⟩ | ⟨a, len, cap, zs, e1, _, hlc, hcm, hzl, _, hcell, hw⟩
  · simp at e1
    subst e1
    exact ⟨b, none, 0, 0, z.toNat, [], rfl, rfl, by rw [Int.toNat_of_nonneg hz.1], ⟨Sl.nil, Ok.nil, by omega, by omega⟩⟩
  · simp at e1
    subst e1
    rw [if_pos rfl] at hzl
    have hn : len ≤ 9223372036854775807 := by unfold maxLen at hcm; omega
    have hd := fun i hi => dropInts zs hw i hi
    refine ⟨b, some a, len, cap, z.toNat, (zs.map Int.toNat).take len, rfl, rfl, by rw [Int.toNat_of_nonneg hz.1], ⟨⟨?_, fun h0 => ?_⟩, ?_, by omega, hn⟩⟩
    · rw [List.length_take, List.length_map]; omega
    · have hs := spot_none (hcell 0 (by omega))
      have hs' : a.spot = none := by simpa [Addr.add] using hs
      obtain ⟨g, o, sp⟩ := a
      simp only at hs'
      subst hs'
      refine ⟨g, o, rfl, ?_, fun i hi => ?_⟩
      · have h1 := World.block_lt_of_cell? W _ (hcell 0 (by omega))
        simpa [Addr.add] using h1
      · have h1 := hcell i (by omega)
        rw [add_plain, (hd i (by omega)).1] at h1
        rw [h1, nth_take hi]
        rfl
    · refine okOf _ fun i hi => ?_
      rw [List.length_take, List.length_map] at hi
      rw [nth_take (by omega)]
      exact (hd i (by omega)).2

set_option maxRecDepth 100000 in
/-- TWO TEXTS AND TWO DRAFTS THAT CAME IN. -/
theorem open_two {W : World} {base : Nat} {v : Value} {d : DataW H} {p : List MemPlace} (hv : Value.okWide Tryz.prog W .any base 27 v) (h : DataW.Trod enc Tryz.prog W 0 (fun _ => true) true 27 v d p) :
    ∃ (a b : List UInt8) (b1 : Bool) (A1 : Option Addr) (n1 c1 z1 : Nat) (xs1 : List Nat) (b2 : Bool) (A2 : Option Addr) (n2 c2 z2 : Nat) (xs2 : List Nat), v = .agg (TwoV a b b1 A1 n1 c1 z1 b2 A2 n2 c2 z2) ∧ DraftIn W b1 A1 n1 c1 z1 xs1 ∧ DraftIn W b2 A2 n2 c2 z2 xs2 := by
  obtain ⟨cs, rfl, hsz⟩ := okWide_struct Tryz.underlying27 hv
  obtain ⟨u0, u1, u2, u3, u4, u5, u6, u7, rfl⟩ := array8 (hsz.trans (by kernel_rfl))
  obtain ⟨fuel, hf⟩ := h
  obtain ⟨y0, y1, y2, y3, n, _, _, h0, h1, h2, h3⟩ := Joins.trod_struct4 Tryz.underlying27 hf
  obtain ⟨a, rfl⟩ := text_of_trod (show DataW.trod enc Tryz.prog W 0 (fun _ => true) true n 9 [u0] = some y0 from h0)
  obtain ⟨b, rfl⟩ := text_of_trod (show DataW.trod enc Tryz.prog W 0 (fun _ => true) true n 9 [u1] = some y1 from h1)
  obtain ⟨b1, A1, n1, c1, z1, xs1, rfl, rfl, rfl, D1⟩ := draft_of_trod (show DataW.trod enc Tryz.prog W 0 (fun _ => true) true n 25 [u2, u3, u4] = some y2 from h2)
  obtain ⟨b2, A2, n2, c2, z2, xs2, rfl, rfl, rfl, D2⟩ := draft_of_trod (show DataW.trod enc Tryz.prog W 0 (fun _ => true) true n 25 [u5, u6, u7] = some y3 from h3)
  exact ⟨a, b, b1, A1, n1, c1, z1, xs1, b2, A2, n2, c2, z2, xs2, rfl, D1, D2⟩

end
end Go.Proofs.YtdclloledfjfjaaGreatDoor
