/- WholeRoots: for every two drafts and every uint8 the law returns true, and every argument reads behind the call as it read before. CONDITIONS: none on the arguments; the five package-level variables that the row lists read, when the call begins, as the text of the program lays them. -/
import Derived.Test.YtcigciclpdnbhaaGreatDoorLawA
import Derived.Test.YtcigciclpdnbhaaGreatDoorCardA
namespace Go.Proofs.YtcigciclpdnbhaaGreatDoor
open Go.ChangeShapes Go.WideShapes Go.ChangeAt Go.RowKit Vd
section
variable {H : Type} {enc : TypeId × Value → H}
set_option maxRecDepth 100000 in
/-- A draft that came in: its list is no longer than its room. -/
theorem open_draft_cap {W : World} {base : Nat} {v : Value} {d : DataW H} {p : List MemPlace} (hv : Value.okWide Tryz.prog W .any base 25 v) (h : DataW.Trod enc Tryz.prog W 0 (fun _ => true) true 25 v d p) :
    ∃ (b : Bool) (A : Option Addr) (n c z : Nat) (xs : List Nat), v = .agg #[.bool b, .slice A n c, .int .u16 (z : Int)] ∧ DraftIn W b A n c z xs ∧ n ≤ c := by
  obtain ⟨c0, c1, c2, y0, y1, y2, m, rfl, _, _, hy0, hy1, hy2⟩ := Joins.open_agg3 Tryz.underlying25 (by kernel_rfl) (by kernel_rfl) hv h
  obtain ⟨b, e0, _⟩ := DataW.trod_bool Tryz.underlying4 hy0
  obtain ⟨z, e2, _, wz⟩ := DataW.trod_int Tryz.underlying23 hy2
  simp at e0 e2
  subst e0 e2
  have hz := u16_wf wz
  rcases open_ints Tryz.underlying22 Tryz.underlying23 (by kernel_rfl) hy1 with ⟨e1, _⟩ | ⟨a, len, cap, zs, e1, _, hlc, hcm, hzl, _, hcell, hw⟩
  · simp at e1
    subst e1
    exact ⟨b, none, 0, 0, z.toNat, [], by rw [Int.toNat_of_nonneg hz.1], ⟨Sl.nil, Ok.nil, by omega, by omega⟩, Nat.le_refl _⟩
  · simp at e1
    subst e1
    rw [if_pos rfl] at hzl
    have hn : len ≤ 9223372036854775807 := by unfold maxLen at hcm; omega
    have hd := fun i hi => dropInts zs hw i hi
    refine ⟨b, some a, len, cap, z.toNat, (zs.map Int.toNat).take len, by rw [Int.toNat_of_nonneg hz.1], ⟨⟨?_, fun h0 => ?_⟩, ?_, by omega, hn⟩, hlc⟩
    · rw [List.length_take, List.length_map]; omega
    · have hs := spot_none (hcell 0 (by omega))
      have hs' : a.spot = none := by simpa [Addr.add] using hs
      obtain ⟨g, o, sp⟩ := a
      simp only at hs'
      subst hs'
      refine ⟨g, o, rfl, ?_, fun i hi => ?_⟩
      · have h1 := World.block_lt_of_cell? W _ (hcell 0 (by omega))
        simpa [Addr.add] using h1
      · have h1 := hcell i (by omega)
        rw [add_plain, (hd i (by omega)).1] at h1
        rw [h1, nth_take hi]
        rfl
    · refine okOf _ fun i hi => ?_
      rw [List.length_take, List.length_map] at hi
      rw [nth_take (by omega)]
      exact (hd i (by omega)).2

end
end Go.Proofs.YtcigciclpdnbhaaGreatDoor

namespace Go.Proofs.YtcigciclpdnbhaaGreatDoor
open Go.RowKit Vd
attribute [local go_sem ↓] Go.wp_at_zero Go.wp_at_succ

theorem pow_low {x : Int} {k j : Nat} (hx : x.natAbs < 10 ^ k) (hj : 1 ≤ j) : (x ^ j).natAbs < 10 ^ (k * j) := by
  rw [Int.natAbs_pow, Nat.pow_mul]
  exact Nat.pow_lt_pow_left hx (by omega)
theorem cast_low {a k : Nat} (h : a < 10 ^ k) : (a : Int).natAbs < 10 ^ k := by rw [Int.natAbs_natCast]; exact h

theorem next_low {r d a k : Nat} (hd : d ≤ 12) (h : r ^ d ≤ a) (ha : a < 10 ^ k) : (r + 1) ^ d < 10 ^ (k + 4) := by
  rcases Nat.eq_zero_or_pos r with h0 | h0
  · subst h0
    rw [Nat.zero_add, Nat.one_pow]
    exact Nat.one_lt_pow (by omega) (by decide)
  · have h1 : (r + 1) ^ d ≤ (2 * r) ^ d := Nat.pow_le_pow_left (by omega) d
    have h2 : (2 * r) ^ d = 2 ^ d * r ^ d := Nat.mul_pow 2 r d
    have h3 : 2 ^ d ≤ 2 ^ 12 := Nat.pow_le_pow_right (by decide) hd
    have h4 : 2 ^ d * r ^ d ≤ 2 ^ 12 * a := Nat.mul_le_mul h3 h
    have h5 : 10 ^ (k + 4) = 10 ^ k * 10000 := by rw [Nat.pow_add]
    omega

theorem abs_said (X : Int) {k : Nat} (hx : X.natAbs < 10 ^ k) (hk : k ≤ 600) (l la : List UInt8) (hl : l = wr X) (hla : la = wr (X.natAbs : Int)) (W : World) : Calls Tryz.prog 25 #[.string ⟨l.toArray⟩] W fun e w' => e = .returned (.tuple #[.string ⟨la.toArray⟩, .int .i64 0]) ∧ Below W.heap.size W w' := by
  subst hl hla
  have rX : rd (wr X) = some X := rd_wr (rd_short hx hk)
  have ra : rd (wr (X.natAbs : Int)) = some (X.natAbs : Int) := rd_wr (rd_short (cast_low hx) hk)
  have h := wabs_some _ X W rX
  rwa [outV_rd ra] at h

/-- what the library answers along WholeRoots, in the order of its calls -/
theorem roots_said (X Y D : Int) (d : Nat) (la lb : List UInt8) (hla : la = wr (X.natAbs : Int)) (hlb : lb = wr (Y.natAbs : Int)) (hD : D = (d : Int)) (hd1 : 1 ≤ d) (hd : d ≤ 12) (hx : X.natAbs < 10 ^ 160) (hy : Y.natAbs < 10 ^ 17) :
    ∃ (lr ln lo lh lp lt lm lc le : List UInt8) (un : Int), (un = 0 ∨ un = -1) ∧
      (∀ W, Calls Tryz.prog 39 #[.string ⟨la.toArray⟩, .int .i64 D] W fun e w' => e = .returned (.tuple #[.string ⟨lr.toArray⟩, .int .i64 0]) ∧ Below W.heap.size W w') ∧
      (∀ W, Calls Tryz.prog 27 #[.string ⟨lr.toArray⟩, .string { data := #[49] }] W fun e w' => e = .returned (.tuple #[.string ⟨ln.toArray⟩, .int .i64 0]) ∧ Below W.heap.size W w') ∧
      (∀ W, Calls Tryz.prog 37 #[.string ⟨lr.toArray⟩, .int .i64 D] W fun e w' => e = .returned (.tuple #[.string ⟨lo.toArray⟩, .int .i64 0]) ∧ Below W.heap.size W w') ∧
      (∀ W, Calls Tryz.prog 37 #[.string ⟨ln.toArray⟩, .int .i64 D] W fun e w' => e = .returned (.tuple #[.string ⟨lh.toArray⟩, .int .i64 0]) ∧ Below W.heap.size W w') ∧
      (∀ W, Calls Tryz.prog 19 #[.string ⟨lo.toArray⟩, .string ⟨la.toArray⟩] W fun e w' => e = .returned (.tuple #[.int .i64 un, .int .i64 0]) ∧ Below W.heap.size W w') ∧
      (∀ W, Calls Tryz.prog 19 #[.string ⟨lh.toArray⟩, .string ⟨la.toArray⟩] W fun e w' => e = .returned (.tuple #[.int .i64 1, .int .i64 0]) ∧ Below W.heap.size W w') ∧
      (∀ W, Calls Tryz.prog 37 #[.string ⟨lb.toArray⟩, .int .i64 D] W fun e w' => e = .returned (.tuple #[.string ⟨lp.toArray⟩, .int .i64 0]) ∧ Below W.heap.size W w') ∧
      (∀ W, Calls Tryz.prog 39 #[.string ⟨lp.toArray⟩, .int .i64 D] W fun e w' => e = .returned (.tuple #[.string ⟨lb.toArray⟩, .int .i64 0]) ∧ Below W.heap.size W w') ∧
      (∀ W, Calls Tryz.prog 31 #[.string ⟨la.toArray⟩, .string ⟨lb.toArray⟩] W fun e w' => e = .returned (.tuple #[.string ⟨lt.toArray⟩, .int .i64 0]) ∧ Below W.heap.size W w') ∧
      (∀ W, Calls Tryz.prog 37 #[.string ⟨lt.toArray⟩, .int .i64 2] W fun e w' => e = .returned (.tuple #[.string ⟨lm.toArray⟩, .int .i64 0]) ∧ Below W.heap.size W w') ∧
      (∀ W, Calls Tryz.prog 37 #[.string ⟨la.toArray⟩, .int .i64 2] W fun e w' => e = .returned (.tuple #[.string ⟨lc.toArray⟩, .int .i64 0]) ∧ Below W.heap.size W w') ∧
      (∀ W, Calls Tryz.prog 37 #[.string ⟨lb.toArray⟩, .int .i64 2] W fun e w' => e = .returned (.tuple #[.string ⟨le.toArray⟩, .int .i64 0]) ∧ Below W.heap.size W w') ∧
      (∀ W, Calls Tryz.prog 31 #[.string ⟨lc.toArray⟩, .string ⟨le.toArray⟩] W fun e w' => e = .returned (.tuple #[.string ⟨lm.toArray⟩, .int .i64 0]) ∧ Below W.heap.size W w') := by
  subst hla hlb hD
  obtain ⟨r, hr⟩ := root_exists d X.natAbs hd1
  have hr0 := hr
  unfold IsRoot at hr
  generalize X.natAbs = a at *
  generalize Y.natAbs = b at *
  have ra : rd (wr (a : Int)) = some (a : Int) := rd_wr (rd_short (cast_low hx) (by omega))
  have rb : rd (wr (b : Int)) = some (b : Int) := rd_wr (rd_short (cast_low hy) (by omega))
  have hn := next_low hd hr.1 hx
  have hrl : r < 10 ^ 160 := by
    refine Nat.lt_of_le_of_lt (Nat.le_trans ?_ hr.1) hx
    exact Nat.le_self_pow (by omega) r
  have rr : rd (wr (r : Int)) = some (r : Int) := rd_wr (rd_short (cast_low hrl) (by omega))
  have q1 : rd [49] = some 1 := by decide +kernel
  have en : ((r : Int) + 1) = ((r + 1 : Nat) : Int) := by omega
  have hn1 : r + 1 < 10 ^ (160 + 4) := Nat.lt_of_le_of_lt (Nat.le_self_pow (by omega) (r + 1)) hn
  have rn : rd (wr ((r + 1 : Nat) : Int)) = some ((r + 1 : Nat) : Int) := rd_wr (rd_short (cast_low hn1) (by omega))
  have eo : ((r : Int) ^ d) = ((r ^ d : Nat) : Int) := (Int.natCast_pow r d).symm
  have eh : (((r + 1 : Nat) : Int) ^ d) = (((r + 1) ^ d : Nat) : Int) := (Int.natCast_pow (r + 1) d).symm
  have ro : rd (wr ((r ^ d : Nat) : Int)) = some ((r ^ d : Nat) : Int) := rd_wr (rd_short (cast_low (Nat.lt_of_le_of_lt hr.1 hx)) (by omega))
  have rh : rd (wr (((r + 1) ^ d : Nat) : Int)) = some (((r + 1) ^ d : Nat) : Int) := rd_wr (rd_short (cast_low hn) (by omega))
  have ep : ((b : Int) ^ d) = ((b ^ d : Nat) : Int) := (Int.natCast_pow b d).symm
  have mp := pow_low (cast_low hy) hd1
  rw [ep] at mp
  have rp : rd (wr ((b ^ d : Nat) : Int)) = some ((b ^ d : Nat) : Int) := rd_wr (rd_short mp (by omega))
  have mt := mul_low (cast_low hx) (cast_low hy)
  have rt : rd (wr ((a : Int) * (b : Int))) = some ((a : Int) * (b : Int)) := rd_wr (rd_short mt (by omega))
  have mm := pow_low mt (j := 2) (by decide)
  have rm := rd_wr (rd_short mm (by omega))
  have mc := pow_low (cast_low hx) (j := 2) (by decide)
  have rc := rd_wr (rd_short mc (by omega))
  have me := pow_low (cast_low hy) (j := 2) (by decide)
  have re := rd_wr (rd_short me (by omega))
  have hsq : (a : Int) ^ 2 * (b : Int) ^ 2 = ((a : Int) * (b : Int)) ^ 2 := by rw [Int.mul_pow]
  have hun : cmpZ ((r ^ d : Nat) : Int) (a : Int) = 0 ∨ cmpZ ((r ^ d : Nat) : Int) (a : Int) = -1 := by
    have := hr.1
    unfold cmpZ
    rcases Nat.lt_or_eq_of_le hr.1 with h | h
    · right; rw [if_pos (by omega)]
    · left; rw [if_neg (by omega), if_neg (by omega)]
  have hov : cmpZ (((r + 1) ^ d : Nat) : Int) (a : Int) = 1 := by
    have := hr.2
    unfold cmpZ
    rw [if_neg (by omega), if_pos (by omega)]
  refine ⟨wr (r : Int), wr ((r + 1 : Nat) : Int), wr ((r ^ d : Nat) : Int), wr (((r + 1) ^ d : Nat) : Int), wr ((b ^ d : Nat) : Int), wr ((a : Int) * (b : Int)), wr (((a : Int) * (b : Int)) ^ 2), wr ((a : Int) ^ 2), wr ((b : Int) ^ 2), cmpZ ((r ^ d : Nat) : Int) (a : Int), hun, ?_, ?_, ?_, ?_, ?_, ?_, ?_, ?_, ?_, ?_, ?_, ?_, ?_⟩
  · intro W; exact wroot_some _ (a : Int) d r W ra (by omega) hd1 hd (by rw [Int.natAbs_natCast]; exact hr0)
  · intro W; have h := wadd_some _ [49] (r : Int) 1 W rr q1; rwa [en, outV_rd rn] at h
  · intro W; have h := wpow_some _ _ d W rr (by omega); rwa [eo, outV_rd ro] at h
  · intro W; have h := wpow_some _ _ d W rn (by omega); rwa [eh, outV_rd rh] at h
  · intro W; exact wcmp_some _ _ _ _ W ro ra
  · intro W; have h := wcmp_some _ _ _ _ W rh ra; rwa [hov] at h
  · intro W; have h := wpow_some _ _ d W rb (by omega); rwa [ep, outV_rd rp] at h
  · intro W; exact wroot_some _ _ d b W rp (by omega) hd1 hd (by rw [Int.natAbs_natCast]; exact ⟨Nat.le_refl _, Nat.pow_lt_pow_left (by omega) (by omega)⟩)
  · intro W; have h := wmul_some _ _ _ _ W ra rb; rwa [outV_rd rt] at h
  · intro W; have h := wpow_some _ _ 2 W rt (by omega); rwa [outV_rd rm] at h
  · intro W; have h := wpow_some _ _ 2 W ra (by omega); rwa [outV_rd rc] at h
  · intro W; have h := wpow_some _ _ 2 W rb (by omega); rwa [outV_rd re] at h
  · intro W; have h := wmul_some _ _ _ _ W rc re; rwa [hsq, outV_rd rm] at h

theorem heap_new (w : World) (o : Obj) : (w.alloc o).heap[w.heap.size]? = some o := by
  show (w.heap.push o)[w.heap.size]? = some o
  simp

theorem sl_take {w : World} {f : Nat → Value} {A : Option Addr} {n m : Nat} {xs : List Nat} (h : Sl w f A n xs) (hm : m ≤ n) : Sl w f A m (xs.take m) := by
  refine ⟨by rw [List.length_take, h.1]; omega, fun h0 => ?_⟩
  obtain ⟨g, o, e, lt, hi⟩ := h.2 (by omega)
  exact ⟨g, o, e, lt, fun i hi' => by rw [nth_take hi']; exact hi i (by omega)⟩

/-- a draft with its first three groups at most and few zeros -/
theorem cut_draft {w W : World} {b : Bool} {A : Option Addr} {n c z m q k : Nat} {xs : List Nat} (hd : DraftIn w b A n c z xs) (hb : Below w.heap.size w W) (hm : m = min n 3) (hq : q ≤ 150) (hk : 9 + q ≤ k) :
    Calls Tryz.prog 42 #[.agg #[.bool b, .slice A m c, .int .u16 (q : Int)]] W fun e w' => ∃ l : List UInt8, e = .returned (.string ⟨l.toArray⟩) ∧ (∃ x : Int, l = wr x ∧ x.natAbs < 10 ^ k) ∧ Below W.heap.size W w' := by
  have h := hd.below hb
  refine (draft_any b A m c q (xs.take m) W (sl_take h.sl (by omega)) (fun x hx => h.ok x (List.mem_of_mem_take hx)) (by omega) (by have := h.n; omega)).mono ?_
  rintro e w' ⟨x, he, hx, hb'⟩
  exact ⟨wr x, he, ⟨x, rfl, more_low hx (by omega)⟩, hb'⟩

/-- the two boxes of the drafts -/
structure Boxes (w W : World) (a1 s1 z1 a2 s2 z2 : Value) : Prop where
  b1 : W.heap[w.heap.size]? = some (.cells #[a1, s1, z1] 25 (0, 0))
  b2 : W.heap[w.heap.size + 1]? = some (.cells #[a2, s2, z2] 25 (0, 0))
  bel : Below w.heap.size w W
  base : Gnd w

theorem Boxes.gnd {w W : World} {a1 s1 z1 a2 s2 z2 : Value} (h : Boxes w W a1 s1 z1 a2 s2 z2) : Gnd W := h.base.below h.bel
theorem Boxes.facts {w W : World} {a1 s1 z1 a2 s2 z2 : Value} (h : Boxes w W a1 s1 z1 a2 s2 z2) :
    (W.cell? ⟨w.heap.size, 0, none⟩ = some a1 ∧ W.cell? ⟨w.heap.size, 1, none⟩ = some s1 ∧ W.cell? ⟨w.heap.size, 2, none⟩ = some z1) ∧ (W.cell? ⟨w.heap.size + 1, 0, none⟩ = some a2 ∧ W.cell? ⟨w.heap.size + 1, 1, none⟩ = some s2 ∧ W.cell? ⟨w.heap.size + 1, 2, none⟩ = some z2) ∧
    (W.frozen? ⟨w.heap.size, 1, none⟩ = false ∧ W.frozen? ⟨w.heap.size, 2, none⟩ = false ∧ W.frozen? ⟨w.heap.size + 1, 1, none⟩ = false ∧ W.frozen? ⟨w.heap.size + 1, 2, none⟩ = false) := by
  obtain ⟨h1, h2, _, _⟩ := h
  refine ⟨⟨?_, ?_, ?_⟩, ⟨?_, ?_, ?_⟩, ?_, ?_, ?_, ?_⟩ <;> simp [World.cell?, World.frozen?, h1, h2]

theorem Boxes.below {w W W' : World} {a1 s1 z1 a2 s2 z2 : Value} (h : Boxes w W a1 s1 z1 a2 s2 z2) (hb : Below W.heap.size W W') : Boxes w W' a1 s1 z1 a2 s2 z2 := by
  have hl : ∀ k o, W.heap[k]? = some o → k < W.heap.size := fun k o e => (Array.getElem?_eq_some_iff.1 e).1
  exact ⟨(hb.block _ (hl _ _ h.b1)).trans h.b1, (hb.block _ (hl _ _ h.b2)).trans h.b2, h.bel.trans (hb.mono h.bel.size), h.base⟩

theorem three_set {w : World} {b : Nat} {x y z u : Value} {t : TypeId} (h : w.heap[b]? = some (.cells #[x, y, z] t (0, 0))) :
    (w.setCell ⟨b, 1, none⟩ u).heap[b]? = some (.cells #[x, u, z] t (0, 0)) ∧ (w.setCell ⟨b, 2, none⟩ u).heap[b]? = some (.cells #[x, y, u] t (0, 0)) := by
  have hlt : b < w.heap.size := (Array.getElem?_eq_some_iff.1 h).1
  have h' : w.heap[b] = .cells #[x, y, z] t (0, 0) := by simpa [Array.getElem?_eq_getElem hlt] using h
  constructor
  · show (w.heap.modify b _)[b]? = _
    rw [Array.getElem?_eq_getElem (by simpa using hlt), Array.getElem_modify_self, h']
    rfl
  · show (w.heap.modify b _)[b]? = _
    rw [Array.getElem?_eq_getElem (by simpa using hlt), Array.getElem_modify_self, h']
    rfl

theorem Boxes.sets2 {w W : World} {a1 s1 z1 a2 s2 z2 u v : Value} (h : Boxes w W a1 s1 z1 a2 s2 z2) : Boxes w ((W.setCell ⟨w.heap.size, 2, none⟩ u).setCell ⟨w.heap.size + 1, 2, none⟩ v).drew a1 s1 u a2 s2 v := by
  refine ⟨?_, ?_, ((h.bel.setCell (p := ⟨w.heap.size, 2, none⟩) (Nat.le_refl _) u).setCell (p := ⟨w.heap.size + 1, 2, none⟩) (Nat.le_succ _) v).drew, h.base⟩
  · exact (Below.heap_setCell _ ⟨w.heap.size + 1, 2, none⟩ v _ (by simp)).trans (three_set h.b1).2
  · exact (three_set ((Below.heap_setCell _ ⟨w.heap.size, 2, none⟩ u _ (by simp)).trans h.b2)).2
theorem Boxes.sets1 {w W : World} {a1 s1 z1 a2 s2 z2 u v : Value} (h : Boxes w W a1 s1 z1 a2 s2 z2) : Boxes w ((W.setCell ⟨w.heap.size, 1, none⟩ u).setCell ⟨w.heap.size + 1, 1, none⟩ v).drew a1 u z1 a2 v z2 := by
  refine ⟨?_, ?_, ((h.bel.setCell (p := ⟨w.heap.size, 1, none⟩) (Nat.le_refl _) u).setCell (p := ⟨w.heap.size + 1, 1, none⟩) (Nat.le_succ _) v).drew, h.base⟩
  · exact (Below.heap_setCell _ ⟨w.heap.size + 1, 1, none⟩ v _ (by simp)).trans (three_set h.b1).1
  · exact (three_set ((Below.heap_setCell _ ⟨w.heap.size, 1, none⟩ u _ (by simp)).trans h.b2)).1

set_option maxRecDepth 100000 in
set_option maxHeartbeats 8000000 in
theorem roots_core (b1 : Bool) (A1 : Option Addr) (n1 c1 z1 : Nat) (xs1 : List Nat) (b2 : Bool) (A2 : Option Addr) (n2 c2 z2 : Nat) (xs2 : List Nat) (k : Nat) (w : World) (hg : Gnd w) (h1 : DraftIn w b1 A1 n1 c1 z1 xs1) (h2 : DraftIn w b2 A2 n2 c2 z2 xs2) (hc1 : n1 ≤ c1) (hc2 : n2 ≤ c2) (hk : k < 256) :
    Calls Tryz.prog 9 #[.agg #[.bool b1, .slice A1 n1 c1, .int .u16 (z1 : Int)], .agg #[.bool b2, .slice A2 n2 c2, .int .u16 (z2 : Int)], .int .u8 (k : Int)] w fun e w' => e = .returned (.bool true) ∧ Below w.heap.size w w' := by
  have hT0 : Boxes w ((w.alloc (.cells #[.bool b1, .slice A1 n1 c1, .int .u16 (z1 : Int)] 25)).alloc (.cells #[.bool b2, .slice A2 n2 c2, .int .u16 (z2 : Int)] 25)) (.bool b1) (.slice A1 n1 c1) (.int .u16 (z1 : Int)) (.bool b2) (.slice A2 n2 c2) (.int .u16 (z2 : Int)) := by
    have hb : Below w.heap.size w ((w.alloc (.cells #[.bool b1, .slice A1 n1 c1, .int .u16 (z1 : Int)] 25)).alloc (.cells #[.bool b2, .slice A2 n2 c2, .int .u16 (z2 : Int)] 25)) := ((Below.refl _ _).alloc (Nat.le_refl _) _).alloc (by simp) _
    have e1 : (w.alloc (.cells #[.bool b1, .slice A1 n1 c1, .int .u16 (z1 : Int)] 25)).heap.size = w.heap.size + 1 := by simp
    refine ⟨?_, ?_, hb, hg⟩
    · rw [Below.heap_alloc _ _ _ (by rw [e1]; omega)]; exact heap_new w _
    · rw [← e1]; exact heap_new _ _
  have hwk := works_any _ hT0.gnd
  have H1 := Lib.hid (And.intro h1 hc1)
  have H2 := Lib.hid (And.intro h2 hc2)
  clear h1 h2 hg hc1 hc2
  obtain ⟨j, hj, e1, e1'⟩ : ∃ j : Nat, j = k % 12 ∧ ((k : Int).tmod 12) = (j : Int) ∧ (k : Int) % 12 = (j : Int) := ⟨_, rfl, by rw [Int.tmod_eq_emod_of_nonneg (by omega)]; omega, by omega⟩
  have hj12 : j ≤ 11 := by omega
  obtain ⟨t, ht, e2, e2'⟩ : ∃ t : Nat, t ≤ 150 ∧ Int.tdiv 150 (1 + (j : Int)) = (t : Int) ∧ (150 : Int) / (1 + (j : Int)) = (t : Int) := ⟨150 / (1 + j), Nat.div_le_self _ _, by rw [Int.tdiv_eq_ediv_of_nonneg (by omega)]; simp, by simp⟩
  obtain ⟨q1, hq1, e3, e3'⟩ : ∃ q : Nat, q ≤ 150 ∧ Int.tmod (z1 : Int) (1 + (t : Int)) = (q : Int) ∧ (z1 : Int) % (1 + (t : Int)) = (q : Int) := ⟨z1 % (1 + t), by have := Nat.mod_lt z1 (show 0 < 1 + t by omega); omega, by rw [Int.tmod_eq_emod_of_nonneg (by omega)]; simp, by simp⟩
  obtain ⟨q2, hq2, e4, e4'⟩ : ∃ q : Nat, q ≤ 7 ∧ Int.tmod (z2 : Int) 8 = (q : Int) ∧ (z2 : Int) % 8 = (q : Int) := ⟨z2 % 8, by omega, by rw [Int.tmod_eq_emod_of_nonneg (by omega)]; omega, by omega⟩
  have ij : (j : Int) ≤ 11 := by omega
  have it : (t : Int) ≤ 150 := by omega
  have iq1 : (q1 : Int) ≤ 150 := by omega
  have iq2 : (q2 : Int) ≤ 7 := by omega
  clear hk hj
  go_enter Tryz.func9, Tryz.ntmps9
  go_wp2_with fail
  refine hwk.mono ?_
  rintro e w1 ⟨rfl, hb1⟩
  have hT1 := hT0.below hb1
  clear hT0 hwk hb1
  as_aux_lemma =>
    go_wp2_with fail
    obtain ⟨⟨f0, f1, f2⟩, ⟨g0, g1, g2⟩, r1, r2, r3, r4⟩ := hT1.facts
    go_region
    have hT2 := hT1.sets2 (u := .int .u16 (q1 : Int)) (v := .int .u16 (q2 : Int))
    generalize ((w1.setCell ⟨w.heap.size, 2, none⟩ (.int .u16 (q1 : Int))).setCell ⟨w.heap.size + 1, 2, none⟩ (.int .u16 (q2 : Int))).drew = w2 at *
    clear hT1 f0 f1 f2 g0 g1 g2 r1 r2 r3 r4
    obtain ⟨⟨f0, f1, f2⟩, ⟨g0, g1, g2⟩, r1, r2, r3, r4⟩ := hT2.facts
    have hc1 : min n1 3 ≤ c1 := by have := H1.out.2; omega
    have hc2 : min n2 3 ≤ c2 := by have := H2.out.2; omega
    go_wp2_with fail
    go_region
    have hm1 : (min (n1 : Int) 3).toNat = min n1 3 := by omega
    have hm2 : (min (n2 : Int) 3).toNat = min n2 3 := by omega
    have hT3 := hT2.sets1 (u := .slice A1 (min (n1 : Int) 3).toNat c1) (v := .slice A2 (min (n2 : Int) 3).toNat c2)
    generalize ((w2.setCell ⟨w.heap.size, 1, none⟩ (.slice A1 (min (n1 : Int) 3).toNat c1)).setCell ⟨w.heap.size + 1, 1, none⟩ (.slice A2 (min (n2 : Int) 3).toNat c2)).drew = w3 at *
    clear hT2 f0 f1 f2 g0 g1 g2 r1 r2 r3 r4 hc1 hc2
    rw [hm1, hm2] at hT3
    obtain ⟨⟨f0, f1, f2⟩, ⟨g0, g1, g2⟩, r1, r2, r3, r4⟩ := hT3.facts
    have DX := Lib.hid (cut_draft (k := 160) H1.out.1 hT3.bel rfl hq1 (by omega))
    clear r1 r2 r3 r4 g0 g1 g2
    as_aux_lemma =>
      go_wp2_with fail
      refine (DX.out).mono ?_
      rintro e w4 ⟨l1, rfl, ⟨X, hl1, hX⟩, hb4⟩
      have hT4 := hT3.below hb4
      clear hT3 hb4 f0 f1 f2 DX
      obtain ⟨la, hla⟩ : ∃ l, l = wr (X.natAbs : Int) := ⟨_, rfl⟩
      have AX := Lib.hid (abs_said X hX (by omega) l1 la hl1 hla)
      have HX := Lib.hid (And.intro hla hX)
      clear hla hX hl1
      go_wp2_with fail
      refine (AX.out _).mono ?_
      rintro e w5 ⟨rfl, hb5⟩
      have hT5 := hT4.below hb5
      clear hT4 hb5 AX
      obtain ⟨⟨f0, f1, f2⟩, ⟨g0, g1, g2⟩, r1, r2, r3, r4⟩ := hT5.facts
      have DY := Lib.hid (cut_draft (k := 17) H2.out.1 hT5.bel rfl (show q2 ≤ 150 by omega) (by omega))
      clear r1 r2 r3 r4 f0 f1 f2
      go_wp2_with fail
      refine (DY.out).mono ?_
      rintro e w6 ⟨l2, rfl, ⟨Y, hl2, hY⟩, hb6⟩
      have hT6 := hT5.below hb6
      clear hT5 hb6 g0 g1 g2 DY
      obtain ⟨lb, hlb⟩ : ∃ l, l = wr (Y.natAbs : Int) := ⟨_, rfl⟩
      have AY := Lib.hid (abs_said Y hY (by omega) l2 lb hl2 hlb)
      have HY := Lib.hid (And.intro hlb hY)
      clear hlb hY hl2
      as_aux_lemma =>
        go_wp2_with fail
        refine (AY.out _).mono ?_
        rintro e w7 ⟨rfl, hb7⟩
        have hT7 := hT6.below hb7
        have hS : Wk w w7 := ⟨hT7.bel, hT7.gnd⟩
        clear hT6 hb7 hT7 AY
        obtain ⟨D, hD⟩ : ∃ D : Int, D = 1 + (j : Int) := ⟨_, rfl⟩
        obtain ⟨lr, ln, lo, lh, lp, lt, lm, lc, le, un, hun, k1, k2, k3, k4, k5, k6, k7, k8, k9, k10, k11, k12, k13⟩ := roots_said X Y D (1 + j) la lb HX.out.1 HY.out.1 (by omega) (by omega) (by omega) HX.out.2 HY.out.2
        have C1 := Lib.hid k1
        have C2 := Lib.hid k2
        have C3 := Lib.hid k3
        have C4 := Lib.hid k4
        have C5 := Lib.hid k5
        have C6 := Lib.hid k6
        have C7 := Lib.hid k7
        have C8 := Lib.hid k8
        have C9 := Lib.hid k9
        have C10 := Lib.hid k10
        have C11 := Lib.hid k11
        have C12 := Lib.hid k12
        have C13 := Lib.hid k13
        rw [← hD]
        clear k1 k2 k3 k4 k5 k6 k7 k8 k9 k10 k11 k12 k13 HX HY H1 H2 hm1 hm2 e1 e1' e2 e2' e3 e3' e4 e4' ij it iq1 iq2 hj12 ht hq1 hq2 hD
        as_aux_lemma =>
          go_wp2_with fail
          refine (wstep (w := w) hS (C1.out _)).mono ?_
          rintro e vC1 ⟨rfl, hTC1⟩
          clear hS
          go_wp2_with fail
          refine (wstep (w := w) hTC1 (C2.out _)).mono ?_
          rintro e vC2 ⟨rfl, hTC2⟩
          clear hTC1
          as_aux_lemma =>
            go_wp2_with fail
            refine (wstep (w := w) hTC2 (C3.out _)).mono ?_
            rintro e vC3 ⟨rfl, hTC3⟩
            clear hTC2
            go_wp2_with fail
            refine (wstep (w := w) hTC3 (C4.out _)).mono ?_
            rintro e vC4 ⟨rfl, hTC4⟩
            clear hTC3
            as_aux_lemma =>
              go_wp2_with fail
              refine (wstep (w := w) hTC4 (C5.out _)).mono ?_
              rintro e vC5 ⟨rfl, hTC5⟩
              clear hTC4
              go_wp2_with fail
              refine (wstep (w := w) hTC5 (C6.out _)).mono ?_
              rintro e vC6 ⟨rfl, hTC6⟩
              clear hTC5
              as_aux_lemma =>
                go_wp2_with fail
                refine (wstep (w := w) hTC6 (C7.out _)).mono ?_
                rintro e vC7 ⟨rfl, hTC7⟩
                clear hTC6
                go_wp2_with fail
                refine (wstep (w := w) hTC7 (C8.out _)).mono ?_
                rintro e vC8 ⟨rfl, hTC8⟩
                clear hTC7
                rcases hun with rfl | rfl
                all_goals
                  as_aux_lemma =>
                    go_wp2_with fail
                    refine (wstep (w := w) hTC8 (C9.out _)).mono ?_
                    rintro e vC9 ⟨rfl, hTC9⟩
                    clear hTC8
                    go_wp2_with fail
                    refine (wstep (w := w) hTC9 (C10.out _)).mono ?_
                    rintro e vC10 ⟨rfl, hTC10⟩
                    clear hTC9
                    as_aux_lemma =>
                      go_wp2_with fail
                      refine (wstep (w := w) hTC10 (C11.out _)).mono ?_
                      rintro e vC11 ⟨rfl, hTC11⟩
                      clear hTC10
                      go_wp2_with fail
                      refine (wstep (w := w) hTC11 (C12.out _)).mono ?_
                      rintro e vC12 ⟨rfl, hTC12⟩
                      clear hTC11
                      as_aux_lemma =>
                        go_wp2_with fail
                        refine (wstep (w := w) hTC12 (C13.out _)).mono ?_
                        rintro e vC13 ⟨rfl, hTC13⟩
                        clear hTC12
                        go_wp2_with fail
                        go_ret
                        exact ⟨rfl, hTC13.1⟩

end Go.Proofs.YtcigciclpdnbhaaGreatDoor

namespace Go.Proofs.YtcigciclpdnbhaaGreatDoor.roots
open Go.ChangeShapes Go.WideShapes Go.ChangeAt Go.RowKit Vd

/-- The door's own heap meets the row's list. -/
theorem door_met (os : Os) (args : Array Value) : laidMetH Tryz.prog Rows.wholeRootsRow.laid ((World.doorLaid Tryz.prog 400 os).forCall (fun _ _ => 0) ⟨#[], args, []⟩).memory :=
  laidMetH_of_parts3 (fuel := 8) (laidMet_of_run' 8 (by kernel_rfl) (by kernel_rfl)) (by kernel_rfl) (by kernel_rfl)

theorem laidOutHere : laidOutB Tryz.prog = true := by kernel_rfl

def wit : Array Value := #[.agg #[.bool false, .slice none 0 0, .int .u16 0], .agg #[.bool false, .slice none 0 0, .int .u16 0], .int .u8 0]

set_option maxRecDepth 100000 in
theorem lifted (os : Os) (started : os.Started) (H : Type) (enc : TypeId × Value → H) :
    ReturnsInHanded {} Tryz.checked os 9 .any (fun w args => (Rows.wholeRootsSpec.pre enc Tryz.prog Tryz.f9 [] false w args ∧ laidMetH Tryz.prog Rows.wholeRootsRow.laid w) ∧ sizedMet enc Tryz.prog Tryz.f9 (OpenSpec.ofChange Rows.wholeRootsSpec) false w args)
      (Rows.wholeRootsSpec.post enc Tryz.prog Tryz.f9 false true false false) := by
  refine returnsInHanded_of_change_and (C := Tryz.checked) (X := fun w _ => laidMetH Tryz.prog Rows.wholeRootsRow.laid w) (fun _ _ _ hh h => h.of_heap hh) ownKnobNone started (by kernel_rfl) Tryz.func9
    (ChangeSpec.witness_shaped (enc := enc) (C := Tryz.checked) (os := os) (X := fun w _ => laidMetH Tryz.prog Rows.wholeRootsRow.laid w) false (World.doorLaid Tryz.prog 400 os) wit 8 rfl (World.shaped_of_RefB (by kernel_rfl) (by kernel_rfl)) (by kernel_rfl) (by kernel_rfl) (by kernel_rfl) (door_met os _)) ?_
  intro W base args ds gs before hval0 hW _ _ hL _
  have hval : ∀ (j : Nat) t v, Tryz.f9.params[j]? = some t → args[j]? = some v → Value.okWide Tryz.prog W .any base t v := hval0
  have hW' := hW
  obtain ⟨p, q, hA0, hV, rfl, hfz, hnd⟩ := hW
  have hA : DataW.TrodAll enc Tryz.prog W 0 (fun _ => true) true Tryz.f9.params.toList args.toList ds p := hA0
  rw [Tryz.params9] at hA hval
  obtain ⟨v0, vs0, d0, ds0, p0, q0, hargs, rfl, rfl, h0, r0⟩ := trodAll_cons hA
  obtain ⟨v1, vs1, d1, ds1, p1, q1, rfl, rfl, rfl, h1, r1⟩ := trodAll_cons r0
  obtain ⟨v2, vs2, d2, ds2, p2, q2, rfl, rfl, rfl, h2, r2⟩ := trodAll_cons r1
  obtain ⟨rfl, rfl, rfl⟩ := trodAll_nil r2
  obtain rfl : args = #[v0, v1, v2] := by cases args; simp_all
  obtain ⟨rfl, rfl⟩ := trodVars_none hV
  obtain ⟨b1, A1, n1, c1, z1, xs1, rfl, D1, l1⟩ := open_draft_cap (hval 0 _ _ rfl rfl) h0
  obtain ⟨b2, A2, n2, c2, z2, xs2, rfl, D2, l2⟩ := open_draft_cap (hval 1 _ _ rfl rfl) h1
  obtain ⟨k, rfl, rfl, rfl, wk⟩ := open_int Tryz.underlying5 (hval 2 _ _ rfl rfl) h2
  have ik := (Lit.wf_int_iff .u8 k).1 wk
  rw [IntKind.min_u8, IntKind.max_u8] at ik
  obtain ⟨k, rfl⟩ := Int.eq_ofNat_of_zero_le ik.1
  refine (roots_core b1 A1 n1 c1 z1 xs1 b2 A2 n2 c2 z2 xs2 k W (gnd_of_laid hL) D1 D2 l1 l2 (by omega)).mono fun e W' ⟨he, hb⟩ => ?_
  subst he
  exact ⟨_, rfl, post_true (tb := 4) laidOutHere (by kernel_rfl) Tryz.underlying4 (by kernel_rfl) rfl rfl hW' hb⟩

theorem said : Rows.WholeRootsSaid :=
  OpenClaim.holds_of_wide 9 Tryz.f9 rfl rfl rfl rfl rfl rfl rfl ⟨rfl, rfl, rfl, rfl, rfl⟩ rfl rfl rfl rfl rfl (by kernel_rfl) Tryz.func9 (by kernel_rfl)
    (of_decide_eq_true (by kernel_rfl)) (by unfold Func.isWrapper; first | (rw [if_pos (by decide +kernel)]; kernel_rfl) | (rw [if_neg (by decide +kernel)]; exact ⟨rfl, rfl⟩))
    (fun os started H enc _ => lifted os started H enc)

theorem plain (f : FuncId) (fn : Func) (hf : Tryz.pinned.checked.prog.funcNamed "verdigris/verdigrislaw01.WholeRoots" = some f) (hfn : Tryz.pinned.checked.prog.funcs[f]? = some fn) :
    true = Tryz.pinned.checked.prog.looks [] ∧ ∀ (j : Nat) t, fn.params[j]? = some t → Tryz.pinned.checked.prog.wantsStandIn t = false := by
  obtain rfl : f = 9 := Option.some.inj ((show Tryz.prog.funcNamed "verdigris/verdigrislaw01.WholeRoots" = some 9 by kernel_rfl).symm.trans hf) |>.symm
  obtain rfl : fn = Tryz.f9 := (Option.some.inj (Tryz.func9.symm.trans hfn)).symm
  refine ⟨by kernel_rfl, fun j t ht => ?_⟩
  rw [Tryz.params9] at ht
  have : t = 25 ∨ t = 5 := by simpa using Array.mem_of_getElem? ht
  rcases this with rfl | rfl
  · exact (show Tryz.prog.wantsStandIn 25 = false by kernel_rfl)
  · exact (show Tryz.prog.wantsStandIn 5 = false by kernel_rfl)

/-- THE CARD. -/
theorem card : Rows.WholeRootsCardSaid :=
  Claim7.holds_tied_plain_at .later [] _ _ _ _ said (fun _ h => by cases h) (by kernel_rfl) (fun _ h => by cases h) wholeRoots_row_tie rfl ⟨rfl, rfl⟩ (by kernel_rfl) rfl plain (by kernel_rfl)
#print axioms card
end Go.Proofs.YtcigciclpdnbhaaGreatDoor.roots
