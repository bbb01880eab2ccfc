/- Contracts: the signed numbers, compared and written. -/
import Derived.Test.YtdobcaabebepaaaGreatDoorSgnA
namespace Go.Proofs.YtdobcaabebepaaaGreatDoor
open Go.RowKit Vd

def cmpZ (x y : Int) : Int := if x < y then -1 else if y < x then 1 else 0

set_option maxRecDepth 100000 in
set_option maxHeartbeats 1000000 in
theorem orderZ_any (v1 v2 : Value) (x y : Int) (w : World) (h1 : SgV w v1 x) (h2 : SgV w v2 y) (b1 : wlen B64 x.natAbs ≤ maxW) (b2 : wlen B64 y.natAbs ≤ maxW) :
    Calls Tryz.prog 97 #[v1, v2] w fun e w' => e = .returned (.int .i64 (cmpZ x y)) ∧ Below w.heap.size w w' := by
  obtain ⟨m1, rfl, hm1⟩ := h1
  obtain ⟨m2, rfl, hm2⟩ := h2
  have hc12 := fun W (hb : Below w.heap.size w W) => compare_any m1 m2 _ _ W (hm1.below hb) (hm2.below hb) b2
  have hc21 := fun W (hb : Below w.heap.size w W) => compare_any m2 m1 _ _ W (hm2.below hb) (hm1.below hb) b1
  have hbW : ∀ a b : Bool, Below w.heap.size w ((w.alloc (.cells #[m1, .bool a] 87)).alloc (.cells #[m2, .bool b] 87)) := fun _ _ => ((Below.refl _ _).alloc (Nat.le_refl _) _).alloc (by simp) _
  have hoF := fun W => order_false W
  have hoT := fun W => order_true W
  by_cases hx : x < 0
  · have ex : decide (x < 0) = true := by simpa using hx
    by_cases hy : y < 0
    · have ey : decide (y < 0) = true := by simpa using hy
      have HE : Hid (cmpZ x y = cmpN y.natAbs x.natAbs) := Lib.hid (by unfold cmpZ cmpN; split <;> split <;> (try split) <;> (try split) <;> omega)
      rw [ex, ey]
      have hc := hc21 _ (hbW true true)
      rw [← HE.out] at hc
      clear hc12 hc21 hx hy ex ey
      go_enter Tryz.func97, Tryz.ntmps97
      go_wp2_with fail
      refine hc.mono ?_
      rintro e w1 ⟨rfl, d, rfl⟩
      go_wp2_with fail
      go_ret
      exact ⟨rfl, below_drewN (hbW _ _) d⟩
    · have ey : decide (y < 0) = false := by simpa using hy
      have HE : Hid (cmpZ x y = -1) := Lib.hid (by unfold cmpZ; rw [if_pos (by omega)])
      rw [ex, ey]
      clear hc12 hc21 hx hy ex ey
      go_enter Tryz.func97, Tryz.ntmps97
      go_wp2_with fail
      refine (hoT _).mono ?_
      rintro e w1 ⟨rfl, rfl⟩
      go_wp2_with fail
      go_ret
      exact ⟨by rw [HE.out]; rfl, hbW _ _⟩
  · have ex : decide (x < 0) = false := by simpa using hx
    by_cases hy : y < 0
    · have ey : decide (y < 0) = true := by simpa using hy
      have HE : Hid (cmpZ x y = 1) := Lib.hid (by unfold cmpZ; rw [if_neg (by omega), if_pos (by omega)])
      rw [ex, ey]
      clear hc12 hc21 hx hy ex ey
      go_enter Tryz.func97, Tryz.ntmps97
      go_wp2_with fail
      refine (hoF _).mono ?_
      rintro e w1 ⟨rfl, rfl⟩
      go_wp2_with fail
      go_ret
      exact ⟨by rw [HE.out]; rfl, hbW _ _⟩
    · have ey : decide (y < 0) = false := by simpa using hy
      have HE : Hid (cmpZ x y = cmpN x.natAbs y.natAbs) := Lib.hid (by unfold cmpZ cmpN; split <;> split <;> (try split) <;> (try split) <;> omega)
      rw [ex, ey]
      have hc := hc12 _ (hbW false false)
      rw [← HE.out] at hc
      clear hc12 hc21 hx hy ex ey
      go_enter Tryz.func97, Tryz.ntmps97
      go_wp2_with fail
      refine hc.mono ?_
      rintro e w1 ⟨rfl, d, rfl⟩
      go_wp2_with fail
      go_ret
      exact ⟨rfl, below_drewN (hbW _ _) d⟩

/-- what 'Text' answers -/
def textV (z : Int) (most : Nat) : Value := if dlen z.natAbs ≤ most then .tuple #[.string ⟨(wr z).toArray⟩, .bool true] else .tuple #[.string ⟨#[]⟩, .bool false]

set_option maxRecDepth 100000 in
set_option maxHeartbeats 1000000 in
theorem text_any (v : Value) (z : Int) (most : Nat) (w : World) (hv : SgV w v z) (hb : wlen B64 z.natAbs ≤ 1000000) (hm : 1 ≤ most) (hm2 : most ≤ 1000000000) :
    Calls Tryz.prog 101 #[v, .int .i64 (most : Int)] w fun e w' => e = .returned (textV z most) ∧ Below w.heap.size w w' := by
  obtain ⟨m, rfl, hm1⟩ := hv
  obtain ⟨b, hbz⟩ : ∃ b, b = decide (z < 0) := ⟨_, rfl⟩
  rw [← hbz]
  have hbW : Below w.heap.size w (w.alloc (.cells #[m, .bool b] 87)) := (Below.refl _ _).alloc (Nat.le_refl _) _
  have hd := decimal_any m z.natAbs most _ (hm1.below hbW) hb hm hm2
  by_cases hfit : dlen z.natAbs ≤ most
  · rw [show decV z.natAbs most = .tuple #[.string ⟨(digs z.natAbs).toArray⟩, .bool true] by unfold decV; rw [if_pos hfit]] at hd
    have HE : Hid (textV z most = .tuple #[.string ⟨(if b then 45 :: digs z.natAbs else digs z.natAbs).toArray⟩, .bool true]) := Lib.hid (by
      unfold textV wr; rw [if_pos hfit, hbz]; simp)
    have hln : ¬ 9223372036854775807 < 1 + (digs z.natAbs).length := by rw [digs_length]; omega
    have happ : (⟨#[45]⟩ : ByteArray) ++ ⟨(digs z.natAbs).toArray⟩ = ⟨(45 :: digs z.natAbs).toArray⟩ := by
      apply ByteArray.ext
      rw [ByteArray.data_append]
      apply Array.ext'
      simp
    clear hbz hfit
    cases b
    all_goals
      go_enter Tryz.func101, Tryz.ntmps101
      go_wp2_with fail
      refine hd.mono ?_
      rintro e w1 ⟨rfl, hb1⟩
      have hc1 := hb1.cell (p := ⟨w.heap.size, 1, none⟩) (by simp)
      rw [World.cell?_alloc_at _ _ _ _ rfl] at hc1
      have hc2 : w1.cell? ⟨w.heap.size, 1, none⟩ = some (.bool _) := hc1
      clear hc1
      have HB := Lib.hid (hbW.trans (hb1.mono hbW.size))
      clear hb1
      go_wp2_with fail
      first
        | exact bodyPost_ret (v := .tuple #[.string ⟨(digs z.natAbs).toArray⟩, .bool true]) (by simp [results, Tryz.results101, go_sem]) rfl ⟨by rw [HE.out]; rfl, HB.out⟩
        | exact bodyPost_ret (v := .tuple #[.string ⟨(45 :: digs z.natAbs).toArray⟩, .bool true]) (by simp only [← happ]; simp [results, Tryz.results101, go_sem]) rfl ⟨by rw [HE.out]; rfl, HB.out⟩
  · rw [show decV z.natAbs most = .tuple #[.string ⟨#[]⟩, .bool false] by unfold decV; rw [if_neg hfit]] at hd
    have HE : Hid (textV z most = .tuple #[.string ⟨#[]⟩, .bool false]) := Lib.hid (by unfold textV; rw [if_neg hfit])
    clear hbz hfit
    go_enter Tryz.func101, Tryz.ntmps101
    go_wp2_with fail
    refine hd.mono ?_
    rintro e w1 ⟨rfl, hb1⟩
    have HB := Lib.hid (hbW.trans (hb1.mono hbW.size))
    clear hb1
    go_wp2_with fail
    exact bodyPost_ret (v := .tuple #[.string ⟨#[]⟩, .bool false]) (by simp [results, Tryz.results101, go_sem]) rfl ⟨by rw [HE.out], HB.out⟩

end Go.Proofs.YtdobcaabebepaaaGreatDoor
