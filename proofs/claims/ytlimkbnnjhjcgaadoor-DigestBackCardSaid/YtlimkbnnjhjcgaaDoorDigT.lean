/- Package digest: Unhex. -/
import Derived.Test.YtlimkbnnjhjcgaaDoorDigS
import Derived.Test.YtlimkbnnjhjcgaaDoorDigO
namespace Go.Proofs.YtlimkbnnjhjcgaaDoor
open Go.RowKit Vo
attribute [local go_sem ↓] Go.wp_at_zero Go.wp_at_succ

def dv (c : UInt8) : Nat := (und c).getD 0
theorem dv_lt (c : UInt8) : dv c < 16 := by
  unfold dv
  cases h : und c with
  | none => exact Nat.zero_lt_succ _
  | some n => exact und_lt h
/-- what has been read of the j-th octet after k digits -/
def accN (t : List UInt8) (k j : Nat) : Nat := if 2 * j + 1 < k then 16 * dv (t.getD (2 * j) 0) + dv (t.getD (2 * j + 1) 0) else if 2 * j < k then dv (t.getD (2 * j) 0) else 0
def accL (t : List UInt8) (k : Nat) : List UInt8 := (List.range 16).map fun j => UInt8.ofNat (accN t k j)
def goodTo (t : List UInt8) (k : Nat) : Prop := ∀ i, i < k → und (t.getD i 0) ≠ none
theorem accL_zero (t : List UInt8) : accL t 0 = zero16 := rfl
theorem accL_length (t : List UInt8) (k : Nat) : (accL t k).length = 16 := by simp [accL]
theorem unL_good : ∀ (m : Nat) (t : List UInt8), t.length = 2 * m → goodTo t (2 * m) → unL t = some ((List.range m).map fun j => UInt8.ofNat (16 * dv (t.getD (2 * j) 0) + dv (t.getD (2 * j + 1) 0)))
  | 0, t, h, _ => by
    have : t = [] := List.length_eq_zero_iff.1 h
    subst this; rfl
  | m + 1, [], h, _ => by simp at h
  | m + 1, [_], h, _ => by simp at h; omega
  | m + 1, a :: b :: t, h, hg => by
    have ha := hg 0 (by omega)
    have hb := hg 1 (by omega)
    have ih := unL_good m t (by simp at h; omega) (fun i hi => by have := hg (i + 2) (by omega); simpa using this)
    simp only [List.getD_cons_zero, List.getD_cons_succ] at ha hb
    cases ea : und a with
    | none => exact absurd ea ha
    | some x =>
      cases eb : und b with
      | none => exact absurd eb hb
      | some y =>
        unfold unL
        rw [ea, eb, ih, List.range_succ_eq_map]
        simp [dv, ea, eb, Nat.mul_add]
theorem unL_bad : ∀ (m : Nat) (t : List UInt8), t.length = 2 * m → (∃ i, i < 2 * m ∧ und (t.getD i 0) = none) → unL t = none
  | 0, t, h, ⟨i, hi, _⟩ => by omega
  | m + 1, [], h, _ => by simp at h
  | m + 1, [_], h, _ => by simp at h; omega
  | m + 1, a :: b :: t, h, ⟨i, hi, hn⟩ => by
    unfold unL
    cases ea : und a with
    | none => rfl
    | some x =>
      cases eb : und b with
      | none => rfl
      | some y =>
        match i, hi, hn with
        | 0, _, hn => simp [ea] at hn
        | 1, _, hn => simp [eb] at hn
        | i + 2, hi, hn =>
          rw [unL_bad m t (by simp at h; omega) ⟨i, by omega, by simpa using hn⟩]
theorem accL_full {t : List UInt8} (h : t.length = 32) (hg : goodTo t 32) : unhexR t = (accL t 32, 0) := by
  have : accL t 32 = (List.range 16).map fun j => UInt8.ofNat (16 * dv (t.getD (2 * j) 0) + dv (t.getD (2 * j + 1) 0)) := by
    unfold accL
    apply List.map_congr_left
    intro j hj
    have := List.mem_range.1 hj
    rw [accN, if_pos (by omega)]
  unfold unhexR
  rw [if_pos h, unL_good 16 t h hg, this]
theorem unhex_bad {t : List UInt8} (h : t.length = 32) {i : Nat} (hi : i < 32) (hn : und (t.getD i 0) = none) : unhexR t = (zero16, 5) := by
  unfold unhexR
  rw [if_pos h, unL_bad 16 t h ⟨i, hi, hn⟩]
theorem bcA_set (l : List UInt8) (i : Nat) (c : UInt8) : (bcA l).setIfInBounds i (.int .u8 c.toNat) = bcA (l.set i c) := by
  simp [bcA, Lib.byteCells, List.map_set]
theorem accN_at (t : List UInt8) (k : Nat) : accN t k (k / 2) < 16 := by
  unfold accN
  rw [if_neg (by omega)]
  split
  · exact dv_lt _
  · omega
theorem accN_next (t : List UInt8) (k : Nat) : accN t (k + 1) (k / 2) = 16 * accN t k (k / 2) + dv (t.getD k 0) := by
  unfold accN
  rcases Nat.mod_two_eq_zero_or_one k with h | h
  · rw [if_neg (by omega), if_pos (by omega), if_neg (by omega), if_neg (by omega), show 2 * (k / 2) = k by omega]; omega
  · rw [if_pos (by omega), if_neg (by omega), if_pos (by omega), show 2 * (k / 2) + 1 = k by omega]
theorem accN_other (t : List UInt8) (k j : Nat) (h : j ≠ k / 2) : accN t (k + 1) j = accN t k j := by
  unfold accN
  by_cases h1 : 2 * j + 1 < k
  · rw [if_pos (by omega), if_pos h1]
  · rw [if_neg (by omega), if_neg (by omega), if_neg h1, if_neg (by omega)]
theorem accL_next (t : List UInt8) (k : Nat) (_hk : k < 32) : (bcA (accL t k)).setIfInBounds (k / 2) (.int .u8 ((16 * accN t k (k / 2) + dv (t.getD k 0) : Nat) : Int)) = bcA (accL t (k + 1)) := by
  have h1 := accN_at t k
  have h2 := dv_lt (t.getD k 0)
  have e : ((16 * accN t k (k / 2) + dv (t.getD k 0) : Nat) : Int) = ((UInt8.ofNat (accN t (k + 1) (k / 2))).toNat : Int) := by
    rw [accN_next, UInt8.toNat_ofNat']; omega
  rw [e, bcA_set]
  congr 1
  apply List.ext_getElem
  · simp [accL]
  intro i hi hi2
  rw [List.getElem_set]
  simp only [accL, List.getElem_map, List.getElem_range]
  split
  · next h => rw [h]
  · next h => rw [accN_other t k i (fun e => h e.symm)]
theorem acc_at (t : List UInt8) (k : Nat) (hk : k < 32) : (bcA (accL t k))[k / 2]? = some (.int .u8 (accN t k (k / 2) : Int)) := by
  have h1 := accN_at t k
  have : (UInt8.ofNat (accN t k (k / 2))).toNat = accN t k (k / 2) := by rw [UInt8.toNat_ofNat']; omega
  simp [bcA, Lib.byteCells, accL, List.getElem?_range (show k / 2 < 16 by omega)]
  omega
theorem or_u8 (a b : Nat) (ha : a < 16) (hb : b < 16) : bits .or .u8 ((16 * a : Nat) : Int) (b : Int) = ((16 * a + b : Nat) : Int) := by
  have : ∀ a b : Fin 16, bits .or .u8 ((16 * a.1 : Nat) : Int) (b.1 : Int) = ((16 * a.1 + b.1 : Nat) : Int) := by decide +kernel
  exact this ⟨a, ha⟩ ⟨b, hb⟩

theorem bget (l : List UInt8) (k : Nat) {hh} : (B l)[k]'hh = l.getD k 0 := by
  have h : k < l.length := by rw [← B_size]; exact hh
  rw [List.getD_eq_getElem?_getD, List.getElem?_eq_getElem h]; rfl
theorem ixb_any (c : UInt8) (W : World) : Calls Tryd.prog 37 #[.string ⟨#[48, 49, 50, 51, 52, 53, 54, 55, 56, 57, 97, 98, 99, 100, 101, 102]⟩, .int .u8 c.toNat] W fun e w' => e = .returned (.int .i64 (digAt c)) ∧ w' = W := by
  have h := Tryd.strings_IndexByte ⟨#[48, 49, 50, 51, 52, 53, 54, 55, 56, 57, 97, 98, 99, 100, 101, 102]⟩ c.toNat W
  have e : ((c.toNat : Int).toNat.toUInt8) = c := by simp
  rw [← index_dig]
  rw [e] at h
  exact h

set_option maxHeartbeats 2000000 in
set_option maxRecDepth 100000 in
theorem unhex_any (t : List UInt8) (w : World) (_ht : t.length ≤ 1000000) :
    Calls Tryd.prog 14 #[.string (B t)] w fun e w' => e = .returned (.tuple #[.agg (bcA (unhexR t).1), .int .i64 (unhexR t).2]) ∧ Below w.heap.size w w' := by
  have hz := B_size t
  have hf : Fr ((w.alloc (.cells zb16 28)).alloc (.cells zb16 28)) w.heap.size zb16 28 := Fr.old (Fr.new rfl)
  have hg : Fr ((w.alloc (.cells zb16 28)).alloc (.cells zb16 28)) (w.heap.size + 1) zb16 28 := Fr.new (by simp)
  have hb0 : Below w.heap.size w ((w.alloc (.cells zb16 28)).alloc (.cells zb16 28)) := ((Below.refl _ _).alloc (Nat.le_refl _) _).alloc (by simp) _
  by_cases h32 : t.length = 32
  · have hg' : Fr ((w.alloc (.cells zb16 28)).alloc (.cells zb16 28)) (w.heap.size + 1) (bcA (accL t 0)) 28 := by rw [accL_zero, ← zb16_eq]; exact hg
    have H := Lib.hid (And.intro hf (And.intro hg' hb0))
    have b1 : ((t.length : Nat) : Int) = 32 := by omega
    clear hf hg hg' hb0
    go_enter Tryd.func14, Tryd.ntmps14
    go_wp2_with fail
    go_loopg [13] 32 (fun r cv W => ∃ (k : Nat), r = 32 - k ∧ cv = .int .i64 k ∧ k ≤ 32 ∧ goodTo t k ∧ Fr W w.heap.size zb16 28 ∧ Fr W (w.heap.size + 1) (bcA (accL t k)) 28 ∧ Below w.heap.size w W)
    case atStart => exact ⟨0, rfl, rfl, by omega, fun i hi => absurd hi (by omega), H.out.1, H.out.2.1, H.out.2.2⟩
    case round =>
      obtain ⟨k, rfl, rfl, hk, hgo, hf, hg, hb⟩ := hrel
      by_cases hlt : k < 32
      · have c1 : (k : Int) < 32 := by omega
        have hB := Lib.hid (And.intro hf (And.intro hg (And.intro hb (And.intro hk hgo))))
        have cc : wr.cell? ⟨w.heap.size + 1, k / 2, none⟩ = some (.int .u8 (accN t k (k / 2) : Int)) := (hg.cell _).trans (acc_at t k hlt)
        have cf : wr.frozen? ⟨w.heap.size + 1, k / 2, none⟩ = false := hg.frozen _
        clear hf hg hb hk hgo
        go_wp2_with fail
        rw [bget]
        refine (ixb_any _ _).mono ?_
        rintro e w1 ⟨rfl, rfl⟩
        cases hu : und (t.getD k 0) with
        | none =>
          have e1 : digAt (t.getD k 0) = -1 := by rw [digAt, hu]
          have e2 := unhex_bad h32 hlt hu
          obtain ⟨hf, hg, hb, hk, hgo⟩ := hB.out
          rw [e1]
          have hb := Lib.hid hb
          clear hu e1 hg hk hgo hB cc cf
          go_wp2_with (refine wpList_store_row rfl 28 _ _ rfl _ zb16 rfl rfl _ _ hf size28 rfl (by kernel_rfl) ?_)
          exact bodyPost_ret (v := .tuple #[.agg zb16, .int .i64 5]) (results_row_tmp rfl _ _ w.heap.size _ zb16 _ _ _ rfl rfl (setRow_heap _ _ _ _ _ _ hf) Tryd.underlying28 rfl size28) rfl ⟨by rw [e2, zb16_eq], below_setRow hb.out (Nat.le_refl _) _⟩
        | some n =>
          have e1 : digAt (t.getD k 0) = n := by rw [digAt, hu]
          have e2 : dv (t.getD k 0) = n := by rw [dv, hu]; rfl
          have hn := und_lt hu
          have hx := accN_at t k
          have hor := or_u8 (accN t k (k / 2)) n hx hn
          rw [e1]
          obtain ⟨x, hx'⟩ : ∃ x, accN t k (k / 2) = x := ⟨_, rfl⟩
          rw [hx'] at cc hx hor
          clear e1
          go_wp2_with fail
          rw [Int.mul_comm, show (16 : Int) * (x : Int) = ((16 * x : Nat) : Int) from (Int.natCast_mul 16 x).symm, hor]
          obtain ⟨hf, hg, hb, hk, hgo⟩ := hB.out
          have hn2 := accL_next t k hlt
          rw [hx', e2] at hn2
          have hg2 := Fr.set (o := k / 2) (v := .int .u8 ((16 * x + n : Nat) : Int)) hg
          rw [hn2] at hg2
          have hgo2 : goodTo t (k + 1) := fun i hi => by
            rcases Nat.lt_succ_iff_lt_or_eq.1 hi with h | rfl
            · exact hgo i h
            · rw [hu]; exact fun h => by cases h
          go_roundg (32 - (k + 1))
          case measure => omega
          case rel => exact ⟨k + 1, rfl, by go_num, by omega, hgo2, Fr.far (by omega) hf, hg2, Below.setCell (p := ⟨w.heap.size + 1, k / 2, none⟩) hb (by show w.heap.size ≤ w.heap.size + 1; omega) _⟩
      · obtain rfl : k = 32 := by omega
        have e2 := accL_full h32 hgo
        have hsz : (bcA (accL t 32)).size = 16 := by rw [bcA_size, accL_length]
        have hb := Lib.hid (And.intro hb hgo)
        clear hgo hk
        go_wp2_with (first | (refine wpList_load_row rfl 28 _ rfl _ rfl _ _ _ _ hg Tryd.underlying28 rfl (size28.trans (by rw [hsz])) ?_) | (refine wpList_store_row rfl 28 _ _ rfl _ (bcA (accL t 32)) rfl rfl _ _ hf (size28.trans (by rw [hsz])) (by rw [hsz] <;> rfl) (bcA_one _) ?_))
        exact bodyPost_ret (v := .tuple #[.agg (bcA (accL t 32)), .int .i64 0]) (results_row_tmp rfl _ _ w.heap.size _ (bcA (accL t 32)) _ _ _ rfl rfl (setRow_heap _ _ _ _ _ _ hf) Tryd.underlying28 rfl (size28.trans (by rw [hsz]))) rfl ⟨by rw [e2], below_setRow hb.out.1 (Nat.le_refl _) _⟩
  · have b1 : ((t.length : Nat) : Int) ≠ 32 := by omega
    have e1 : unhexR t = (zero16, 5) := if_neg h32
    have hb0 := Lib.hid hb0
    clear hg
    go_enter Tryd.func14, Tryd.ntmps14
    go_wp2_with (refine wpList_store_row rfl 28 _ _ rfl _ zb16 rfl rfl _ _ hf size28 rfl (by kernel_rfl) ?_)
    exact bodyPost_ret (v := .tuple #[.agg zb16, .int .i64 5]) (results_row_tmp rfl _ _ w.heap.size _ zb16 _ _ _ rfl rfl (setRow_heap _ _ _ _ _ _ hf) Tryd.underlying28 rfl size28) rfl ⟨by rw [e1, zb16_eq], below_setRow hb0.out (Nat.le_refl _) _⟩
end Go.Proofs.YtlimkbnnjhjcgaaDoor
