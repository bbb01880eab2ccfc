/- Package digest: blocks of octets. -/
import Derived.Test.YtlimkbnnjhjcgaaDoorDigC
namespace Go.Proofs.YtlimkbnnjhjcgaaDoor
open Go.RowKit Vo
attribute [local go_sem ↓] Go.wp_at_zero Go.wp_at_succ

theorem take_getD (l : List UInt8) (n k : Nat) : (l.take n).getD k 0 = if k < n then l.getD k 0 else 0 := by
  rw [List.getD_eq_getElem?_getD, List.getD_eq_getElem?_getD, List.getElem?_take]
  split <;> rfl
theorem or_step {x c s : Nat} (h : x < 2 ^ s) : x ||| c * 2 ^ s = x + c * 2 ^ s := by
  have := Nat.shiftLeft_add_eq_or_of_lt h c
  rw [Nat.shiftLeft_eq] at this
  rw [Nat.or_comm, ← this, Nat.add_comm]
theorem le_other (l : List UInt8) (i j : Nat) (h : j ≠ i / 4) : le4 (l.take (i + 1)) (4 * j) = le4 (l.take i) (4 * j) := by
  unfold le4
  simp only [take_getD]
  rcases Nat.lt_or_ge j (i / 4) with h1 | h1
  · rw [if_pos (by omega), if_pos (by omega), if_pos (by omega), if_pos (by omega), if_pos (by omega), if_pos (by omega), if_pos (by omega), if_pos (by omega)]
  · rw [if_neg (by omega), if_neg (by omega), if_neg (by omega), if_neg (by omega), if_neg (by omega), if_neg (by omega), if_neg (by omega), if_neg (by omega)]
theorem take_in (l : List UInt8) (n k : Nat) (h : k < n) : (l.take n).getD k 0 = l.getD k 0 := by rw [take_getD, if_pos h]
theorem take_out (l : List UInt8) (n k : Nat) (h : n ≤ k) : (l.take n).getD k 0 = 0 := by rw [take_getD, if_neg (by omega)]
theorem le_step (l : List UInt8) (i : Nat) : le4 (l.take (i + 1)) (4 * (i / 4)) = le4 (l.take i) (4 * (i / 4)) ||| (l.getD i 0).toNat * 2 ^ (8 * (i % 4)) := by
  obtain ⟨j, hj⟩ : ∃ j, i / 4 = j := ⟨_, rfl⟩
  have b0 := (l.getD (4 * j) 0).toNat_lt
  have b1 := (l.getD (4 * j + 1) 0).toNat_lt
  have b2 := (l.getD (4 * j + 2) 0).toNat_lt
  have z : (0 : UInt8).toNat = 0 := rfl
  unfold le4
  rw [hj]
  rcases (show i % 4 = 0 ∨ i % 4 = 1 ∨ i % 4 = 2 ∨ i % 4 = 3 by omega) with h | h | h | h
  · have hi : i = 4 * j := by omega
    subst hi
    rw [h]
    rw [take_in l (4 * j + 1) (4 * j) (by omega), take_out l (4 * j + 1) (4 * j + 1) (by omega), take_out l (4 * j + 1) (4 * j + 2) (by omega), take_out l (4 * j + 1) (4 * j + 3) (by omega), take_out l (4 * j) (4 * j) (by omega), take_out l (4 * j) (4 * j + 1) (by omega), take_out l (4 * j) (4 * j + 2) (by omega), take_out l (4 * j) (4 * j + 3) (by omega), z]
    rw [or_step (s := 0) (by omega)]
    omega
  · have hi : i = 4 * j + 1 := by omega
    subst hi
    rw [h]
    rw [take_in l (4 * j + 1 + 1) (4 * j) (by omega), take_in l (4 * j + 1 + 1) (4 * j + 1) (by omega), take_out l (4 * j + 1 + 1) (4 * j + 2) (by omega), take_out l (4 * j + 1 + 1) (4 * j + 3) (by omega), take_in l (4 * j + 1) (4 * j) (by omega), take_out l (4 * j + 1) (4 * j + 1) (by omega), take_out l (4 * j + 1) (4 * j + 2) (by omega), take_out l (4 * j + 1) (4 * j + 3) (by omega), z]
    rw [or_step (s := 8) (by omega)]
    omega
  · have hi : i = 4 * j + 2 := by omega
    subst hi
    rw [h]
    rw [take_in l (4 * j + 2 + 1) (4 * j) (by omega), take_in l (4 * j + 2 + 1) (4 * j + 1) (by omega), take_in l (4 * j + 2 + 1) (4 * j + 2) (by omega), take_out l (4 * j + 2 + 1) (4 * j + 3) (by omega), take_in l (4 * j + 2) (4 * j) (by omega), take_in l (4 * j + 2) (4 * j + 1) (by omega), take_out l (4 * j + 2) (4 * j + 2) (by omega), take_out l (4 * j + 2) (4 * j + 3) (by omega), z]
    rw [or_step (s := 16) (by omega)]
    omega
  · have hi : i = 4 * j + 3 := by omega
    subst hi
    rw [h]
    rw [take_in l (4 * j + 3 + 1) (4 * j) (by omega), take_in l (4 * j + 3 + 1) (4 * j + 1) (by omega), take_in l (4 * j + 3 + 1) (4 * j + 2) (by omega), take_in l (4 * j + 3 + 1) (4 * j + 3) (by omega), take_in l (4 * j + 3) (4 * j) (by omega), take_in l (4 * j + 3) (4 * j + 1) (by omega), take_in l (4 * j + 3) (4 * j + 2) (by omega), take_out l (4 * j + 3) (4 * j + 3) (by omega), z]
    rw [or_step (s := 24) (by omega)]
    omega
theorem wordsN_length (l : List UInt8) : (wordsN l).length = 16 := by rw [wordsN, List.length_map, List.length_range]
theorem wordsN_at (l : List UInt8) {j : Nat} (h : j < 16) : (wordsN l).getD j 0 = le4 l (4 * j) := by
  rw [wordsN, List.getD_eq_getElem?_getD, List.getElem?_map, List.getElem?_range h, Option.map_some, Option.getD_some]
theorem le4_lt (l : List UInt8) (j : Nat) : le4 l j < 4294967296 := by
  unfold le4
  have b0 := (l.getD j 0).toNat_lt
  have b1 := (l.getD (j + 1) 0).toNat_lt
  have b2 := (l.getD (j + 2) 0).toNat_lt
  have b3 := (l.getD (j + 3) 0).toNat_lt
  omega
theorem wordsN_step (l : List UInt8) (i : Nat) (_hi : i < 64) : wordsN (l.take (i + 1)) = (wordsN (l.take i)).set (i / 4) (le4 (l.take i) (4 * (i / 4)) ||| (l.getD i 0).toNat * 2 ^ (8 * (i % 4))) := by
  apply List.ext_getElem
  · rw [List.length_set, wordsN_length, wordsN_length]
  · intro j h1 h2
    rw [List.getElem_set]
    simp only [wordsN, List.getElem_map, List.getElem_range]
    split
    · rename_i h
      subst h
      exact le_step l i
    · rename_i h
      exact le_other l i j (fun e => h e.symm)
theorem wc_set (ws : List Nat) (j x : Nat) : (wc ws).setIfInBounds j (.int .u32 (x : Int)) = wc (ws.set j x) := by
  simp [wc, List.map_set]
theorem getD_B (l : List UInt8) (k : Nat) (h : k < (B l).size) : (B l)[k]'h = l.getD k 0 := by
  have h2 : k < l.length := by rw [← B_size]; exact h
  rw [List.getD_eq_getElem?_getD, List.getElem?_eq_getElem h2]
  rfl
theorem wc_size {ws : List Nat} {n : Nat} (h : ws.length = n) : (wc ws).size = n := by simp [wc, h]
theorem wc_one (ws : List Nat) : (wc ws).all (·.oneCell') = true := by
  rw [Array.all_eq_true_iff_forall_mem]
  intro v hv
  simp only [wc, List.mem_toArray, List.mem_map] at hv
  obtain ⟨x, _, rfl⟩ := hv
  rfl
theorem size100 : (Tryd.prog.info? 100).map (·.size) = some 16 := by kernel_rfl
def zb : Array Value := #[.int .u32 0, .int .u32 0, .int .u32 0, .int .u32 0, .int .u32 0, .int .u32 0, .int .u32 0, .int .u32 0, .int .u32 0, .int .u32 0, .int .u32 0, .int .u32 0, .int .u32 0, .int .u32 0, .int .u32 0, .int .u32 0]
theorem zb_words : zb = wc (wordsN ([] : List UInt8)) := by kernel_rfl
theorem sh_u32 (c : UInt8) (r : Nat) (hr : r < 4) : (c.toNat : Int) * 2 ^ (8 * r) % 4294967296 = ((c.toNat * 2 ^ (8 * r) : Nat) : Int) := by
  have := c.toNat_lt
  rcases (show r = 0 ∨ r = 1 ∨ r = 2 ∨ r = 3 by omega) with rfl | rfl | rfl | rfl <;> simp <;> omega

set_option maxRecDepth 100000 in
set_option maxHeartbeats 2000000 in
theorem blockOf_any (l : List UInt8) (w : World) (hl : l.length = 64) :
    Calls Tryd.prog 75 #[.string (B l)] w fun e w' => e = .returned (.agg (wc (wordsN l))) ∧ Below w.heap.size w w' := by
  have hz := B_size l
  rw [hl] at hz
  go_enter Tryd.func75, Tryd.ntmps75
  go_wp2_with fail
  go_loopg [4, 7] 64 (fun r iv cv W => ∃ k : Nat, r = 64 - k ∧ cv = .int .i64 k ∧ k ≤ 64 ∧ Fr W w.heap.size zb 100 ∧ Fr W (w.heap.size + 1) (wc (wordsN (l.take k))) 100 ∧ Below w.heap.size w W)
  case atStart => exact ⟨0, rfl, rfl, by omega, Fr.old (Fr.new rfl), by rw [List.take_zero, ← zb_words]; exact Fr.new (by simp), ((Below.refl _ _).alloc (Nat.le_refl _) _).alloc (by simp) _⟩
  case round =>
    obtain ⟨k, rfl, rfl, hk, hf1, hf2, hb⟩ := hrel
    by_cases hlt : k < 64
    · have hj : k / 4 < 16 := by omega
      have hc := hf2.cell (k / 4)
      rw [wc_at (by rw [wordsN_length]; omega), wordsN_at _ hj] at hc
      have hfz := hf2.frozen (k / 4)
      have h1 : (k : Int) < 64 := by omega
      have h2 : (k : Int) / 4 < 16 := by omega
      obtain ⟨x, hx⟩ : ∃ x, le4 (l.take k) (4 * (k / 4)) = x := ⟨_, rfl⟩
      rw [hx] at hc
      have h3 : (k : Int) % 4 < 4 := by omega
      have h4 : (0 : Int) ≤ 8 * ((k : Int) % 4) := by omega
      have hx32 : x < 4294967296 := hx ▸ le4_lt _ _
      obtain ⟨c, hcl⟩ : ∃ c, l.getD k 0 = c := ⟨_, rfl⟩
      have hbk : ∀ h, (B l)[k]'h = c := fun h => by rw [← hcl, getD_B]
      have hsh := sh_u32 c (k % 4) (by omega)
      have hc256 := c.toNat_lt
      have hmod : (c.toNat : Int) % 4294967296 = (c.toNat : Int) := by omega
      have hor : bits .or .u32 (x : Int) ((c.toNat : Int) % 4294967296 * 2 ^ (8 * (k % 4)) % 4294967296) = ((x ||| c.toNat * 2 ^ (8 * (k % 4)) : Nat) : Int) := by
        rw [hmod, hsh, or_u32 _ _ hx32 (by have := Int.emod_lt_of_pos ((c.toNat : Int) * 2 ^ (8 * (k % 4))) (show (0 : Int) < 4294967296 by decide); rw [hsh] at this; omega)]
      have hst := wordsN_step l k hlt
      rw [hx, hcl] at hst
      have HH := Lib.hid (And.intro hst (And.intro hf1 (And.intro hf2 hb)))
      clear hst hx hsh hmod hcl hc256 hx32 hf1 hf2 hb
      go_wp2_with fail
      go_region
      go_wp2_with fail
      go_roundg (64 - (k + 1))
      case measure => omega
      case rel =>
        obtain ⟨hst, hf1, hf2, hb⟩ := HH.out
        exact ⟨k + 1, rfl, by go_num, by omega, (hf1.far (by omega)).drew, by rw [hst, ← wc_set]; exact hf2.set.drew, ((hb.setCell (p := ⟨_, _, _⟩) (by simp) _)).drew⟩
    · obtain rfl : k = 64 := by omega
      rw [List.take_of_length_le (by omega)] at hf2
      go_wp2_with (first | (refine wpList_load_row rfl 100 _ rfl _ rfl _ _ _ _ hf2 Tryd.underlying100 rfl (size100.trans (by rw [wc_size (wordsN_length l)])) ?_) | (refine wpList_store_row rfl 100 _ _ rfl _ _ rfl rfl _ _ hf1 (size100.trans (by rw [wc_size (wordsN_length l)])) (by rw [wc_size (wordsN_length l)]; rfl) (wc_one _) ?_))
      have hf3 : Fr (wr.setRow w.heap.size (wc (wordsN l))) w.heap.size (wc (wordsN l)) 100 := setRow_heap wr w.heap.size _ _ _ _ hf1
      refine bodyPost_ret (v := .agg (wc (wordsN l))) (results_cell_row rfl _ _ w.heap.size _ _ _ _ rfl hf3 Tryd.underlying100 rfl (size100.trans (by rw [wc_size (wordsN_length l)]))) rfl ⟨rfl, below_setRow hb (Nat.le_refl _) _⟩
end Go.Proofs.YtlimkbnnjhjcgaaDoor
