/- Contracts: Power, length, aboveRoot, nextRoot, Root. Contracts: length, aboveRoot, nextRoot. -/
import Derived.Test.YtdobcaabebepaaaGreatDoorDivG
namespace Go.Proofs.YtdobcaabebepaaaGreatDoor
open Go.RowKit Vd

set_option maxRecDepth 100000 in
set_option maxHeartbeats 1000000 in
theorem power_any (v : Value) (m n : Nat) (w : World) (h : MagV w v m) (hm : wlen B64 m ≤ maxW) (hb : n * wlen B64 m + 1 ≤ maxW) (hn : n ≤ 1000000) :
    Calls Tryz.prog 144 #[v, .int .i64 (n : Int)] w fun e w' => ∃ r, e = .returned r ∧ MagV w' r (m ^ n) ∧ Below w.heap.size w w' := by
  have hfw := fromWord_any 1 (by decide) w
  rw [show ((1 : Nat) : Int) = 1 from rfl] at hfw
  have hn' : (n : Int) ≤ 1000000 := by omega
  have hlen : ∀ k, k < n → wlen B64 (m ^ k) ≤ maxW := fun k hk => by
    have h1 := wlen_pow (b := B64) two_le_B m k
    have h2 := Nat.mul_le_mul_right (wlen B64 m) (Nat.le_of_lt hk)
    omega
  have HB := Lib.hid (And.intro hm hlen)
  clear hm hlen hb
  go_enter Tryz.func144, Tryz.ntmps144
  go_wp2_with fail
  refine hfw.mono ?_
  rintro e w1 ⟨p, rfl, hp, hb1⟩
  go_wp2_with fail
  go_loopg [6, 11] n (fun j a i wr => ∃ k : Nat, k ≤ n ∧ j = n - k ∧ i = .int .i64 k ∧ MagV wr a (m ^ k) ∧ Below w.heap.size w wr)
  case atStart => exact ⟨0, Nat.zero_le _, rfl, rfl, by simpa using hp, hb1⟩
  case round =>
    clear hp
    obtain ⟨k, hk, rfl, rfl, hp, hbel⟩ := hrel
    by_cases hlt : k < n
    · have hlt' : (k : Int) < (n : Int) := by omega
      have hpr := product_any v _ m (m ^ k) wr (h.below hbel) hp HB.out.1 (HB.out.2 k hlt)
      go_wp2_with fail
      refine hpr.mono ?_
      rintro e w2 ⟨r, rfl, hr, hb2⟩
      go_wp2_with fail
      go_roundg (n - (k + 1))
      case measure => omega
      case rel => exact ⟨k + 1, by omega, rfl, by go_num, by rw [Nat.pow_succ, Nat.mul_comm]; exact hr, hbel.trans (hb2.mono hbel.size)⟩
    · obtain rfl : k = n := by omega
      go_wp2_with fail
      go_ret
      exact ⟨_, rfl, hp, hbel⟩

end Go.Proofs.YtdobcaabebepaaaGreatDoor

namespace Go.Proofs.YtdobcaabebepaaaGreatDoor
open Go.RowKit Vd

theorem len64_any (y : Nat) (hy : y < B64) (w : World) :
    Calls Tryz.prog 183 #[.int .u64 (y : Int)] w fun e w' => e = .returned (.int .i64 ((Lib.bitLen y : Nat) : Int)) ∧ w = w' := by
  refine (Tryz.bits_Len64 y w (by omega) (by rw [B64_eq] at hy; omega)).mono ?_
  rintro e w' ⟨he, hw⟩
  rw [Int.toNat_natCast] at he
  exact ⟨he, hw.symm⟩

theorem lt_two_pow_words {m n : Nat} (hn : wlen B64 m = n + 1) : m < 2 ^ (n * 64 + Lib.bitLen (wd B64 m n)) := by
  have e := val_take_succ (b := B64) (ws B64 m) n
  have hl : (ws B64 m).length = n + 1 := hn
  rw [List.take_of_length_le (by omega), val_ws two_le_B, val_take_ws two_le_B] at e
  rw [show nth (ws B64 m) n = wd B64 m n from rfl] at e
  have hlow : m % B64 ^ n < B64 ^ n := Nat.mod_lt _ (Nat.pow_pos (by decide))
  have hb := (blen_spec (wd B64 m n) (wd_lt two_le_B m n)).1
  have eB : B64 ^ n = 2 ^ (n * 64) := by rw [show B64 = 2 ^ 64 from rfl, ← Nat.pow_mul, Nat.mul_comm]
  rw [Nat.pow_add, ← eB]
  have h2 := Nat.mul_le_mul_left (B64 ^ n) (show wd B64 m n + 1 ≤ _ from hb)
  rw [Nat.mul_add, Nat.mul_one, Nat.mul_comm (B64 ^ n) (wd B64 m n)] at h2
  omega

theorem two_pow_words (e : Nat) : ws B64 (2 ^ e) = List.replicate (e / 64) 0 ++ [2 ^ (e % 64)] := by
  have h1 : (2 : Nat) ^ (e % 64) < B64 := by
    have := Nat.pow_lt_pow_right (a := 2) (by omega) (show e % 64 < 64 by omega)
    exact this
  have h2 : val B64 (List.replicate (e / 64) 0 ++ [2 ^ (e % 64)]) = 2 ^ e := by
    rw [val_append, val_replicate, List.length_replicate, val_cons, val_nil, show B64 = 2 ^ 64 from rfl, ← Nat.pow_mul]
    simp only [Nat.mul_zero, Nat.add_zero, Nat.zero_add]
    rw [← Nat.pow_add, Nat.div_add_mod]
  rw [← h2]
  refine ws_val two_le_B ((Ok.rep two_le_B _).app (Ok.cons h1 Ok.nil)) ?_
  intro x hx
  rw [List.getLast?_append] at hx
  simp at hx
  rw [← hx]
  exact Nat.pos_iff_ne_zero.1 (Nat.pow_pos (by omega))
theorem wlen_two_pow (e : Nat) : wlen B64 (2 ^ e) = e / 64 + 1 := by
  rw [← length_ws, two_pow_words]; simp

theorem Row.newRepSet (w : World) (f : Nat → Value) (t : TypeId) (n q x : Nat) : Row (w.alloc (.cells ((Array.replicate n (f 0)).setIfInBounds q (f x)) t)) f w.heap.size t ((List.replicate n 0).set q x) := by
  have h := Row.new w f t ((List.replicate n 0).set q x)
  rw [List.map_set, List.map_replicate] at h
  have e : ((List.replicate n (f 0)).set q (f x)).toArray = (Array.replicate n (f 0)).setIfInBounds q (f x) := by
    rw [← List.setIfInBounds_toArray, List.toArray_replicate]
  rwa [e] at h

/-- a power of 2, under a name that the walk does not open -/
def pw (t : Nat) : Nat := 2 ^ t

end Go.Proofs.YtdobcaabebepaaaGreatDoor
