/- Contracts of the small functions on magnitudes: word, trim, fromWord, IsZero, order. -/
import Derived.Test.YtdkgifkmkghggaaGreatDoorProg
import Derived.Test.YtdkgifkmkghggaaGreatDoorNum
import Derived.Test.YtdkgifkmkghggaaGreatDoorMem
import Derived.WalkKit
import Derived.WalkSpells
import Derived.WalkLawsBesides
import Derived.Deep.LoopGhost
import Derived.Deep.QuietTactic
import Derived.BigQuiet
import Derived.Lib.Hide
import Derived.Shelf.Spec.BitsCarry
namespace Go.Proofs.YtdkgifkmkghggaaGreatDoor
open Go.RowKit Vd

/-- the base of words, 2^64 -/
def B64 : Nat := 18446744073709551616
theorem B64_eq : B64 = 18446744073709551616 := rfl
theorem two_le_B : 2 ≤ B64 := by decide

/-- a word in memory -/
def U (x : Nat) : Value := .int .u64 (x : Int)

set_option maxHeartbeats 400000 in
theorem word_any (A : Option Addr) (n c : Nat) (xs : List Nat) (i : Nat) (w : World) (h : Sl w U A n xs) (hn : n ≤ 9223372036854775807) (hi : i ≤ 9223372036854775807) :
    Calls Tryz.prog 125 #[.slice A n c, .int .i64 (i : Int)] w fun e w' => e = .returned (.int .u64 ((nth xs i : Nat) : Int)) ∧ w = w' := by
  have hl := h.len
  by_cases hlt : i < n
  · obtain ⟨g, o, rfl, hg, hc⟩ := h.at_ (by omega)
    have hcell := hc i hlt
    have hlt' : (i : Int) < (n : Int) := by omega
    unfold U at hcell
    clear hc h
    go_enter Tryz.func125, Tryz.ntmps125
    go_wp2
    go_ret
    exact ⟨rfl, rfl⟩
  · have hge : ¬ (i : Int) < (n : Int) := by omega
    have hz : nth xs i = 0 := nth_ge (by omega)
    rw [hz]
    clear h hz hl
    go_enter Tryz.func125, Tryz.ntmps125
    go_wp2
    go_ret
    exact ⟨rfl, rfl⟩

set_option maxHeartbeats 400000 in
theorem order_any (b : Bool) (w : World) :
    Calls Tryz.prog 86 #[.bool b] w fun e w' => e = .returned (.int .i64 (if b then -1 else 1)) ∧ w = w' := by
  cases b
  all_goals
    go_enter Tryz.func86, Tryz.ntmps86
    go_wp2
    go_ret
    exact ⟨rfl, rfl⟩

theorem order_true (w : World) : Calls Tryz.prog 86 #[.bool true] w fun e w' => e = .returned (.int .i64 (-1)) ∧ w = w' := order_any true w
theorem order_false (w : World) : Calls Tryz.prog 86 #[.bool false] w fun e w' => e = .returned (.int .i64 1) ∧ w = w' := order_any false w

set_option maxHeartbeats 400000 in
theorem isZero_any (A : Option Addr) (n c : Nat) (w : World) :
    Calls Tryz.prog 67 #[.slice A n c] w fun e w' => e = .returned (.bool (decide (n = 0))) ∧ w = w' := by
  go_enter Tryz.func67, Tryz.ntmps67
  go_wp2
  go_ret
  refine ⟨?_, rfl⟩
  show Ending.returned (.bool ((n : Int) == 0)) = _
  rw [show ((n : Int) == 0) = decide (n = 0) from by rw [Bool.eq_iff_iff]; simp]

/-- the number of words that 'trim' leaves -/
def IsTrim (xs : List Nat) (k : Nat) : Prop := k ≤ xs.length ∧ (∀ j, k ≤ j → nth xs j = 0) ∧ (0 < k → nth xs (k - 1) ≠ 0)

set_option maxHeartbeats 400000 in
theorem trim_any (A : Option Addr) (n c : Nat) (xs : List Nat) (w : World) (h : Sl w U A n xs) (hc : n ≤ c) (hn : c ≤ 9223372036854775807) :
    Calls Tryz.prog 122 #[.slice A n c] w fun e w' => ∃ k, e = .returned (.slice A k c) ∧ IsTrim xs k ∧ w = w' := by
  go_enter Tryz.func122, Tryz.ntmps122
  go_wp2
  go_loop [3] (fun i => ∃ k : Nat, k ≤ n ∧ i = .int .i64 k ∧ (∀ j, k ≤ j → nth xs j = 0)) (fun i => (intOf i).toNat)
  case atStart => exact ⟨n, Nat.le_refl _, rfl, fun j hj => nth_ge (by have := h.len; omega)⟩
  case round =>
    obtain ⟨k, hk, rfl, hz⟩ := hrel
    cases k with
    | zero =>
      go_wp2
      go_ret
      exact ⟨0, rfl, ⟨Nat.zero_le _, hz, fun h => absurd h (by omega)⟩, rfl⟩
    | succ j =>
      obtain ⟨g, o, rfl, hg, hcell⟩ := h.at_ (by omega)
      have h1 := hcell j (by omega)
      unfold U at h1
      clear hcell
      by_cases h0 : nth xs j = 0
      · rw [h0] at h1
        go_wp2
        refine ⟨⟨j, by omega, rfl, fun i hi => ?_⟩, by simp [intOf]⟩
        rcases Nat.eq_or_lt_of_le hi with e | e
        · rw [← e]; exact h0
        · exact hz i (by omega)
      · have h2 : ((nth xs j : Int) == 0) = false := by rw [beq_eq_false_iff_ne]; omega
        go_wp2
        go_ret
        exact ⟨j + 1, rfl, ⟨by have := h.len; omega, hz, fun _ => by simpa using h0⟩, rfl⟩

/-- the slice value v is the magnitude n -/
def MagV (w : World) (v : Value) (n : Nat) : Prop := ∃ A c, v = .slice A (wlen B64 n) c ∧ wlen B64 n ≤ c ∧ c ≤ 9223372036854775807 ∧ Sl w U A (wlen B64 n) (ws B64 n)

theorem IsTrim.take {xs : List Nat} {k : Nat} (h : IsTrim xs k) (ho : Ok B64 xs) : xs.take k = ws B64 (val B64 xs) :=
  ws_of_pad two_le_B ho rfl h.1 h.2.1 (fun x hk hx => by
    have := h.2.2 hk
    unfold nth at this
    rw [hx] at this
    exact this)
theorem IsTrim.len {xs : List Nat} {k : Nat} (h : IsTrim xs k) (ho : Ok B64 xs) : k = wlen B64 (val B64 xs) := by
  have := congrArg List.length (h.take ho)
  rw [List.length_take, Nat.min_eq_left h.1] at this
  exact this
theorem MagV.of_trim {w : World} {A : Option Addr} {n c k : Nat} {xs : List Nat} (h : Sl w U A n xs) (ho : Ok B64 xs) (ht : IsTrim xs k) (hc : n ≤ c) (hn : c ≤ 9223372036854775807) : MagV w (.slice A k c) (val B64 xs) := by
  have hk := ht.len ho
  have hkn : k ≤ n := by have := ht.1; have := h.len; omega
  have hs := h.take hkn
  rw [ht.take ho] at hs
  subst hk
  exact ⟨A, c, rfl, by omega, hn, hs⟩
theorem MagV.below {w w' : World} {v : Value} {n : Nat} (h : MagV w v n) (hb : Below w.heap.size w w') : MagV w' v n := by
  obtain ⟨A, c, e, h1, h2, h3⟩ := h
  exact ⟨A, c, e, h1, h2, h3.below hb⟩
theorem MagV.drewN {w : World} {v : Value} {n : Nat} (h : MagV w v n) (k : Nat) : MagV (w.drewN k) v n := h

/-- 'trim' of words: the number -/
theorem trim_mag (A : Option Addr) (n c : Nat) (xs : List Nat) (w : World) (h : Sl w U A n xs) (ho : Ok B64 xs) (hc : n ≤ c) (hn : c ≤ 9223372036854775807) :
    Calls Tryz.prog 122 #[.slice A n c] w fun e w' => ∃ v, e = .returned v ∧ MagV w' v (val B64 xs) ∧ w = w' := by
  refine (trim_any A n c xs w h hc hn).mono ?_
  rintro e w' ⟨k, he, ht, rfl⟩
  exact ⟨_, he, MagV.of_trim h ho ht hc hn, rfl⟩

set_option maxHeartbeats 400000 in
theorem fromWord_any (x : Nat) (hx : x < B64) (w : World) :
    Calls Tryz.prog 97 #[.int .u64 (x : Int)] w fun e w' => ∃ v, e = .returned v ∧ MagV w' v x ∧ Below w.heap.size w w' := by
  go_enter Tryz.func97, Tryz.ntmps97
  have hw := Row.new w U 121 [x]
  have ht := fun W (h : Row W U w.heap.size 121 [x]) => trim_mag (some ⟨w.heap.size, 0, none⟩) 1 1 [x] W h.sl0 (Ok.cons hx Ok.nil) (by omega) (by omega)
  clear hx
  go_wp2_with (refine (ht _ hw).mono ?_; rintro e w' ⟨v, rfl, hm, rfl⟩)
  go_ret
  refine ⟨v, rfl, ?_, (Below.refl _ _).alloc (Nat.le_refl _) _⟩
  simpa [val_cons] using hm

/-! The two halves of sums, differences and products, under names that the walk does not open. -/
def addLo (x y c : Nat) : Nat := (x + y + c) % B64
def addHi (x y c : Nat) : Nat := (x + y + c) / B64
def subLo (x y b : Nat) : Nat := (x + B64 - y - b) % B64
def subHi (x y b : Nat) : Nat := if x < y + b then 1 else 0
def mulLo (x y : Nat) : Nat := x * y % B64
def mulHi (x y : Nat) : Nat := x * y / B64
theorem add_eq (x y c : Nat) : addLo x y c + B64 * addHi x y c = x + y + c := Nat.mod_add_div _ _
theorem addLo_lt (x y c : Nat) : addLo x y c < B64 := Nat.mod_lt _ (by decide)
theorem addHi_le {x y c : Nat} (hx : x < B64) (hy : y < B64) (hc : c ≤ 1) : addHi x y c ≤ 1 := by unfold addHi; rw [B64_eq] at *; omega
theorem sub_eq {x y b : Nat} (hx : x < B64) (hy : y < B64) (hb : b ≤ 1) : subLo x y b + y + b = x + B64 * subHi x y b := by
  unfold subLo subHi; rw [B64_eq] at *; split <;> omega
theorem subLo_lt (x y b : Nat) : subLo x y b < B64 := Nat.mod_lt _ (by decide)
theorem subHi_le (x y b : Nat) : subHi x y b ≤ 1 := by unfold subHi; split <;> omega
theorem mul_eq (x y : Nat) : mulLo x y + B64 * mulHi x y = x * y := Nat.mod_add_div _ _
theorem mulLo_lt (x y : Nat) : mulLo x y < B64 := Nat.mod_lt _ (by decide)
theorem mulHi_lt {x y : Nat} (hx : x < B64) (hy : y < B64) : mulHi x y < B64 := by
  unfold mulHi
  rw [Nat.div_lt_iff_lt_mul (by decide)]
  exact Nat.mul_lt_mul'' hx hy
/-- the high half of a product leaves room for two carries -/
theorem mulHi_room {x y : Nat} (hx : x < B64) (hy : y < B64) : mulLo x y + B64 * mulHi x y + (B64 - 1) + (B64 - 1) < B64 * B64 := by
  rw [mul_eq]
  have h : x * y ≤ (B64 - 1) * (B64 - 1) := Nat.mul_le_mul (by omega) (by omega)
  have e : (B64 - 1) * (B64 - 1) + (B64 - 1) + (B64 - 1) < B64 * B64 := by decide
  omega

theorem add64_run (x y c : Nat) (hc : c ≤ 1) (w : World) :
    (callFunc 124 #[.int .u64 (x : Int), .int .u64 (y : Int), .int .u64 (c : Int)]).run Tryz.prog w =
      .ok (.value (.tuple #[.int .u64 ((addLo x y c : Nat) : Int), .int .u64 ((addHi x y c : Nat) : Int)])) w := by
  rw [run_callFunc_extern (fn := Tryz.f124) (by kernel_rfl) (by kernel_rfl) (by kernel_rfl) (by kernel_rfl) (e := add64Entry) (by kernel_rfl), run_add64 x y c (by omega) (by omega) (by omega) (by omega)]
  simp only [Result.andThen, addLo, addHi, B64_eq]
  congr 5 <;> omega
theorem add64_run0 (x y : Nat) (w : World) :
    (callFunc 124 #[.int .u64 (x : Int), .int .u64 (y : Int), .int .u64 0]).run Tryz.prog w =
      .ok (.value (.tuple #[.int .u64 ((addLo x y 0 : Nat) : Int), .int .u64 ((addHi x y 0 : Nat) : Int)])) w := add64_run x y 0 (by omega) w

theorem sub64_run (x y b : Nat) (hb : b ≤ 1) (w : World) :
    (callFunc 126 #[.int .u64 (x : Int), .int .u64 (y : Int), .int .u64 (b : Int)]).run Tryz.prog w =
      .ok (.value (.tuple #[.int .u64 ((subLo x y b : Nat) : Int), .int .u64 ((subHi x y b : Nat) : Int)])) w := by
  rw [run_callFunc_extern (fn := Tryz.f126) (by kernel_rfl) (by kernel_rfl) (by kernel_rfl) (by kernel_rfl) (e := sub64Entry) (by kernel_rfl), run_sub64 x y b hb]
  rfl

end Go.Proofs.YtdkgifkmkghggaaGreatDoor
