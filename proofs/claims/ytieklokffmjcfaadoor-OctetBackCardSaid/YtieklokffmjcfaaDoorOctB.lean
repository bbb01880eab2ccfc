/- Package octet: Part. -/
import Derived.Test.YtieklokffmjcfaaDoorProg
import Derived.Test.YtieklokffmjcfaaDoorOctA
import Derived.WalkKit
import Derived.WalkSpells
import Derived.WalkLawsBesides
import Derived.Below
import Derived.Laws.OwnMore
import Derived.Deep.LoopGhost
import Derived.Deep.QuietTactic
import Derived.BigQuiet
import Derived.Lib.Hide
import Derived.Deep.DrawnRows
namespace Go.Proofs.YtieklokffmjcfaaDoor
open Go.RowKit Vo
attribute [local go_sem ↓] Go.wp_at_zero Go.wp_at_succ

theorem ret_sk {s t : ByteArray} {m n : Int} (h : s = t) (h2 : m = n) : Ending.returned (.tuple #[.string s, .int .i64 m]) = .returned (.tuple #[.string t, .int .i64 n]) := by rw [h, h2]

set_option maxHeartbeats 1000000 in
theorem part_walk (s : ByteArray) (a n : Int) (w : World) :
    Calls Tryd.prog 30 #[.string s, .int .i64 a, .int .i64 n] w fun e w' => e = .returned (.tuple #[.string (B (partR s.data.toList a n).1), .int .i64 (partR s.data.toList a n).2]) ∧ w = w' := by
  obtain ⟨l, rfl⟩ := B_of s
  rw [B_data]
  have hz := B_size l
  by_cases h1 : 65536 < l.length
  · have e : partR l a n = ([], 3) := by unfold partR; rw [if_pos h1]
    obtain ⟨s, hs⟩ : ∃ s, s = B l := ⟨_, rfl⟩
    rw [← hs] at hz ⊢
    have h1' : (65536 : Int) < (s.size : Int) := by omega
    have HE := Lib.hid e
    clear e hz h1 hs
    go_enter Tryd.func30, Tryd.ntmps30
    go_wp2_with fail
    go_ret2
    rw [HE.out]
    exact ⟨rfl, rfl⟩
  · by_cases h2 : a < 0 ∨ n < 0
    · have e : partR l a n = ([], 2) := by unfold partR; rw [if_neg h1, if_pos h2]
      obtain ⟨s, hs⟩ : ∃ s, s = B l := ⟨_, rfl⟩
      rw [← hs] at hz ⊢
      have h1' : ¬ (65536 : Int) < (s.size : Int) := by omega
      have HE := Lib.hid e
      clear e hz h1 hs
      by_cases ha : a < 0
      · go_enter Tryd.func30, Tryd.ntmps30
        go_wp2_with fail
        go_ret2
        rw [HE.out]
        exact ⟨rfl, rfl⟩
      · have hn : n < 0 := by omega
        clear h2
        go_enter Tryd.func30, Tryd.ntmps30
        go_wp2_with fail
        go_ret2
        rw [HE.out]
        exact ⟨rfl, rfl⟩
    · by_cases h3 : (l.length : Int) < a ∨ (l.length : Int) - a < n
      · have e : partR l a n = ([], 70) := by unfold partR; rw [if_neg h1, if_neg h2, if_pos h3]
        obtain ⟨s, hs⟩ : ∃ s, s = B l := ⟨_, rfl⟩
        rw [← hs] at hz ⊢
        have h1' : ¬ (65536 : Int) < (s.size : Int) := by omega
        have ha : ¬ a < 0 := by omega
        have hn : ¬ n < 0 := by omega
        have ha' : 0 ≤ a := by omega
        rw [← hz] at h3
        have HE := Lib.hid e
        clear e hz h1 hs h2
        by_cases hb : (s.size : Int) < a
        · go_enter Tryd.func30, Tryd.ntmps30
          go_wp2_with fail
          go_ret2
          rw [HE.out]
          exact ⟨rfl, rfl⟩
        · have hm : (s.size : Int) - a < n := by omega
          clear h3
          go_enter Tryd.func30, Tryd.ntmps30
          go_wp2_with fail
          go_ret2
          rw [HE.out]
          exact ⟨rfl, rfl⟩
      · obtain ⟨i, rfl⟩ : ∃ i : Nat, a = i := ⟨a.toNat, by omega⟩
        obtain ⟨m, rfl⟩ : ∃ m : Nat, n = m := ⟨n.toNat, by omega⟩
        have e : partR l i m = (cut l i m, 0) := by unfold partR; rw [if_neg h1, if_neg h2, if_neg h3]; rfl
        have ex : (B l).extract i (i + m) = B (cut l i m) := by rw [B_extract, Nat.add_sub_cancel_left]; rfl
        obtain ⟨s, hs⟩ : ∃ s, s = B l := ⟨_, rfl⟩
        rw [← hs] at hz ex ⊢
        have h1' : ¬ (65536 : Int) < (s.size : Int) := by omega
        have h2' : s.size ≤ 65536 := by omega
        have ha : ¬ (s.size : Int) < (i : Int) := by omega
        have hn : ¬ (s.size : Int) - (i : Int) < (m : Int) := by omega
        have hb : i + m ≤ s.size := by omega
        have HE := Lib.hid (And.intro e ex)
        clear e hz h1 hs h2 h3 ex
        go_enter Tryd.func30, Tryd.ntmps30
        go_wp2_with fail
        go_ret2
        rw [HE.out.1]
        exact ⟨ret_sk HE.out.2 rfl, rfl⟩

end Go.Proofs.YtieklokffmjcfaaDoor
