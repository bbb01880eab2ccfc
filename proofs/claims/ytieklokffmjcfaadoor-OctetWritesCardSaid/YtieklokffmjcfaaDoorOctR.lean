/- OctetWrites: the walk. -/
import Derived.Test.YtieklokffmjcfaaDoorOctO
namespace Go.Proofs.YtieklokffmjcfaaDoor
open Go.RowKit Vo
attribute [local go_sem ↓] Go.wp_at_zero Go.wp_at_succ
attribute [local go_sem ↓] wfour wthree wtwo wtabP wtabR

def InR (n : Int) : Prop := -9223372036854775808 ≤ n ∧ n ≤ 9223372036854775807
theorem four_at (x0 x1 x2 x3 : Int) (i : Nat) (hi : i < 4) : ∃ x : Int, ∀ W : World, (Instr.index 27 (.agg #[.int .i64 x0, .int .i64 x1, .int .i64 x2, .int .i64 x3]) (.int .i64 (i : Int))).run Tryd.prog W = .ok (.int .i64 x) W := by
  rcases (show i = 0 ∨ i = 1 ∨ i = 2 ∨ i = 3 by omega) with rfl | rfl | rfl | rfl
  · exact ⟨x0, fun W => w4_0 x0 x1 x2 x3 W⟩
  · exact ⟨x1, fun W => w4_1 x0 x1 x2 x3 W⟩
  · exact ⟨x2, fun W => w4_2 x0 x1 x2 x3 W⟩
  · exact ⟨x3, fun W => w4_3 x0 x1 x2 x3 W⟩
theorem three_at (x0 x1 x2 : Int) (h0 : InR x0) (h1 : InR x1) (h2 : InR x2) (i : Nat) (hi : i < 3) : ∃ x : Int, InR x ∧ ∀ W : World, (Instr.index 34 (.agg #[.int .i64 x0, .int .i64 x1, .int .i64 x2]) (.int .i64 (i : Int))).run Tryd.prog W = .ok (.int .i64 x) W := by
  rcases (show i = 0 ∨ i = 1 ∨ i = 2 by omega) with rfl | rfl | rfl
  · exact ⟨x0, h0, fun W => w3_0 x0 x1 x2 W⟩
  · exact ⟨x1, h1, fun W => w3_1 x0 x1 x2 W⟩
  · exact ⟨x2, h2, fun W => w3_2 x0 x1 x2 W⟩
theorem two_at (a b : List UInt8) (h0 : a.length ≤ 70000) (h1 : b.length ≤ 70000) (i : Nat) (hi : i < 2) : ∃ u : List UInt8, u.length ≤ 70000 ∧ ∀ W : World, (Instr.index 33 (.agg #[.string (B a), .string (B b)]) (.int .i64 (i : Int))).run Tryd.prog W = .ok (.string (B u)) W := by
  rcases (show i = 0 ∨ i = 1 by omega) with rfl | rfl
  · exact ⟨a, h0, fun W => w2_0 _ _ W⟩
  · exact ⟨b, h1, fun W => w2_1 _ _ W⟩

/-- a function of a table: what is called, and what both answer -/
structure Pair (x : Int) (j : Nat) (f g : FuncId) (s : List UInt8) (k : Int) : Prop where
  fp : ∀ W : World, (Instr.index 29 (.agg tabP) (.int .i64 (j : Int))).run Tryd.prog W = .ok (gv f) W
  gp : ∀ W : World, (Instr.index 29 (.agg tabR) (.int .i64 (j : Int))).run Tryd.prog W = .ok (gv g) W
  fe : ∀ args (W : World), (callFunc f args).run Tryd.prog W = .ok (.enter f args) W
  ge : ∀ args (W : World), (callFunc g args).run Tryd.prog W = .ok (.enter g args) W
  fc : ∀ W, Calls Tryd.prog f #[.int .i64 x] W fun e w' => e = .returned (.tuple #[.string (B s), .int .i64 k]) ∧ Below W.heap.size W w'
  gc : ∀ W, Calls Tryd.prog g #[.int .i64 x] W fun e w' => e = .returned (.tuple #[.string (B s), .int .i64 k]) ∧ Below W.heap.size W w'
theorem pair_at (x : Int) (j : Nat) (hj : j < 4) : ∃ f g s k, Pair x j f g s k := by
  rcases (show j = 0 ∨ j = 1 ∨ j = 2 ∨ j = 3 by omega) with rfl | rfl | rfl | rfl
  · exact ⟨_, _, _, _, fun W => wtP_0 W, fun W => wtR_0 W, enters_of Tryd.func7 (by kernel_rfl) rfl, enters_of Tryd.func11 (by kernel_rfl) rfl, fun W => put_u8 x W, fun W => rput_u8 x W⟩
  · exact ⟨_, _, _, _, fun W => wtP_1 W, fun W => wtR_1 W, enters_of Tryd.func8 (by kernel_rfl) rfl, enters_of Tryd.func12 (by kernel_rfl) rfl, fun W => put_u16 x W, fun W => rput_u16 x W⟩
  · exact ⟨_, _, _, _, fun W => wtP_2 W, fun W => wtR_2 W, enters_of Tryd.func9 (by kernel_rfl) rfl, enters_of Tryd.func13 (by kernel_rfl) rfl, fun W => put_u32 x W, fun W => rput_u32 x W⟩
  · exact ⟨_, _, _, _, fun W => wtP_3 W, fun W => wtR_3 W, enters_of Tryd.func10 (by kernel_rfl) rfl, enters_of Tryd.func14 (by kernel_rfl) rfl, fun W => put_s32 x W, fun W => rput_s32 x W⟩

/-- the box of the Long that came in is kept -/
abbrev LongA (w : World) (s t : List UInt8) (k : Nat) (W : World) : Prop := Below w.heap.size w W ∧ W.cell? ⟨w.heap.size, 0, none⟩ = some (.string (B s)) ∧ W.cell? ⟨w.heap.size, 1, none⟩ = some (.string (B t)) ∧ W.cell? ⟨w.heap.size, 2, none⟩ = some (.int .u16 (k : Int))
theorem LongA.step {w W W' : World} {s t : List UInt8} {k : Nat} (h : LongA w s t k W) (hb : Below W.heap.size W W') : LongA w s t k W' :=
  ⟨below_more h.1 hb, (hb.cell (World.block_lt_of_cell? W _ h.2.1)).trans h.2.1, (hb.cell (World.block_lt_of_cell? W _ h.2.2.1)).trans h.2.2.1, (hb.cell (World.block_lt_of_cell? W _ h.2.2.2)).trans h.2.2.2⟩

theorem text_both (u : List UInt8) (z : Int) (hu : u.length ≤ 70000) (hz : InR z) : ∃ (y : List UInt8) (q : Int),
    (∀ W, Calls Tryd.prog 16 #[.string (B u), .int .i64 z] W fun e w' => e = .returned (.tuple #[.string (B y), .int .i64 q]) ∧ Below W.heap.size W w') ∧
    (∀ W, Calls Tryd.prog 17 #[.string (B u), .int .i64 z] W fun e w' => e = .returned (.tuple #[.string (B y), .int .i64 q]) ∧ Below W.heap.size W w') :=
  ⟨_, _, fun W => putText_any u z W (by omega) hz.1 hz.2, fun W => rputText_any u z W (by omega) hz.1 hz.2⟩
theorem pad_both (u : List UInt8) (z : Int) (hu : u.length ≤ 70000) (hz : InR z) : ∃ (y : List UInt8) (q : Int),
    (∀ W, Calls Tryd.prog 18 #[.string (B u), .int .i64 z] W fun e w' => e = .returned (.tuple #[.string (B y), .int .i64 q]) ∧ Below W.heap.size W w') ∧
    (∀ W, Calls Tryd.prog 19 #[.string (B u), .int .i64 z] W fun e w' => e = .returned (.tuple #[.string (B y), .int .i64 q]) ∧ Below W.heap.size W w') :=
  ⟨_, _, fun W => pad_any u z W (by omega) hz.1 hz.2, fun W => rpad_any u z W (by omega)⟩
theorem mod_small (m M : Int) (h0 : 1 ≤ M) (h1 : M ≤ 1000) : ∃ A : Int, wrap64 ((IntKind.u64.wrap m).tmod M) = A ∧ 0 ≤ A ∧ A ≤ M - 1 := by
  have hn := Int.emod_nonneg m (show (18446744073709551616 : Int) ≠ 0 by omega)
  have e : wrap64 ((IntKind.u64.wrap m).tmod M) = (m % 18446744073709551616) % M := by
    have h2 := Int.emod_nonneg (m % 18446744073709551616) (show M ≠ 0 by omega)
    have h3 := Int.emod_lt_of_pos (m % 18446744073709551616) (show 0 < M by omega)
    rw [IntKind.wrap_u64, Int.tmod_eq_emod_of_nonneg hn]
    unfold wrap64
    omega
  refine ⟨_, e, Int.emod_nonneg _ (by omega), ?_⟩
  have h3 := Int.emod_lt_of_pos (m % 18446744073709551616) (show 0 < M by omega)
  omega

set_option maxRecDepth 100000 in
set_option maxHeartbeats 8000000 in
theorem writes_core (s t : List UInt8) (k : Nat) (n m : Int) (w : World) (hk : k ≤ 65535) (hn : InR n) (hm : InR m) :
    Calls Tryd.prog 3 #[.agg (LongV s t k), .int .i64 n, .int .i64 m] w fun e w' => e = .returned (.bool true) ∧ Below w.heap.size w w' := by
  have hL0 : LongA w s t k (w.alloc (.cells (LongV s t k) 24)) := by
    have hc : ∀ o : Nat, (w.alloc (.cells (LongV s t k) 24)).cell? ⟨w.heap.size, o, none⟩ = (LongV s t k)[o]? := fun o => cell_of_row _ w.heap.size o _ _ (0, 0) (heap_alloc_new w _)
    exact ⟨(Below.refl _ _).alloc (Nat.le_refl _) _, hc 0, hc 1, hc 2⟩
  obtain ⟨n0, n1⟩ := hn
  have HM := Lib.hid hm
  have HL0 := Lib.hid hL0
  clear hL0 hm
  go_enter Tryd.func3, Tryd.ntmps3
  go_wp2_with fail
  refine (works_any _).mono ?_
  rintro e w1 ⟨rfl, hb1⟩
  have hL1 := HL0.out.step hb1
  have HL1 := Lib.hid hL1
  clear hb1 hL1 HL0
  go_wp2_with fail
  go_loopg [37] 4 (fun r iv W => ∃ i : Nat, r = 4 - i ∧ iv = .int .i64 (i : Int) ∧ i ≤ 4 ∧ LongA w s t k W)
  case atStart => exact ⟨0, rfl, rfl, by omega, HL1.out⟩
  case round =>
    obtain ⟨i, rfl, rfl, hi, hL⟩ := hrel
    by_cases ha : i < 4
    · have i1 : (i : Int) < 4 := by omega
      have HL := Lib.hid (And.intro hL (And.intro ha hi))
      obtain ⟨x, hx⟩ := four_at n (n / 4294967296) (n / 281474976710656) (n / 72057594037927936) i ha
      clear hL ha hi
      go_wp2_with fail
      go_loopg [41] 4 (fun r jv W => ∃ j : Nat, r = 4 - j ∧ jv = .int .i64 (j : Int) ∧ j ≤ 4 ∧ LongA w s t k W)
      case atStart => exact ⟨0, rfl, rfl, by omega, HL.out.1⟩
      case round =>
        obtain ⟨j, rfl, rfl, hj, hL⟩ := hrel
        by_cases hb : j < 4
        · have j1 : (j : Int) < 4 := by omega
          obtain ⟨f, g, y, q, hp⟩ := pair_at x j hb
          have fp := hp.fp
          have gp := hp.gp
          have fe := hp.fe
          have ge := hp.ge
          have HP := Lib.hid (And.intro hp.fc (And.intro hp.gc (And.intro hb hj)))
          have HL2 := Lib.hid hL
          clear hp hb hj hL
          go_wp2_with fail
          refine (HP.out.1 _).mono ?_
          rintro e w2 ⟨rfl, hb2⟩
          have HL3 := Lib.hid (HL2.out.step hb2)
          clear hb2 HL2
          go_wp2_with fail
          refine (HP.out.2.1 _).mono ?_
          rintro e w3 ⟨rfl, hb3⟩
          have HL4 := Lib.hid (HL3.out.step hb3)
          clear hb3 HL3
          go_wp2_with fail
          go_roundg (4 - (j + 1))
          case measure => have := HP.out.2.2.1; omega
          case rel => exact ⟨j + 1, rfl, by go_num, by have := HP.out.2.2.1; omega, HL4.out⟩
        · obtain rfl : j = 4 := by omega
          have HL2 := Lib.hid hL
          clear hL hj hb
          go_wp2_with fail
          go_roundg (4 - (i + 1))
          case measure => have := HL.out.2.1; omega
          case rel => exact ⟨i + 1, rfl, by go_num, by have := HL.out.2.1; omega, HL2.out⟩
    · obtain rfl : i = 4 := by omega
      have hS : LongA w s t k wr.drew := ⟨hL.1.drew, hL.2⟩
      have K : Hid (∀ W, LongA w s t k W → Calls Tryd.prog 15 #[.agg (LongV s t k)] W fun e w' => ∃ l : List UInt8, e = .returned (.string (B l)) ∧ l.length ≤ 70000 ∧ LongA w s t k w') := Lib.hid fun W hW =>
        (octets_any s t k W hk).mono fun e w' ⟨l, he, hl, hb⟩ => ⟨l, he, hl, hW.step hb⟩
      have t1 : 0 ≤ min (t.length : Int) 300 := by omega
      have t2 : min (t.length : Int) 300 ≤ (t.length : Int) := by omega
      clear hi ha hL
      go_wp2_with fail
      go_region_held3 (fun W => LongA w s t k W) (first | with_reducible assumption | exact hS)
        (first
          | (go_at_call 15; with_reducible refine (K.out _ ?_).mono ?_; with_reducible assumption; rintro e w2 ⟨l, rfl, hl, hS2⟩))
      all_goals (
        simp only [ext_take]
        obtain ⟨b, hbe⟩ : ∃ b, t.take (min (t.length : Int) 300).toNat = b := ⟨_, rfl⟩
        have hb : b.length ≤ 70000 := by rw [← hbe, List.length_take]; omega
        rw [hbe]
        have HS2 := Lib.hid (And.intro hS2.1 (And.intro hl hb))
        clear hbe hS2 K hS t1 t2 hl hb
        obtain ⟨A, hA, hA0, hA1⟩ : ∃ A : Int, wrap64 ((IntKind.u64.wrap m).tmod 70) = A ∧ 0 ≤ A ∧ A ≤ 69 := mod_small m 70 (by omega) (by omega)
        obtain ⟨C, hC, hC0, hC1⟩ : ∃ C : Int, wrap64 ((IntKind.u64.wrap m).tmod 5) = C ∧ 0 ≤ C ∧ C ≤ 4 := mod_small m 5 (by omega) (by omega)
        go_wp2_with fail
        go_loopg [79] 2 (fun r iv W => ∃ i : Nat, r = 2 - i ∧ iv = .int .i64 (i : Int) ∧ i ≤ 2 ∧ Below w.heap.size w W)
        case atStart => exact ⟨0, rfl, rfl, by omega, HS2.out.1⟩
        case round =>
          obtain ⟨i, rfl, rfl, hi, hL⟩ := hrel
          by_cases ha : i < 2
          · have i1 : (i : Int) < 2 := by omega
            obtain ⟨u, hu, hx⟩ := two_at l b HS2.out.2.1 HS2.out.2.2 i ha
            have HL := Lib.hid (And.intro hL (And.intro ha hi))
            clear hL ha hi
            go_wp2_with fail
            simp only [hA, hC]
            clear hA hC
            go_loopg [96] 3 (fun r jv W => ∃ j : Nat, r = 3 - j ∧ jv = .int .i64 (j : Int) ∧ j ≤ 3 ∧ Below w.heap.size w W)
            case atStart => exact ⟨0, rfl, rfl, by omega, HL.out.1⟩
            case round =>
              obtain ⟨j, rfl, rfl, hj, hL⟩ := hrel
              by_cases hb : j < 3
              · have j1 : (j : Int) < 3 := by omega
                obtain ⟨z, hz, hzx⟩ := three_at m A ((u.length : Int) + C - 2) HM.out ⟨by omega, by omega⟩ ⟨by omega, by omega⟩ j hb
                obtain ⟨y1, q1, e1, e2⟩ := text_both u z hu hz
                obtain ⟨y2, q2, e3, e4⟩ := pad_both u z hu hz
                have HP := Lib.hid (And.intro hb hj)
                have HL2 := Lib.hid hL
                have E1 := Lib.hid e1
                have E2 := Lib.hid e2
                have E3 := Lib.hid e3
                have E4 := Lib.hid e4
                clear hb hj hL hz e1 e2 e3 e4
                go_wp2_with fail
                refine (E1.out _).mono ?_
                rintro e w3 ⟨rfl, hb3⟩
                have HL3 := Lib.hid (below_more HL2.out hb3)
                clear hb3 HL2
                go_wp2_with fail
                refine (E2.out _).mono ?_
                rintro e w4 ⟨rfl, hb4⟩
                have HL4 := Lib.hid (below_more HL3.out hb4)
                clear hb4 HL3
                go_wp2_with fail
                refine (E3.out _).mono ?_
                rintro e w5 ⟨rfl, hb5⟩
                have HL5 := Lib.hid (below_more HL4.out hb5)
                clear hb5 HL4
                go_wp2_with fail
                refine (E4.out _).mono ?_
                rintro e w6 ⟨rfl, hb6⟩
                have HL6 := Lib.hid (below_more HL5.out hb6)
                clear hb6 HL5
                go_wp2_with fail
                go_roundg (3 - (j + 1))
                case measure => have := HP.out.1; omega
                case rel => exact ⟨j + 1, rfl, by go_num, by have := HP.out.1; omega, HL6.out⟩
              · obtain rfl : j = 3 := by omega
                have HL2 := Lib.hid hL
                clear hL hj hb
                go_wp2_with fail
                go_roundg (2 - (i + 1))
                case measure => have := HL.out.2.1; omega
                case rel => exact ⟨i + 1, rfl, by go_num, by have := HL.out.2.1; omega, HL2.out⟩
          · obtain rfl : i = 2 := by omega
            go_wp2_with fail
            go_ret
            exact ⟨rfl, hL⟩)
end Go.Proofs.YtieklokffmjcfaaDoor
