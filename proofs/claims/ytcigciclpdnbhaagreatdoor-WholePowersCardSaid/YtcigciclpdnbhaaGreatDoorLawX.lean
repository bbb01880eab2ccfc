/- WholePowers: for every two texts, two drafts and two integers the law returns true, and every argument reads behind the call as it read before. CONDITIONS: none on the arguments; the five package-level variables that the row lists read, when the call begins, as the text of the program lays them. -/
import Derived.Test.YtcigciclpdnbhaaGreatDoorLawU
import Derived.Test.YtcigciclpdnbhaaGreatDoorRefR
namespace Go.Proofs.YtcigciclpdnbhaaGreatDoor
open Go.RowKit Vd
attribute [local go_sem ↓] Go.wp_at_zero Go.wp_at_succ

theorem same_pow (l : List UInt8) (n : Int) (b : l.length ≤ 1000000) : ∃ (s : ByteArray) (k : Int),
    (∀ W, Calls Tryz.prog 37 #[.string ⟨l.toArray⟩, .int .i64 n] W fun e w' => e = .returned (.tuple #[.string s, .int .i64 k]) ∧ Below W.heap.size W w') ∧
    (∀ W, Calls Tryz.prog 38 #[.string ⟨l.toArray⟩, .int .i64 n] W fun e w' => e = .returned (.tuple #[.string s, .int .i64 k]) ∧ Below W.heap.size W w') := by
  cases h : rd l with
  | none => exact ⟨_, _, fun W => wpow_none l n W h, fun W => rpow_none l n W b h⟩
  | some z =>
    by_cases hn : n < 0 ∨ 40 < n
    · exact ⟨_, _, fun W => wpow_arg l z n W h hn, fun W => rpow_arg l z n W h hn⟩
    · obtain ⟨m, rfl⟩ : ∃ m : Nat, n = (m : Int) := ⟨n.toNat, by omega⟩
      have g1 := fun W => wpow_some l z m W h (by omega)
      have g2 := fun W => rpow_some l z m W h (by omega)
      obtain ⟨s, k, e⟩ := outV_open (z ^ m)
      simp only [e] at g1 g2
      exact ⟨s, k, g1, g2⟩
theorem same_root (l : List UInt8) (n : Int) (b : l.length ≤ 1000000) : ∃ (s : ByteArray) (k : Int),
    (∀ W, Calls Tryz.prog 39 #[.string ⟨l.toArray⟩, .int .i64 n] W fun e w' => e = .returned (.tuple #[.string s, .int .i64 k]) ∧ Below W.heap.size W w') ∧
    (∀ W, Calls Tryz.prog 40 #[.string ⟨l.toArray⟩, .int .i64 n] W fun e w' => e = .returned (.tuple #[.string s, .int .i64 k]) ∧ Below W.heap.size W w') := by
  cases h : rd l with
  | none => exact ⟨_, _, fun W => wroot_none l n W h, fun W => rroot_none l n W b h⟩
  | some z =>
    by_cases hn : n < 1 ∨ 12 < n ∨ z < 0
    · exact ⟨_, _, fun W => wroot_arg l z n W h hn, fun W => rroot_arg l z n W h hn⟩
    · obtain ⟨m, rfl⟩ : ∃ m : Nat, n = (m : Int) := ⟨n.toNat, by omega⟩
      obtain ⟨r, hr⟩ := root_exists m z.natAbs (by omega)
      exact ⟨_, _, fun W => wroot_some l z m r W h (by omega) (by omega) (by omega) hr, fun W => rroot_some l z m r W h (by omega) (by omega) (by omega) hr⟩

theorem ints_built (x y : Int) (W : World) : (Instr.build 46 #[(0, .int .i64 x), (1, .int .i64 y)]).run Tryz.prog W = .ok (.agg #[.int .i64 x, .int .i64 y]) W :=
  run_build W _ _ _ (by kernel_rfl)
theorem two_built (x y u v : Int) (W : World) : (Instr.build 48 #[(0, .agg #[.int .i64 x, .int .i64 y]), (1, .agg #[.int .i64 u, .int .i64 v])]).run Tryz.prog W = .ok (.agg #[.int .i64 x, .int .i64 y, .int .i64 u, .int .i64 v]) W :=
  run_build W _ _ _ (by kernel_rfl)
theorem two_at0 (x y u v : Int) (W : World) : (Instr.index 48 (.agg #[.int .i64 x, .int .i64 y, .int .i64 u, .int .i64 v]) (.int .i64 0)).run Tryz.prog W = .ok (.agg #[.int .i64 x, .int .i64 y]) W := by kernel_rfl
theorem two_at1 (x y u v : Int) (W : World) : (Instr.index 48 (.agg #[.int .i64 x, .int .i64 y, .int .i64 u, .int .i64 v]) (.int .i64 1)).run Tryz.prog W = .ok (.agg #[.int .i64 u, .int .i64 v]) W := by kernel_rfl

/-- the exponent and the degree at hand -/
structure ExpW (w : World) (g h q : Nat) (F : Array Value) (s t : Value) (x y : Int) (W : World) : Prop where
  p : PairW w g h F s t W
  x0 : W.cell? ⟨q, 0, none⟩ = some (.int .i64 x)
  x1 : W.cell? ⟨q, 1, none⟩ = some (.int .i64 y)
theorem ExpW.step {w : World} {g h q : Nat} {F : Array Value} {s t : Value} {x y : Int} {W W' : World} (e : ExpW w g h q F s t x y W) (hb : Below W.heap.size W W') : ExpW w g h q F s t x y W' :=
  ⟨e.p.step hb, (hb.cell (World.block_lt_of_cell? W _ e.x0)).trans e.x0, (hb.cell (World.block_lt_of_cell? W _ e.x1)).trans e.x1⟩
theorem ExpW.start {w : World} {g h : Nat} {F : Array Value} {s t : Value} (x y : Int) {W : World} (p : PairW w g h F s t W) : ExpW w g h W.heap.size F s t x y (W.alloc (.cells #[.int .i64 x, .int .i64 y] 46)) := by
  refine ⟨p.step ((Below.refl _ _).alloc (Nat.le_refl _) _), ?_, ?_⟩ <;> simp [go_sem]

set_option maxRecDepth 100000 in
set_option maxHeartbeats 8000000 in
theorem powers_core (a b : List UInt8) (b1 : Bool) (A1 : Option Addr) (n1 c1 z1 : Nat) (xs1 : List Nat) (b2 : Bool) (A2 : Option Addr) (n2 c2 z2 : Nat) (xs2 : List Nat) (w : World) (N K : Int) (hg : Gnd w) (h1 : DraftIn w b1 A1 n1 c1 z1 xs1) (h2 : DraftIn w b2 A2 n2 c2 z2 xs2) :
    Calls Tryz.prog 6 #[.agg (TwoV a b b1 A1 n1 c1 z1 b2 A2 n2 c2 z2), .int .i64 N, .int .i64 K] w fun e w' => e = .returned (.bool true) ∧ Below w.heap.size w w' := by
  have hbW : Below w.heap.size w (w.alloc (.cells (TwoV a b b1 A1 n1 c1 z1 b2 A2 n2 c2 z2) 27)) := (Below.refl _ _).alloc (Nat.le_refl _) _
  have hwk := works_any _ (hg.below hbW)
  have hcl : ∀ W, Below (w.alloc (.cells (TwoV a b b1 A1 n1 c1 z1 b2 A2 n2 c2 z2) 27)).heap.size (w.alloc (.cells (TwoV a b b1 A1 n1 c1 z1 b2 A2 n2 c2 z2) 27)) W → ∀ o, o < 8 → W.cell? ⟨w.heap.size, o, none⟩ = (TwoV a b b1 A1 n1 c1 z1 b2 A2 n2 c2 z2)[o]? := fun W hW o ho => by
    rw [hW.cell (p := ⟨w.heap.size, o, none⟩) (by simp), cell_of_row _ w.heap.size o _ _ (0, 0) (heap_alloc_new w _)]
  have HC := Lib.hid (And.intro hcl (And.intro hbW (And.intro hg (And.intro h1 h2))))
  clear hcl hbW hg h1 h2
  go_enter Tryz.func6, Tryz.ntmps6
  go_wp2_with fail
  refine hwk.mono ?_
  rintro e w1 ⟨rfl, hb1⟩
  obtain ⟨hcl, hbW, hg, h1, h2⟩ := HC.out
  have f0 := hcl w1 hb1 0 (by decide)
  have f1 := hcl w1 hb1 1 (by decide)
  have f2 := hcl w1 hb1 2 (by decide)
  have f3 := hcl w1 hb1 3 (by decide)
  have f4 := hcl w1 hb1 4 (by decide)
  have f5 := hcl w1 hb1 5 (by decide)
  have f6 := hcl w1 hb1 6 (by decide)
  have f7 := hcl w1 hb1 7 (by decide)
  simp only [TwoV] at f0 f1 f2 f3 f4 f5 f6 f7
  have hbw1 := hbW.trans (hb1.mono hbW.size)
  have hK1 : Wk w w1 := ⟨hbw1, (hg.below hbw1)⟩
  have hpr := pairs_any a b b1 A1 n1 c1 z1 xs1 b2 A2 n2 c2 z2 xs2 w1 (h1.below hbw1) (h2.below hbw1)
  have HK := Lib.hid hK1
  clear hcl hbW hg h1 h2 hb1 hbw1 hK1 hwk HC
  go_wp2_with fail
  refine hpr.mono ?_
  rintro e w2 ⟨g, ta, tb, x, y4, rfl, hF, la, lb, lx, ly, hb2⟩
  have hK2 := HK.out.step hb2
  have HL := Lib.hid (And.intro la (And.intro lb (And.intro lx ly)))
  have HF := Lib.hid (And.intro hF hK2)
  clear f0 f1 f2 f3 f4 f5 f6 f7 hpr la lb lx ly hF hK2 hb2 HK
  go_wp2_with fail
  go_loopg [24] 4 (fun r iv W => ∃ i : Nat, r = 4 - i ∧ iv = .int .i64 (i : Int) ∧ i ≤ 4 ∧ W.heap[g]? = some (.cells (four4 ta tb x y4) 33 (0, 0)) ∧ Wk w W)
  case atStart => exact ⟨0, rfl, rfl, by omega, HF.out.1, HF.out.2⟩
  case round =>
    clear HF
    obtain ⟨i, rfl, rfl, hi, hf, hk⟩ := hrel
    by_cases ha : i < 4
    · have i1 : (i : Int) < 4 := by omega
      have i2 : (0 : Int) ≤ (i : Int) := by omega
      obtain ⟨p, q, hp0, hq0, lp, lq⟩ := pair_at ta tb x y4 g i wr hf HL.out.1 HL.out.2.1 HL.out.2.2.1 HL.out.2.2.2 ha
      have hP0 := PairW.start (s := .string ⟨p.toArray⟩) (t := .string ⟨q.toArray⟩) hk hf
      obtain ⟨h, hh⟩ : ∃ h, h = wr.heap.size := ⟨_, rfl⟩
      have HI := Lib.hid (And.intro ha (And.intro hi (And.intro lp lq)))
      have hc0 := hP0.c0
      have hc1 := hP0.c1
      have b1' := fun x y W => ints_built x y W
      have b2' := fun x y u v W => two_built x y u v W
      clear ha hi hf hk lp lq hh
      obtain ⟨u, hu⟩ : ∃ u : Nat, IntKind.u64.wrap N = (u : Int) := ⟨(IntKind.u64.wrap N).toNat, by rw [IntKind.wrap_u64]; omega⟩
      obtain ⟨v, hv⟩ : ∃ u : Nat, IntKind.u64.wrap K = (u : Int) := ⟨(IntKind.u64.wrap K).toNat, by rw [IntKind.wrap_u64]; omega⟩
      obtain ⟨X, hX⟩ : ∃ X : Nat, X = u % 41 := ⟨_, rfl⟩
      obtain ⟨y, hy⟩ : ∃ X : Nat, X = v % 12 := ⟨_, rfl⟩
      obtain ⟨Y, hY⟩ : ∃ Y : Nat, Y = 1 + y := ⟨_, rfl⟩
      have u1 : (0 : Int) ≤ (u : Int) := by omega
      have u2 : (0 : Int) ≤ (v : Int) := by omega
      have u3 : (u : Int) % 41 = (X : Int) := by omega
      have u4 : (v : Int) % 12 = (y : Int) := by omega
      have u5 : (1 : Int) + (y : Int) = (Y : Int) := by omega
      have u6 : (X : Int) ≤ 40 := by omega
      have u7 : (y : Int) ≤ 11 := by omega
      have u8 : (0 : Int) ≤ (X : Int) := by omega
      have u9 : (0 : Int) ≤ (y : Int) := by omega
      obtain ⟨M1, hM1⟩ : ∃ M, M = min N 4 := ⟨_, rfl⟩
      obtain ⟨M2, hM2⟩ : ∃ M, M = min K 3 := ⟨_, rfl⟩
      obtain ⟨M3, hM3⟩ : ∃ M, M = min (X : Int) 4 := ⟨_, rfl⟩
      obtain ⟨M4, hM4⟩ : ∃ M, M = min (Y : Int) 3 := ⟨_, rfl⟩
      have l1 := hM1.symm
      have l2 := hM2.symm
      have l3 := hM3.symm
      have l4 := hM4.symm
      have HP := Lib.hid hP0
      clear hX hy hY hM1 hM2 hM3 hM4 hP0
      go_wp2_with fail
      clear hu hv u3 u4 u5 b1' b2' hc0 hc1
      go_loopg [42] 2 (fun r iv W => ∃ j : Nat, r = 2 - j ∧ iv = .int .i64 (j : Int) ∧ j ≤ 2 ∧ PairW w g wr.heap.size (four4 ta tb x y4) (.string ⟨p.toArray⟩) (.string ⟨q.toArray⟩) W)
      case atStart => exact ⟨0, rfl, rfl, by omega, HP.out⟩
      case round =>
        clear HP
        obtain ⟨j, rfl, rfl, hj, hP⟩ := hrel
        rcases (show j = 0 ∨ j = 1 ∨ j = 2 by omega) with rfl | rfl | rfl
        · rw [show (((0 : Nat)) : Int) = 0 from rfl]
          have ix := two_at0 N K (X : Int) (Y : Int)
          have hc0 := hP.c0
          by_cases hl : 150 < p.length
          · have hlI : (150 : Int) < (p.length : Int) := by omega
            have hcA := (ExpW.start N K hP).p.c0
            obtain ⟨s1, k1, e1, e2⟩ := same_pow p M1 HI.out.2.2.1
            obtain ⟨s2, k2, e3, e4⟩ := same_root p M2 HI.out.2.2.1
            have E1 := Lib.hid e1
            have E2 := Lib.hid e2
            have E3 := Lib.hid e3
            have E4 := Lib.hid e4
            have hE0 := ExpW.start M1 M2 hP
            have hc0 := hE0.p.c0
            have hx0 := hE0.x0
            have hx1 := hE0.x1
            clear e1 e2 e3 e4 hP
            go_wp2_with fail
            refine (E1.out _).mono ?_
            rintro e v1 ⟨rfl, hb⟩
            have hE1 := hE0.step hb
            clear hE0 hb hc0 hx0 hx1 E1
            have hc0 := hE1.p.c0
            have hx0 := hE1.x0
            have hx1 := hE1.x1
            go_wp2_with fail
            refine (E2.out _).mono ?_
            rintro e v2 ⟨rfl, hb⟩
            have hE2 := hE1.step hb
            clear hE1 hb hc0 hx0 hx1 E2
            have hc0 := hE2.p.c0
            have hx0 := hE2.x0
            have hx1 := hE2.x1
            go_wp2_with fail
            refine (E3.out _).mono ?_
            rintro e v3 ⟨rfl, hb⟩
            have hE3 := hE2.step hb
            clear hE2 hb hc0 hx0 hx1 E3
            have hc0 := hE3.p.c0
            have hx0 := hE3.x0
            have hx1 := hE3.x1
            go_wp2_with fail
            refine (E4.out _).mono ?_
            rintro e v4 ⟨rfl, hb⟩
            have hE4 := hE3.step hb
            clear hE3 hb hc0 hx0 hx1 E4
            have hc0 := hE4.p.c0
            have hx0 := hE4.x0
            have hx1 := hE4.x1
            go_wp2_with fail
            go_roundg (2 - (0 + 1))
            case measure => omega
            case rel => exact ⟨0 + 1, rfl, by go_num, by omega, hE4.p⟩
          · have hlI : ¬ (150 : Int) < (p.length : Int) := by omega
            obtain ⟨s1, k1, e1, e2⟩ := same_pow p N HI.out.2.2.1
            obtain ⟨s2, k2, e3, e4⟩ := same_root p K HI.out.2.2.1
            have E1 := Lib.hid e1
            have E2 := Lib.hid e2
            have E3 := Lib.hid e3
            have E4 := Lib.hid e4
            have hE0 := ExpW.start N K hP
            have hc0 := hE0.p.c0
            have hx0 := hE0.x0
            have hx1 := hE0.x1
            clear e1 e2 e3 e4 hP
            go_wp2_with fail
            refine (E1.out _).mono ?_
            rintro e v1 ⟨rfl, hb⟩
            have hE1 := hE0.step hb
            clear hE0 hb hc0 hx0 hx1 E1
            have hc0 := hE1.p.c0
            have hx0 := hE1.x0
            have hx1 := hE1.x1
            go_wp2_with fail
            refine (E2.out _).mono ?_
            rintro e v2 ⟨rfl, hb⟩
            have hE2 := hE1.step hb
            clear hE1 hb hc0 hx0 hx1 E2
            have hc0 := hE2.p.c0
            have hx0 := hE2.x0
            have hx1 := hE2.x1
            go_wp2_with fail
            refine (E3.out _).mono ?_
            rintro e v3 ⟨rfl, hb⟩
            have hE3 := hE2.step hb
            clear hE2 hb hc0 hx0 hx1 E3
            have hc0 := hE3.p.c0
            have hx0 := hE3.x0
            have hx1 := hE3.x1
            go_wp2_with fail
            refine (E4.out _).mono ?_
            rintro e v4 ⟨rfl, hb⟩
            have hE4 := hE3.step hb
            clear hE3 hb hc0 hx0 hx1 E4
            have hc0 := hE4.p.c0
            have hx0 := hE4.x0
            have hx1 := hE4.x1
            go_wp2_with fail
            go_roundg (2 - (0 + 1))
            case measure => omega
            case rel => exact ⟨0 + 1, rfl, by go_num, by omega, hE4.p⟩
        · rw [show (((1 : Nat)) : Int) = 1 from rfl]
          have ix := two_at1 N K (X : Int) (Y : Int)
          have hc0 := hP.c0
          by_cases hl : 150 < p.length
          · have hlI : (150 : Int) < (p.length : Int) := by omega
            have hcA := (ExpW.start (X : Int) (Y : Int) hP).p.c0
            obtain ⟨s1, k1, e1, e2⟩ := same_pow p M3 HI.out.2.2.1
            obtain ⟨s2, k2, e3, e4⟩ := same_root p M4 HI.out.2.2.1
            have E1 := Lib.hid e1
            have E2 := Lib.hid e2
            have E3 := Lib.hid e3
            have E4 := Lib.hid e4
            have hE0 := ExpW.start M3 M4 hP
            have hc0 := hE0.p.c0
            have hx0 := hE0.x0
            have hx1 := hE0.x1
            clear e1 e2 e3 e4 hP
            go_wp2_with fail
            refine (E1.out _).mono ?_
            rintro e v1 ⟨rfl, hb⟩
            have hE1 := hE0.step hb
            clear hE0 hb hc0 hx0 hx1 E1
            have hc0 := hE1.p.c0
            have hx0 := hE1.x0
            have hx1 := hE1.x1
            go_wp2_with fail
            refine (E2.out _).mono ?_
            rintro e v2 ⟨rfl, hb⟩
            have hE2 := hE1.step hb
            clear hE1 hb hc0 hx0 hx1 E2
            have hc0 := hE2.p.c0
            have hx0 := hE2.x0
            have hx1 := hE2.x1
            go_wp2_with fail
            refine (E3.out _).mono ?_
            rintro e v3 ⟨rfl, hb⟩
            have hE3 := hE2.step hb
            clear hE2 hb hc0 hx0 hx1 E3
            have hc0 := hE3.p.c0
            have hx0 := hE3.x0
            have hx1 := hE3.x1
            go_wp2_with fail
            refine (E4.out _).mono ?_
            rintro e v4 ⟨rfl, hb⟩
            have hE4 := hE3.step hb
            clear hE3 hb hc0 hx0 hx1 E4
            have hc0 := hE4.p.c0
            have hx0 := hE4.x0
            have hx1 := hE4.x1
            go_wp2_with fail
            go_roundg (2 - (1 + 1))
            case measure => omega
            case rel => exact ⟨1 + 1, rfl, by go_num, by omega, hE4.p⟩
          · have hlI : ¬ (150 : Int) < (p.length : Int) := by omega
            obtain ⟨s1, k1, e1, e2⟩ := same_pow p (X : Int) HI.out.2.2.1
            obtain ⟨s2, k2, e3, e4⟩ := same_root p (Y : Int) HI.out.2.2.1
            have E1 := Lib.hid e1
            have E2 := Lib.hid e2
            have E3 := Lib.hid e3
            have E4 := Lib.hid e4
            have hE0 := ExpW.start (X : Int) (Y : Int) hP
            have hc0 := hE0.p.c0
            have hx0 := hE0.x0
            have hx1 := hE0.x1
            clear e1 e2 e3 e4 hP
            go_wp2_with fail
            refine (E1.out _).mono ?_
            rintro e v1 ⟨rfl, hb⟩
            have hE1 := hE0.step hb
            clear hE0 hb hc0 hx0 hx1 E1
            have hc0 := hE1.p.c0
            have hx0 := hE1.x0
            have hx1 := hE1.x1
            go_wp2_with fail
            refine (E2.out _).mono ?_
            rintro e v2 ⟨rfl, hb⟩
            have hE2 := hE1.step hb
            clear hE1 hb hc0 hx0 hx1 E2
            have hc0 := hE2.p.c0
            have hx0 := hE2.x0
            have hx1 := hE2.x1
            go_wp2_with fail
            refine (E3.out _).mono ?_
            rintro e v3 ⟨rfl, hb⟩
            have hE3 := hE2.step hb
            clear hE2 hb hc0 hx0 hx1 E3
            have hc0 := hE3.p.c0
            have hx0 := hE3.x0
            have hx1 := hE3.x1
            go_wp2_with fail
            refine (E4.out _).mono ?_
            rintro e v4 ⟨rfl, hb⟩
            have hE4 := hE3.step hb
            clear hE3 hb hc0 hx0 hx1 E4
            have hc0 := hE4.p.c0
            have hx0 := hE4.x0
            have hx1 := hE4.x1
            go_wp2_with fail
            go_roundg (2 - (1 + 1))
            case measure => omega
            case rel => exact ⟨1 + 1, rfl, by go_num, by omega, hE4.p⟩
        · rw [show (((2 : Nat)) : Int) = 2 from rfl]
          have HQ := Lib.hid hP
          clear hP hj
          go_wp2_with fail
          go_roundg (4 - (i + 1))
          case measure => have := HI.out.1; omega
          case rel => exact ⟨i + 1, rfl, by go_num, by have := HI.out.1; omega, HQ.out.f, HQ.out.k⟩
    · obtain rfl : i = 4 := by omega
      go_wp2_with fail
      go_ret
      exact ⟨rfl, hk.1⟩

end Go.Proofs.YtcigciclpdnbhaaGreatDoor

namespace Go.Proofs.YtcigciclpdnbhaaGreatDoor.powers
open Go.ChangeShapes Go.WideShapes Go.ChangeAt Go.RowKit Vd

/-- The door's own heap meets the row's list. -/
theorem door_met (os : Os) (args : Array Value) : laidMetH Tryz.prog Rows.wholePowersRow.laid ((World.doorLaid Tryz.prog 400 os).forCall (fun _ _ => 0) ⟨#[], args, []⟩).memory :=
  laidMetH_of_parts3 (fuel := 8) (laidMet_of_run' 8 (by kernel_rfl) (by kernel_rfl)) (by kernel_rfl) (by kernel_rfl)

theorem laidOutHere : laidOutB Tryz.prog = true := by kernel_rfl

def wit : Array Value := #[.agg #[.string ⟨#[]⟩, .string ⟨#[]⟩, .bool false, .slice none 0 0, .int .u16 0, .bool false, .slice none 0 0, .int .u16 0], .int .i64 0, .int .i64 0]

set_option maxRecDepth 100000 in
theorem lifted (os : Os) (started : os.Started) (H : Type) (enc : TypeId × Value → H) :
    ReturnsInHanded {} Tryz.checked os 6 .any (fun w args => (Rows.wholePowersSpec.pre enc Tryz.prog Tryz.f6 [] false w args ∧ laidMetH Tryz.prog Rows.wholePowersRow.laid w) ∧ sizedMet enc Tryz.prog Tryz.f6 (OpenSpec.ofChange Rows.wholePowersSpec) false w args)
      (Rows.wholePowersSpec.post enc Tryz.prog Tryz.f6 false true false false) := by
  refine returnsInHanded_of_change_and (C := Tryz.checked) (X := fun w _ => laidMetH Tryz.prog Rows.wholePowersRow.laid w) (fun _ _ _ hh h => h.of_heap hh) ownKnobNone started (by kernel_rfl) Tryz.func6
    (ChangeSpec.witness_shaped (enc := enc) (C := Tryz.checked) (os := os) (X := fun w _ => laidMetH Tryz.prog Rows.wholePowersRow.laid w) false (World.doorLaid Tryz.prog 400 os) wit 8 rfl (World.shaped_of_RefB (by kernel_rfl) (by kernel_rfl)) (by kernel_rfl) (by kernel_rfl) (by kernel_rfl) (door_met os _)) ?_
  intro W base args ds gs before hval0 hW _ _ hL _
  have hval : ∀ (j : Nat) t v, Tryz.f6.params[j]? = some t → args[j]? = some v → Value.okWide Tryz.prog W .any base t v := hval0
  have hW' := hW
  obtain ⟨p, q, hA0, hV, rfl, hfz, hnd⟩ := hW
  have hA : DataW.TrodAll enc Tryz.prog W 0 (fun _ => true) true Tryz.f6.params.toList args.toList ds p := hA0
  rw [Tryz.params6] at hA hval
  obtain ⟨v0, vs0, d0, ds0, p0, q0, hargs, rfl, rfl, h0, r0⟩ := trodAll_cons hA
  obtain ⟨v1, vs1, d1, ds1, p1, q1, rfl, rfl, rfl, h1, r1⟩ := trodAll_cons r0
  obtain ⟨v2, vs2, d2, ds2, p2, q2, rfl, rfl, rfl, h2, r2⟩ := trodAll_cons r1
  obtain ⟨rfl, rfl, rfl⟩ := trodAll_nil r2
  obtain rfl : args = #[v0, v1, v2] := by cases args; simp_all
  obtain ⟨rfl, rfl⟩ := trodVars_none hV
  obtain ⟨a, b, b1, A1, n1, c1, z1, xs1, b2, A2, n2, c2, z2, xs2, rfl, D1, D2⟩ := open_two (hval 0 _ _ rfl rfl) h0
  obtain ⟨m, rfl, rfl, rfl, wm⟩ := open_int Tryz.underlying3 (hval 1 _ _ rfl rfl) h1
  obtain ⟨n, rfl, rfl, rfl, wn⟩ := open_int Tryz.underlying3 (hval 2 _ _ rfl rfl) h2
  refine (powers_core a b b1 A1 n1 c1 z1 xs1 b2 A2 n2 c2 z2 xs2 W m n (gnd_of_laid hL) D1 D2).mono fun e W' ⟨he, hb⟩ => ?_
  subst he
  exact ⟨_, rfl, post_true (tb := 4) laidOutHere (by kernel_rfl) Tryz.underlying4 (by kernel_rfl) rfl rfl hW' hb⟩

theorem said : Rows.WholePowersSaid :=
  OpenClaim.holds_of_wide 6 Tryz.f6 rfl rfl rfl rfl rfl rfl rfl ⟨rfl, rfl, rfl, rfl, rfl⟩ rfl rfl rfl rfl rfl (by kernel_rfl) Tryz.func6 (by kernel_rfl)
    (of_decide_eq_true (by kernel_rfl)) (by unfold Func.isWrapper; first | (rw [if_pos (by decide +kernel)]; kernel_rfl) | (rw [if_neg (by decide +kernel)]; exact ⟨rfl, rfl⟩))
    (fun os started H enc _ => lifted os started H enc)

theorem plain (f : FuncId) (fn : Func) (hf : Tryz.pinned.checked.prog.funcNamed "verdigris/verdigrislaw01.WholePowers" = some f) (hfn : Tryz.pinned.checked.prog.funcs[f]? = some fn) :
    true = Tryz.pinned.checked.prog.looks [] ∧ ∀ (j : Nat) t, fn.params[j]? = some t → Tryz.pinned.checked.prog.wantsStandIn t = false := by
  obtain rfl : f = 6 := Option.some.inj ((show Tryz.prog.funcNamed "verdigris/verdigrislaw01.WholePowers" = some 6 by kernel_rfl).symm.trans hf) |>.symm
  obtain rfl : fn = Tryz.f6 := (Option.some.inj (Tryz.func6.symm.trans hfn)).symm
  refine ⟨by kernel_rfl, fun j t ht => ?_⟩
  rw [Tryz.params6] at ht
  have : t = 27 ∨ t = 3 := by simpa using Array.mem_of_getElem? ht
  rcases this with rfl | rfl
  · exact (show Tryz.prog.wantsStandIn 27 = false by kernel_rfl)
  · exact (show Tryz.prog.wantsStandIn 3 = false by kernel_rfl)

/-- THE CARD. -/
theorem card : Rows.WholePowersCardSaid :=
  Claim7.holds_tied_plain_at .later [] _ _ _ _ said (fun _ h => by cases h) (by kernel_rfl) (fun _ h => by cases h) wholePowers_row_tie rfl ⟨rfl, rfl⟩ (by kernel_rfl) rfl plain (by kernel_rfl)
#print axioms card
end Go.Proofs.YtcigciclpdnbhaaGreatDoor.powers
