/- Contract: stepsOf. -/
import Derived.Test.YtdkgifkmkghggaaGreatDoorGcdB
import Derived.Deep.WholeRow
namespace Go.Proofs.YtdkgifkmkghggaaGreatDoor
open Go.RowKit Vd

/-- the cells of 'steps' -/
def stepCells (fA fB nA nB cnt : Nat) : Array Value := #[.int .u64 (fA : Int), .int .u64 (fB : Int), .int .u64 (nA : Int), .int .u64 (nB : Int), .int .i64 (cnt : Int)]

/-- what stepsOf has come to: small steps, and the multiples fit into words -/
structure StepsW (X Y p q fA fB nA nB cnt : Nat) : Prop where
  st : Vd.Steps X Y p q fA fB nA nB cnt
  fAl : fA < B64
  fBl : fB < B64
  nAl : nA < B64
  nBl : nB < B64
  cl : cnt ≤ nB
  fB1 : 0 < cnt → 1 ≤ fB

theorem stepsW_zero {X Y : Nat} (h : Y ≤ X) : StepsW X Y X Y 1 0 0 1 0 :=
  ⟨steps_zero X Y h, by decide, by decide, by decide, by decide, by omega, by omega⟩

/-- the next multiples -/
def nxA (p q fA nA : Nat) : Nat := fA + p / q * nA

theorem stepsW_bounds {X Y p q fA fB nA nB cnt : Nat} (h : StepsW X Y p q fA fB nA nB cnt) (hX : X < B64) (hY : Y ≤ X) (hq : 0 < q) :
    p < B64 ∧ q < B64 ∧ p / q < B64 ∧ p / q * nA < B64 ∧ p / q * nB < B64 ∧ nxA p q fA nA < B64 ∧ nxA p q fB nB < B64 ∧ p / q * q ≤ p ∧ p - p / q * q = p % q ∧
    (nxA p q fB nB ≤ p % q → nB + nxA p q fB nB < B64) := by
  obtain ⟨b1, b2⟩ := steps_bound h.st
  have hp := h.st.le
  have sX := h.st.sX
  have n1 := h.st.one
  have hpX : p ≤ X := by
    have : p * 1 ≤ p * nB := Nat.mul_le_mul_left _ n1
    omega
  have e := Nat.div_add_mod p q
  have hr := Nat.mod_lt p hq
  have c1 : (fB + p / q * nB) * 1 ≤ (fB + p / q * nB) * q := Nat.mul_le_mul_left _ hq
  have c2 : (fA + p / q * nA) * 1 ≤ (fA + p / q * nA) * q := Nat.mul_le_mul_left _ hq
  have d1 := Nat.div_le_self p q
  unfold nxA
  refine ⟨by omega, by omega, by omega, by omega, by omega, by omega, by omega, by rw [Nat.mul_comm]; omega, by rw [Nat.mul_comm (p / q)]; omega, fun h1 => ?_⟩
  rcases Nat.eq_zero_or_pos (p % q) with h0 | h0
  · have : 1 ≤ p / q * nB := Nat.mul_le_mul (Nat.div_pos hp hq) n1
    omega
  · have c3 : nB * 1 ≤ nB * (p % q) := Nat.mul_le_mul_left _ h0
    omega

theorem stepsW_succ {X Y p q fA fB nA nB cnt : Nat} (h : StepsW X Y p q fA fB nA nB cnt) (hX : X < B64) (hY : Y ≤ X) (hq : 0 < q) (h1 : nxA p q fB nB ≤ p % q) (h2 : nB + nxA p q fB nB ≤ q - p % q) :
    StepsW X Y q (p % q) nA nB (nxA p q fA nA) (nxA p q fB nB) (cnt + 1) ∧ cnt ≤ 9000000000000000000 := by
  obtain ⟨-, -, -, -, -, bA, bB, -, -, -⟩ := stepsW_bounds h hX hY hq
  have n1 := h.st.one
  have k1 : 1 ≤ p / q * nB := Nat.mul_le_mul (Nat.div_pos h.st.le hq) n1
  have hr := Nat.mod_lt p hq
  have hcl := h.cl
  refine ⟨⟨steps_succ h.st hq h1 h2 rfl rfl, h.nAl, h.nBl, bA, bB, ?_, fun _ => n1⟩, ?_⟩
  · unfold nxA
    by_cases hc : cnt = 0
    · omega
    · have f1 := h.fB1 (by omega)
      have k2 : 1 * nB ≤ p / q * nB := Nat.mul_le_mul_right _ (Nat.div_pos h.st.le hq)
      omega
  · by_cases hc : cnt = 0
    · omega
    · have m := h.st.more (by omega)
      have sX := h.st.sX
      have q2 : 2 ≤ q := by unfold nxA at h1 h2; omega
      have c3 : 3 * nB ≤ p * nB := Nat.mul_le_mul_right _ (by omega)
      rw [B64_eq] at hX
      omega

theorem wrapMulAdd {a k b : Nat} (h1 : k * b < B64) (h2 : a + k * b < B64) : IntKind.u64.wrap ((a : Int) + IntKind.u64.wrap ((k : Int) * (b : Int))) = ((a + k * b : Nat) : Int) := by
  rw [← Int.natCast_mul, wrapU h1]; exact wrapU2 h2

theorem setCell_drewN (w : World) (n : Nat) (a : Addr) (v : Value) : (w.drewN n).setCell a v = (w.setCell a v).drewN n := rfl
theorem steps_world (w0 : World) (b d : Nat) (t : TypeId) (c0 c1 c2 c3 c4 a0 a1 a2 a3 a4 : Value) (hb : b = w0.heap.size) :
    (((((((w0.alloc (.cells #[c0, c1, c2, c3, c4] t)).drewN d).setCell ⟨b, 0, none⟩ a0).setCell ⟨b, 1, none⟩ a1).setCell ⟨b, 2, none⟩ a2).setCell ⟨b, 3, none⟩ a3).setCell ⟨b, 4, none⟩ a4) =
      (w0.alloc (.cells #[a0, a1, a2, a3, a4] t)).drewN d := by
  subst hb
  rw [setCell_drewN, setCell_drewN, setCell_drewN, setCell_drewN, setCell_drewN, World.setCell_alloc_new, World.setCell_alloc_new, World.setCell_alloc_new, World.setCell_alloc_new, World.setCell_alloc_new]
  simp

theorem infoSteps : (Tryz.prog.info? 176).map (fun i => i.size) = some 5 := by kernel_rfl

set_option maxRecDepth 100000 in
set_option maxHeartbeats 2000000 in
theorem stepsOf_any (X Y : Nat) (w : World) (hX : X < B64) (hY : Y ≤ X) :
    Calls Tryz.prog 154 #[.int .u64 (X : Int), .int .u64 (Y : Int)] w fun e w' => ∃ p q fA fB nA nB cnt : Nat, e = .returned (.agg (stepCells fA fB nA nB cnt)) ∧ StepsW X Y p q fA fB nA nB cnt ∧ Below w.heap.size w w' := by
  have h0 := stepsW_zero hY
  have HB := Lib.hid (And.intro hX (And.intro hY h0))
  clear hX hY h0
  go_enter Tryz.func154, Tryz.ntmps154
  go_wp2
  go_loopg [0, 1] Y (fun g a b wr => ∃ p fA fB nA nB cnt d : Nat, a = .int .u64 (p : Int) ∧ b = .int .u64 (g : Int) ∧ StepsW X Y p g fA fB nA nB cnt ∧
      wr = ((w.alloc (.cells #[.int .u64 0, .int .u64 0, .int .u64 0, .int .u64 0, .int .i64 0] 176)).alloc (.cells #[.int .u64 (fA : Int), .int .u64 (fB : Int), .int .u64 (nA : Int), .int .u64 (nB : Int), .int .i64 (cnt : Int)] 176)).drewN d)
  case atStart => exact ⟨X, 1, 0, 0, 1, 0, 0, rfl, rfl, HB.out.2.2, rfl⟩
  case round =>
    obtain ⟨p, fA, fB, nA, nB, cnt, d, rfl, rfl, hst, rfl⟩ := hrel
    by_cases hq : 0 < gk
    · have k1 : ((gk : Int) != 0) = true := by rw [bne_iff_ne]; omega
      have k2 : ¬ ((gk : Int) = 0) := by omega
      obtain ⟨z1, z2, z3, z4, z5, z6, z7, z8, z9, z10⟩ := stepsW_bounds hst HB.out.1 HB.out.2.1 hq
      have hrq := Nat.mod_lt p hq
      have hss := stepsW_succ hst HB.out.1 HB.out.2.1 hq
      obtain ⟨k, hk⟩ : ∃ k, k = p / gk := ⟨_, rfl⟩
      obtain ⟨r, hr⟩ : ∃ r, r = p % gk := ⟨_, rfl⟩
      obtain ⟨a1, ha1⟩ : ∃ x, x = nxA p gk fA nA := ⟨_, rfl⟩
      obtain ⟨b1, hb1⟩ : ∃ x, x = nxA p gk fB nB := ⟨_, rfl⟩
      have E0 : IntKind.u64.wrap ((p : Int) / (gk : Int)) = (k : Int) := by rw [← Int.natCast_ediv, ← hk]; exact wrapU (by rw [hk]; exact z3)
      have E1 : IntKind.u64.wrap ((fA : Int) + IntKind.u64.wrap ((k : Int) * (nA : Int))) = (a1 : Int) := by
        rw [wrapMulAdd (by rw [hk]; exact z4) (by rw [hk]; exact z6), ha1, hk]; rfl
      have E2 : IntKind.u64.wrap ((fB : Int) + IntKind.u64.wrap ((k : Int) * (nB : Int))) = (b1 : Int) := by
        rw [wrapMulAdd (by rw [hk]; exact z5) (by rw [hk]; exact z7), hb1, hk]; rfl
      have E3 : IntKind.u64.wrap ((p : Int) - IntKind.u64.wrap ((k : Int) * (gk : Int))) = (r : Int) := by
        rw [← Int.natCast_mul, wrapU (x := k * gk) (by rw [hk]; omega), hk, show (p : Int) - ((p / gk * gk : Nat) : Int) = (r : Int) by omega]
        exact wrapU (by omega)
      rw [← hr, ← hb1] at z10
      rw [← hr] at hrq hss
      rw [← ha1, ← hb1] at hss
      rw [B64_eq] at z1 z2
      have q1 : (gk : Int) ≤ 18446744073709551615 := by omega
      have r1 : (r : Int) ≤ (gk : Int) := by omega
      have r0 : (0 : Int) ≤ (gk : Int) - (r : Int) := by omega
      have Hs := Lib.hid (And.intro hst hss)
      clear hk hr ha1 hb1 z1 z2 z3 z4 z5 z6 z7 z8 z9 hst hss
      by_cases c1 : r < b1
      · have c1' : decide (r < b1) = true := by simp; omega
        clear c1 z10
        go_wp2
        go_quiet (fail)
        go_wp2
        refine bodyPost_ret (v := .agg (stepCells fA fB nA nB cnt)) (by simp [results, Tryz.results154, go_sem, stepCells]) rfl ⟨p, gk, fA, fB, nA, nB, cnt, rfl, Hs.out.1, ?_⟩
        repeat (first | (with_reducible refine Below.setCell ?_ (by simp) _) | (with_reducible refine below_drewN ?_ _) | (with_reducible refine Below.alloc ?_ (by simp) _) | (with_reducible exact Below.refl _ _))
      · have c1' : decide (r < b1) = false := by simp; omega
        have z := z10 (by omega)
        rw [B64_eq] at z
        have z' : (nB : Int) + (b1 : Int) ≤ 18446744073709551615 := by omega
        clear z z10
        by_cases c2 : gk - r < nB + b1
        · have c2' : decide ((gk : Int) - (r : Int) < (nB : Int) + (b1 : Int)) = true := by simp; omega
          clear c1 c2
          go_wp2
          go_quiet (fail)
          go_wp2
          refine bodyPost_ret (v := .agg (stepCells fA fB nA nB cnt)) (by simp [results, Tryz.results154, go_sem, stepCells]) rfl ⟨p, gk, fA, fB, nA, nB, cnt, rfl, Hs.out.1, ?_⟩
          repeat (first | (with_reducible refine Below.setCell ?_ (by simp) _) | (with_reducible refine below_drewN ?_ _) | (with_reducible refine Below.alloc ?_ (by simp) _) | (with_reducible exact Below.refl _ _))
        · have c2' : decide ((gk : Int) - (r : Int) < (nB : Int) + (b1 : Int)) = false := by simp; omega
          obtain ⟨hst2, hcb⟩ := Hs.out.2 (by omega) (by omega)
          have hcb' : (cnt : Int) ≤ 9000000000000000000 := by omega
          clear c1 c2 hcb
          go_wp2
          go_quiet (fail)
          go_wp2
          go_roundg r
          case measure => exact hrq
          case rel =>
            refine ⟨gk, nA, nB, a1, b1, cnt + 1, ?_, rfl, rfl, hst2, ?_⟩
            rotate_left
            · exact steps_world _ _ _ _ _ _ _ _ _ _ _ _ _ _ (World.size_alloc _ _).symm
    · obtain rfl : gk = 0 := by omega
      have k1 : ((0 : Int) != 0) = false := by decide
      have Hs := Lib.hid hst
      clear hst hq
      go_wp2
      refine bodyPost_ret (v := .agg (stepCells fA fB nA nB cnt)) (by simp [results, Tryz.results154, go_sem, stepCells]) rfl ⟨p, 0, fA, fB, nA, nB, cnt, rfl, Hs.out, ?_⟩
      repeat (first | (with_reducible refine Below.setCell ?_ (by simp) _) | (with_reducible refine below_drewN ?_ _) | (with_reducible refine Below.alloc ?_ (by simp) _) | (with_reducible exact Below.refl _ _))

end Go.Proofs.YtdkgifkmkghggaaGreatDoor
