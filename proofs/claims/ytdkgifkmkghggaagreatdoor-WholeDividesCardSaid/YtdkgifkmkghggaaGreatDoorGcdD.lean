/- Contract: apply. -/
import Derived.Test.YtdkgifkmkghggaaGreatDoorGcdC
import Derived.Deep.RegionHeld3
namespace Go.Proofs.YtdkgifkmkghggaaGreatDoor
open Go.RowKit Vd

/-- what 'apply' makes of two numbers -/
theorem steps_apply {X Y p q fA fB nA nB cnt H α β a b : Nat} (h : Vd.Steps X Y p q fA fB nA nB cnt) (hα : α < H) (hβ : β < H) (ha : a = X * H + α) (hb : b = Y * H + β) (hle : b ≤ a) :
    ∃ a' b' : Nat, a' ≤ a ∧ b' ≤ a' ∧ Nat.gcd a' b' = Nat.gcd a b ∧ (0 < cnt → b' < b) ∧
      (cnt % 2 = 0 → fB * b ≤ fA * a ∧ a' = fA * a - fB * b ∧ nA * a ≤ nB * b ∧ b' = nB * b - nA * a) ∧
      (cnt % 2 = 1 → fA * a ≤ fB * b ∧ a' = fB * b - fA * a ∧ nB * b ≤ nA * a ∧ b' = nA * a - nB * b) := by
  obtain ⟨a', b', h1, h2, h3, h4, h5, -, h7⟩ := h.good H α β hα hβ (by omega)
  have eX : ((X : Int) * H + α) = (a : Int) := by rw [ha]; simp
  have eY : ((Y : Int) * H + β) = (b : Int) := by rw [hb]; simp
  rw [eX, eY] at h1 h2
  rw [← ha, ← hb] at h4
  rw [← hb] at h5
  rw [← ha] at h7
  have hev : ∀ n : Nat, n % 2 = 0 → (-1 : Int) ^ n = 1 := fun n hn => by
    obtain ⟨k, rfl⟩ : ∃ k, n = 2 * k := ⟨n / 2, by omega⟩
    rw [Int.pow_mul]; simp [Int.one_pow]
  refine ⟨a', b', h7, h3, h4, h5, fun hc => ?_, fun hc => ?_⟩
  · rw [hev cnt hc] at h1 h2
    have z1 : (a' : Int) = ((fA * a : Nat) : Int) - ((fB * b : Nat) : Int) := by rw [h1]; simp
    have z2 : (b' : Int) = ((nB * b : Nat) : Int) - ((nA * a : Nat) : Int) := by rw [h2]; simp
    omega
  · obtain ⟨k, rfl⟩ : ∃ k, cnt = k + 1 := ⟨cnt - 1, by omega⟩
    rw [Int.pow_succ, hev k (by omega)] at h1 h2
    have z1 : (a' : Int) = ((fB * b : Nat) : Int) - ((fA * a : Nat) : Int) := by rw [h1]; simp; omega
    have z2 : (b' : Int) = ((nA * a : Nat) : Int) - ((nB * b : Nat) : Int) := by rw [h2]; simp; omega
    omega

/-- the box of the steps stays, and the world grows only above w -/
abbrev HdS (w : World) (fA fB nA nB : Nat) (W : World) : Prop :=
  (w.heap.size < W.heap.size ∧ Below w.heap.size w W) ∧ W.cell? ⟨w.heap.size, 0, none⟩ = some (Value.int IntKind.u64 ↑fA) ∧ W.cell? ⟨w.heap.size, 1, none⟩ = some (Value.int IntKind.u64 ↑fB) ∧ W.cell? ⟨w.heap.size, 2, none⟩ = some (Value.int IntKind.u64 ↑nA) ∧ W.cell? ⟨w.heap.size, 3, none⟩ = some (Value.int IntKind.u64 ↑nB)

theorem hds_step {w W w1 : World} {fA fB nA nB : Nat} (h : HdS w fA fB nA nB W) (hb : Below W.heap.size W w1) : HdS w fA fB nA nB w1 := by
  have hc : ∀ o, w1.cell? ⟨w.heap.size, o, none⟩ = W.cell? ⟨w.heap.size, o, none⟩ := fun o => hb.cell (p := ⟨w.heap.size, o, none⟩) h.1.1
  refine ⟨⟨Nat.lt_of_lt_of_le h.1.1 hb.size, h.1.2.trans (hb.mono (Nat.le_of_lt h.1.1))⟩, ?_, ?_, ?_, ?_⟩
  · rw [hc]; exact h.2.1
  · rw [hc]; exact h.2.2.1
  · rw [hc]; exact h.2.2.2.1
  · rw [hc]; exact h.2.2.2.2

/-- 'multiples', with the box kept -/
theorem multiples_held (v1 v2 : Value) (a b p q fA fB nA nB : Nat) (w W : World) (hS : HdS w fA fB nA nB W) (h1 : MagV w v1 a) (h2 : MagV w v2 b) (b1 : wlen B64 a ≤ maxW) (b2 : wlen B64 b ≤ maxW) (hp : p < B64) (hq : q < B64) (hle : q * b ≤ p * a) (hr : p * a - q * b ≤ max a b) :
    Calls Tryz.prog 161 #[v1, v2, .int .u64 (p : Int), .int .u64 (q : Int)] W fun e w' => ∃ v, e = .returned v ∧ MagV w' v (p * a - q * b) ∧ Below W.heap.size W w' ∧ HdS w fA fB nA nB w' :=
  (multiples_any v1 v2 a b p q W (h1.below hS.1.2) (h2.below hS.1.2) b1 b2 hp hq hle hr).mono fun _ _ ⟨v, he, hm, hb⟩ => ⟨v, he, hm, hb, hds_step hS hb⟩

set_option maxRecDepth 100000 in
set_option maxHeartbeats 400000 in
theorem apply_even (v1 v2 : Value) (a b fA fB nA nB cnt : Nat) (w : World) (h1 : MagV w v1 a) (h2 : MagV w v2 b) (b1 : wlen B64 a ≤ maxW) (b2 : wlen B64 b ≤ maxW) (l1 : fA < B64) (l2 : fB < B64) (l3 : nA < B64) (l4 : nB < B64)
    (hc : cnt % 2 = 0) (e1 : fB * b ≤ fA * a) (r1 : fA * a - fB * b ≤ max a b) (e2 : nA * a ≤ nB * b) (r2 : nB * b - nA * a ≤ max b a) :
    Calls Tryz.prog 156 #[.agg (stepCells fA fB nA nB cnt), v1, v2] w fun e w' => ∃ x y, e = .returned (.tuple #[x, y]) ∧ MagV w' x (fA * a - fB * b) ∧ MagV w' y (nB * b - nA * a) ∧ Below w.heap.size w w' := by
  have hc' : (((cnt : Int)) % 2 == 1) = false := by rw [beq_eq_false_iff_ne]; omega
  have hm1 := Lib.hid (fun W (hS : HdS w fA fB nA nB W) => multiples_held v1 v2 a b fA fB fA fB nA nB w W hS h1 h2 b1 b2 l1 l2 e1 r1)
  have hm2 := Lib.hid (fun W (hS : HdS w fA fB nA nB W) => multiples_held v2 v1 b a nB nA fA fB nA nB w W hS h2 h1 b2 b1 l4 l3 e2 r2)
  unfold stepCells
  have HR := Lib.hid (And.intro e1 (And.intro e2 (And.intro r1 r2)))
  clear e1 e2 r1 r2 hc
  go_enter Tryz.func156, Tryz.ntmps156
  go_wp2
  have hS0 : HdS w fA fB nA nB (w.alloc (.cells #[Value.int IntKind.u64 ↑fA, Value.int IntKind.u64 ↑fB, Value.int IntKind.u64 ↑nA, Value.int IntKind.u64 ↑nB, Value.int IntKind.i64 ↑cnt] 176)).drew := by
    refine ⟨⟨?_, ?_⟩, ?_, ?_, ?_, ?_⟩
    · go_keep
    · exact ((Below.refl _ _).alloc (Nat.le_refl _) _).drew
    · go_keep
    · go_keep
    · go_keep
    · go_keep
  go_region_held3 (fun W => (w.heap.size < W.heap.size ∧ Below w.heap.size w W) ∧ W.cell? ⟨w.heap.size, 0, none⟩ = some (Value.int IntKind.u64 ↑fA) ∧ W.cell? ⟨w.heap.size, 1, none⟩ = some (Value.int IntKind.u64 ↑fB) ∧ W.cell? ⟨w.heap.size, 2, none⟩ = some (Value.int IntKind.u64 ↑nA) ∧ W.cell? ⟨w.heap.size, 3, none⟩ = some (Value.int IntKind.u64 ↑nB)) (with_reducible assumption)
    (first
      | (go_at_call_of 161 (Value.int IntKind.u64 (fA : Int)); refine (hm1.out _ ?_).mono ?_; with_reducible assumption; rintro e w1 ⟨x1, rfl, hx1, hb1, hS1⟩)
      | (go_at_call_of 161 (Value.int IntKind.u64 (nB : Int)); refine (hm2.out _ ?_).mono ?_; with_reducible assumption; rintro e w2 ⟨x2, rfl, hx2, hb2, hS2⟩))
  go_wp2
  exact bodyPost_ret (v := .tuple #[x1, x2]) (by simp [results, Tryz.results156, go_sem]) rfl ⟨_, _, rfl, hx1.below hb2, hx2, hS2.1.2⟩

set_option maxRecDepth 100000 in
set_option maxHeartbeats 400000 in
theorem apply_odd (v1 v2 : Value) (a b fA fB nA nB cnt : Nat) (w : World) (h1 : MagV w v1 a) (h2 : MagV w v2 b) (b1 : wlen B64 a ≤ maxW) (b2 : wlen B64 b ≤ maxW) (l1 : fA < B64) (l2 : fB < B64) (l3 : nA < B64) (l4 : nB < B64)
    (hc : cnt % 2 = 1) (e1 : fA * a ≤ fB * b) (r1 : fB * b - fA * a ≤ max b a) (e2 : nB * b ≤ nA * a) (r2 : nA * a - nB * b ≤ max a b) :
    Calls Tryz.prog 156 #[.agg (stepCells fA fB nA nB cnt), v1, v2] w fun e w' => ∃ x y, e = .returned (.tuple #[x, y]) ∧ MagV w' x (fB * b - fA * a) ∧ MagV w' y (nA * a - nB * b) ∧ Below w.heap.size w w' := by
  have hc' : (((cnt : Int)) % 2 == 1) = true := by rw [beq_iff_eq]; omega
  have hm1 := Lib.hid (fun W (hS : HdS w fA fB nA nB W) => multiples_held v2 v1 b a fB fA fA fB nA nB w W hS h2 h1 b2 b1 l2 l1 e1 r1)
  have hm2 := Lib.hid (fun W (hS : HdS w fA fB nA nB W) => multiples_held v1 v2 a b nA nB fA fB nA nB w W hS h1 h2 b1 b2 l3 l4 e2 r2)
  unfold stepCells
  have HR := Lib.hid (And.intro e1 (And.intro e2 (And.intro r1 r2)))
  clear e1 e2 r1 r2 hc
  go_enter Tryz.func156, Tryz.ntmps156
  go_wp2
  have hS0 : HdS w fA fB nA nB (w.alloc (.cells #[Value.int IntKind.u64 ↑fA, Value.int IntKind.u64 ↑fB, Value.int IntKind.u64 ↑nA, Value.int IntKind.u64 ↑nB, Value.int IntKind.i64 ↑cnt] 176)).drew := by
    refine ⟨⟨?_, ?_⟩, ?_, ?_, ?_, ?_⟩
    · go_keep
    · exact ((Below.refl _ _).alloc (Nat.le_refl _) _).drew
    · go_keep
    · go_keep
    · go_keep
    · go_keep
  go_region_held3 (fun W => (w.heap.size < W.heap.size ∧ Below w.heap.size w W) ∧ W.cell? ⟨w.heap.size, 0, none⟩ = some (Value.int IntKind.u64 ↑fA) ∧ W.cell? ⟨w.heap.size, 1, none⟩ = some (Value.int IntKind.u64 ↑fB) ∧ W.cell? ⟨w.heap.size, 2, none⟩ = some (Value.int IntKind.u64 ↑nA) ∧ W.cell? ⟨w.heap.size, 3, none⟩ = some (Value.int IntKind.u64 ↑nB)) (with_reducible assumption)
    (first
      | (go_at_call_of 161 (Value.int IntKind.u64 (fA : Int)); refine (hm1.out _ ?_).mono ?_; with_reducible assumption; rintro e w1 ⟨x1, rfl, hx1, hb1, hS1⟩)
      | (go_at_call_of 161 (Value.int IntKind.u64 (nB : Int)); refine (hm2.out _ ?_).mono ?_; with_reducible assumption; rintro e w2 ⟨x2, rfl, hx2, hb2, hS2⟩))
  go_wp2
  exact bodyPost_ret (v := .tuple #[x1, x2]) (by simp [results, Tryz.results156, go_sem]) rfl ⟨_, _, rfl, hx1.below hb2, hx2, hS2.1.2⟩

end Go.Proofs.YtdkgifkmkghggaaGreatDoor
