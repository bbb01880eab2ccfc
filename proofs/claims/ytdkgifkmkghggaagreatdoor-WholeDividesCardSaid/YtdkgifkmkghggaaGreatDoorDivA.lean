/- Contract: math/bits.Div64. -/
import Derived.Test.YtdkgifkmkghggaaGreatDoorMagE
import Derived.Test.YtdkgifkmkghggaaGreatDoorBits
import Derived.Test.YtdkgifkmkghggaaGreatDoorArith
import Derived.Deep.Cut
import Derived.Deep.CutBlock
import Derived.Deep.CutRange
import Derived.Deep.DeepCutAuto
namespace Go.Proofs.YtdkgifkmkghggaaGreatDoor
open Go.RowKit Vd

theorem lz_any (y : Nat) (hy : y < B64) (w : World) :
    Calls Tryz.prog 119 #[.int .u64 (y : Int)] w fun e w' => e = .returned (.int .i64 (((64 - Lib.bitLen y : Nat)) : Int)) ∧ w = w' := by
  refine (Tryz.bits_LeadingZeros64 y w (by omega) (by rw [B64_eq] at hy; omega)).mono ?_
  rintro e w' ⟨he, hw⟩
  refine ⟨?_, hw.symm⟩
  rw [he, Int.toNat_natCast]
  have : Lib.bitLen y ≤ 64 := blen_le y hy
  congr 2
  omega

/-- quotient and rest of two words by one, under names that the walk does not open -/
def divQ (hi lo y : Nat) : Nat := (hi * B64 + lo) / y
def divR (hi lo y : Nat) : Nat := (hi * B64 + lo) % y

/-- 2^32 -/
def b32 : Nat := 4294967296
theorem b32_eq : b32 = 4294967296 := rfl

/-- what holds at the head of Div64's loops: the guess q, and what it leaves of u -/
def DL (w : World) (a1 u qq q : Nat) (a b : Value) (wr : World) : Prop := w = wr ∧ ∃ r : Nat, a = .int .u64 (q : Int) ∧ b = .int .u64 (r : Int) ∧ q * a1 + r = u ∧ r < b32 ∧ qq ≤ q

theorem DL.step {w : World} {a1 u qq q r : Nat} (h : qq < q) (hq : q * a1 + r = u) (hr : r + a1 < 4294967296) : DL w a1 u qq (q - 1) (.int .u64 ((q : Int) - 1)) (.int .u64 ((r : Int) + (a1 : Int))) w := by
  obtain ⟨g, rfl⟩ : ∃ g, q = g + 1 := ⟨q - 1, by omega⟩
  rw [Nat.add_mul, Nat.one_mul] at hq
  exact ⟨rfl, r + a1, by rw [Nat.add_sub_cancel]; congr 1; omega, rfl, by rw [Nat.add_sub_cancel]; omega, hr, by omega⟩
theorem DL.val {qq q : Nat} (h : qq < q) (hx : q - 1 = qq) : (Value.int .u64 ((q : Int) - 1)) = .int .u64 (qq : Int) := by
  congr 1; omega

set_option maxRecDepth 100000 in
set_option maxHeartbeats 2000000 in
/-- the part of Div64 behind the shifts: y1, with its highest bit set -/
theorem div64_big (hi lo y : Nat) (w : World) (h1 : hi < y) (h2 : lo < B64) (hy : y < B64) (h0 : 0 < hi) :
    Calls Tryz.prog 141 #[.int .u64 (hi : Int), .int .u64 (lo : Int), .int .u64 (y : Int)] w fun e w' => e = .returned (.tuple #[.int .u64 (divQ hi lo y : Int), .int .u64 (divR hi lo y : Int)]) ∧ w = w' := by
  have k1 : ((y : Int) == 0) = false := by rw [beq_eq_false_iff_ne]; omega
  have k2 : ¬ (y : Int) ≤ (hi : Int) := by omega
  have k3 : ((hi : Int) == 0) = false := by rw [beq_eq_false_iff_ne]; omega
  obtain ⟨s, hs⟩ : ∃ s, s = 64 - Lib.bitLen y := ⟨_, rfl⟩
  have hlz := lz_any y hy w
  rw [← hs] at hlz
  rw [B64_eq] at h2 hy
  obtain ⟨s63, ylt, yge⟩ := norm_spec hy (by omega) hs
  have hs64 : s ≤ 64 := by omega
  -- the numbers of the text
  obtain ⟨y1, hy1⟩ : ∃ n, n = y * 2 ^ s := ⟨_, rfl⟩
  obtain ⟨u, hu⟩ : ∃ n, n = hi * 2 ^ s + lo / 2 ^ (64 - s) := ⟨_, rfl⟩
  obtain ⟨v, hv⟩ : ∃ n, n = lo * 2 ^ s % 18446744073709551616 := ⟨_, rfl⟩
  have hX := shl_two (hi := hi) (lo := lo) hs64
  rw [← hu, ← hv] at hX
  have hc := shr_lt h2 hs64
  have huy : u < y1 := by
    have := Nat.mul_le_mul_right (2 ^ s) (show hi + 1 ≤ y from h1)
    rw [Nat.add_mul, Nat.one_mul] at this
    omega
  rw [← hy1] at ylt yge
  have E1 : IntKind.u64.wrap ((y : Int) * 2 ^ s) = (y1 : Int) := by rw [wrap_shl, ← hy1, Nat.mod_eq_of_lt ylt]
  have E2 : ((y1 : Nat) : Int) / 4294967296 = ((y1 / 4294967296 : Nat) : Int) := by omega
  have E3 : bits .and .u64 (y1 : Int) 4294967295 = ((y1 % 4294967296 : Nat) : Int) := by rw [and_low32 _ (by omega) (by omega)]; omega
  have hu4 : hi * 2 ^ s + lo / 2 ^ (64 - s) < 18446744073709551616 := by rw [← hu]; omega
  have hu5 : hi * 2 ^ s < 18446744073709551616 := Nat.lt_of_le_of_lt (Nat.le_add_right _ _) hu4
  have E4 : bits .or .u64 (IntKind.u64.wrap ((hi : Int) * 2 ^ s)) ((lo : Int) / 2 ^ (64 - s)) = (u : Int) := by
    rw [wrap_shl, Nat.mod_eq_of_lt hu5, div_nat, or_words hc hu4, ← hu]
  have E5 : IntKind.u64.wrap ((lo : Int) * 2 ^ s) = (v : Int) := by rw [wrap_shl, ← hv]
  have hvlt : v < 18446744073709551616 := by rw [hv]; omega
  have E6 : ((v : Nat) : Int) / 4294967296 = ((v / 4294967296 : Nat) : Int) := by omega
  have E7 : bits .and .u64 (v : Int) 4294967295 = ((v % 4294967296 : Nat) : Int) := by rw [and_low32 _ (by omega) (by omega)]; omega
  have HE := Lib.hid (And.intro E1 (And.intro E2 (And.intro E3 (And.intro E4 (And.intro E5 (And.intro E6 E7))))))
  have HX := Lib.hid (And.intro hX (And.intro hy1 hs))
  clear E1 E2 E3 E4 E5 E6 E7 hX hy1 hs hu hv hu4 hu5
  go_enter Tryz.func141, Tryz.ntmps141
  go_upto_region 15 with (refine hlz.mono ?_; rintro e w1 ⟨rfl, rfl⟩)
  obtain ⟨E1, E2, E3, E4, E5, E6, E7⟩ := HE.out
  rw [E1, E4, E5, E2, E3, E6, E7]
  clear E1 E2 E3 E4 E5 E6 E7 HE hlz
  -- the digits
  obtain ⟨a1, ha1⟩ : ∃ n, n = y1 / 4294967296 := ⟨_, rfl⟩
  obtain ⟨a0, ha0⟩ : ∃ n, n = y1 % 4294967296 := ⟨_, rfl⟩
  obtain ⟨v1, hv1⟩ : ∃ n, n = v / 4294967296 := ⟨_, rfl⟩
  obtain ⟨v0, hv0⟩ : ∃ n, n = v % 4294967296 := ⟨_, rfl⟩
  rw [← ha1, ← ha0, ← hv1, ← hv0]
  have hy1' : y1 = a1 * b32 + a0 := by rw [b32_eq]; omega
  have hv' : v = v1 * b32 + v0 := by rw [b32_eq]; omega
  have a1lo : 2147483648 ≤ a1 := by omega
  have a1hi : a1 < 4294967296 := by omega
  have a0hi : a0 < 4294967296 := by omega
  have v1hi : v1 < 4294967296 := by omega
  have v0hi : v0 < 4294967296 := by omega
  have HD := Lib.hid (And.intro hy1' hv')
  clear ha1 ha0 hv1 hv0 hy1' hv'
  have za1 : ¬ ((a1 : Nat) : Int) = 0 := by omega
  have uhi : u < 18446744073709551616 := by omega
  obtain ⟨q0, hq0⟩ : ∃ n, n = u / a1 := ⟨_, rfl⟩
  obtain ⟨r0, hr0⟩ : ∃ n, n = u % a1 := ⟨_, rfl⟩
  have hqr : q0 * a1 + r0 = u := by rw [hq0, hr0, Nat.mul_comm]; exact Nat.div_add_mod u a1
  have hr0lt : r0 < a1 := by rw [hr0]; exact Nat.mod_lt _ (by omega)
  have q0hi : q0 * a1 < 18446744073709551616 := by omega
  have q0hi' : q0 < 18446744073709551616 := by rw [hq0]; exact Nat.lt_of_le_of_lt (Nat.div_le_self _ _) uhi
  have E8 : IntKind.u64.wrap ((u : Int) / (a1 : Int)) = (q0 : Int) := by rw [← Int.natCast_ediv, ← hq0]; exact wrapU q0hi'
  have E9 : IntKind.u64.wrap ((u : Int) - IntKind.u64.wrap ((q0 : Int) * (a1 : Int))) = (r0 : Int) := by
    rw [← Int.natCast_mul, wrapU (x := q0 * a1) q0hi, show (u : Int) - ((q0 * a1 : Nat) : Int) = (r0 : Int) by omega]; exact wrapU (by rw [B64_eq]; omega)
  have HE := Lib.hid (And.intro E8 E9)
  have HQ := Lib.hid (And.intro hq0 hqr)
  clear E8 E9 hq0 hr0 hqr
  go_upto_block 0 with fail
  obtain ⟨E8, E9⟩ := HE.out
  rw [E8, E9]
  clear E8 E9 HE
  obtain ⟨qq, hqq⟩ : ∃ n, n = (u * b32 + v1) / y1 := ⟨_, rfl⟩
  obtain ⟨rr, hrr⟩ : ∃ n, n = (u * b32 + v1) % y1 := ⟨_, rfl⟩
  have hqqb : qq < b32 := by rw [hqq]; exact dig_lt (by omega) huy (by rw [b32_eq]; exact v1hi)
  have HQ1 := Lib.hid (And.intro hqq hrr)
  clear hqq hrr
  have hqq0 : qq ≤ q0 := by
    have h := qhat_ge (P := b32) (l := u * b32 + v1) (o := y1) (t := u) (top := a1) (by rw [b32_eq] at *; omega) (by have := HD.out.1; omega) (by omega)
    have e1 := HQ1.out.1
    have e2 := HQ.out.1
    omega
  have HB := Lib.hid (show 0 < y1 ∧ u < y1 ∧ b32 ≤ 2 * a1 ∧ a0 < b32 ∧ qq < b32 from ⟨by omega, huy, by rw [b32_eq]; omega, by rw [b32_eq]; exact a0hi, hqqb⟩)
  have HY1 := Lib.hid (show (y1 : Int) < 18446744073709551616 by omega)
  have ha' : (a1 : Int) ≤ 4294967295 := by omega
  have hv1' : (v1 : Int) ≤ 4294967295 := by omega
  have hv0' : (v0 : Int) ≤ 4294967295 := by omega
  have hr0' : r0 ≤ 4294967295 := by omega
  clear h1 h2 hy h0 yge ylt huy hvlt v1hi v0hi a1lo a1hi a0hi uhi hr0lt q0hi q0hi' hqqb
  go_cut [15, 16] (fun a b wx => w = wx ∧ ∃ r : Nat, a = .int .u64 (qq : Int) ∧ b = .int .u64 (r : Int))
  case first =>
    go_wp2_with fail
    go_loopg [15, 16] q0 (fun g a b wr => DL w a1 u qq g a b wr)
    case atStart => exact ⟨rfl, r0, rfl, rfl, HQ.out.2, by rw [b32_eq]; omega, hqq0⟩
    case round =>
      obtain ⟨rfl, r, rfl, rfl, hq, hr, hle⟩ := hrel
      have facts : gk ≤ b32 + 1 ∧ (b32 ≤ gk → qq < gk) ∧ (r * b32 + v1 < gk * a0 → qq < gk) ∧ (gk * a0 ≤ r * b32 + v1 → gk = qq) ∧ (b32 ≤ r + a1 → qq < gk → gk - 1 = qq) := by
        obtain ⟨hy1, -⟩ := HD.out
        obtain ⟨e1, -⟩ := HQ1.out
        obtain ⟨y0, uy, a1h, a0h, qh⟩ := HB.out
        have hb := dl_bound (b := b32) (q := gk) (a1 := a1) (a0 := a0) hq (by rw [← hy1]; exact uy) a0h a1h
        refine ⟨hb, fun h => Nat.lt_of_lt_of_le qh h, fun h => ?_, fun h => ?_, fun h1 h2 => ?_⟩
        · rw [e1]
          refine dig_go y0 ?_
          have := dig_le (b := b32) (y0 := a0) (u1 := v1) hq
          rw [← hy1] at this
          omega
        · rw [e1]
          refine dig_stop y0 (by rw [← e1]; exact hle) ?_
          rw [hy1]
          exact (dig_le hq).2 h
        · rw [e1]
          refine dig_stop y0 (by rw [← e1]; omega) ?_
          obtain ⟨g', rfl⟩ : ∃ g', gk = g' + 1 := ⟨gk - 1, by omega⟩
          rw [Nat.add_mul, Nat.one_mul] at hq
          exact dl_break hy1 (r := r + a1) (by rw [Nat.add_sub_cancel]; omega) h1 (by omega) a0h
      obtain ⟨f1, f2, f3, f4, f5⟩ := facts
      rw [b32_eq] at hr f1
      have qb : (gk : Int) ≤ 4294967297 := by omega
      have hr' : (r : Int) ≤ 4294967295 := by omega
      have Hq := Lib.hid (And.intro hq (And.intro f2 (And.intro f3 (And.intro f4 f5))))
      clear hq hr f1 f2 f3 f4 f5
      by_cases hbig : 4294967296 ≤ gk
      · have hbig' : (4294967296 : Int) ≤ (gk : Int) := by omega
        have hlt : qq < gk := Hq.out.2.1 hbig
        clear hbig
        by_cases hbr : r + a1 < 4294967296
        · have hbr' : decide ((4294967296 : Int) ≤ (r : Int) + (a1 : Int)) = false := by simp; omega
          go_wp2_with fail
          go_roundg (gk - 1)
          case measure => omega
          case rel => exact DL.step hlt Hq.out.1 hbr
        · have hbr' : (4294967296 : Int) ≤ (r : Int) + (a1 : Int) := by omega
          have hex := Hq.out.2.2.2.2 (by rw [b32_eq]; omega) hlt
          clear hbr
          have Hx := Lib.hid hex
          clear hex
          go_wp2_with fail
          go_meet
          exact ⟨rfl, r + a1, DL.val hlt Hx.out, rfl⟩
      · have hbig' : decide ((4294967296 : Int) ≤ (gk : Int)) = false := by simp; omega
        have gk32 : gk < 4294967296 := by omega
        have E10 : IntKind.u64.wrap ((gk : Int) * (a0 : Int)) = (gk : Int) * (a0 : Int) := by
          rw [← Int.natCast_mul]
          exact wrapU (by
            have := Nat.mul_lt_mul'' gk32 (show a0 < 4294967296 by have := HB.out.2.2.2.1; rw [b32_eq] at this; exact this)
            rw [B64_eq]; omega)
        have E11 : IntKind.u64.wrap (4294967296 * (r : Int)) = 4294967296 * (r : Int) := by rw [IntKind.wrap_u64]; omega
        have E12 : IntKind.u64.wrap (4294967296 * (r : Int) + (v1 : Int)) = 4294967296 * (r : Int) + (v1 : Int) := by rw [IntKind.wrap_u64]; omega
        clear hbig gk32
        by_cases hgt : r * b32 + v1 < gk * a0
        · have hlt : qq < gk := Hq.out.2.2.1 hgt
          have hgt' : decide (4294967296 * (r : Int) + (v1 : Int) < (gk : Int) * (a0 : Int)) = true := by
            have h := Int.ofNat_lt.2 hgt
            rw [b32_eq] at h
            simp only [Int.natCast_add, Int.natCast_mul] at h
            rw [decide_eq_true_iff]; omega
          clear hgt
          by_cases hbr : r + a1 < 4294967296
          · have hbr' : decide ((4294967296 : Int) ≤ (r : Int) + (a1 : Int)) = false := by simp; omega
            go_wp2_with fail
            go_roundg (gk - 1)
            case measure => omega
            case rel => exact DL.step hlt Hq.out.1 hbr
          · have hbr' : (4294967296 : Int) ≤ (r : Int) + (a1 : Int) := by omega
            have hex := Hq.out.2.2.2.2 (by rw [b32_eq]; omega) hlt
            clear hbr
            have Hx := Lib.hid hex
            clear hex
            go_wp2_with fail
            go_meet
            exact ⟨rfl, r + a1, DL.val hlt Hx.out, rfl⟩
        · have hex := Hq.out.2.2.2.1 (by omega)
          have hgt' : decide (4294967296 * (r : Int) + (v1 : Int) < (gk : Int) * (a0 : Int)) = false := by
            have h := Int.ofNat_le.2 (Nat.le_of_not_lt hgt)
            rw [b32_eq] at h
            simp only [Int.natCast_add, Int.natCast_mul] at h
            rw [decide_eq_false_iff_not]; omega
          have Hx := Lib.hid hex
          clear hgt hex
          go_wp2_with fail
          go_meet
          exact ⟨rfl, r, by rw [Hx.out], rfl⟩
  case rest =>
    obtain ⟨rfl, r, rfl, rfl⟩ := hcut
    obtain ⟨e1, e2⟩ := HQ1.out
    have hrr : qq * y1 + rr = u * b32 + v1 := by rw [e1, e2, Nat.mul_comm]; exact Nat.div_add_mod _ _
    have rlt : rr < y1 := by rw [e2]; exact Nat.mod_lt _ HB.out.1
    have E1 : IntKind.u64.wrap (IntKind.u64.wrap (IntKind.u64.wrap ((u : Int) * 4294967296) + (v1 : Int)) - IntKind.u64.wrap ((qq : Int) * (y1 : Int))) = (rr : Int) := by
      have h := congrArg (fun n : Nat => (n : Int)) hrr
      rw [b32_eq] at h
      simp only [Int.natCast_add, Int.natCast_mul] at h
      rw [IntKind.wrap_u64, IntKind.wrap_u64, IntKind.wrap_u64, IntKind.wrap_u64]
      have y1lt := HY1.out
      omega
    have HE := Lib.hid E1
    clear E1 e1 e2
    go_upto_region 22 with fail
    rw [HE.out]
    clear HE
    obtain ⟨p0, hp0⟩ : ∃ n, n = rr / a1 := ⟨_, rfl⟩
    obtain ⟨s0, hs0⟩ : ∃ n, n = rr % a1 := ⟨_, rfl⟩
    have a1pos : 0 < a1 := by omega
    have hps : p0 * a1 + s0 = rr := by rw [hp0, hs0, Nat.mul_comm]; exact Nat.div_add_mod rr a1
    have hs0lt : s0 < a1 := by rw [hs0]; exact Nat.mod_lt _ a1pos
    have y1lt := HY1.out
    have p0a : p0 * a1 < 18446744073709551616 := by omega
    have p0hi : p0 < 18446744073709551616 := by rw [hp0]; exact Nat.lt_of_le_of_lt (Nat.div_le_self _ _) (by omega)
    have E8 : IntKind.u64.wrap ((rr : Int) / (a1 : Int)) = (p0 : Int) := by rw [← Int.natCast_ediv, ← hp0]; exact wrapU p0hi
    have E9 : IntKind.u64.wrap ((rr : Int) - IntKind.u64.wrap ((p0 : Int) * (a1 : Int))) = (s0 : Int) := by
      rw [← Int.natCast_mul, wrapU (x := p0 * a1) p0a, show (rr : Int) - ((p0 * a1 : Nat) : Int) = (s0 : Int) by omega]; exact wrapU (by rw [B64_eq]; omega)
    have HE := Lib.hid (And.intro E8 E9)
    have HP := Lib.hid hps
    obtain ⟨q2, hq2⟩ : ∃ n, n = (rr * b32 + v0) / y1 := ⟨_, rfl⟩
    obtain ⟨r2, hr2⟩ : ∃ n, n = (rr * b32 + v0) % y1 := ⟨_, rfl⟩
    have hq2b : q2 < b32 := by rw [hq2]; exact dig_lt HB.out.1 rlt (by rw [b32_eq]; omega)
    have hq20 : q2 ≤ p0 := by
      have h := qhat_ge (P := b32) (l := rr * b32 + v0) (o := y1) (t := rr) (top := a1) (by rw [b32_eq] at *; omega) (by have := HD.out.1; omega) a1pos
      omega
    have hs0' : s0 ≤ 4294967295 := by omega
    have HQ2 := Lib.hid (And.intro hq2 hr2)
    have HB2 := Lib.hid (show 0 < y1 ∧ rr < y1 ∧ b32 ≤ 2 * a1 ∧ a0 < b32 ∧ q2 < b32 from ⟨HB.out.1, rlt, HB.out.2.2.1, HB.out.2.2.2.1, hq2b⟩)
    have HR := Lib.hid (And.intro hrr rlt)
    clear E8 E9 hps hp0 hs0 hs0lt y1lt p0a p0hi hq2 hr2 hq2b hrr rlt
    go_upto_block 2 with fail
    obtain ⟨E8, E9⟩ := HE.out
    rw [E8, E9]
    clear E8 E9 HE
    go_cut [18, 16] (fun a b wx => w = wx ∧ ∃ r : Nat, a = .int .u64 (q2 : Int) ∧ b = .int .u64 (r : Int))
    case first =>
      go_wp2_with fail
      go_loopg [18, 16] p0 (fun g a b wr => DL w a1 rr q2 g a b wr)
      case atStart => exact ⟨rfl, s0, rfl, rfl, HP.out, by rw [b32_eq]; omega, hq20⟩
      case round =>
        obtain ⟨rfl, r, rfl, rfl, hq, hr, hle⟩ := hrel
        have facts : gk ≤ b32 + 1 ∧ (b32 ≤ gk → q2 < gk) ∧ (r * b32 + v0 < gk * a0 → q2 < gk) ∧ (gk * a0 ≤ r * b32 + v0 → gk = q2) ∧ (b32 ≤ r + a1 → q2 < gk → gk - 1 = q2) := by
          obtain ⟨hy1, -⟩ := HD.out
          obtain ⟨e1, -⟩ := HQ2.out
          obtain ⟨y0, uy, a1h, a0h, qh⟩ := HB2.out
          have hb := dl_bound (b := b32) (q := gk) (a1 := a1) (a0 := a0) hq (by rw [← hy1]; exact uy) a0h a1h
          refine ⟨hb, fun h => Nat.lt_of_lt_of_le qh h, fun h => ?_, fun h => ?_, fun h1 h2 => ?_⟩
          · rw [e1]
            refine dig_go y0 ?_
            have := dig_le (b := b32) (y0 := a0) (u1 := v0) hq
            rw [← hy1] at this
            omega
          · rw [e1]
            refine dig_stop y0 (by rw [← e1]; exact hle) ?_
            rw [hy1]
            exact (dig_le hq).2 h
          · rw [e1]
            refine dig_stop y0 (by rw [← e1]; omega) ?_
            obtain ⟨g', rfl⟩ : ∃ g', gk = g' + 1 := ⟨gk - 1, by omega⟩
            rw [Nat.add_mul, Nat.one_mul] at hq
            exact dl_break hy1 (r := r + a1) (by rw [Nat.add_sub_cancel]; omega) h1 (by omega) a0h
        obtain ⟨f1, f2, f3, f4, f5⟩ := facts
        rw [b32_eq] at hr f1
        have qb : (gk : Int) ≤ 4294967297 := by omega
        have hr' : (r : Int) ≤ 4294967295 := by omega
        have Hq := Lib.hid (And.intro hq (And.intro f2 (And.intro f3 (And.intro f4 f5))))
        clear hq hr f1 f2 f3 f4 f5
        by_cases hbig : 4294967296 ≤ gk
        · have hbig' : (4294967296 : Int) ≤ (gk : Int) := by omega
          have hlt : q2 < gk := Hq.out.2.1 hbig
          clear hbig
          by_cases hbr : r + a1 < 4294967296
          · have hbr' : decide ((4294967296 : Int) ≤ (r : Int) + (a1 : Int)) = false := by simp; omega
            go_wp2_with fail
            go_roundg (gk - 1)
            case measure => omega
            case rel => exact DL.step hlt Hq.out.1 hbr
          · have hbr' : (4294967296 : Int) ≤ (r : Int) + (a1 : Int) := by omega
            have hex := Hq.out.2.2.2.2 (by rw [b32_eq]; omega) hlt
            clear hbr
            have Hx := Lib.hid hex
            clear hex
            go_wp2_with fail
            go_meet
            exact ⟨rfl, r + a1, DL.val hlt Hx.out, rfl⟩
        · have hbig' : decide ((4294967296 : Int) ≤ (gk : Int)) = false := by simp; omega
          have gk32 : gk < 4294967296 := by omega
          have E10 : IntKind.u64.wrap ((gk : Int) * (a0 : Int)) = (gk : Int) * (a0 : Int) := by
            rw [← Int.natCast_mul]
            exact wrapU (by
              have := Nat.mul_lt_mul'' gk32 (show a0 < 4294967296 by have := HB2.out.2.2.2.1; rw [b32_eq] at this; exact this)
              rw [B64_eq]; omega)
          have E11 : IntKind.u64.wrap (4294967296 * (r : Int)) = 4294967296 * (r : Int) := by rw [IntKind.wrap_u64]; omega
          have E12 : IntKind.u64.wrap (4294967296 * (r : Int) + (v0 : Int)) = 4294967296 * (r : Int) + (v0 : Int) := by rw [IntKind.wrap_u64]; omega
          clear hbig gk32
          by_cases hgt : r * b32 + v0 < gk * a0
          · have hlt : q2 < gk := Hq.out.2.2.1 hgt
            have hgt' : decide (4294967296 * (r : Int) + (v0 : Int) < (gk : Int) * (a0 : Int)) = true := by
              have h := Int.ofNat_lt.2 hgt
              rw [b32_eq] at h
              simp only [Int.natCast_add, Int.natCast_mul] at h
              rw [decide_eq_true_iff]; omega
            clear hgt
            by_cases hbr : r + a1 < 4294967296
            · have hbr' : decide ((4294967296 : Int) ≤ (r : Int) + (a1 : Int)) = false := by simp; omega
              go_wp2_with fail
              go_roundg (gk - 1)
              case measure => omega
              case rel => exact DL.step hlt Hq.out.1 hbr
            · have hbr' : (4294967296 : Int) ≤ (r : Int) + (a1 : Int) := by omega
              have hex := Hq.out.2.2.2.2 (by rw [b32_eq]; omega) hlt
              clear hbr
              have Hx := Lib.hid hex
              clear hex
              go_wp2_with fail
              go_meet
              exact ⟨rfl, r + a1, DL.val hlt Hx.out, rfl⟩
          · have hex := Hq.out.2.2.2.1 (by omega)
            have hgt' : decide (4294967296 * (r : Int) + (v0 : Int) < (gk : Int) * (a0 : Int)) = false := by
              have h := Int.ofNat_le.2 (Nat.le_of_not_lt hgt)
              rw [b32_eq] at h
              simp only [Int.natCast_add, Int.natCast_mul] at h
              rw [decide_eq_false_iff_not]; omega
            have Hx := Lib.hid hex
            clear hgt hex
            go_wp2_with fail
            go_meet
            exact ⟨rfl, r, by rw [Hx.out], rfl⟩
    case rest =>
      obtain ⟨rfl, r', rfl, rfl⟩ := hcut
      have HF : IntKind.u64.wrap (IntKind.u64.wrap ((qq : Int) * 4294967296) + (q2 : Int)) = (divQ hi lo y : Int) ∧
          IntKind.u64.wrap (IntKind.u64.wrap (IntKind.u64.wrap ((rr : Int) * 4294967296) + (v0 : Int)) - IntKind.u64.wrap ((q2 : Int) * (y1 : Int))) / 2 ^ s = (divR hi lo y : Int) := by
        obtain ⟨hX, hy1, -⟩ := HX.out
        obtain ⟨-, hv⟩ := HD.out
        obtain ⟨e1, e2⟩ := HQ1.out
        obtain ⟨f1, f2⟩ := HQ2.out
        obtain ⟨y0, -, -, -, qb⟩ := HB.out
        obtain ⟨-, -, -, -, q2b⟩ := HB2.out
        have y1lt := HY1.out
        have hp : 0 < 2 ^ s := Nat.pow_pos (by omega)
        have hd := two_digits (b := b32) (y := y1) (u := u) (u1 := v1) (u0 := v0) y0
        rw [← e1, ← e2, ← f1, ← f2, ← hv, show b32 * b32 = 18446744073709551616 by decide, ← hX, hy1, Nat.mul_div_mul_right _ _ hp, Nat.mul_mod_mul_right] at hd
        have hr2 : q2 * y1 + r2 = rr * b32 + v0 := by rw [f1, f2, Nat.mul_comm]; exact Nat.div_add_mod _ _
        have r2lt : r2 < y1 := by rw [f2]; exact Nat.mod_lt _ y0
        constructor
        · show _ = (((hi * 18446744073709551616 + lo) / y : Nat) : Int)
          rw [← hd.1, IntKind.wrap_u64, IntKind.wrap_u64]
          rw [b32_eq] at *
          omega
        · show _ = (((hi * 18446744073709551616 + lo) % y : Nat) : Int)
          have E : IntKind.u64.wrap (IntKind.u64.wrap (IntKind.u64.wrap ((rr : Int) * 4294967296) + (v0 : Int)) - IntKind.u64.wrap ((q2 : Int) * (y1 : Int))) = (r2 : Int) := by
            have h := congrArg (fun n : Nat => (n : Int)) hr2
            rw [b32_eq] at h
            simp only [Int.natCast_add, Int.natCast_mul] at h
            rw [IntKind.wrap_u64, IntKind.wrap_u64, IntKind.wrap_u64, IntKind.wrap_u64]
            omega
          rw [E, div_nat, hd.2, Nat.mul_div_cancel _ hp]
      obtain ⟨HF1, HF2⟩ := HF
      go_wp2_with fail
      go_ret2
      exact ⟨rfl, rfl⟩

set_option maxRecDepth 100000 in
set_option maxHeartbeats 1000000 in
/-- Div64, as far as it does not panic -/
theorem div64_any (hi lo y : Nat) (w : World) (h1 : hi < y) (h2 : lo < B64) (hy : y < B64) :
    Calls Tryz.prog 141 #[.int .u64 (hi : Int), .int .u64 (lo : Int), .int .u64 (y : Int)] w fun e w' => e = .returned (.tuple #[.int .u64 (divQ hi lo y : Int), .int .u64 (divR hi lo y : Int)]) ∧ ∃ d, w' = w.drewN d := by
  rcases Nat.eq_zero_or_pos hi with rfl | h0
  · have k1 : ((y : Int) == 0) = false := by rw [beq_eq_false_iff_ne]; omega
    have k2 : ¬ (y : Int) ≤ 0 := by omega
    have k4 : ¬ ((y : Int) = 0) := by omega
    have e1 : IntKind.u64.wrap ((lo : Int) / (y : Int)) = (divQ 0 lo y : Int) := by
      unfold divQ; rw [Nat.zero_mul, Nat.zero_add, ← Int.natCast_ediv]; exact wrapU (Nat.lt_of_le_of_lt (Nat.div_le_self _ _) h2)
    have e2 : (lo : Int) % (y : Int) = (divR 0 lo y : Int) := by unfold divR; rw [Nat.zero_mul, Nat.zero_add]; simp
    go_enter Tryz.func141, Tryz.ntmps141
    go_wp2_with fail
    go_quiet (fail)
    go_wp2
    go_ret2
    refine ⟨?_, _, rfl⟩
    show Ending.returned (.tuple #[.int .u64 (divQ 0 lo y : Int), .int .u64 ((lo : Int) % (y : Int))]) = _
    rw [e2]
  · refine (div64_big hi lo y w h1 h2 hy h0).mono ?_
    rintro e w' ⟨he, rfl⟩
    exact ⟨he, 0, rfl⟩

end Go.Proofs.YtdkgifkmkghggaaGreatDoor
