/- Contract: math/bits.Div64. Contracts: division by a word; shifting. Contracts: takeMultiple, putBack. -/
import Derived.Test.YtlfgpmnjnpdkdaaGreatDoorMagA
import Derived.Test.YtlfgpmnjnpdkdaaGreatDoorBits
import Derived.Test.YtlfgpmnjnpdkdaaGreatDoorNum
import Derived.Deep.Cut
import Derived.Deep.CutBlock
import Derived.Deep.CutRange
import Derived.Deep.DeepCutAuto
import Derived.RegionTactic
import Derived.BigRegion
import Derived.Deep.RegionWith
namespace Go.Proofs.YtlfgpmnjnpdkdaaGreatDoor
open Go.RowKit Vd
theorem lz_any (y : Nat) (hy : y < B64) (w : World) :
 Calls Tryz.prog 179 #[.int .u64 (y : Int)] w fun e w' => e = .returned (.int .i64 (((64 - Lib.bitLen y : Nat)) : Int)) ∧ w = w' := by
 refine (Tryz.bits_LeadingZeros64 y w (by omega) (by rw [B64_eq] at hy;omega)).mono ?_
 rintro e w' ⟨he,hw⟩
 refine ⟨?_,hw.symm⟩
 rw [he,Int.toNat_natCast]
 have : Lib.bitLen y ≤ 64 := blen_le y hy
 congr 2
 omega
def divQ (hi lo y : Nat) : Nat := (hi * B64 + lo) / y
def divR (hi lo y : Nat) : Nat := (hi * B64 + lo) % y
def b32 : Nat := 4294967296
theorem b32_eq : b32 = 4294967296 := rfl
def DL (w : World) (a1 u qq q : Nat) (a b : Value) (wr : World) : Prop := w = wr ∧ ∃ r : Nat,a = .int .u64 (q : Int) ∧ b = .int .u64 (r : Int) ∧ q * a1 + r = u ∧ r < b32 ∧ qq ≤ q
theorem DL.step {w : World} {a1 u qq q r : Nat} (h : qq < q) (hq : q * a1 + r = u) (hr : r + a1 < 4294967296) : DL w a1 u qq (q - 1) (.int .u64 ((q : Int) - 1)) (.int .u64 ((r : Int) + (a1 : Int))) w := by
 obtain ⟨g,rfl⟩ : ∃ g,q = g + 1 := ⟨q - 1,by omega⟩
 rw [Nat.add_mul,Nat.one_mul] at hq
 exact ⟨rfl,r + a1,by rw [Nat.add_sub_cancel];congr 1;omega,rfl,by rw [Nat.add_sub_cancel];omega,hr,by omega⟩
theorem DL.val {qq q : Nat} (h : qq < q) (hx : q - 1 = qq) : (Value.int .u64 ((q : Int) - 1)) = .int .u64 (qq : Int) := by
 congr 1;omega
set_option maxRecDepth 100000 in
set_option maxHeartbeats 2000000 in
theorem div64_big (hi lo y : Nat) (w : World) (h1 : hi < y) (h2 : lo < B64) (hy : y < B64) (h0 : 0 < hi) :
 Calls Tryz.prog 188 #[.int .u64 (hi : Int),.int .u64 (lo : Int),.int .u64 (y : Int)] w fun e w' => e = .returned (.tuple #[.int .u64 (divQ hi lo y : Int),.int .u64 (divR hi lo y : Int)]) ∧ w = w' := by
 have k1 : ((y : Int) == 0) = false := by rw [beq_eq_false_iff_ne];omega
 have k2 : ¬ (y : Int) ≤ (hi : Int) := by omega
 have k3 : ((hi : Int) == 0) = false := by rw [beq_eq_false_iff_ne];omega
 obtain ⟨s,hs⟩ : ∃ s,s = 64 - Lib.bitLen y := ⟨_,rfl⟩
 have hlz := lz_any y hy w
 rw [← hs] at hlz
 rw [B64_eq] at h2 hy
 obtain ⟨s63,ylt,yge⟩ := norm_spec hy (by omega) hs
 have hs64 : s ≤ 64 := by omega
 -- the numbers of the text
 obtain ⟨y1,hy1⟩ : ∃ n,n = y * 2 ^ s := ⟨_,rfl⟩
 obtain ⟨u,hu⟩ : ∃ n,n = hi * 2 ^ s + lo / 2 ^ (64 - s) := ⟨_,rfl⟩
 obtain ⟨v,hv⟩ : ∃ n,n = lo * 2 ^ s % 18446744073709551616 := ⟨_,rfl⟩
 have hX := shl_two (hi := hi) (lo := lo) hs64
 rw [← hu,← hv] at hX
 have hc := shr_lt h2 hs64
 have huy : u < y1 := by
  have := Nat.mul_le_mul_right (2 ^ s) (show hi + 1 ≤ y from h1)
  rw [Nat.add_mul,Nat.one_mul] at this
  omega
 rw [← hy1] at ylt yge
 have E1 : IntKind.u64.wrap ((y : Int) * 2 ^ s) = (y1 : Int) := by rw [wrap_shl,← hy1,Nat.mod_eq_of_lt ylt]
 have E2 : ((y1 : Nat) : Int) / 4294967296 = ((y1 / 4294967296 : Nat) : Int) := by omega
 have E3 : bits .and .u64 (y1 : Int) 4294967295 = ((y1 % 4294967296 : Nat) : Int) := by rw [and_low32 _ (by omega) (by omega)];omega
 have hu4 : hi * 2 ^ s + lo / 2 ^ (64 - s) < 18446744073709551616 := by rw [← hu];omega
 have hu5 : hi * 2 ^ s < 18446744073709551616 := Nat.lt_of_le_of_lt (Nat.le_add_right _ _) hu4
 have E4 : bits .or .u64 (IntKind.u64.wrap ((hi : Int) * 2 ^ s)) ((lo : Int) / 2 ^ (64 - s)) = (u : Int) := by
  rw [wrap_shl,Nat.mod_eq_of_lt hu5,div_nat,or_words hc hu4,← hu]
 have E5 : IntKind.u64.wrap ((lo : Int) * 2 ^ s) = (v : Int) := by rw [wrap_shl,← hv]
 have hvlt : v < 18446744073709551616 := by rw [hv];omega
 have E6 : ((v : Nat) : Int) / 4294967296 = ((v / 4294967296 : Nat) : Int) := by omega
 have E7 : bits .and .u64 (v : Int) 4294967295 = ((v % 4294967296 : Nat) : Int) := by rw [and_low32 _ (by omega) (by omega)];omega
 have HE := Lib.hid (And.intro E1 (And.intro E2 (And.intro E3 (And.intro E4 (And.intro E5 (And.intro E6 E7))))))
 have HX := Lib.hid (And.intro hX (And.intro hy1 hs))
 clear E1 E2 E3 E4 E5 E6 E7 hX hy1 hs hu hv hu4 hu5
 go_enter Tryz.func188,Tryz.ntmps188
 go_upto_region 15 with (refine hlz.mono ?_;rintro e w1 ⟨rfl,rfl⟩)
 obtain ⟨E1,E2,E3,E4,E5,E6,E7⟩ := HE.out
 rw [E1,E4,E5,E2,E3,E6,E7]
 clear E1 E2 E3 E4 E5 E6 E7 HE hlz
 -- the digits
 obtain ⟨a1,ha1⟩ : ∃ n,n = y1 / 4294967296 := ⟨_,rfl⟩
 obtain ⟨a0,ha0⟩ : ∃ n,n = y1 % 4294967296 := ⟨_,rfl⟩
 obtain ⟨v1,hv1⟩ : ∃ n,n = v / 4294967296 := ⟨_,rfl⟩
 obtain ⟨v0,hv0⟩ : ∃ n,n = v % 4294967296 := ⟨_,rfl⟩
 rw [← ha1,← ha0,← hv1,← hv0]
 have hy1' : y1 = a1 * b32 + a0 := by rw [b32_eq];omega
 have hv' : v = v1 * b32 + v0 := by rw [b32_eq];omega
 have a1lo : 2147483648 ≤ a1 := by omega
 have a1hi : a1 < 4294967296 := by omega
 have a0hi : a0 < 4294967296 := by omega
 have v1hi : v1 < 4294967296 := by omega
 have v0hi : v0 < 4294967296 := by omega
 have HD := Lib.hid (And.intro hy1' hv')
 clear ha1 ha0 hv1 hv0 hy1' hv'
 have za1 : ¬ ((a1 : Nat) : Int) = 0 := by omega
 have uhi : u < 18446744073709551616 := by omega
 obtain ⟨q0,hq0⟩ : ∃ n,n = u / a1 := ⟨_,rfl⟩
 obtain ⟨r0,hr0⟩ : ∃ n,n = u % a1 := ⟨_,rfl⟩
 have hqr : q0 * a1 + r0 = u := by rw [hq0,hr0,Nat.mul_comm];exact Nat.div_add_mod u a1
 have hr0lt : r0 < a1 := by rw [hr0];exact Nat.mod_lt _ (by omega)
 have q0hi : q0 * a1 < 18446744073709551616 := by omega
 have q0hi' : q0 < 18446744073709551616 := by rw [hq0];exact Nat.lt_of_le_of_lt (Nat.div_le_self _ _) uhi
 have E8 : IntKind.u64.wrap ((u : Int) / (a1 : Int)) = (q0 : Int) := by rw [← Int.natCast_ediv,← hq0];exact wrapU q0hi'
 have E9 : IntKind.u64.wrap ((u : Int) - IntKind.u64.wrap ((q0 : Int) * (a1 : Int))) = (r0 : Int) := by
  rw [← Int.natCast_mul,wrapU (x := q0 * a1) q0hi,show (u : Int) - ((q0 * a1 : Nat) : Int) = (r0 : Int) by omega];exact wrapU (by rw [B64_eq];omega)
 have HE := Lib.hid (And.intro E8 E9)
 have HQ := Lib.hid (And.intro hq0 hqr)
 clear E8 E9 hq0 hr0 hqr
 go_upto_block 0 with fail
 obtain ⟨E8,E9⟩ := HE.out
 rw [E8,E9]
 clear E8 E9 HE
 obtain ⟨qq,hqq⟩ : ∃ n,n = (u * b32 + v1) / y1 := ⟨_,rfl⟩
 obtain ⟨rr,hrr⟩ : ∃ n,n = (u * b32 + v1) % y1 := ⟨_,rfl⟩
 have hqqb : qq < b32 := by rw [hqq];exact dig_lt (by omega) huy (by rw [b32_eq];exact v1hi)
 have HQ1 := Lib.hid (And.intro hqq hrr)
 clear hqq hrr
 have hqq0 : qq ≤ q0 := by
  have h := qhat_ge (P := b32) (l := u * b32 + v1) (o := y1) (t := u) (top := a1) (by rw [b32_eq] at *;omega) (by have := HD.out.1;omega) (by omega)
  have e1 := HQ1.out.1
  have e2 := HQ.out.1
  omega
 have HB := Lib.hid (show 0 < y1 ∧ u < y1 ∧ b32 ≤ 2 * a1 ∧ a0 < b32 ∧ qq < b32 from ⟨by omega,huy,by rw [b32_eq];omega,by rw [b32_eq];exact a0hi,hqqb⟩)
 have HY1 := Lib.hid (show (y1 : Int) < 18446744073709551616 by omega)
 have ha' : (a1 : Int) ≤ 4294967295 := by omega
 have hv1' : (v1 : Int) ≤ 4294967295 := by omega
 have hv0' : (v0 : Int) ≤ 4294967295 := by omega
 have hr0' : r0 ≤ 4294967295 := by omega
 clear h1 h2 hy h0 yge ylt huy hvlt v1hi v0hi a1lo a1hi a0hi uhi hr0lt q0hi q0hi' hqqb
 go_cut [15,16] (fun a b wx => w = wx ∧ ∃ r : Nat,a = .int .u64 (qq : Int) ∧ b = .int .u64 (r : Int))
 case first =>
  go_wp2_with fail
  go_loopg [15,16] q0 (fun g a b wr => DL w a1 u qq g a b wr)
  case atStart => exact ⟨rfl,r0,rfl,rfl,HQ.out.2,by rw [b32_eq];omega,hqq0⟩
  case round =>
   obtain ⟨rfl,r,rfl,rfl,hq,hr,hle⟩ := hrel
   have facts : gk ≤ b32 + 1 ∧ (b32 ≤ gk → qq < gk) ∧ (r * b32 + v1 < gk * a0 → qq < gk) ∧ (gk * a0 ≤ r * b32 + v1 → gk = qq) ∧ (b32 ≤ r + a1 → qq < gk → gk - 1 = qq) := by
    obtain ⟨hy1,-⟩ := HD.out
    obtain ⟨e1,-⟩ := HQ1.out
    obtain ⟨y0,uy,a1h,a0h,qh⟩ := HB.out
    have hb := dl_bound (b := b32) (q := gk) (a1 := a1) (a0 := a0) hq (by rw [← hy1];exact uy) a0h a1h
    refine ⟨hb,fun h => Nat.lt_of_lt_of_le qh h,fun h => ?_,fun h => ?_,fun h1 h2 => ?_⟩
    · rw [e1]
      refine dig_go y0 ?_
      have := dig_le (b := b32) (y0 := a0) (u1 := v1) hq
      rw [← hy1] at this
      omega
    · rw [e1]
      refine dig_stop y0 (by rw [← e1];exact hle) ?_
      rw [hy1]
      exact (dig_le hq).2 h
    · rw [e1]
      refine dig_stop y0 (by rw [← e1];omega) ?_
      obtain ⟨g',rfl⟩ : ∃ g',gk = g' + 1 := ⟨gk - 1,by omega⟩
      rw [Nat.add_mul,Nat.one_mul] at hq
      exact dl_break hy1 (r := r + a1) (by rw [Nat.add_sub_cancel];omega) h1 (by omega) a0h
   obtain ⟨f1,f2,f3,f4,f5⟩ := facts
   rw [b32_eq] at hr f1
   have qb : (gk : Int) ≤ 4294967297 := by omega
   have hr' : (r : Int) ≤ 4294967295 := by omega
   have Hq := Lib.hid (And.intro hq (And.intro f2 (And.intro f3 (And.intro f4 f5))))
   clear hq hr f1 f2 f3 f4 f5
   by_cases hbig : 4294967296 ≤ gk
   · have hbig' : (4294967296 : Int) ≤ (gk : Int) := by omega
     have hlt : qq < gk := Hq.out.2.1 hbig
     clear hbig
     by_cases hbr : r + a1 < 4294967296
     · have hbr' : decide ((4294967296 : Int) ≤ (r : Int) + (a1 : Int)) = false := by simp;omega
       go_wp2_with fail
       go_roundg (gk - 1)
       case measure => omega
       case rel => exact DL.step hlt Hq.out.1 hbr
     · have hbr' : (4294967296 : Int) ≤ (r : Int) + (a1 : Int) := by omega
       have hex := Hq.out.2.2.2.2 (by rw [b32_eq];omega) hlt
       clear hbr
       have Hx := Lib.hid hex
       clear hex
       go_wp2_with fail
       go_meet
       exact ⟨rfl,r + a1,DL.val hlt Hx.out,rfl⟩
   · have hbig' : decide ((4294967296 : Int) ≤ (gk : Int)) = false := by simp;omega
     have gk32 : gk < 4294967296 := by omega
     have E10 : IntKind.u64.wrap ((gk : Int) * (a0 : Int)) = (gk : Int) * (a0 : Int) := by
      rw [← Int.natCast_mul]
      exact wrapU (by
       have := Nat.mul_lt_mul'' gk32 (show a0 < 4294967296 by have := HB.out.2.2.2.1;rw [b32_eq] at this;exact this)
       rw [B64_eq];omega)
     have E11 : IntKind.u64.wrap (4294967296 * (r : Int)) = 4294967296 * (r : Int) := by rw [IntKind.wrap_u64];omega
     have E12 : IntKind.u64.wrap (4294967296 * (r : Int) + (v1 : Int)) = 4294967296 * (r : Int) + (v1 : Int) := by rw [IntKind.wrap_u64];omega
     clear hbig gk32
     by_cases hgt : r * b32 + v1 < gk * a0
     · have hlt : qq < gk := Hq.out.2.2.1 hgt
       have hgt' : decide (4294967296 * (r : Int) + (v1 : Int) < (gk : Int) * (a0 : Int)) = true := by
        have h := Int.ofNat_lt.2 hgt
        rw [b32_eq] at h
        simp only [Int.natCast_add,Int.natCast_mul] at h
        rw [decide_eq_true_iff];omega
       clear hgt
       by_cases hbr : r + a1 < 4294967296
       · have hbr' : decide ((4294967296 : Int) ≤ (r : Int) + (a1 : Int)) = false := by simp;omega
         go_wp2_with fail
         go_roundg (gk - 1)
         case measure => omega
         case rel => exact DL.step hlt Hq.out.1 hbr
       · have hbr' : (4294967296 : Int) ≤ (r : Int) + (a1 : Int) := by omega
         have hex := Hq.out.2.2.2.2 (by rw [b32_eq];omega) hlt
         clear hbr
         have Hx := Lib.hid hex
         clear hex
         go_wp2_with fail
         go_meet
         exact ⟨rfl,r + a1,DL.val hlt Hx.out,rfl⟩
     · have hex := Hq.out.2.2.2.1 (by omega)
       have hgt' : decide (4294967296 * (r : Int) + (v1 : Int) < (gk : Int) * (a0 : Int)) = false := by
        have h := Int.ofNat_le.2 (Nat.le_of_not_lt hgt)
        rw [b32_eq] at h
        simp only [Int.natCast_add,Int.natCast_mul] at h
        rw [decide_eq_false_iff_not];omega
       have Hx := Lib.hid hex
       clear hgt hex
       go_wp2_with fail
       go_meet
       exact ⟨rfl,r,by rw [Hx.out],rfl⟩
 case rest =>
  obtain ⟨rfl,r,rfl,rfl⟩ := hcut
  obtain ⟨e1,e2⟩ := HQ1.out
  have hrr : qq * y1 + rr = u * b32 + v1 := by rw [e1,e2,Nat.mul_comm];exact Nat.div_add_mod _ _
  have rlt : rr < y1 := by rw [e2];exact Nat.mod_lt _ HB.out.1
  have E1 : IntKind.u64.wrap (IntKind.u64.wrap (IntKind.u64.wrap ((u : Int) * 4294967296) + (v1 : Int)) - IntKind.u64.wrap ((qq : Int) * (y1 : Int))) = (rr : Int) := by
   have h := congrArg (fun n : Nat => (n : Int)) hrr
   rw [b32_eq] at h
   simp only [Int.natCast_add,Int.natCast_mul] at h
   rw [IntKind.wrap_u64,IntKind.wrap_u64,IntKind.wrap_u64,IntKind.wrap_u64]
   have y1lt := HY1.out
   omega
  have HE := Lib.hid E1
  clear E1 e1 e2
  go_upto_region 22 with fail
  rw [HE.out]
  clear HE
  obtain ⟨p0,hp0⟩ : ∃ n,n = rr / a1 := ⟨_,rfl⟩
  obtain ⟨s0,hs0⟩ : ∃ n,n = rr % a1 := ⟨_,rfl⟩
  have a1pos : 0 < a1 := by omega
  have hps : p0 * a1 + s0 = rr := by rw [hp0,hs0,Nat.mul_comm];exact Nat.div_add_mod rr a1
  have hs0lt : s0 < a1 := by rw [hs0];exact Nat.mod_lt _ a1pos
  have y1lt := HY1.out
  have p0a : p0 * a1 < 18446744073709551616 := by omega
  have p0hi : p0 < 18446744073709551616 := by rw [hp0];exact Nat.lt_of_le_of_lt (Nat.div_le_self _ _) (by omega)
  have E8 : IntKind.u64.wrap ((rr : Int) / (a1 : Int)) = (p0 : Int) := by rw [← Int.natCast_ediv,← hp0];exact wrapU p0hi
  have E9 : IntKind.u64.wrap ((rr : Int) - IntKind.u64.wrap ((p0 : Int) * (a1 : Int))) = (s0 : Int) := by
   rw [← Int.natCast_mul,wrapU (x := p0 * a1) p0a,show (rr : Int) - ((p0 * a1 : Nat) : Int) = (s0 : Int) by omega];exact wrapU (by rw [B64_eq];omega)
  have HE := Lib.hid (And.intro E8 E9)
  have HP := Lib.hid hps
  obtain ⟨q2,hq2⟩ : ∃ n,n = (rr * b32 + v0) / y1 := ⟨_,rfl⟩
  obtain ⟨r2,hr2⟩ : ∃ n,n = (rr * b32 + v0) % y1 := ⟨_,rfl⟩
  have hq2b : q2 < b32 := by rw [hq2];exact dig_lt HB.out.1 rlt (by rw [b32_eq];omega)
  have hq20 : q2 ≤ p0 := by
   have h := qhat_ge (P := b32) (l := rr * b32 + v0) (o := y1) (t := rr) (top := a1) (by rw [b32_eq] at *;omega) (by have := HD.out.1;omega) a1pos
   omega
  have hs0' : s0 ≤ 4294967295 := by omega
  have HQ2 := Lib.hid (And.intro hq2 hr2)
  have HB2 := Lib.hid (show 0 < y1 ∧ rr < y1 ∧ b32 ≤ 2 * a1 ∧ a0 < b32 ∧ q2 < b32 from ⟨HB.out.1,rlt,HB.out.2.2.1,HB.out.2.2.2.1,hq2b⟩)
  have HR := Lib.hid (And.intro hrr rlt)
  clear E8 E9 hps hp0 hs0 hs0lt y1lt p0a p0hi hq2 hr2 hq2b hrr rlt
  go_upto_block 2 with fail
  obtain ⟨E8,E9⟩ := HE.out
  rw [E8,E9]
  clear E8 E9 HE
  go_cut [18,16] (fun a b wx => w = wx ∧ ∃ r : Nat,a = .int .u64 (q2 : Int) ∧ b = .int .u64 (r : Int))
  case first =>
   go_wp2_with fail
   go_loopg [18,16] p0 (fun g a b wr => DL w a1 rr q2 g a b wr)
   case atStart => exact ⟨rfl,s0,rfl,rfl,HP.out,by rw [b32_eq];omega,hq20⟩
   case round =>
    obtain ⟨rfl,r,rfl,rfl,hq,hr,hle⟩ := hrel
    have facts : gk ≤ b32 + 1 ∧ (b32 ≤ gk → q2 < gk) ∧ (r * b32 + v0 < gk * a0 → q2 < gk) ∧ (gk * a0 ≤ r * b32 + v0 → gk = q2) ∧ (b32 ≤ r + a1 → q2 < gk → gk - 1 = q2) := by
     obtain ⟨hy1,-⟩ := HD.out
     obtain ⟨e1,-⟩ := HQ2.out
     obtain ⟨y0,uy,a1h,a0h,qh⟩ := HB2.out
     have hb := dl_bound (b := b32) (q := gk) (a1 := a1) (a0 := a0) hq (by rw [← hy1];exact uy) a0h a1h
     refine ⟨hb,fun h => Nat.lt_of_lt_of_le qh h,fun h => ?_,fun h => ?_,fun h1 h2 => ?_⟩
     · rw [e1]
       refine dig_go y0 ?_
       have := dig_le (b := b32) (y0 := a0) (u1 := v0) hq
       rw [← hy1] at this
       omega
     · rw [e1]
       refine dig_stop y0 (by rw [← e1];exact hle) ?_
       rw [hy1]
       exact (dig_le hq).2 h
     · rw [e1]
       refine dig_stop y0 (by rw [← e1];omega) ?_
       obtain ⟨g',rfl⟩ : ∃ g',gk = g' + 1 := ⟨gk - 1,by omega⟩
       rw [Nat.add_mul,Nat.one_mul] at hq
       exact dl_break hy1 (r := r + a1) (by rw [Nat.add_sub_cancel];omega) h1 (by omega) a0h
    obtain ⟨f1,f2,f3,f4,f5⟩ := facts
    rw [b32_eq] at hr f1
    have qb : (gk : Int) ≤ 4294967297 := by omega
    have hr' : (r : Int) ≤ 4294967295 := by omega
    have Hq := Lib.hid (And.intro hq (And.intro f2 (And.intro f3 (And.intro f4 f5))))
    clear hq hr f1 f2 f3 f4 f5
    by_cases hbig : 4294967296 ≤ gk
    · have hbig' : (4294967296 : Int) ≤ (gk : Int) := by omega
      have hlt : q2 < gk := Hq.out.2.1 hbig
      clear hbig
      by_cases hbr : r + a1 < 4294967296
      · have hbr' : decide ((4294967296 : Int) ≤ (r : Int) + (a1 : Int)) = false := by simp;omega
        go_wp2_with fail
        go_roundg (gk - 1)
        case measure => omega
        case rel => exact DL.step hlt Hq.out.1 hbr
      · have hbr' : (4294967296 : Int) ≤ (r : Int) + (a1 : Int) := by omega
        have hex := Hq.out.2.2.2.2 (by rw [b32_eq];omega) hlt
        clear hbr
        have Hx := Lib.hid hex
        clear hex
        go_wp2_with fail
        go_meet
        exact ⟨rfl,r + a1,DL.val hlt Hx.out,rfl⟩
    · have hbig' : decide ((4294967296 : Int) ≤ (gk : Int)) = false := by simp;omega
      have gk32 : gk < 4294967296 := by omega
      have E10 : IntKind.u64.wrap ((gk : Int) * (a0 : Int)) = (gk : Int) * (a0 : Int) := by
       rw [← Int.natCast_mul]
       exact wrapU (by
        have := Nat.mul_lt_mul'' gk32 (show a0 < 4294967296 by have := HB2.out.2.2.2.1;rw [b32_eq] at this;exact this)
        rw [B64_eq];omega)
      have E11 : IntKind.u64.wrap (4294967296 * (r : Int)) = 4294967296 * (r : Int) := by rw [IntKind.wrap_u64];omega
      have E12 : IntKind.u64.wrap (4294967296 * (r : Int) + (v0 : Int)) = 4294967296 * (r : Int) + (v0 : Int) := by rw [IntKind.wrap_u64];omega
      clear hbig gk32
      by_cases hgt : r * b32 + v0 < gk * a0
      · have hlt : q2 < gk := Hq.out.2.2.1 hgt
        have hgt' : decide (4294967296 * (r : Int) + (v0 : Int) < (gk : Int) * (a0 : Int)) = true := by
         have h := Int.ofNat_lt.2 hgt
         rw [b32_eq] at h
         simp only [Int.natCast_add,Int.natCast_mul] at h
         rw [decide_eq_true_iff];omega
        clear hgt
        by_cases hbr : r + a1 < 4294967296
        · have hbr' : decide ((4294967296 : Int) ≤ (r : Int) + (a1 : Int)) = false := by simp;omega
          go_wp2_with fail
          go_roundg (gk - 1)
          case measure => omega
          case rel => exact DL.step hlt Hq.out.1 hbr
        · have hbr' : (4294967296 : Int) ≤ (r : Int) + (a1 : Int) := by omega
          have hex := Hq.out.2.2.2.2 (by rw [b32_eq];omega) hlt
          clear hbr
          have Hx := Lib.hid hex
          clear hex
          go_wp2_with fail
          go_meet
          exact ⟨rfl,r + a1,DL.val hlt Hx.out,rfl⟩
      · have hex := Hq.out.2.2.2.1 (by omega)
        have hgt' : decide (4294967296 * (r : Int) + (v0 : Int) < (gk : Int) * (a0 : Int)) = false := by
         have h := Int.ofNat_le.2 (Nat.le_of_not_lt hgt)
         rw [b32_eq] at h
         simp only [Int.natCast_add,Int.natCast_mul] at h
         rw [decide_eq_false_iff_not];omega
        have Hx := Lib.hid hex
        clear hgt hex
        go_wp2_with fail
        go_meet
        exact ⟨rfl,r,by rw [Hx.out],rfl⟩
  case rest =>
   obtain ⟨rfl,r',rfl,rfl⟩ := hcut
   have HF : IntKind.u64.wrap (IntKind.u64.wrap ((qq : Int) * 4294967296) + (q2 : Int)) = (divQ hi lo y : Int) ∧
    IntKind.u64.wrap (IntKind.u64.wrap (IntKind.u64.wrap ((rr : Int) * 4294967296) + (v0 : Int)) - IntKind.u64.wrap ((q2 : Int) * (y1 : Int))) / 2 ^ s = (divR hi lo y : Int) := by
    obtain ⟨hX,hy1,-⟩ := HX.out
    obtain ⟨-,hv⟩ := HD.out
    obtain ⟨e1,e2⟩ := HQ1.out
    obtain ⟨f1,f2⟩ := HQ2.out
    obtain ⟨y0,-,-,-,qb⟩ := HB.out
    obtain ⟨-,-,-,-,q2b⟩ := HB2.out
    have y1lt := HY1.out
    have hp : 0 < 2 ^ s := Nat.pow_pos (by omega)
    have hd := two_digits (b := b32) (y := y1) (u := u) (u1 := v1) (u0 := v0) y0
    rw [← e1,← e2,← f1,← f2,← hv,show b32 * b32 = 18446744073709551616 by decide,← hX,hy1,Nat.mul_div_mul_right _ _ hp,Nat.mul_mod_mul_right] at hd
    have hr2 : q2 * y1 + r2 = rr * b32 + v0 := by rw [f1,f2,Nat.mul_comm];exact Nat.div_add_mod _ _
    have r2lt : r2 < y1 := by rw [f2];exact Nat.mod_lt _ y0
    constructor
    · show _ = (((hi * 18446744073709551616 + lo) / y : Nat) : Int)
      rw [← hd.1,IntKind.wrap_u64,IntKind.wrap_u64]
      rw [b32_eq] at *
      omega
    · show _ = (((hi * 18446744073709551616 + lo) % y : Nat) : Int)
      have E : IntKind.u64.wrap (IntKind.u64.wrap (IntKind.u64.wrap ((rr : Int) * 4294967296) + (v0 : Int)) - IntKind.u64.wrap ((q2 : Int) * (y1 : Int))) = (r2 : Int) := by
       have h := congrArg (fun n : Nat => (n : Int)) hr2
       rw [b32_eq] at h
       simp only [Int.natCast_add,Int.natCast_mul] at h
       rw [IntKind.wrap_u64,IntKind.wrap_u64,IntKind.wrap_u64,IntKind.wrap_u64]
       omega
      rw [E,div_nat,hd.2,Nat.mul_div_cancel _ hp]
   obtain ⟨HF1,HF2⟩ := HF
   go_wp2_with fail
   go_ret2
   exact ⟨rfl,rfl⟩
set_option maxRecDepth 100000 in
set_option maxHeartbeats 1000000 in
theorem div64_any (hi lo y : Nat) (w : World) (h1 : hi < y) (h2 : lo < B64) (hy : y < B64) :
 Calls Tryz.prog 188 #[.int .u64 (hi : Int),.int .u64 (lo : Int),.int .u64 (y : Int)] w fun e w' => e = .returned (.tuple #[.int .u64 (divQ hi lo y : Int),.int .u64 (divR hi lo y : Int)]) ∧ ∃ d,w' = w.drewN d := by
 rcases Nat.eq_zero_or_pos hi with rfl | h0
 · have k1 : ((y : Int) == 0) = false := by rw [beq_eq_false_iff_ne];omega
   have k2 : ¬ (y : Int) ≤ 0 := by omega
   have k4 : ¬ ((y : Int) = 0) := by omega
   have e1 : IntKind.u64.wrap ((lo : Int) / (y : Int)) = (divQ 0 lo y : Int) := by
    unfold divQ;rw [Nat.zero_mul,Nat.zero_add,← Int.natCast_ediv];exact wrapU (Nat.lt_of_le_of_lt (Nat.div_le_self _ _) h2)
   have e2 : (lo : Int) % (y : Int) = (divR 0 lo y : Int) := by unfold divR;rw [Nat.zero_mul,Nat.zero_add];simp
   go_enter Tryz.func188,Tryz.ntmps188
   go_wp2_with fail
   go_quiet (fail)
   go_wp2
   go_ret2
   refine ⟨?_,_,rfl⟩
   show Ending.returned (.tuple #[.int .u64 (divQ 0 lo y : Int),.int .u64 ((lo : Int) % (y : Int))]) = _
   rw [e2]
 · refine (div64_big hi lo y w h1 h2 hy h0).mono ?_
   rintro e w' ⟨he,rfl⟩
   exact ⟨he,0,rfl⟩
end Go.Proofs.YtlfgpmnjnpdkdaaGreatDoor
namespace Go.Proofs.YtlfgpmnjnpdkdaaGreatDoor
open Go.RowKit Vd
theorem div_spec {hi lo y : Nat} (h : hi < y) (hlo : lo < B64) : hi * B64 + lo = divQ hi lo y * y + divR hi lo y ∧ divR hi lo y < y ∧ divQ hi lo y < B64 := by
 have h0 : 0 < y := by omega
 refine ⟨?_,Nat.mod_lt _ h0,?_⟩
 · unfold divQ divR
   have h := Nat.div_add_mod (hi * B64 + lo) y
   rw [Nat.mul_comm ((hi * B64 + lo) / y) y]
   exact h.symm
 · unfold divQ
   rw [Nat.div_lt_iff_lt_mul h0]
   have := Nat.mul_le_mul_right B64 (show hi + 1 ≤ y from h)
   rw [Nat.add_mul,Nat.one_mul] at this
   rw [Nat.mul_comm B64 y]
   omega
set_option maxRecDepth 100000 in
set_option maxHeartbeats 1000000 in
theorem divWord_core (A : Option Addr) (n c : Nat) (xs : List Nat) (o : Nat) (w : World) (hx : Sl w U A n xs) (ox : Ok B64 xs) (hn : n ≤ maxW) (ho : 0 < o) (ho2 : o < B64) :
 Calls Tryz.prog 159 #[.slice A n c,.int .u64 (o : Int)] w fun e w' => ∃ v,e = .returned (.tuple #[v,.int .u64 ((val B64 xs % o : Nat) : Int)]) ∧ MagV w' v (val B64 xs / o) ∧ Below w.heap.size w w' := by
 have hn' := hn
 unfold maxW at hn'
 have hmk := fun W => mkU n (by unfold maxW;omega) W
 have HX := Lib.hid hx.len
 go_enter Tryz.func159,Tryz.ntmps159
 go_wp2
 go_loopg [5,6] n (fun k r i wr => ∃ (rest : Nat) (zs : List Nat),k ≤ n ∧ i = .int .i64 ((k : Int) - 1) ∧ r = .int .u64 (rest : Int) ∧ rest < o ∧ zs.length = n ∧ Ok B64 zs ∧ Row wr U w.heap.size 139 zs ∧
  val B64 (xs.drop k) = val B64 (zs.drop k) * o + rest ∧ Below w.heap.size w wr)
 case atStart => exact ⟨0,List.replicate n 0,Nat.le_refl _,rfl,rfl,ho,by simp,Ok.rep two_le_B _,Row.newRep w U _ _,by rw [List.drop_eq_nil_of_le (by rw [HX.out];omega),List.drop_eq_nil_of_le (by simp)];simp,(Below.refl _ _).alloc (Nat.le_refl _) _⟩
 case round =>
  obtain ⟨rest,zs,hk,rfl,rfl,hr,hls,oz,hrow,hval,hbel⟩ := hrel
  cases gk with
  | zero =>
    rw [show (((0 : Nat) : Int) - 1) = -1 from rfl]
    simp only [List.drop_zero] at hval
    have ht := trim_mag (some ⟨w.heap.size,0,none⟩) n n zs _ (by have := hrow.sl0;rw [hls] at this;exact this) oz (by omega) (by omega)
    have e1 : val B64 zs = val B64 xs / o := by rw [hval,Nat.mul_comm,Nat.mul_add_div ho,Nat.div_eq_of_lt hr];simp
    have e2 : rest = val B64 xs % o := by rw [hval,Nat.mul_comm,Nat.mul_add_mod];exact (Nat.mod_eq_of_lt hr).symm
    rw [e1] at ht
    have H2 := Lib.hid e2
    clear hval hls hx e1 e2 hmk
    go_wp2_with (refine ht.mono ?_;rintro e w1 ⟨v,rfl,hm,rfl⟩)
    go_ret2
    exact ⟨v,by rw [← H2.out];rfl,hm,hbel⟩
  | succ j =>
    rw [show (((j + 1 : Nat) : Int) - 1) = (j : Int) from by omega]
    obtain ⟨g,o2,rfl,hg,hcell⟩ := hx.at_ (by omega)
    have hcx := (hbel.cell (p := ⟨g,o2 + j,none⟩) hg).trans (hcell j (by omega))
    have hcs := hrow.cell (i := j) (by omega)
    have hfs := hrow.frozen j
    unfold U at hcx hcs
    have hj : (j : Int) < (n : Int) := by omega
    have hj0 : (0 : Int) ≤ (j : Int) := by omega
    have hx1 := ox.get two_le_B j
    obtain ⟨d1,d2,d3⟩ := div_spec (y := o) hr hx1
    have Hv := Lib.hid (And.intro hval (And.intro hls d1))
    have hcall := div64_any rest (nth xs j) o wr hr hx1 ho2
    clear hval hls d1 hx hcell hmk
    go_wp2_with (refine hcall.mono ?_;rintro e w1 ⟨rfl,d,rfl⟩)
    go_roundg j
    case measure => omega
    case rel =>
     obtain ⟨hval,hls,d1⟩ := Hv.out
     refine ⟨divR rest (nth xs j) o,zs.set j (divQ rest (nth xs j) o),by omega,rfl,rfl,d2,by rw [List.length_set];exact hls,oz.set d3,(hrow.drewN _).set j _,?_,(below_drewN hbel d).setCell (Nat.le_refl _) _⟩
     rw [drop_set_self (by omega),val_cons,val_drop_step (by rw [HX.out];omega)]
     exact divw_step _ _ _ _ _ _ _ _ hval d1
theorem divWord_any (v : Value) (m o : Nat) (w : World) (h1 : MagV w v m) (b1 : wlen B64 m ≤ maxW) (ho : 0 < o) (ho2 : o < B64) :
 Calls Tryz.prog 159 #[v,.int .u64 (o : Int)] w fun e w' => ∃ v,e = .returned (.tuple #[v,.int .u64 ((m % o : Nat) : Int)]) ∧ MagV w' v (m / o) ∧ Below w.heap.size w w' := by
 obtain ⟨A1,c1,rfl,_,s1⟩ := h1.ok_len
 refine (divWord_core A1 _ c1 _ o w s1 (ok_ws _) b1 ho ho2).mono ?_
 rintro e w' ⟨v,he,hm,hb⟩
 rw [val_ws two_le_B] at hm he
 exact ⟨v,he,hm,hb⟩
end Go.Proofs.YtlfgpmnjnpdkdaaGreatDoor
namespace Go.Proofs.YtlfgpmnjnpdkdaaGreatDoor
open Go.RowKit Vd
theorem top_step (B P S t O A a x c q q' : Nat) (h : S + t * O = A + (q + c) * P) (e : x + c + q = a + B * q') : (S + x * P) + t * O = (A + a * P) + q' * (P * B) := by grind
theorem am2_eq (v t c : Nat) : addLo (mulLo v t) c 0 + B64 * (mulHi v t + addHi (mulLo v t) c 0) = v * t + c := by
 have h1 := mul_eq v t
 have h2 := add_eq (mulLo v t) c 0
 rw [Nat.mul_add];omega
theorem sl_at_grown {w wr : World} {A : Option Addr} {n : Nat} {ys : List Nat} {g : Nat} (hy : Sl w U A n ys) (hg : w.grownBy wr (some g)) (hfar : ∀ g2 o2,A = some ⟨g2,o2,none⟩ → 0 < n → g2 ≠ g) {k : Nat} (hk : k < n) :
 ∃ g2 o2,A = some ⟨g2,o2,none⟩ ∧ wr.cell? ⟨g2,o2 + k,none⟩ = some (U (nth ys k)) := by
 obtain ⟨g2,o2,e,hlt,hc⟩ := hy.at_ (by omega)
 refine ⟨g2,o2,e,?_⟩
 rw [World.cell?_of_block (w := w) (hg.block g2 hlt (fun e2 => hfar g2 o2 e (by omega) (by injection e2)))]
 exact hc k hk
set_option maxRecDepth 100000 in
set_option maxHeartbeats 1000000 in
theorem takeMultiple_any (g c : Nat) (A2 : Option Addr) (c2 n : Nat) (pre L post ys : List Nat) (t : Nat) (w : World) (hr : Row w U g 139 (pre ++ (L ++ post))) (hy : Sl w U A2 n ys) (hfar : ∀ g2 o2,A2 = some ⟨g2,o2,none⟩ → 0 < n → g2 ≠ g) (hL : L.length = n + 1) (ox : Ok B64 L) (oy : Ok B64 ys) (ht : t < B64) (hb : n ≤ maxW) :
 Calls Tryz.prog 201 #[.slice (some ⟨g,pre.length,none⟩) (n + 1) c,.slice A2 n c2,.int .u64 (t : Int)] w fun e w' =>
  ∃ (zs : List Nat) (bb : Nat),e = .returned (.bool ((bb : Int) == 1)) ∧ bb ≤ 1 ∧ zs.length = n + 1 ∧ Ok B64 zs ∧ Row w' U g 139 (pre ++ (zs ++ post)) ∧ w.grownBy w' (some g) ∧
    val B64 zs + t * val B64 ys = val B64 L + bb * B64 ^ (n + 1) := by
 unfold maxW at hb
 have HY := Lib.hid hy.len
 obtain ⟨p,hp⟩ : ∃ p,p = pre.length := ⟨_,rfl⟩
 rw [← hp]
 have HP := Lib.hid hp
 have HL := Lib.hid hL
 clear hp hL
 go_enter Tryz.func201,Tryz.ntmps201
 go_wp2
 go_loopg [7,8,16] n (fun j c b i wr => ∃ (k cc bb : Nat) (zs : List Nat),k ≤ n ∧ j = n - k ∧ i = .int .i64 k ∧ c = .int .u64 cc ∧ b = .int .u64 bb ∧ cc < B64 ∧ bb ≤ 1 ∧ zs.length = n + 1 ∧ Ok B64 zs ∧ Row wr U g 139 (pre ++ (zs ++ post)) ∧ w.grownBy wr (some g) ∧ zs.drop k = L.drop k ∧
  val B64 (zs.take k) + t * val B64 (ys.take k) = val B64 (L.take k) + (bb + cc) * B64 ^ k)
 case atStart => exact ⟨0,0,0,L,Nat.zero_le _,rfl,rfl,rfl,rfl,by decide,by omega,HL.out,ox,hr,World.grownBy.refl _ _,rfl,by simp⟩
 case round =>
  obtain ⟨k,cc,bb,zs,hk,rfl,rfl,rfl,rfl,hcc,hbb,hls,oz,hrow,hg,hdr,hval⟩ := hrel
  have hx1 := ox.get two_le_B k
  have hy1 := oy.get two_le_B k
  by_cases hlt : k < n
  · obtain ⟨g2,o2,rfl,hcy⟩ := sl_at_grown hy hg hfar hlt
    have hcs := hrow.cell (i := p + k) (by rw [HP.out];simp;omega)
    have hfs := hrow.frozen (p + k)
    rw [HP.out,nth_mid _ _ _ _ (by omega),← HP.out,nth_of_drop hdr] at hcs
    unfold U at hcy hcs
    have hlt' : (k : Int) < (n : Int) := by omega
    have hkn : (k : Int) < (n : Int) + 1 := by omega
    have Hv := Lib.hid (And.intro hval (And.intro hls hdr))
    clear hval hls hdr hy hfar hr
    go_wp2_with fail
    refine (mul64_any _ _ hy1 ht wr).mono ?_
    rintro e w1 ⟨rfl,rfl⟩
    go_wp2_with (first | simp only [add64_run0] | simp only [sub64_run _ _ _ hbb])
    have hs1 := amHigh_lt (s := cc) (c := 0) hcc hy1 ht (by decide)
    rw [wrapU2 hs1.2]
    obtain ⟨hval,hls,hdr⟩ := Hv.out
    have he := am2_eq (nth ys k) t cc
    have hf := sub_eq (x := nth L k) (y := addLo (mulLo (nth ys k) t) cc 0) (b := bb) hx1 (addLo_lt _ _ _) hbb
    have hset := hrow.set (p + k) (subLo (nth L k) (addLo (mulLo (nth ys k) t) cc 0) bb)
    rw [HP.out,set_mid _ _ _ _ _ (by omega),← HP.out] at hset
    go_roundg (n - (k + 1))
    case measure => omega
    case rel =>
     refine ⟨k + 1,_,_,zs.set k (subLo (nth L k) (addLo (mulLo (nth ys k) t) cc 0) bb),by omega,rfl,by go_num,rfl,rfl,hs1.2,subHi_le _ _ _,by rw [List.length_set];exact hls,oz.set (subLo_lt _ _ _),hset,og_setCell hg _ _,by rw [drop_set_succ];exact drop_succ_of hdr,?_⟩
     rw [val_take_set _ _ _ (by omega),val_take_succ,val_take_succ,Nat.pow_succ]
     exact submul_step _ _ _ _ _ _ _ _ _ _ _ _ _ hval _ he hf
  · obtain rfl : k = n := by omega
    have hcs := hrow.cell (i := p + k) (by rw [HP.out];simp;omega)
    have hfs := hrow.frozen (p + k)
    rw [HP.out,nth_mid _ _ _ _ (by omega),← HP.out,nth_of_drop hdr] at hcs
    unfold U at hcs
    have hkn : (k : Int) < (k : Int) + 1 := by omega
    have hset := hrow.set (p + k) (subLo (nth L k) cc bb)
    rw [HP.out,set_mid _ _ _ _ _ (by omega),← HP.out] at hset
    have Hv := Lib.hid (And.intro hval (And.intro hls hdr))
    clear hval hls hdr hy hfar hr
    go_wp2_with (first | simp only [sub64_run _ _ _ hbb])
    go_ret
    obtain ⟨hval,hls,hdr⟩ := Hv.out
    refine ⟨zs.set k (subLo (nth L k) cc bb),subHi (nth L k) cc bb,rfl,subHi_le _ _ _,by rw [List.length_set];exact hls,oz.set (subLo_lt _ _ _),hset,og_setCell hg _ _,?_⟩
    have e1 := val_take_set (b := B64) zs k (subLo (nth L k) cc bb) (by omega)
    rw [List.take_of_length_le (by rw [List.length_set];omega)] at e1
    have e2 := val_take_succ (b := B64) L k
    rw [List.take_of_length_le (by rw [HL.out];omega)] at e2
    rw [e1,e2,Nat.pow_succ]
    rw [List.take_of_length_le (l := ys) (by rw [HY.out];omega)] at hval
    exact top_step _ _ _ _ _ _ _ _ _ _ _ hval (sub_eq hx1 hcc hbb)
set_option maxRecDepth 100000 in
set_option maxHeartbeats 1000000 in
theorem putBack_any (g c : Nat) (A2 : Option Addr) (c2 n : Nat) (pre L post ys : List Nat) (w : World) (hr : Row w U g 139 (pre ++ (L ++ post))) (hy : Sl w U A2 n ys) (hfar : ∀ g2 o2,A2 = some ⟨g2,o2,none⟩ → 0 < n → g2 ≠ g) (hL : L.length = n + 1) (ox : Ok B64 L) (oy : Ok B64 ys) (hb : n ≤ maxW) :
 Calls Tryz.prog 202 #[.slice (some ⟨g,pre.length,none⟩) (n + 1) c,.slice A2 n c2] w fun e w' =>
  ∃ (zs : List Nat) (bb : Nat),e = .returned (.bool ((bb : Int) == 1)) ∧ bb ≤ 1 ∧ zs.length = n + 1 ∧ Ok B64 zs ∧ Row w' U g 139 (pre ++ (zs ++ post)) ∧ w.grownBy w' (some g) ∧
    val B64 zs + bb * B64 ^ (n + 1) = val B64 L + val B64 ys := by
 unfold maxW at hb
 have HY := Lib.hid hy.len
 obtain ⟨p,hp⟩ : ∃ p,p = pre.length := ⟨_,rfl⟩
 rw [← hp]
 have HP := Lib.hid hp
 have HL := Lib.hid hL
 clear hp hL
 go_enter Tryz.func202,Tryz.ntmps202
 go_wp2
 go_loopg [5,10] n (fun j c i wr => ∃ (k cc : Nat) (zs : List Nat),k ≤ n ∧ j = n - k ∧ i = .int .i64 k ∧ c = .int .u64 cc ∧ cc ≤ 1 ∧ zs.length = n + 1 ∧ Ok B64 zs ∧ Row wr U g 139 (pre ++ (zs ++ post)) ∧ w.grownBy wr (some g) ∧ zs.drop k = L.drop k ∧
  val B64 (zs.take k) + cc * B64 ^ k = val B64 (L.take k) + val B64 (ys.take k))
 case atStart => exact ⟨0,0,L,Nat.zero_le _,rfl,rfl,rfl,by omega,HL.out,ox,hr,World.grownBy.refl _ _,rfl,by simp⟩
 case round =>
  obtain ⟨k,cc,zs,hk,rfl,rfl,rfl,hcc,hls,oz,hrow,hg,hdr,hval⟩ := hrel
  have hx1 := ox.get two_le_B k
  have hy1 := oy.get two_le_B k
  by_cases hlt : k < n
  · obtain ⟨g2,o2,rfl,hcy⟩ := sl_at_grown hy hg hfar hlt
    have hcs := hrow.cell (i := p + k) (by rw [HP.out];simp;omega)
    have hfs := hrow.frozen (p + k)
    rw [HP.out,nth_mid _ _ _ _ (by omega),← HP.out,nth_of_drop hdr] at hcs
    unfold U at hcy hcs
    have hlt' : (k : Int) < (n : Int) := by omega
    have hkn : (k : Int) < (n : Int) + 1 := by omega
    have Hv := Lib.hid (And.intro hval (And.intro hls hdr))
    clear hval hls hdr hy hfar hr
    go_wp2_with (simp only [add64_run _ _ _ hcc])
    obtain ⟨hval,hls,hdr⟩ := Hv.out
    have hf := add_eq (nth L k) (nth ys k) cc
    have hset := hrow.set (p + k) (addLo (nth L k) (nth ys k) cc)
    rw [HP.out,set_mid _ _ _ _ _ (by omega),← HP.out] at hset
    go_roundg (n - (k + 1))
    case measure => omega
    case rel =>
     refine ⟨k + 1,_,zs.set k (addLo (nth L k) (nth ys k) cc),by omega,rfl,by go_num,rfl,addHi_le hx1 hy1 hcc,by rw [List.length_set];exact hls,oz.set (addLo_lt _ _ _),hset,og_setCell hg _ _,by rw [drop_set_succ];exact drop_succ_of hdr,?_⟩
     rw [val_take_set _ _ _ (by omega),val_take_succ,val_take_succ,Nat.pow_succ]
     exact carry_step _ _ _ _ _ _ _ _ _ _ hval hf
  · obtain rfl : k = n := by omega
    have hcs := hrow.cell (i := p + k) (by rw [HP.out];simp;omega)
    have hfs := hrow.frozen (p + k)
    rw [HP.out,nth_mid _ _ _ _ (by omega),← HP.out,nth_of_drop hdr] at hcs
    unfold U at hcs
    have hkn : (k : Int) < (k : Int) + 1 := by omega
    have hset := hrow.set (p + k) (addLo (nth L k) 0 cc)
    rw [HP.out,set_mid _ _ _ _ _ (by omega),← HP.out] at hset
    have Hv := Lib.hid (And.intro hval (And.intro hls hdr))
    have hadd := add64_run (nth L k) 0 cc hcc
    rw [show ((0 : Nat) : Int) = 0 from rfl] at hadd
    clear hval hls hdr hy hfar hr
    go_wp2_with (simp only [hadd])
    go_ret
    obtain ⟨hval,hls,hdr⟩ := Hv.out
    refine ⟨zs.set k (addLo (nth L k) 0 cc),addHi (nth L k) 0 cc,rfl,addHi_le hx1 (by decide) hcc,by rw [List.length_set];exact hls,oz.set (addLo_lt _ _ _),hset,og_setCell hg _ _,?_⟩
    have e1 := val_take_set (b := B64) zs k (addLo (nth L k) 0 cc) (by omega)
    rw [List.take_of_length_le (by rw [List.length_set];omega)] at e1
    have e2 := val_take_succ (b := B64) L k
    rw [List.take_of_length_le (by rw [HL.out];omega)] at e2
    rw [e1,e2,Nat.pow_succ]
    rw [List.take_of_length_le (l := ys) (by rw [HY.out];omega)] at hval
    have := carry_step B64 (B64 ^ k) (val B64 (zs.take k)) (val B64 (L.take k)) (val B64 ys) _ _ 0 _ _ hval (add_eq (nth L k) 0 cc)
    rw [this];simp
end Go.Proofs.YtlfgpmnjnpdkdaaGreatDoor
namespace Go.Proofs.YtlfgpmnjnpdkdaaGreatDoor
open Go.RowKit Vd
theorem qAddE {P : Program} {f : FuncId} {args : Array Value} {w : World} {a n : Nat} {v : Value} (h : Calls P f args (w.drewN (a + n)) fun e w' => e = .returned v ∧ ∃ d,w' = (w.drewN (a + n)).drewN d) :
 Calls P f args (w.drewN (a + n)) fun e w'' => e = .returned v ∧ ∃ m,w'' = w.drewN (a + m) :=
 h.mono fun _ _ ⟨he,d,hm⟩ => ⟨he,n + d,by rw [hm,World.drewN_drewN,Nat.add_assoc]⟩
def TM (X Y q : Nat) (M t : Nat) (zs : List Nat) (b : Value) : Prop :=
 q ≤ t ∧ ((b = .bool true ∧ val B64 zs + t * Y = X + M) ∨ (b = .bool false ∧ val B64 zs + t * Y = X))
theorem tm_start {X Y q M t bb : Nat} {zs : List Nat} (hq : q ≤ t) (hbb : bb ≤ 1) (h : val B64 zs + t * Y = X + bb * M) : TM X Y q M t zs (.bool ((bb : Int) == 1)) := by
 refine ⟨hq,?_⟩
 rcases (show bb = 0 ∨ bb = 1 by omega) with rfl | rfl
 · right;exact ⟨rfl,by simpa using h⟩
 · left;exact ⟨rfl,by simpa using h⟩
theorem tm_step {X Y M t bb : Nat} {zs zs' : List Nat} (hq : X / Y ≤ t) (hz : val B64 zs < M) (hY : 0 < Y) (h : val B64 zs + t * Y = X + M) (hbb : bb ≤ 1) (h2 : val B64 zs' + bb * M = val B64 zs + Y) :
 0 < t ∧ TM X Y (X / Y) M (t - 1) zs' (.bool (!((bb : Int) == 1))) := by
 have h3 : X < t * Y := by omega
 have h4 : X / Y < t := (Nat.div_lt_iff_lt_mul hY).2 h3
 have h5 := Nat.zero_le (X / Y)
 refine ⟨by omega,by omega,?_⟩
 obtain ⟨s,rfl⟩ : ∃ s,t = s + 1 := ⟨t - 1,by omega⟩
 rw [Nat.add_sub_cancel]
 rw [Nat.add_mul,Nat.one_mul] at h
 rcases (show bb = 0 ∨ bb = 1 by omega) with rfl | rfl
 · left;exact ⟨rfl,by omega⟩
 · right;exact ⟨rfl,by omega⟩
theorem tm_end {X Y t : Nat} {zs : List Nat} (hY : 0 < Y) (hq : X / Y ≤ t) (h : val B64 zs + t * Y = X) : t = X / Y ∧ val B64 zs = X % Y := by
 have h1 : t ≤ X / Y := (Nat.le_div_iff_mul_le hY).2 (by omega)
 have e : t = X / Y := by omega
 refine ⟨e,?_⟩
 have := Nat.div_add_mod X Y
 rw [← e,Nat.mul_comm] at this
 omega
set_option maxRecDepth 100000 in
set_option maxHeartbeats 1000000 in
theorem takeMultiples_any (g c : Nat) (A2 : Option Addr) (c2 m : Nat) (pre L post ys : List Nat) (w : World) (hr : Row w U g 139 (pre ++ (L ++ post))) (hy : Sl w U A2 (m + 1) ys) (hfar : ∀ g2 o2,A2 = some ⟨g2,o2,none⟩ → 0 < m + 1 → g2 ≠ g) (hL : L.length = m + 2) (ox : Ok B64 L) (oy : Ok B64 ys) (hb : m + 1 ≤ maxW) (htop : 0 < nth ys m) (hlt : val B64 L < val B64 ys * B64) :
 Calls Tryz.prog 181 #[.slice (some ⟨g,pre.length,none⟩) (m + 2) c,.slice A2 (m + 1) c2] w fun e w' =>
  ∃ (zs : List Nat),e = .returned (.int .u64 ((val B64 L / val B64 ys : Nat) : Int)) ∧ zs.length = m + 2 ∧ Ok B64 zs ∧ Row w' U g 139 (pre ++ (zs ++ post)) ∧ w.grownBy w' (some g) ∧ val B64 zs = val B64 L % val B64 ys := by
 have hb' := hb
 unfold maxW at hb
 -- the numbers
 obtain ⟨X,hX⟩ : ∃ X,X = val B64 L := ⟨_,rfl⟩
 obtain ⟨Y,hY⟩ : ∃ Y,Y = val B64 ys := ⟨_,rfl⟩
 have HYL := Lib.hid hy.len
 have eY : Y = val B64 (ys.take m) + nth ys m * B64 ^ m := by
  rw [hY]
  have := val_take_succ (b := B64) ys m
  rw [List.take_of_length_le (by rw [HYL.out];omega)] at this
  exact this
 have Ypos : 0 < Y := by
  have : 0 < nth ys m * B64 ^ m := Nat.mul_pos htop (Nat.pow_pos (by decide))
  omega
 have hQ : X / Y < B64 := by rw [Nat.div_lt_iff_lt_mul Ypos,Nat.mul_comm,hX,hY];exact hlt
 rw [← hX,← hY]
 -- the first guess
 have hx1 := ox.get two_le_B (m + 1)
 have hx2 := ox.get two_le_B m
 have hy1 := oy.get two_le_B m
 have hguess : nth L (m + 1) < nth ys m → X / Y ≤ divQ (nth L (m + 1)) (nth L m) (nth ys m) := by
  intro _
  have eX : X = val B64 (L.take m) + (nth L (m + 1) * B64 + nth L m) * B64 ^ m := by
   rw [hX]
   have h1 := val_take_succ (b := B64) L (m + 1)
   rw [List.take_of_length_le (by omega),val_take_succ,Nat.pow_succ] at h1
   rw [h1,Nat.add_mul,Nat.mul_assoc,Nat.mul_comm B64 (B64 ^ m)]
   omega
  have hlow := val_lt (ox.take m)
  rw [List.length_take,Nat.min_eq_left (by omega)] at hlow
  exact qhat_ge (P := B64 ^ m) (by rw [eX,Nat.add_mul (_ + _) 1,Nat.one_mul];omega) (by omega) htop
 have HP0 := Lib.hid (And.intro hX (And.intro hY (And.intro hL Ypos)))
 obtain ⟨p,hp⟩ : ∃ p,p = pre.length := ⟨_,rfl⟩
 have hc1 := hr.cell (i := p + (m + 1)) (by rw [hp];simp;omega)
 have hc0 := hr.cell (i := p + m) (by rw [hp];simp;omega)
 rw [hp,nth_mid _ _ _ _ (by omega),← hp] at hc1 hc0
 obtain ⟨g2,o2,rfl,hg2,hcy'⟩ := hy.at_ (by omega)
 have hcy := hcy' m (by omega)
 clear hcy'
 unfold U at hc1 hc0 hcy
 have hc1b := hc1
 rw [← Nat.add_assoc] at hc1b
 clear eY hX hY hL
 rw [← hp]
 -- 'takeMultiple' and 'putBack' as they are called
 have htm : ∀ (t : Nat) (W : World),t < B64 → Row W U g 139 (pre ++ (L ++ post)) → (∃ d,W = w.drewN d) → _ := fun t W ht hrow hd => takeMultiple_any g c (some ⟨g2,o2,none⟩) c2 (m + 1) pre L post ys t W hrow (by obtain ⟨d,rfl⟩ := hd;exact hy.drewN d) hfar HP0.out.2.2.1 ox oy ht hb'
 rw [← hp] at htm
 have HP := Lib.hid hp
 clear hp
 have i1 : (0 : Int) ≤ (m : Int) + 1 := by omega
 have i2 : (m : Int) + 1 < (m : Int) + 2 := by omega
 have i3 : ((m : Int) + 1).toNat = m + 1 := by omega
 have i4 : IntKind.i64.wrap (m : Int) = (m : Int) := by rw [IntKind.wrap_i64];omega
 have i5 : (m : Int) < (m : Int) + 1 := by omega
 have i6 : (m : Int) < (m : Int) + 2 := by omega
 go_enter Tryz.func181,Tryz.ntmps181
 go_upto_region 3 with fail
 go_quiet (fail)
 go_upto_if 19 with fail
 go_cut [6] (fun s wx => ∃ (t d : Nat),s = .int .u64 (t : Int) ∧ X / Y ≤ t ∧ t < B64 ∧ wx = w.drewN d)
 case first =>
  by_cases hcmp : nth L (m + 1) < nth ys m
  · have hcmp' : decide ((nth L (m + 1) : Int) < (nth ys m : Int)) = true := by simp;omega
    have hd64 := fun W => div64_any (nth L (m + 1)) (nth L m) (nth ys m) W hcmp hx2 hy1
    have hg := hguess hcmp
    have hd := (div_spec hcmp hx2).2.2
    go_wp2
    go_quiet ((go_at_call 188;exact qAddE (hd64 _)))
    go_wp2_with fail
    go_meet
    exact ⟨_,_,rfl,hg,hd,by rw [World.drewN_drewN]⟩
  · have hcmp' : decide ((nth L (m + 1) : Int) < (nth ys m : Int)) = false := by simp;omega
    go_wp2_with fail
    go_meet
    exact ⟨18446744073709551615,_,rfl,by rw [B64_eq] at hQ;omega,by decide,rfl⟩
 case rest =>
  obtain ⟨t0,d,rfl,hq0,ht0,rfl⟩ := hcut
  obtain ⟨hXe,hYe,hLl,hYp⟩ := HP0.out
  have hcall := htm t0 (w.drewN d) ht0 (hr.drewN d) ⟨d,rfl⟩
  rw [← hXe,← hYe] at hcall
  clear hXe hYe hLl i3 i4 hcy hc1 hc0 hc1b htm hguess
  go_wp2_with fail
  refine hcall.mono ?_
  rintro e w1 ⟨zs,bb,rfl,hbb,hzl,oz,hrow,hg,hval⟩
  have hst := tm_start hq0 hbb hval
  have hg' : w.grownBy w1 (some g) := ⟨hg.os,hg.tape,hg.output,hg.size,hg.block⟩
  have HZ := Lib.hid hzl
  clear hzl hval hcall
  go_wp2_with fail
  go_loopg [6,7] t0 (fun t a b wr => ∃ zs : List Nat,a = .int .u64 (t : Int) ∧ t < B64 ∧ TM X Y (X / Y) (B64 ^ (m + 2)) t zs b ∧ zs.length = m + 2 ∧ Ok B64 zs ∧ Row wr U g 139 (pre ++ (zs ++ post)) ∧ w.grownBy wr (some g))
  case atStart => exact ⟨zs,rfl,ht0,hst,HZ.out,oz,hrow,hg'⟩
  case round =>
   clear hrow hg hg' hst oz HZ hr zs
   obtain ⟨zs,rfl,htb,⟨hqt,htm⟩,hzl,oz,hrow,hg⟩ := hrel
   rcases htm with ⟨rfl,hv⟩ | ⟨rfl,hv⟩
   · have hpb := putBack_any g c (some ⟨g2,o2,none⟩) c2 (m + 1) pre zs post ys wr hrow (hy.grown hg (fun g3 o3 e3 h3 e4 => by injection e4 with e4;exact hfar g3 o3 e3 h3 e4)) hfar hzl oz oy hb'
     rw [← HP.out] at hpb
     have hzlt := val_lt oz
     rw [hzl] at hzlt
     have hYp' : 0 < Y := hYp
     have hpos : 0 < gk := by
      rcases Nat.eq_zero_or_pos gk with h0 | h0
      · rw [h0] at hv;omega
      · exact h0
     have t1 : (1 : Int) ≤ (gk : Int) := by omega
     have t2 : (gk : Int) ≤ 18446744073709551615 := by rw [B64_eq] at htb;omega
     have Hv := Lib.hid (And.intro hv hzlt)
     clear hv hzlt hzl hy hfar
     go_wp2_with fail
     refine hpb.mono ?_
     rintro e w2 ⟨zs',bb',rfl,hbb',hzl',oz',hrow',hg2,hval'⟩
     have hst := tm_step hqt Hv.out.2 hYp Hv.out.1 hbb' (by rw [hval'];have := HP0.out.2.1;omega)
     have hg3 : w.grownBy w2 (some g) := ⟨hg2.os.trans hg.os,hg2.tape.trans hg.tape,hg2.output.trans hg.output,Nat.le_trans hg.size hg2.size,fun k hk hne => (hg2.block k (Nat.lt_of_lt_of_le hk hg.size) hne).trans (hg.block k hk hne)⟩
     have HZ := Lib.hid hzl'
     clear hzl' hval' hpb
     go_wp2_with fail
     go_roundg (gk - 1)
     case measure => omega
     case rel =>
      refine ⟨zs',?_,by omega,hst.2,HZ.out,oz',hrow',hg3⟩
      congr 1
      omega
   · obtain ⟨rfl,e2⟩ := tm_end hYp hqt hv
     have HZ := Lib.hid (And.intro hzl e2)
     clear hzl e2 hv hy hfar
     go_wp2_with fail
     go_ret
     exact ⟨zs,rfl,HZ.out.1,oz,hrow,hg,HZ.out.2⟩
end Go.Proofs.YtlfgpmnjnpdkdaaGreatDoor
namespace Go.Proofs.YtlfgpmnjnpdkdaaGreatDoor
open Go.RowKit Vd
def shLo (x s : Nat) : Nat := x * 2 ^ s % B64
def shHi (x s : Nat) : Nat := x / 2 ^ (64 - s)
theorem sh_eq {x s : Nat} (hs : s ≤ 64) : shLo x s + B64 * shHi x s = x * 2 ^ s := by
 have := shl_two (hi := 0) (lo := x) hs
 simp only [Nat.zero_mul,Nat.zero_add] at this
 unfold shLo shHi
 rw [B64_eq,this];omega
theorem shHi_lt {x s : Nat} (hs : s ≤ 64) (hx : x < B64) : shHi x s < 2 ^ s := shr_lt hx hs
theorem shLo_mul {x s : Nat} (hs : s ≤ 64) : shLo x s = x % 2 ^ (64 - s) * 2 ^ s := by
 unfold shLo
 have e : B64 = 2 ^ (64 - s) * 2 ^ s := by rw [← Nat.pow_add,show 64 - s + s = 64 by omega];rfl
 rw [e,Nat.mul_mod_mul_right]
def orLo (c x s : Nat) : Nat := c + shLo x s
theorem or_shLo {x s c : Nat} (hs : s ≤ 64) (hc : c < 2 ^ s) : bits .or .u64 (c : Int) (IntKind.u64.wrap ((x : Int) * 2 ^ s)) = (orLo c x s : Int) ∧ orLo c x s < B64 := by
 unfold orLo
 have e : B64 = 2 ^ (64 - s) * 2 ^ s := by rw [← Nat.pow_add,show 64 - s + s = 64 by omega];rfl
 have h1 : x % 2 ^ (64 - s) < 2 ^ (64 - s) := Nat.mod_lt _ (Nat.pow_pos (by omega))
 have h2 := Nat.mul_le_mul_right (2 ^ s) (show x % 2 ^ (64 - s) + 1 ≤ 2 ^ (64 - s) from h1)
 rw [Nat.add_mul,Nat.one_mul,← e] at h2
 have h3 : c + shLo x s < B64 := by rw [shLo_mul hs];omega
 refine ⟨?_,h3⟩
 rw [wrap_shl,show x * 2 ^ s % 18446744073709551616 = shLo x s from rfl,shLo_mul hs,or_words' hc (by rw [shLo_mul hs,B64_eq] at h3;omega)]
theorem shr_cast (x s : Nat) : (x : Int) / 2 ^ (64 - s) = (shHi x s : Int) := div_nat _ _
theorem pow_le_B {s : Nat} (hs : s ≤ 63) : 2 ^ s ≤ B64 := by
 have h := Nat.pow_le_pow_right (n := 2) (by omega) hs
 have e : (2 : Nat) ^ 63 ≤ B64 := by decide
 omega
def shrW (x s : Nat) : Nat := x / 2 ^ s
theorem shrW_cast (x s : Nat) : (x : Int) / 2 ^ s = (shrW x s : Int) := div_nat _ _
theorem shrW_lt {x s : Nat} (hs : s ≤ 64) (hx : x < B64) : shrW x s < 2 ^ (64 - s) := by
 unfold shrW
 rw [Nat.div_lt_iff_lt_mul (Nat.pow_pos (by omega)),← Nat.pow_add,show 64 - s + s = 64 by omega];exact hx
theorem lower_word {x y s : Nat} (hs : s ≤ 63) : orLo (shrW x s) y (64 - s) * 2 ^ s + x % 2 ^ s = x + B64 * (y % 2 ^ s) := by
 unfold orLo
 rw [shLo_mul (by omega),show 64 - (64 - s) = s by omega,Nat.add_mul,Nat.mul_assoc,← Nat.pow_add,show 64 - s + s = 64 by omega]
 have h := Nat.div_add_mod x (2 ^ s)
 have e : B64 * (y % 2 ^ s) = y % 2 ^ s * 2 ^ 64 := by rw [Nat.mul_comm];rfl
 rw [e]
 show x / 2 ^ s * 2 ^ s + _ + _ = _
 rw [Nat.mul_comm (x / 2 ^ s)]
 omega
theorem lower_step (B P V M T R x xm l y' : Nat) (h : V * T + R = M + xm * P) (e : l * T + xm = x + B * y') : (V + l * P) * T + R = (M + x * P) + y' * (P * B) := by grind
theorem raise_step (B P V C M x lo hi T : Nat) (h : V + C * P = M * T) (e : lo + B * hi = x * T) : V + (C + lo) * P + hi * (P * B) = (M + x * P) * T := by grind
set_option maxRecDepth 100000 in
set_option maxHeartbeats 1000000 in
theorem raised_any (A : Option Addr) (n c s : Nat) (xs : List Nat) (w : World) (hx : Sl w U A n xs) (ox : Ok B64 xs) (hn : n ≤ maxW) (hs : s ≤ 63) :
 Calls Tryz.prog 180 #[.slice A n c,.int .i64 (s : Int)] w fun e w' => ∃ rs,e = .returned (.slice (some ⟨w.heap.size,0,none⟩) (n + 1) (n + 1)) ∧ rs.length = n + 1 ∧ Ok B64 rs ∧ Row w' U w.heap.size 139 rs ∧ val B64 rs = val B64 xs * 2 ^ s ∧ Below w.heap.size w w' := by
 have hn' := hn
 unfold maxW at hn'
 have hmk := fun W => mkU (n + 1) (by unfold maxW;omega) W
 rw [show (((n + 1 : Nat)) : Int) = (n : Int) + 1 from rfl] at hmk
 have HX := Lib.hid hx.len
 have s0 : (0 : Int) ≤ 64 - (s : Int) := by omega
 have s1 : (s : Int) ≤ 63 := by omega
 go_enter Tryz.func180,Tryz.ntmps180
 go_wp2
 go_loopg [14] n (fun j i wr => ∃ (k : Nat) (rs : List Nat),k ≤ n ∧ j = n - k ∧ i = .int .i64 k ∧ rs.length = n + 1 ∧ Ok B64 rs ∧ Row wr U w.heap.size 139 rs ∧ nth rs k < 2 ^ s ∧
  val B64 (rs.take (k + 1)) = val B64 (xs.take k) * 2 ^ s ∧ Below w.heap.size w wr)
 case atStart => exact ⟨0,List.replicate (n + 1) 0,Nat.zero_le _,rfl,rfl,by simp,Ok.rep two_le_B _,Row.newRep w U _ _,by rw [nth_replicate];exact Nat.pow_pos (by omega),by rw [val_take_succ,nth_replicate];simp,(Below.refl _ _).alloc (Nat.le_refl _) _⟩
 case round =>
  obtain ⟨k,rs,hk,rfl,rfl,hls,oss,hrow,hcar,hval,hbel⟩ := hrel
  by_cases hlt : k < n
  · obtain ⟨g,o,rfl,hg,hcell⟩ := hx.at_ (by omega)
    have hcx := (hbel.cell (p := ⟨g,o + k,none⟩) hg).trans (hcell k hlt)
    have hcs := hrow.cell (i := k) (by omega)
    have hfs := hrow.frozen k
    have hfs1 := hrow.frozen (k + 1)
    unfold U at hcx hcs
    have hlt' : (k : Int) < (n : Int) := by omega
    have hlt1 : (k : Int) < (n : Int) + 1 := by omega
    obtain ⟨E1,hlo⟩ := or_shLo (x := nth xs k) (s := s) (by omega) hcar
    have E2 := shr_cast (nth xs k) s
    have hset1 := hrow.set k (orLo (nth rs k) (nth xs k) s)
    have hcs1 := hset1.cell (i := k + 1) (by rw [List.length_set];omega)
    unfold U at hset1 hcs1
    have Hv := Lib.hid (And.intro hval (And.intro hls hcar))
    clear hval hls hcar hcell hx hmk
    go_wp2
    go_region
    go_wp2
    obtain ⟨hval,hls,hcar⟩ := Hv.out
    have hhi := shHi_lt (x := nth xs k) (s := s) (by omega) (ox.get two_le_B k)
    have hhi2 : shHi (nth xs k) s < B64 := Nat.lt_of_lt_of_le hhi (pow_le_B hs)
    go_roundg (n - (k + 1))
    case measure => omega
    case rel =>
     refine ⟨k + 1,(rs.set k (orLo (nth rs k) (nth xs k) s)).set (k + 1) (shHi (nth xs k) s),by omega,rfl,by go_num,by rw [List.length_set,List.length_set];exact hls,(oss.set hlo).set hhi2,(hset1.set (k + 1) (shHi (nth xs k) s)).drew,?_,?_,((hbel.setCell (Nat.le_refl _) _).setCell (Nat.le_refl _) _).drew⟩
     · rw [getD_set _ _ _ _ (by rw [List.length_set];omega),if_pos rfl];exact hhi
     · rw [val_take_set _ _ _ (by rw [List.length_set];omega),val_take_set _ _ _ (by omega),val_take_succ,Nat.pow_succ]
       rw [val_take_succ] at hval
       exact raise_step _ _ _ _ _ _ _ _ _ hval (sh_eq (by omega))
  · obtain rfl : k = n := by omega
    rw [List.take_of_length_le (by omega),List.take_of_length_le (by rw [HX.out];omega)] at hval
    have Hv := Lib.hid (And.intro hval hls)
    clear hval hls hx hmk
    go_wp2
    go_ret
    exact ⟨rs,rfl,Hv.out.2,oss,hrow,Hv.out.1,hbel⟩
set_option maxRecDepth 100000 in
set_option maxHeartbeats 1000000 in
theorem lowered_any (A : Option Addr) (n c s : Nat) (xs : List Nat) (w : World) (hx : Sl w U A n xs) (ox : Ok B64 xs) (hn : n ≤ maxW) (hs : s ≤ 63) :
 Calls Tryz.prog 182 #[.slice A n c,.int .i64 (s : Int)] w fun e w' => ∃ v,e = .returned v ∧ MagV w' v (val B64 xs / 2 ^ s) ∧ Below w.heap.size w w' := by
 have hn' := hn
 unfold maxW at hn'
 have hmk := fun W => mkU n (by unfold maxW;omega) W
 have HX := Lib.hid hx.len
 have s0 : (0 : Int) ≤ 64 - (s : Int) := by omega
 have s1 : (s : Int) ≤ 63 := by omega
 go_enter Tryz.func182,Tryz.ntmps182
 go_wp2
 go_loopg [13] n (fun j i wr => ∃ (k : Nat) (ls : List Nat),k ≤ n ∧ j = n - k ∧ i = .int .i64 k ∧ ls.length = n ∧ Ok B64 ls ∧ Row wr U w.heap.size 139 ls ∧
  val B64 (ls.take k) * 2 ^ s + nth xs 0 % 2 ^ s = val B64 (xs.take k) + (nth xs k % 2 ^ s) * B64 ^ k ∧ Below w.heap.size w wr)
 case atStart => exact ⟨0,List.replicate n 0,Nat.zero_le _,rfl,rfl,by simp,Ok.rep two_le_B _,Row.newRep w U _ _,by simp,(Below.refl _ _).alloc (Nat.le_refl _) _⟩
 case round =>
  obtain ⟨k,ls,hk,rfl,rfl,hls,oss,hrow,hval,hbel⟩ := hrel
  by_cases hlt : k < n
  · have hxr := hx.below hbel
    obtain ⟨g,o,rfl,hg,hcell⟩ := hx.at_ (by omega)
    have hcx := (hbel.cell (p := ⟨g,o + k,none⟩) hg).trans (hcell k hlt)
    have hcs := hrow.cell (i := k) (by omega)
    have hfs := hrow.frozen k
    unfold U at hcx hcs
    have hlt' : (k : Int) < (n : Int) := by omega
    have hwd := fun d => word_any (some ⟨g,o,none⟩) n c xs (k + 1) (wr.drewN d) (hxr.drewN d) (by omega) (by omega)
    rw [show (((k + 1 : Nat)) : Int) = (k : Int) + 1 from rfl] at hwd
    have i1 : IntKind.i64.wrap ((k : Int) + 1) = (k : Int) + 1 := by rw [IntKind.wrap_i64];omega
    have Hv := Lib.hid (And.intro hval hls)
    clear hval hls hcell hx hmk
    have E1 := shrW_cast (nth xs k) s
    obtain ⟨E2,hlo⟩ := or_shLo (x := nth xs (k + 1)) (s := 64 - s) (c := shrW (nth xs k) s) (by omega) (shrW_lt (by omega) (ox.get two_le_B k))
    have hlw := lower_word (x := nth xs k) (y := nth xs (k + 1)) hs
    obtain ⟨t,ht⟩ : ∃ t,t = 64 - s := ⟨_,rfl⟩
    rw [← ht] at E2 hlo hlw
    have i2 : IntKind.i64.wrap (64 - (s : Int)) = (t : Int) := by rw [IntKind.wrap_i64];omega
    have i3 : (t : Int) ≤ 64 := by omega
    have i4 : (0 : Int) ≤ (t : Int) := by omega
    have Hw := Lib.hid hlw
    clear ht hlw
    go_wp2
    go_region_with ((go_at_call 160;refine (hwd _).mono ?_;rintro e w1 ⟨rfl,rfl⟩))
    all_goals
     go_wp2
     obtain ⟨hval,hls⟩ := Hv.out
     go_roundg (n - (k + 1))
     case measure => omega
     case rel =>
      refine ⟨k + 1,ls.set k (orLo (shrW (nth xs k) s) (nth xs (k + 1)) t),by omega,rfl,by go_num,by rw [List.length_set];exact hls,oss.set hlo,(hrow.set k _).drew,?_,(hbel.setCell (Nat.le_refl _) _).drew⟩
      rw [val_take_set _ _ _ (by omega),val_take_succ,Nat.pow_succ]
      exact lower_step _ _ _ _ _ _ _ _ _ _ hval Hw.out
  · obtain rfl : k = n := by omega
    have e : val B64 ls = val B64 xs / 2 ^ s := by
     rw [List.take_of_length_le (by omega),List.take_of_length_le (by rw [HX.out];omega),nth_ge (i := k) (by rw [HX.out];omega)] at hval
     simp only [Nat.zero_mod,Nat.zero_mul,Nat.add_zero] at hval
     rw [← hval,Nat.mul_comm,Nat.mul_add_div (Nat.pow_pos (by omega)),Nat.div_eq_of_lt (Nat.mod_lt _ (Nat.pow_pos (by omega)))];simp
    have ht := trim_mag (some ⟨w.heap.size,0,none⟩) k k ls _ (by have := hrow.sl0;rw [hls] at this;exact this) oss (by omega) (by omega)
    rw [e] at ht
    clear hval hls hx hmk e
    go_wp2_with (refine ht.mono ?_;rintro e w1 ⟨v,rfl,hm,rfl⟩)
    go_ret
    exact ⟨v,rfl,hm,hbel⟩
end Go.Proofs.YtlfgpmnjnpdkdaaGreatDoor
