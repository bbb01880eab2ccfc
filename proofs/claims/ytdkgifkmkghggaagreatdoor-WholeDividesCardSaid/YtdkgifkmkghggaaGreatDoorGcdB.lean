/- Contract: leading. -/
import Derived.Test.YtdkgifkmkghggaaGreatDoorGcdA
namespace Go.Proofs.YtdkgifkmkghggaaGreatDoor
open Go.RowKit Vd

/-- the leading bits of two words, shifted up by s -/
def leadW (hi lo s : Nat) : Nat := hi * 2 ^ s + lo / 2 ^ (64 - s)
theorem lead_or {hi lo s : Nat} (hs : s ≤ 63) (hlo : lo < B64) (hhi : hi * 2 ^ s < B64) : bits .or .u64 (IntKind.u64.wrap ((hi : Int) * 2 ^ s)) ((lo : Int) / 2 ^ (64 - s)) = (leadW hi lo s : Int) ∧ leadW hi lo s < B64 := by
  have hc := shr_lt (s := s) hlo (by omega)
  have e : B64 = 2 ^ (64 - s) * 2 ^ s := by rw [← Nat.pow_add, show 64 - s + s = 64 by omega]; rfl
  have h4 : hi + 1 ≤ 2 ^ (64 - s) := by
    have : hi * 2 ^ s < 2 ^ (64 - s) * 2 ^ s := by rw [← e]; exact hhi
    exact Nat.lt_of_mul_lt_mul_right this
  have h5 := Nat.mul_le_mul_right (2 ^ s) h4
  rw [← e, Nat.add_mul, Nat.one_mul] at h5
  have h6 : hi * 2 ^ s + lo / 2 ^ (64 - s) < B64 := by omega
  refine ⟨?_, h6⟩
  rw [wrap_shl, Nat.mod_eq_of_lt (by rw [B64_eq] at hhi; exact hhi), div_nat, or_words hc h6]
  rfl
/-- a number by its leading bits -/
theorem lead_eq {a t s : Nat} (hs : s ≤ 63) (ha : a < B64 ^ (t + 2)) : ∃ α, α < 2 ^ (64 - s) * B64 ^ t ∧ a = leadW (wd B64 a (t + 1)) (wd B64 a t) s * (2 ^ (64 - s) * B64 ^ t) + α := by
  have e : B64 = 2 ^ s * 2 ^ (64 - s) := by rw [← Nat.pow_add, show s + (64 - s) = 64 by omega]; rfl
  have hp : 0 < B64 ^ t := Nat.pow_pos (by decide)
  have h1 := wd_eq (b := B64) two_le_B a (t + 1)
  have h0 := wd_eq (b := B64) two_le_B a t
  have h2 : a / B64 ^ (t + 1) < B64 := by
    rw [Nat.div_lt_iff_lt_mul (Nat.pow_pos (by decide)), ← Nat.pow_succ']; exact ha
  rw [Nat.mod_eq_of_lt h2, Nat.pow_succ, ← Nat.div_div_eq_div_mul] at h1
  -- the two leading words
  have h3 := Nat.div_add_mod (a / B64 ^ t) B64
  rw [← h1, ← h0] at h3
  have h4 := Nat.div_add_mod a (B64 ^ t)
  have h5 := Nat.mod_lt a hp
  have h6 : a / B64 ^ t = leadW (wd B64 a (t + 1)) (wd B64 a t) s * 2 ^ (64 - s) + wd B64 a t % 2 ^ (64 - s) := by
    rw [← h3]
    have h7 := Nat.div_add_mod (wd B64 a t) (2 ^ (64 - s))
    unfold leadW
    rw [Nat.add_mul, Nat.mul_assoc, ← e, Nat.mul_comm (wd B64 a t / 2 ^ (64 - s)), Nat.mul_comm B64]
    omega
  refine ⟨wd B64 a t % 2 ^ (64 - s) * B64 ^ t + a % B64 ^ t, ?_, ?_⟩
  · have h8 := Nat.mod_lt (wd B64 a t) (Nat.pow_pos (n := 64 - s) (show 0 < 2 by omega))
    have h9 := Nat.mul_le_mul_right (B64 ^ t) (show wd B64 a t % 2 ^ (64 - s) + 1 ≤ 2 ^ (64 - s) from h8)
    rw [Nat.add_mul, Nat.one_mul] at h9
    omega
  · rw [h6] at h4
    generalize B64 ^ t = P at *
    generalize 2 ^ (64 - s) = Q at *
    rw [← h4]
    grind
theorem wd_top_le {a o t : Nat} (hle : o ≤ a) (ha : a < B64 ^ (t + 2)) : wd B64 o (t + 1) ≤ wd B64 a (t + 1) := by
  have hd : ∀ x, x < B64 ^ (t + 2) → wd B64 x (t + 1) = x / B64 ^ (t + 1) := fun x hx => by
    rw [wd_eq two_le_B]
    refine Nat.mod_eq_of_lt ?_
    rw [Nat.div_lt_iff_lt_mul (Nat.pow_pos (by decide)), ← Nat.pow_succ']; exact hx
  rw [hd a ha, hd o (by omega)]
  exact Nat.div_le_div_right hle

set_option maxRecDepth 100000 in
set_option maxHeartbeats 1000000 in
theorem leading_any (v1 v2 : Value) (a o t : Nat) (w : World) (h1 : MagV w v1 a) (h2 : MagV w v2 o) (hl : wlen B64 a = t + 2) (hle : o ≤ a) (b1 : t + 2 ≤ maxW) :
    Calls Tryz.prog 155 #[v1, v2] w fun e w' => ∃ x y H α β : Nat, e = .returned (.tuple #[.int .u64 (x : Int), .int .u64 (y : Int)]) ∧ x < B64 ∧ y < B64 ∧ 0 < H ∧ α < H ∧ β < H ∧ a = x * H + α ∧ o = y * H + β ∧ ∃ d, w' = w.drewN d := by
  have hb := b1
  unfold maxW at hb
  have halt : a < B64 ^ (t + 2) := by rw [← hl]; exact lt_pow_wlen two_le_B a
  have holt : o < B64 ^ (t + 2) := by omega
  have hol : wlen B64 o ≤ t + 2 := (wlen_le_iff two_le_B o _).2 holt
  obtain ⟨A2, c2, rfl, hc2, s2⟩ := h2.ok_len
  obtain ⟨A1, c1, rfl, hc1, s1⟩ := h1.ok_len
  rw [hl] at s1 ⊢
  obtain ⟨g, o1, rfl, hg, hc⟩ := s1.at_ (by omega)
  have hct := hc (t + 1) (by omega)
  have hc0 := hc t (by omega)
  rw [show nth (ws B64 a) (t + 1) = wd B64 a (t + 1) from rfl] at hct
  rw [show nth (ws B64 a) t = wd B64 a t from rfl] at hc0
  unfold U at hct hc0
  have htop := wd_lt (b := B64) two_le_B a (t + 1)
  have hlo := wd_lt (b := B64) two_le_B a t
  have hlo2 := wd_lt (b := B64) two_le_B o t
  obtain ⟨s, hs⟩ : ∃ s, s = 64 - Lib.bitLen (wd B64 a (t + 1)) := ⟨_, rfl⟩
  obtain ⟨s63, htop0, -, -⟩ := dv_words (n := t + 1) hl hs
  obtain ⟨-, hx2, -⟩ := norm_spec htop (by omega) hs
  have hy2 : wd B64 o (t + 1) * 2 ^ s < B64 := Nat.lt_of_le_of_lt (Nat.mul_le_mul_right _ (wd_top_le hle halt)) hx2
  obtain ⟨E1, hx3⟩ := lead_or s63 hlo hx2
  obtain ⟨E2, hy3⟩ := lead_or s63 hlo2 hy2
  obtain ⟨α, hα, ea⟩ := lead_eq s63 halt
  obtain ⟨β, hβ, eo⟩ := lead_eq s63 holt
  have hH : 0 < 2 ^ (64 - s) * B64 ^ t := Nat.mul_pos (Nat.pow_pos (by omega)) (Nat.pow_pos (by decide))
  have hlz := lz_any (wd B64 a (t + 1)) htop w
  rw [← hs] at hlz
  have hw1 := fun d => word_any A2 (wlen B64 o) c2 (ws B64 o) (t + 1) (w.drewN d) (s2.drewN d) (by omega) (by omega)
  have hw0 := fun d => word_any A2 (wlen B64 o) c2 (ws B64 o) t (w.drewN d) (s2.drewN d) (by omega) (by omega)
  rw [show nth (ws B64 o) (t + 1) = wd B64 o (t + 1) from rfl, show (((t + 1 : Nat)) : Int) = (t : Int) + 1 from rfl] at hw1
  rw [show nth (ws B64 o) t = wd B64 o t from rfl] at hw0
  have hw1' := fun a n => hw1 (a + n)
  have hw0' := fun a n => hw0 (a + n)
  simp only [← World.drewN_drewN] at hw1' hw0'
  obtain ⟨x, hx⟩ : ∃ x, x = leadW (wd B64 a (t + 1)) (wd B64 a t) s := ⟨_, rfl⟩
  obtain ⟨y, hy⟩ : ∃ y, y = leadW (wd B64 o (t + 1)) (wd B64 o t) s := ⟨_, rfl⟩
  rw [← hx] at E1 hx3 ea
  rw [← hy] at E2 hy3 eo
  have HE := Lib.hid (And.intro ea eo)
  have i1 : (0 : Int) ≤ (t : Int) + 1 := by omega
  have i2 : (t : Int) + 1 < (t : Int) + 2 := by omega
  have i3 : ((t : Int) + 1).toNat = t + 1 := by omega
  have i4 : IntKind.i64.wrap (t : Int) = (t : Int) := by rw [IntKind.wrap_i64]; omega
  have i5 : (t : Int) < (t : Int) + 2 := by omega
  have i6 : (0 : Int) ≤ 64 - (s : Int) := by omega
  have i7 : IntKind.i64.wrap (64 - (s : Int)) = 64 - (s : Int) := by rw [IntKind.wrap_i64]; omega
  have i8 : (s : Int) ≤ 63 := by omega
  have i9 : (64 - (s : Int)).toNat = 64 - s := by omega
  have hct2 := hct
  rw [← Nat.add_assoc] at hct2
  clear ea eo hx hy hs hc hl
  go_enter Tryz.func155, Tryz.ntmps155
  go_upto_region 2 with fail
  rw [show (t : Int) + 2 - 1 = (t : Int) + 1 by omega]
  go_wp2_with fail
  refine hlz.mono ?_
  rintro e w1 ⟨rfl, rfl⟩
  go_wp2_with fail
  go_quiet (fail)
  go_wp2_with fail
  go_quiet ((go_at_call 125; (first | (with_reducible exact qAdd (hw1 _)) | (with_reducible exact qAdd (hw0 _)) | (with_reducible exact qOne (hw1' _ _)) | (with_reducible exact qOne (hw0' _ _)))))
  go_wp2_with fail
  go_ret2
  exact ⟨x, y, _, α, β, rfl, hx3, hy3, hH, hα, hβ, HE.out.1, HE.out.2, by simp only [World.drewN_drewN]; exact ⟨_, rfl⟩⟩

end Go.Proofs.YtdkgifkmkghggaaGreatDoor
