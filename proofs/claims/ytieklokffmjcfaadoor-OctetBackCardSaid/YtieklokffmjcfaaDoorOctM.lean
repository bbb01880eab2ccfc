/- OctetBack. -/
import Derived.Test.YtieklokffmjcfaaDoorOctL
import Derived.Test.YtieklokffmjcfaaDoorOctJ
import Derived.Shelf.Strings.SlTrimAscii
import Derived.RegionTactic
import Derived.ChangeAlike
namespace Go.Proofs.YtieklokffmjcfaaDoor
open Go.RowKit Vo
attribute [local go_sem ↓] Go.wp_at_zero Go.wp_at_succ

theorem vis_pr {c : UInt8} (h : (pr 95).contains c = true) : vis c = true := by
  have h2 : (pr 95).all vis = true := by decide +kernel
  exact List.all_eq_true.1 h2 c (by simpa using h)
theorem trim_seen (t : List UInt8) (h : lead t < t.length) : Lib.trimS t (pr 95) ≠ [] := by
  have hbad : ∀ t : List UInt8, lead t < t.length → ∃ c ∈ t, vis c = false := by
    intro t
    induction t with
    | nil => intro h; simp [lead] at h
    | cons c l ih =>
      intro h
      cases hv : vis c with
      | false => exact ⟨c, List.mem_cons_self, hv⟩
      | true =>
        rw [lead, hv, if_pos rfl, List.length_cons] at h
        obtain ⟨d, hd, hd2⟩ := ih (by omega)
        exact ⟨d, List.mem_cons_of_mem _ hd, hd2⟩
  obtain ⟨c, hc, hv⟩ := hbad t h
  have hn : (pr 95).contains c = false := by
    cases he : (pr 95).contains c with
    | false => rfl
    | true => rw [vis_pr he] at hv; cases hv
  have h1 := dropWhile_mem (p := ((pr 95).contains ·)) (List.mem_reverse.2 hc) hn
  intro e
  unfold Lib.trimS Lib.trimLeftS at e
  rw [dropWhile_none] at e
  have h2 := e c (by unfold Lib.trimRightS; exact List.mem_reverse.2 h1)
  rw [hn] at h2; cases h2
theorem trim_any (t : List UInt8) (w : World) (hs : t.length ≤ 1000000) :
    Calls Tryd.prog 26 #[.string (B t), .string (B (pr 95))] w fun e w' => e = .returned (.string (B (Lib.trimS t (pr 95)))) ∧ Below w.heap.size w w' :=
  Any.strings_Trim_laid Tryd.lays160 (by kernel_rfl) (B t) (B (pr 95)) w (by rw [B_size]; omega) (by rw [B_size, pr_length]; omega) (ascii_of_all (by decide +kernel))

theorem ulow_0 (n : Int) : wrap64 ((IntKind.u64.wrap n).tmod 256) = n % 256 := by
  rw [IntKind.wrap_u64, Int.tmod_eq_emod_of_nonneg (by omega)]
  unfold wrap64
  omega
theorem ulow_1 (n : Int) : wrap64 ((IntKind.u64.wrap n).tmod 65536) = n % 65536 := by
  rw [IntKind.wrap_u64, Int.tmod_eq_emod_of_nonneg (by omega)]
  unfold wrap64
  omega
theorem ulow_2 (n : Int) : wrap64 ((IntKind.u64.wrap n).tmod 4294967296) = n % 4294967296 := by
  rw [IntKind.wrap_u64, Int.tmod_eq_emod_of_nonneg (by omega)]
  unfold wrap64
  omega
theorem cut_mid (a f b : List UInt8) : cut (a ++ f ++ b) a.length f.length = f := by
  unfold cut
  rw [List.append_assoc, List.drop_left, List.take_left]
theorem partR_mid (a f b : List UInt8) (h : (a ++ f ++ b).length ≤ 65536) : partR (a ++ f ++ b) (a.length : Int) (f.length : Int) = (f, 0) := by
  rw [partR_in (i := a.length) (m := f.length) (by simp only [List.length_append]; omega) h rfl rfl, cut_mid]
theorem numR_mid (a b : List UInt8) (K : Int) (k : Nat) (S : Bool) (h : (a ++ octs K k ++ b).length ≤ 65536) : numR (a ++ octs K k ++ b) (a.length : Int) k S = (sgn S (K % 256 ^ k), 0) := by
  have hp := partR_mid a (octs K k) b h
  rw [octs_length] at hp
  unfold numR
  rw [hp, if_pos rfl, num_octs]
theorem lead_field (t : List UInt8) (d : Nat) (h : lead t = t.length) : lead (t ++ List.replicate d 0) = t.length := by
  induction t with
  | nil => cases d with
    | zero => rfl
    | succ d => rfl
  | cons c l ih =>
    cases hv : vis c with
    | false => rw [lead, hv] at h; simp at h
    | true =>
      rw [lead, hv, if_pos rfl, List.length_cons] at h
      rw [List.cons_append, lead, hv, if_pos rfl, ih (by omega), List.length_cons]
theorem textR_mid (a b t : List UInt8) (d : Nat) (h : (a ++ (t ++ List.replicate d 0) ++ b).length ≤ 65536) (hl : lead t = t.length) : textR (a ++ (t ++ List.replicate d 0) ++ b) (a.length : Int) ((t ++ List.replicate d 0).length : Int) = (t, 0) := by
  have hp := partR_mid a _ b h
  unfold textR
  rw [hp]
  simp only [if_true]
  rw [lead_field t d hl, List.drop_left, List.take_left, if_pos]
  rw [List.all_eq_true]
  intro x hx
  rw [(List.mem_replicate.1 hx).2]; rfl

theorem bints (W : World) : (Instr.build 34 #[(0, .int .i64 8), (1, .int .i64 16), (2, .int .i64 32)]).run Tryd.prog W = .ok (.agg #[.int .i64 8, .int .i64 16, .int .i64 32]) W := run_build W _ _ _ (by kernel_rfl)
abbrev fv (f : FuncId) : Value := .func (.func f) #[] #[]
theorem bputs (W : World) : (Instr.build 37 #[(0, fv 7), (1, fv 8), (2, fv 9)]).run Tryd.prog W = .ok (.agg #[fv 7, fv 8, fv 9]) W := run_build W _ _ _ (by kernel_rfl)
theorem bgets (W : World) : (Instr.build 39 #[(0, fv 20), (1, fv 21), (2, fv 22)]).run Tryd.prog W = .ok (.agg #[fv 20, fv 21, fv 22]) W := run_build W _ _ _ (by kernel_rfl)
theorem tix0 (W : World) : (Instr.index 34 (.agg #[.int .i64 8, .int .i64 16, .int .i64 32]) (.int .i64 0)).run Tryd.prog W = .ok (.int .i64 8) W := by kernel_rfl
theorem tix1 (W : World) : (Instr.index 34 (.agg #[.int .i64 8, .int .i64 16, .int .i64 32]) (.int .i64 1)).run Tryd.prog W = .ok (.int .i64 16) W := by kernel_rfl
theorem tix2 (W : World) : (Instr.index 34 (.agg #[.int .i64 8, .int .i64 16, .int .i64 32]) (.int .i64 2)).run Tryd.prog W = .ok (.int .i64 32) W := by kernel_rfl
theorem pix0 (W : World) : (Instr.index 37 (.agg #[fv 7, fv 8, fv 9]) (.int .i64 0)).run Tryd.prog W = .ok (fv 7) W := by kernel_rfl
theorem pix1 (W : World) : (Instr.index 37 (.agg #[fv 7, fv 8, fv 9]) (.int .i64 1)).run Tryd.prog W = .ok (fv 8) W := by kernel_rfl
theorem pix2 (W : World) : (Instr.index 37 (.agg #[fv 7, fv 8, fv 9]) (.int .i64 2)).run Tryd.prog W = .ok (fv 9) W := by kernel_rfl
theorem gix0 (W : World) : (Instr.index 39 (.agg #[fv 20, fv 21, fv 22]) (.int .i64 0)).run Tryd.prog W = .ok (fv 20) W := by kernel_rfl
theorem gix1 (W : World) : (Instr.index 39 (.agg #[fv 20, fv 21, fv 22]) (.int .i64 1)).run Tryd.prog W = .ok (fv 21) W := by kernel_rfl
theorem gix2 (W : World) : (Instr.index 39 (.agg #[fv 20, fv 21, fv 22]) (.int .i64 2)).run Tryd.prog W = .ok (fv 22) W := by kernel_rfl
attribute [local go_sem ↓] bints bputs bgets tix0 tix1 tix2 pix0 pix1 pix2 gix0 gix1 gix2

set_option maxRecDepth 100000 in
set_option maxHeartbeats 8000000 in
theorem back_core (a0 b0 t0 : List UInt8) (n : Int) (m : Nat) (w : World) (hn0 : -9223372036854775808 ≤ n) (hn1 : n ≤ 9223372036854775807) (hm : m < 256) :
    Calls Tryd.prog 4 #[.string (B a0), .string (B b0), .int .i64 n, .string (B t0), .int .u8 m] w fun e w' => e = .returned (.bool true) ∧ Below w.heap.size w w' := by
  go_enter Tryd.func4, Tryd.ntmps4
  go_wp2_with fail
  refine (works_any _).mono ?_
  rintro e w1 ⟨rfl, hb1⟩
  go_wp2_with fail
  go_region
  simp only [B_extract]
  obtain ⟨a, hae⟩ : ∃ l, (a0.drop 0).take ((min (a0.length : Int) 300).toNat - 0) = l := ⟨_, rfl⟩
  obtain ⟨b, hbe⟩ : ∃ l, (b0.drop 0).take ((min (b0.length : Int) 300).toNat - 0) = l := ⟨_, rfl⟩
  obtain ⟨t, hte⟩ : ∃ l, (t0.drop 0).take ((min (t0.length : Int) 100).toNat - 0) = l := ⟨_, rfl⟩
  have la : a.length ≤ 300 := by rw [← hae, List.length_take]; omega
  have lb : b.length ≤ 300 := by rw [← hbe, List.length_take]; omega
  have lt : t.length ≤ 100 := by rw [← hte, List.length_take]; omega
  rw [hae, hbe, hte]
  have hS := hb1.drew
  clear hae hbe hte hb1
  go_wp2_with fail
  refine wp_loop_rounds 4 ?_
  rw [rounds_succ]
  go_upto_region 9 with fail
  rw [ulow_0 n]
  obtain ⟨K0, hk0⟩ : ∃ K : Int, n % 256 = K := ⟨_, rfl⟩
  rw [hk0]
  have hkb : 0 ≤ K0 ∧ K0 < 256 := by omega
  clear hk0
  have hK0 : 0 ≤ K0 := by omega
  have hK1 : K0 ≤ 255 := by omega
  have c1 := fun W => put_u8 K0 W
  rw [show putR 0 255 1 K0 = (octs K0 1, 0) by unfold putR; rw [if_pos ⟨hK0, hK1⟩]] at c1
  have hol := octs_length K0 1
  have c2 := fun W => u8_any (a ++ octs K0 1 ++ b) (a.length : Int) W
  rw [numR_mid a b K0 1 false (by simp only [List.length_append]; omega), show sgn false (K0 % 256 ^ 1) = K0 by rw [show (256 : Int) ^ 1 = 256 by decide]; unfold sgn; rw [if_neg (by simp)]; omega] at c2
  have hcat : B a ++ B (octs K0 1) ++ B b = B (a ++ octs K0 1 ++ b) := by rw [B_append, B_append]
  rw [← hcat] at c2
  obtain ⟨f, hf⟩ : ∃ f, octs K0 1 = f := ⟨_, rfl⟩
  rw [hf] at c1 c2 hol
  clear hcat hf
  go_wp2_with fail
  refine (c1 _).mono ?_
  rintro e v0 ⟨rfl, hb⟩
  have hS := below_more hS hb
  clear hb c1
  go_wp2_with fail
  refine (says_any K0 _).mono ?_
  rintro e x0 ⟨p, rfl, hc, hb⟩
  have hS := below_more hS hb
  clear hb
  go_wp2_with fail
  refine (ostep hS hc (c2 _)).mono ?_
  clear hc hS c2
  rintro e y0 ⟨rfl, hc, hS⟩
  go_wp2_with fail
  refine (says_fn _ _ _ hc).mono ?_
  clear hc hK0 hK1 hol
  rintro e w0 ⟨rfl, rfl⟩
  clear hkb
  go_wp2_with fail
  rw [rounds_succ]
  go_upto_region 9 with fail
  rw [ulow_1 n]
  obtain ⟨K1, hk1⟩ : ∃ K : Int, n % 65536 = K := ⟨_, rfl⟩
  rw [hk1]
  have hkb : 0 ≤ K1 ∧ K1 < 65536 := by omega
  clear hk1
  have hK0 : 0 ≤ K1 := by omega
  have hK1 : K1 ≤ 65535 := by omega
  have c1 := fun W => put_u16 K1 W
  rw [show putR 0 65535 2 K1 = (octs K1 2, 0) by unfold putR; rw [if_pos ⟨hK0, hK1⟩]] at c1
  have hol := octs_length K1 2
  have c2 := fun W => u16_any (a ++ octs K1 2 ++ b) (a.length : Int) W
  rw [numR_mid a b K1 2 false (by simp only [List.length_append]; omega), show sgn false (K1 % 256 ^ 2) = K1 by rw [show (256 : Int) ^ 2 = 65536 by decide]; unfold sgn; rw [if_neg (by simp)]; omega] at c2
  have hcat : B a ++ B (octs K1 2) ++ B b = B (a ++ octs K1 2 ++ b) := by rw [B_append, B_append]
  rw [← hcat] at c2
  obtain ⟨f, hf⟩ : ∃ f, octs K1 2 = f := ⟨_, rfl⟩
  rw [hf] at c1 c2 hol
  clear hcat hf
  go_wp2_with fail
  refine (c1 _).mono ?_
  rintro e v1 ⟨rfl, hb⟩
  have hS := below_more hS hb
  clear hb c1
  go_wp2_with fail
  refine (says_any K1 _).mono ?_
  rintro e x1 ⟨p, rfl, hc, hb⟩
  have hS := below_more hS hb
  clear hb
  go_wp2_with fail
  refine (ostep hS hc (c2 _)).mono ?_
  clear hc hS c2
  rintro e y1 ⟨rfl, hc, hS⟩
  go_wp2_with fail
  refine (says_fn _ _ _ hc).mono ?_
  clear hc hK0 hK1 hol
  rintro e w0 ⟨rfl, rfl⟩
  clear hkb
  go_wp2_with fail
  rw [rounds_succ]
  go_upto_region 9 with fail
  rw [ulow_2 n]
  obtain ⟨K2, hk2⟩ : ∃ K : Int, n % 4294967296 = K := ⟨_, rfl⟩
  rw [hk2]
  have hkb : 0 ≤ K2 ∧ K2 < 4294967296 := by omega
  clear hk2
  have hK0 : 0 ≤ K2 := by omega
  have hK1 : K2 ≤ 4294967295 := by omega
  have c1 := fun W => put_u32 K2 W
  rw [show putR 0 4294967295 4 K2 = (octs K2 4, 0) by unfold putR; rw [if_pos ⟨hK0, hK1⟩]] at c1
  have hol := octs_length K2 4
  have c2 := fun W => u32_any (a ++ octs K2 4 ++ b) (a.length : Int) W
  rw [numR_mid a b K2 4 false (by simp only [List.length_append]; omega), show sgn false (K2 % 256 ^ 4) = K2 by rw [show (256 : Int) ^ 4 = 4294967296 by decide]; unfold sgn; rw [if_neg (by simp)]; omega] at c2
  have hcat : B a ++ B (octs K2 4) ++ B b = B (a ++ octs K2 4 ++ b) := by rw [B_append, B_append]
  rw [← hcat] at c2
  obtain ⟨f, hf⟩ : ∃ f, octs K2 4 = f := ⟨_, rfl⟩
  rw [hf] at c1 c2 hol
  clear hcat hf
  go_wp2_with fail
  refine (c1 _).mono ?_
  rintro e v2 ⟨rfl, hb⟩
  have hS := below_more hS hb
  clear hb c1
  go_wp2_with fail
  refine (says_any K2 _).mono ?_
  rintro e x2 ⟨p, rfl, hc, hb⟩
  have hS := below_more hS hb
  clear hb
  go_wp2_with fail
  refine (ostep hS hc (c2 _)).mono ?_
  clear hc hS c2
  rintro e y2 ⟨rfl, hc, hS⟩
  go_wp2_with fail
  refine (says_fn _ _ _ hc).mono ?_
  clear hc hK0 hK1 hol
  rintro e w0 ⟨rfl, rfl⟩
  clear hkb
  go_wp2_with fail
  rw [rounds_succ]
  go_upto_region 15 with fail
  obtain ⟨K3, hk3⟩ : ∃ K : Int, n / 4294967296 = K := ⟨_, rfl⟩
  rw [hk3]
  have hkb : -2147483648 ≤ K3 ∧ K3 ≤ 2147483647 := by omega
  clear hk3 hn0 hn1
  have hK0 : (-2147483648) ≤ K3 := by omega
  have hK1 : K3 ≤ 2147483647 := by omega
  have c1 := fun W => put_s32 K3 W
  rw [show putR (-2147483648) 2147483647 4 K3 = (octs K3 4, 0) by unfold putR; rw [if_pos ⟨hK0, hK1⟩]] at c1
  have hol := octs_length K3 4
  have c2 := fun W => s32_any (a ++ octs K3 4 ++ b) (a.length : Int) W
  rw [numR_mid a b K3 4 true (by simp only [List.length_append]; omega), show sgn true (K3 % 256 ^ 4) = K3 by rw [show (256 : Int) ^ 4 = 4294967296 by decide]; unfold sgn; simp only [true_and]; split <;> omega] at c2
  have hcat : B a ++ B (octs K3 4) ++ B b = B (a ++ octs K3 4 ++ b) := by rw [B_append, B_append]
  rw [← hcat] at c2
  obtain ⟨f, hf⟩ : ∃ f, octs K3 4 = f := ⟨_, rfl⟩
  rw [hf] at c1 c2 hol
  clear hcat hf
  go_wp2_with fail
  refine (c1 _).mono ?_
  rintro e v3 ⟨rfl, hb⟩
  have hS := below_more hS hb
  clear hb c1
  go_wp2_with fail
  refine (says_any K3 _).mono ?_
  rintro e x3 ⟨p, rfl, hc, hb⟩
  have hS := below_more hS hb
  clear hb
  go_wp2_with fail
  refine (ostep hS hc (c2 _)).mono ?_
  clear hc hS c2
  rintro e y3 ⟨rfl, hc, hS⟩
  go_wp2_with fail
  refine (says_fn _ _ _ hc).mono ?_
  clear hc hK0 hK1 hol
  rintro e w0 ⟨rfl, rfl⟩
  clear hkb
  go_upto_region 19 with fail
  have c3 := fun W => putText_any t ((t.length : Int) + (m : Int)) W (by omega) (by omega) (by omega)
  by_cases hv : lead t < t.length
  · have hp : putTextR t ((t.length : Int) + (m : Int)) = ([], 5) := by unfold putTextR; rw [if_neg (by omega), if_pos hv]
    rw [hp] at c3
    have c4 := fun W => trim_any t W (by omega)
    have hne := trim_seen t hv
    obtain ⟨q, hq⟩ : ∃ q, Lib.trimS t (pr 95) = q := ⟨_, rfl⟩
    obtain ⟨z, hz⟩ : ∃ z, B (pr 95) = z := ⟨_, rfl⟩
    have c5 := fun W => printable_any W
    rw [hz] at c5
    rw [hq, hz] at c4
    rw [hq] at hne
    have hn1 : q.isEmpty = false := by cases q with | nil => exact absurd rfl hne | cons c l => rfl
    have hn2 : (!q.isEmpty) = true := by rw [hn1]; rfl
    clear hq hz hp hv hne
    go_wp2_with fail
    refine (c3 _).mono ?_
    rintro e w6 ⟨rfl, hb⟩
    have hS := below_more hS hb
    clear hb c3
    go_wp2_with fail
    refine (fails_any 5 _).mono ?_
    rintro e w7 ⟨p, rfl, hc, hb⟩
    have hS := below_more hS hb
    clear hb
    go_wp2_with fail
    refine (fails_fn _ _ _ hc).mono ?_
    clear hc
    rintro e w0 ⟨rfl, rfl⟩
    go_wp2_with fail
    refine (c5 _).mono ?_
    rintro e w8 ⟨rfl, hb⟩
    have hS := below_more hS hb
    clear hb c5
    go_wp2_with fail
    refine (c4 _).mono ?_
    rintro e w9 ⟨rfl, hb⟩
    have hS := below_more hS hb
    clear hb c4
    go_wp2_with fail
    go_ret
    exact ⟨rfl, hS⟩
  · have hl := lead_le t
    have hlt : lead t = t.length := by omega
    have hp : putTextR t ((t.length : Int) + (m : Int)) = (t ++ List.replicate m 0, 0) := by
      unfold putTextR
      rw [if_neg (by omega), if_neg hv, if_neg (by omega), show ((t.length : Int) + (m : Int)).toNat - t.length = m by omega]
    rw [hp] at c3
    obtain ⟨g, hg⟩ : ∃ g, t ++ List.replicate m 0 = g := ⟨_, rfl⟩
    have hgl : (t.length : Int) + (m : Int) = (g.length : Int) := by rw [← hg, List.length_append, List.length_replicate]; omega
    have hlen : (a ++ g ++ b).length ≤ 65536 := by
      rw [List.length_append, List.length_append]; omega
    have c4 := fun W => text_any (a ++ g ++ b) (a.length : Int) (g.length : Int) W (by omega)
    have c5 := fun W => part_below (a ++ g ++ b) (a.length : Int) (g.length : Int) W
    have htm := textR_mid a b t m (by rw [hg]; exact hlen) hlt
    rw [hg] at htm
    rw [htm] at c4
    rw [partR_mid a g b hlen] at c5
    rw [hg] at c3
    have hcat : B a ++ B g ++ B b = B (a ++ g ++ b) := by rw [B_append, B_append]
    rw [← hcat] at c4 c5
    rw [hgl] at c3 ⊢
    have hg1 : g.length ≤ 400 := by omega
    clear hcat hlen hgl hg hp hlt hl hv htm
    go_wp2_with fail
    refine (c3 _).mono ?_
    rintro e w6 ⟨rfl, hb⟩
    have hS := below_more hS hb
    clear hb c3
    go_wp2_with fail
    refine (is_any (B t) _).mono ?_
    rintro e w7 ⟨p, rfl, hc, hb⟩
    have hS := below_more hS hb
    clear hb
    go_wp2_with fail
    refine (ostep hS hc (c4 _)).mono ?_
    clear hc hS c4
    rintro e w8 ⟨rfl, hc, hS⟩
    go_wp2_with fail
    refine (is_fn _ _ _ hc).mono ?_
    clear hc
    rintro e w0 ⟨rfl, rfl⟩
    go_wp2_with fail
    refine (is_any (B g) _).mono ?_
    rintro e w9 ⟨p, rfl, hc, hb⟩
    have hS := below_more hS hb
    clear hb
    go_wp2_with fail
    refine (ostep hS hc (c5 _)).mono ?_
    clear hc hS c5
    rintro e w10 ⟨rfl, hc, hS⟩
    go_wp2_with fail
    refine (is_fn _ _ _ hc).mono ?_
    clear hc
    rintro e w0 ⟨rfl, rfl⟩
    go_wp2_with fail
    go_ret
    exact ⟨rfl, hS⟩
end Go.Proofs.YtieklokffmjcfaaDoor
