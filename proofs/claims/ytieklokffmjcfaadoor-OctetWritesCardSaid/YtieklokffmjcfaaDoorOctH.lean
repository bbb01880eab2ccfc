/- Package octet: texts, padding. -/
import Derived.Test.YtieklokffmjcfaaDoorOctF
import Derived.Test.YtieklokffmjcfaaDoorOctG
import Derived.Test.YtieklokffmjcfaaDoorShelf
namespace Go.Proofs.YtieklokffmjcfaaDoor
open Go.RowKit Vo
attribute [local go_sem ↓] Go.wp_at_zero Go.wp_at_succ

theorem repeat_one (c : UInt8) (n : Nat) : Lib.repeatL [c] n = List.replicate n c := by
  induction n with
  | zero => rfl
  | succ n ih => rw [List.replicate_succ, ← ih]; rfl
theorem dropWhile_none {p : UInt8 → Bool} {l : List UInt8} : l.dropWhile p = [] ↔ ∀ x ∈ l, p x = true := by
  induction l with
  | nil => simp
  | cons c l ih =>
    by_cases h : p c = true
    · simp [h, ih]
    · simp [h]
theorem dropWhile_mem {p : UInt8 → Bool} {l : List UInt8} {x : UInt8} (hx : x ∈ l) (hp : p x = false) : x ∈ l.dropWhile p := by
  induction l with
  | nil => cases hx
  | cons c l ih =>
    by_cases h : p c = true
    · rcases List.mem_cons.1 hx with rfl | hx
      · rw [h] at hp; cases hp
      · rw [List.dropWhile_cons, if_pos h]; exact ih hx
    · rw [List.dropWhile_cons, if_neg h]; exact hx
theorem trim_all (l : List UInt8) (h : l.all (fun c => c == 0) = true) : Lib.trimB l 0 = [] := by
  have hr : l.reverse.dropWhile (· == 0) = [] := by
    rw [dropWhile_none]
    intro x hx
    exact List.all_eq_true.1 h x (List.mem_reverse.1 hx)
  unfold Lib.trimB Lib.trimRightB Lib.trimLeftB
  rw [hr]; rfl
theorem trim_not (l : List UInt8) (h : l.all (fun c => c == 0) = false) : Lib.trimB l 0 ≠ [] := by
  intro e
  unfold Lib.trimB Lib.trimLeftB at e
  rw [dropWhile_none] at e
  have : l.all (fun c => c == 0) = true := by
    rw [List.all_eq_true]
    intro x hx
    cases hz : x == 0 with
    | true => rfl
    | false =>
      have h1 := dropWhile_mem (p := (· == 0)) (List.mem_reverse.2 hx) hz
      have h2 := e x (by unfold Lib.trimRightB; exact List.mem_reverse.2 h1)
      rw [hz] at h2; exact h2
  rw [this] at h; cases h

theorem textLength_any (l : List UInt8) (w : World) (hs : l.length ≤ 1000000) :
    Calls Tryd.prog 36 #[.string (B l)] w fun e w' => e = .returned (.int .i64 (lead l)) ∧ Below w.heap.size w w' :=
  (textLength_walk (B l) w (by rw [B_size]; omega)).mono fun _ _ ⟨he, _, hw⟩ => ⟨he, hw ▸ (Below.refl _ _).alloc (Nat.le_refl _) _⟩

theorem trim_zero (l : List UInt8) (w : World) (hs : l.length ≤ 1000000) :
    Calls Tryd.prog 26 #[.string (B l), .string ⟨#[0]⟩] w fun e w' => e = .returned (.string (B (Lib.trimB l 0))) ∧ Below w.heap.size w w' :=
  (Tryd.strings_Trim_one (B l) 0 (by decide) w (by rw [B_size]; omega)).mono fun _ _ ⟨he, hw⟩ => ⟨he, by
    rcases hw with rfl | rfl
    · exact Below.refl _ _
    · exact (Below.refl _ _).drew⟩

set_option maxHeartbeats 1000000 in
theorem withZeros_any (l : List UInt8) (k : Nat) (w : World) (hs : l.length + k ≤ 1000000) :
    Calls Tryd.prog 37 #[.string (B l), .int .i64 ((l.length + k : Nat) : Int)] w fun e w' => e = .returned (.string (B (l ++ List.replicate k 0))) ∧ Below w.heap.size w w' := by
  have hz := B_size l
  have hr : ∀ W, Calls Tryd.prog 35 #[.string ⟨#[0]⟩, .int .i64 (((l.length + k : Nat) : Int) - ((B l).size : Int))] W fun e w' => e = .returned (.string (B (List.replicate k 0))) ∧ Below W.heap.size W w' := fun W => by
    have h := Tryd.strings_Repeat ⟨#[0]⟩ k W (by omega) (by show 1 * k ≤ _; omega)
    rw [show (((l.length + k : Nat) : Int) - ((B l).size : Int)) = (k : Int) by rw [hz]; omega]
    rw [← repeat_one]
    exact h
  have hcat : B l ++ B (List.replicate k 0) = B (l ++ List.replicate k 0) := B_append _ _
  have hy : (B (List.replicate k 0)).size = k := by rw [B_size, List.length_replicate]
  obtain ⟨m, hm⟩ : ∃ m, l.length + k = m := ⟨_, rfl⟩
  obtain ⟨s, hsb⟩ : ∃ s, B l = s := ⟨_, rfl⟩
  obtain ⟨y, hyb⟩ : ∃ s, B (List.replicate k 0) = s := ⟨_, rfl⟩
  rw [hm] at hs hr ⊢
  rw [hsb] at hr hcat hz ⊢
  rw [hyb] at hr hcat hy
  have b1 : s.size ≤ m := by omega
  have b2 : s.size + y.size ≤ 1000000 := by omega
  have H := Lib.hid hcat
  clear hcat hm hsb hyb hy hz
  go_enter Tryd.func37, Tryd.ntmps37
  go_wp2_with fail
  refine (hr _).mono ?_
  rintro e w1 ⟨rfl, hb1⟩
  go_wp2_with fail
  go_ret
  exact ⟨ret_s H.out, hb1⟩

set_option maxHeartbeats 2000000 in
theorem text_any (l : List UInt8) (a n : Int) (w : World) (hs : l.length ≤ 1000000) :
    Calls Tryd.prog 29 #[.string (B l), .int .i64 a, .int .i64 n] w fun e w' => e = .returned (.tuple #[.string (B (textR l a n).1), .int .i64 (textR l a n).2]) ∧ Below w.heap.size w w' := by
  have hp := part_any l a n
  by_cases h0 : (partR l a n).2 = 0
  · obtain ⟨hlen, hpr⟩ := partR_ok h0
    obtain ⟨p, hpe⟩ : ∃ p, (partR l a n).1 = p := ⟨_, rfl⟩
    have hpl : p.length ≤ l.length := by rw [← hpe, hpr]; unfold cut; rw [List.length_take, List.length_drop]; omega
    rw [hpe, h0] at hp
    have hle := lead_le p
    have ht := fun W => textLength_any p W (by omega)
    have e1 : (B p).extract (lead p) (B p).size = B (p.drop (lead p)) := by rw [B_size, B_extract, List.take_of_length_le (by rw [List.length_drop]; omega)]
    have e2 : (B p).extract 0 (lead p) = B (p.take (lead p)) := by rw [B_extract]; rfl
    have hz := B_size p
    have htr := fun W => trim_zero (p.drop (lead p)) W (by rw [List.length_drop]; omega)
    rw [← e1] at htr
    obtain ⟨k, hk⟩ : ∃ k, lead p = k := ⟨_, rfl⟩
    by_cases hall : (p.drop (lead p)).all (fun c => c == 0) = true
    · have hv : textR l a n = (p.take (lead p), 0) := by unfold textR; rw [if_pos h0, hpe, if_pos hall]
      rw [trim_all _ hall] at htr
      rw [hv]
      rw [hk] at ht htr e2 hle ⊢
      obtain ⟨s, hsb⟩ : ∃ s, B p = s := ⟨_, rfl⟩
      rw [hsb] at hp ht htr e2 hz
      have b1 : s.size ≤ 1000000 := by omega
      have b2 : k ≤ s.size := by omega
      have H := Lib.hid e2
      clear hv hall hk hsb hz e2 e1 hle hpl hpe h0 hpr hlen
      go_enter Tryd.func29, Tryd.ntmps29
      go_wp2_with fail
      refine (hp _).mono ?_
      rintro e w' ⟨rfl, rfl⟩
      go_wp2_with fail
      refine (ht _).mono ?_
      rintro e w1 ⟨rfl, hb1⟩
      go_wp2_with fail
      refine (htr _).mono ?_
      rintro e w2 ⟨rfl, hb2⟩
      go_wp2_with fail
      go_ret2
      exact ⟨ret_sk H.out rfl, below_more hb1 hb2⟩
    · have hall' : (p.drop (lead p)).all (fun c => c == 0) = false := eq_false_of_ne_true hall
      have hv : textR l a n = ([], 5) := by unfold textR; rw [if_pos h0, hpe, if_neg hall]
      have hne := trim_not _ hall'
      rw [hv]
      rw [hk] at ht htr e2 hle hne
      obtain ⟨s, hsb⟩ : ∃ s, B p = s := ⟨_, rfl⟩
      rw [hsb] at hp ht htr e2 hz
      have b1 : s.size ≤ 1000000 := by omega
      have b2 : k ≤ s.size := by omega
      obtain ⟨t, htb⟩ : ∃ t, Lib.trimB (p.drop k) 0 = t := ⟨_, rfl⟩
      rw [htb] at htr hne
      have hn1 : t.isEmpty = false := by cases t with | nil => exact absurd rfl hne | cons c l => rfl
      have hn2 : (!t.isEmpty) = true := by rw [hn1]; rfl
      clear hv hall hk hsb hz e2 e1 hle hpl hpe h0 hpr hlen hall' htb
      go_enter Tryd.func29, Tryd.ntmps29
      go_wp2_with fail
      refine (hp _).mono ?_
      rintro e w' ⟨rfl, rfl⟩
      go_wp2_with fail
      refine (ht _).mono ?_
      rintro e w1 ⟨rfl, hb1⟩
      go_wp2_with fail
      refine (htr _).mono ?_
      rintro e w2 ⟨rfl, hb2⟩
      go_wp2_with fail
      go_ret2
      exact ⟨rfl, below_more hb1 hb2⟩
  · have hv : textR l a n = ([], (partR l a n).2) := by
      unfold textR
      rw [if_neg h0]
    obtain ⟨s, k, hsb, hk⟩ : ∃ s k, s = B (partR l a n).1 ∧ k = (partR l a n).2 := ⟨_, _, rfl, rfl⟩
    rw [hv]
    rw [← hsb, ← hk] at hp
    rw [← hk] at h0 ⊢
    have hkb : (k == 0) = false := by simpa using h0
    have hkb2 : (k != 0) = true := by simpa using h0
    clear hv hsb hk h0
    go_enter Tryd.func29, Tryd.ntmps29
    go_wp2_with fail
    refine (hp _).mono ?_
    rintro e w' ⟨rfl, rfl⟩
    clear hp
    go_wp2_with fail
    go_ret2
    exact ⟨rfl, Below.refl _ _⟩

set_option maxHeartbeats 2000000 in
theorem putText_any (t : List UInt8) (n : Int) (w : World) (hs : t.length ≤ 900000) (hn0 : -9223372036854775808 ≤ n) (hn1 : n ≤ 9223372036854775807) :
    Calls Tryd.prog 16 #[.string (B t), .int .i64 n] w fun e w' => e = .returned (.tuple #[.string (B (putTextR t n).1), .int .i64 (putTextR t n).2]) ∧ Below w.heap.size w w' := by
  have ht := fun W => textLength_any t W (by omega)
  have hle := lead_le t
  have hz := B_size t
  obtain ⟨k, hk⟩ : ∃ k, lead t = k := ⟨_, rfl⟩
  by_cases h1 : n < 0 ∨ 65536 < n
  · have hv : putTextR t n = ([], 2) := by unfold putTextR; rw [if_pos h1]
    rw [hv]
    clear hv ht hle hz hk
    by_cases h2 : n < 0
    · clear h1
      go_enter Tryd.func16, Tryd.ntmps16
      go_wp2_with fail
      go_ret2
      exact ⟨rfl, Below.refl _ _⟩
    · have h3 : 65536 < n := by omega
      clear h1
      go_enter Tryd.func16, Tryd.ntmps16
      go_wp2_with fail
      go_ret2
      exact ⟨rfl, Below.refl _ _⟩
  · obtain ⟨m, rfl⟩ : ∃ m : Nat, n = m := ⟨n.toNat, by omega⟩
    have n1 : m ≤ 65536 := by omega
    by_cases h2 : lead t < t.length
    · have hv : putTextR t m = ([], 5) := by unfold putTextR; rw [if_neg h1, if_pos h2]
      rw [hv]
      rw [hk] at ht h2
      obtain ⟨s, hsb⟩ : ∃ s, B t = s := ⟨_, rfl⟩
      rw [hsb] at ht hz ⊢
      have b1 : k < s.size := by omega
      have b2 : decide (k < s.size) = true := by simpa using b1
      clear hv hle hz hk hsb h1 h2
      go_enter Tryd.func16, Tryd.ntmps16
      go_wp2_with fail
      refine (ht _).mono ?_
      rintro e w1 ⟨rfl, hb1⟩
      go_wp2_with fail
      go_ret2
      exact ⟨rfl, hb1⟩
    · have hkl : lead t = t.length := by omega
      by_cases h3 : (m : Int) < t.length
      · have hv : putTextR t m = ([], 3) := by unfold putTextR; rw [if_neg h1, if_neg h2, if_pos h3]
        rw [hv]
        rw [hkl, ← hz] at ht
        rw [← hz] at h3
        obtain ⟨s, hsb⟩ : ∃ s, B t = s := ⟨_, rfl⟩
        rw [hsb] at ht hz h3 ⊢
        have b2 : decide (m < s.size) = true := by simp; omega
        have b3 : m < s.size := by omega
        clear hv hle hz hk hsb h1 h2 hkl
        go_enter Tryd.func16, Tryd.ntmps16
        go_wp2_with fail
        refine (ht _).mono ?_
        rintro e w1 ⟨rfl, hb1⟩
        go_wp2_with fail
        go_ret2
        exact ⟨rfl, hb1⟩
      · obtain ⟨d, rfl⟩ : ∃ d, m = t.length + d := ⟨m - t.length, by omega⟩
        have hv : putTextR t ((t.length + d : Nat) : Int) = (t ++ List.replicate d 0, 0) := by
          unfold putTextR; rw [if_neg h1, if_neg h2, if_neg h3, Int.toNat_natCast, Nat.add_sub_cancel_left]
        have hwz := fun W => withZeros_any t d W (by omega)
        rw [hv]
        rw [hkl, ← hz] at ht
        rw [← hz] at h3 n1
        rw [← hz] at hwz
        rw [show t.length = (B t).size from hz.symm] 
        obtain ⟨s, hsb⟩ : ∃ s, B t = s := ⟨_, rfl⟩
        rw [hsb] at ht hz h3 n1 hwz ⊢
        obtain ⟨m, hm⟩ : ∃ m, s.size + d = m := ⟨_, rfl⟩
        rw [hm] at hwz h3 n1 ⊢
        have b3 : s.size ≤ m := by omega
        have b4 : ¬ m < s.size := by omega
        clear hv hle hz hk hsb h1 h2 hkl h3 hm
        go_enter Tryd.func16, Tryd.ntmps16
        go_wp2_with fail
        refine (ht _).mono ?_
        rintro e w1 ⟨rfl, hb1⟩
        go_wp2_with fail
        refine (hwz _).mono ?_
        rintro e w2 ⟨rfl, hb2⟩
        go_wp2_with fail
        go_ret2
        exact ⟨rfl, below_more hb1 hb2⟩

set_option maxHeartbeats 2000000 in
theorem pad_any (s : List UInt8) (n : Int) (w : World) (hs : s.length ≤ 900000) (hn0 : -9223372036854775808 ≤ n) (hn1 : n ≤ 9223372036854775807) :
    Calls Tryd.prog 18 #[.string (B s), .int .i64 n] w fun e w' => e = .returned (.tuple #[.string (B (padR s n).1), .int .i64 (padR s n).2]) ∧ Below w.heap.size w w' := by
  have hz := B_size s
  by_cases h1 : 65536 < s.length
  · have hv : padR s n = ([], 3) := by unfold padR; rw [if_pos h1]
    rw [hv]
    obtain ⟨t, hsb⟩ : ∃ t, B s = t := ⟨_, rfl⟩
    rw [hsb] at hz ⊢
    have b1 : (65536 : Int) < (t.size : Int) := by omega
    clear hv hz hsb
    go_enter Tryd.func18, Tryd.ntmps18
    go_wp2_with fail
    go_ret2
    exact ⟨rfl, Below.refl _ _⟩
  · by_cases h2 : n < 1 ∨ 64 < n
    · have hv : padR s n = ([], 2) := by unfold padR; rw [if_neg h1, if_pos h2]
      rw [hv]
      obtain ⟨t, hsb⟩ : ∃ t, B s = t := ⟨_, rfl⟩
      rw [hsb] at hz ⊢
      have b1 : ¬ (65536 : Int) < (t.size : Int) := by omega
      clear hv hz hsb
      by_cases h3 : n < 1
      · clear h2
        go_enter Tryd.func18, Tryd.ntmps18
        go_wp2_with fail
        go_ret2
        exact ⟨rfl, Below.refl _ _⟩
      · have h4 : 64 < n := by omega
        clear h2
        go_enter Tryd.func18, Tryd.ntmps18
        go_wp2_with fail
        go_ret2
        exact ⟨rfl, Below.refl _ _⟩
    · obtain ⟨q, hq⟩ : ∃ q, ((s.length : Int) + n - 1) / n = q := ⟨_, rfl⟩
      have hq0 : 0 ≤ q := by rw [← hq]; exact Int.ediv_nonneg (by omega) (by omega)
      have hq1 : (s.length : Int) ≤ q * n := by
        have h := Int.emod_add_mul_ediv ((s.length : Int) + n - 1) n
        have h' := Int.emod_lt_of_pos ((s.length : Int) + n - 1) (show 0 < n by omega)
        rw [hq, Int.mul_comm] at h
        omega
      have hq2 : q * n ≤ (s.length : Int) + n - 1 := by
        have h := Int.emod_add_mul_ediv ((s.length : Int) + n - 1) n
        have h' := Int.emod_nonneg ((s.length : Int) + n - 1) (show n ≠ 0 by omega)
        rw [hq, Int.mul_comm] at h
        omega
      by_cases h3 : 65536 < q * n
      · have hv : padR s n = ([], 3) := by unfold padR; rw [if_neg h1, if_neg h2, hq, if_pos h3]
        rw [hv]
        rw [← hz] at hq h1
        obtain ⟨t, hsb⟩ : ∃ t, B s = t := ⟨_, rfl⟩
        rw [hsb] at hz hq h1 ⊢
        have b1 : ¬ (65536 : Int) < (t.size : Int) := by omega
        have b2 : 0 < n := by omega
        have b3 : ¬ n = 0 := by omega
        have b4 : ¬ n < 1 := by omega
        have b5 : ¬ 64 < n := by omega
        have b6 : t.size ≤ 65536 := by omega
        have b7 : 0 ≤ (t.size : Int) + n - 1 := by omega
        clear hv hz hsb h2 h1
        go_enter Tryd.func18, Tryd.ntmps18
        go_wp2_with fail
        go_ret2
        exact ⟨rfl, Below.refl _ _⟩
      · obtain ⟨m, hm⟩ : ∃ m : Nat, q * n = m := ⟨(q * n).toNat, by omega⟩
        obtain ⟨d, rfl⟩ : ∃ d, m = s.length + d := ⟨m - s.length, by omega⟩
        have hv : padR s n = (s ++ List.replicate d 0, 0) := by
          unfold padR; rw [if_neg h1, if_neg h2, hq, hm, if_neg (by omega), Int.toNat_natCast, Nat.add_sub_cancel_left]
        have hwz := fun W => withZeros_any s d W (by omega)
        rw [hv]
        rw [hm] at h3
        rw [← hz] at hq h1 h3 hm hwz
        obtain ⟨t, hsb⟩ : ∃ t, B s = t := ⟨_, rfl⟩
        rw [hsb] at hz hq h1 h3 hm hwz ⊢
        obtain ⟨m, hmm⟩ : ∃ m, t.size + d = m := ⟨_, rfl⟩
        rw [hmm] at hm h3 hwz
        have b1 : ¬ (65536 : Int) < (t.size : Int) := by omega
        have b2 : 0 < n := by omega
        have b3 : ¬ n = 0 := by omega
        have b4 : ¬ n < 1 := by omega
        have b5 : ¬ 64 < n := by omega
        have b6 : t.size ≤ 65536 := by omega
        have b7 : 0 ≤ (t.size : Int) + n - 1 := by omega
        have b8 : ¬ (65536 : Int) < (m : Int) := by omega
        have b9 : m ≤ 65536 := by omega
        clear hv hz hsb h2 h1 hmm h3 hq1 hq2 hq0
        go_enter Tryd.func18, Tryd.ntmps18
        go_wp2_with fail
        refine (hwz _).mono ?_
        rintro e w1 ⟨rfl, hb1⟩
        go_wp2_with fail
        go_ret2
        exact ⟨rfl, hb1⟩
end Go.Proofs.YtieklokffmjcfaaDoor
