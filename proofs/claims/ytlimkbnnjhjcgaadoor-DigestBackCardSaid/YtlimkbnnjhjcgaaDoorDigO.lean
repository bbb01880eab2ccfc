/- Package digest: Check, More, Done, Sum. -/
import Derived.Test.YtlimkbnnjhjcgaaDoorDigN
import Derived.Test.YtlimkbnnjhjcgaaDoorDigK
import Derived.Test.YtlimkbnnjhjcgaaDoorDigL
namespace Go.Proofs.YtlimkbnnjhjcgaaDoor
open Go.RowKit Vo
attribute [local go_sem ↓] Go.wp_at_zero Go.wp_at_succ

set_option maxRecDepth 100000 in
set_option maxHeartbeats 2000000 in
theorem check_any (d : Dg) (w : World) (hr : d.rest.length ≤ 1000000) :
    Calls Tryd.prog 24 #[.agg (dgV d)] w fun e w' => e = .returned (.int .i64 (resE d)) ∧ Below w.heap.size w w' := by
  have hre := fun W => resume_any d W hr
  have hf : Fr (w.alloc (.cells (dgV d) 41)) w.heap.size (dgV d) 41 := Fr.new rfl
  have hV : ∃ q n r, resV d = pg q n r := by
    unfold resV
    split
    · exact ⟨_, _, _, rfl⟩
    · exact ⟨(0, 0, 0, 0), 0, [], rfl⟩
  obtain ⟨q, n, r, hV⟩ := hV
  rw [hV] at hre
  go_enter Tryd.func24, Tryd.ntmps24
  go_wp2_with (refine wpList_load_row rfl 41 _ rfl _ rfl _ _ _ _ hf Tryd.underlying41 rfl size41 ?_)
  refine (hre _).mono ?_
  rintro e w1 ⟨rfl, hb⟩
  have hB : Below w.heap.size w w1 := ((Below.refl _ _).alloc (Nat.le_refl _) _).trans (hb.mono (by simp))
  go_wp2_with fail
  go_ret
  exact ⟨rfl, hB.alloc hB.size _⟩

theorem bcA_zero : bcA zero16 = zb16 := by kernel_rfl

set_option maxRecDepth 100000 in
set_option maxHeartbeats 2000000 in
theorem sum_any (l : List UInt8) (w : World) (hl : l.length ≤ 100000) (hK : KT w) :
    Calls Tryd.prog 11 #[.string (B l)] w fun e w' => e = .returned (.tuple #[.agg (bcA (sumR l).1), .int .i64 (sumR l).2]) ∧ Below w.heap.size w w' := by
  have hz := B_size l
  have hb0 : Below w.heap.size w (w.alloc (.cells zb16 28)) := (Below.refl _ _).alloc (Nat.le_refl _) _
  by_cases hlt : 65536 < l.length
  · have b1 : ((l.length : Nat) : Int) > 65536 := by omega
    have e1 : sumR l = (zero16, 3) := if_pos hlt
    have H := Lib.hid hb0
    clear hb0
    rw [e1]
    go_enter Tryd.func11, Tryd.ntmps11
    have hf : Fr (w.alloc (.cells zb16 28)) w.heap.size zb16 28 := Fr.new rfl
    go_wp2_with (refine wpList_store_row rfl 28 _ _ rfl _ zb16 rfl rfl _ _ hf size28 rfl (by kernel_rfl) ?_)
    exact bodyPost_ret (v := .tuple #[.agg zb16, .int .i64 3]) (results_row_tmp rfl _ _ w.heap.size _ zb16 _ _ _ rfl rfl (setRow_heap _ _ _ _ _ _ hf) Tryd.underlying28 rfl size28) rfl ⟨rfl, below_setRow H.out (Nat.le_refl _) _⟩
  · have b1 : ¬ ((l.length : Nat) : Int) > 65536 := by omega
    have e1 : sumR l = (told (chg q0 (l ++ endL (l.length % 64) l.length)), 0) := if_neg hlt
    have hmo := fun W (h : KT W) => more_any q0 0 [] l W q0_ok h (by omega) (by simp) hl
    have hdo := fun W (h : KT W) => donep_any (chg q0 l) l.length (restL l) W (chg_ok q0_ok) h hl (by rw [restL_length]; omega)
    simp only [List.nil_append, Nat.zero_add] at hmo
    rw [restL_length, ← chg_append] at hdo
    have ht := told_length (chg q0 (l ++ endL (l.length % 64) l.length))
    rw [e1]
    obtain ⟨T, hT⟩ : ∃ T, told (chg q0 (l ++ endL (l.length % 64) l.length)) = T := ⟨_, rfl⟩
    rw [hT] at hdo ht
    rw [hT]
    obtain ⟨q2, hq2⟩ : ∃ T, chg q0 l = T := ⟨_, rfl⟩
    obtain ⟨r2, hr2⟩ : ∃ m, restL l = m := ⟨_, rfl⟩
    rw [hq2, hr2] at hmo hdo
    clear hT hq2 hr2 e1
    have hf : Fr (w.alloc (.cells zb16 28)) w.heap.size zb16 28 := Fr.new rfl
    have hsz : (bcA T).size = 16 := by rw [bcA_size, ht]
    have H := Lib.hid (And.intro hb0 (And.intro hf (And.intro hsz (hK.step hb0))))
    clear hb0 hf hsz ht hK
    go_enter Tryd.func11, Tryd.ntmps11
    go_wp2_with fail
    change Calls _ _ _ (w.alloc (.cells zb16 28)) _
    refine (begin_any _).mono ?_
    rintro e w1 ⟨rfl, hb1⟩
    obtain ⟨hb0, hf, hsz, hk0⟩ := H.out
    clear H
    have hg1 : Fr w1 w.heap.size zb16 28 := Fr.call hb1 hf
    have hB1 : Below w.heap.size w w1 := hb0.trans (hb1.mono (by simp))
    have hk1 := hk0.step hb1
    clear hb0 hf hk0 hb1
    go_wp2_with fail
    refine (hmo _ hk1).mono ?_
    rintro e w2 ⟨rfl, hb2⟩
    have hg2 := Fr.call hb2 hg1
    have hB2 : Below w.heap.size w w2 := hB1.trans (hb2.mono hB1.size)
    have hk2 := hk1.step hb2
    clear hb2 hk1 hB1 hg1 hmo
    go_wp2_with fail
    refine (hdo _ hk2).mono ?_
    rintro e w3 ⟨rfl, hb3⟩
    have hg3 := Fr.call hb3 hg2
    have hB3 : Below w.heap.size w w3 := hB2.trans (hb3.mono hB2.size)
    clear hb3 hk2 hB2 hg2 hdo
    go_wp2_with (refine wpList_store_row rfl 28 _ _ rfl _ (bcA T) rfl rfl _ _ hg3 (size28.trans (by rw [hsz])) (by rw [hsz] <;> rfl) (bcA_one T) ?_)
    exact bodyPost_ret (v := .tuple #[.agg (bcA T), .int .i64 0]) (results_row_tmp rfl _ _ w.heap.size _ (bcA T) _ _ _ rfl rfl (setRow_heap _ _ _ _ _ _ hg3) Tryd.underlying28 rfl (size28.trans (by rw [hsz]))) rfl ⟨rfl, below_setRow hB3 (Nat.le_refl _) _⟩

/-- what a digest in progress that is valid holds -/
theorem okD {d : Dg} (h : d.ok) : OkQ d.q ∧ d.len = (d.len.toNat : Int) ∧ d.len.toNat ≤ 65536 ∧ d.rest.length = d.len.toNat % 64 := by
  obtain ⟨⟨a0, a1⟩, ⟨b0, b1⟩, ⟨c0, c1⟩, ⟨d0, d1⟩, hn, hl, hr⟩ := h
  refine ⟨⟨?_, ?_, ?_, ?_⟩, ?_, ?_, ?_⟩ <;> (try unfold Dg.q) <;> (try dsimp only) <;> omega

set_option maxRecDepth 100000 in
set_option maxHeartbeats 2000000 in
theorem done_any (d : Dg) (w : World) (hr : d.rest.length ≤ 1000000) (hK : KT w) :
    Calls Tryd.prog 22 #[.agg (dgV d)] w fun e w' => e = .returned (.tuple #[.agg (bcA (doneR d).1), .int .i64 (doneR d).2]) ∧ Below w.heap.size w w' := by
  have hre := fun W => resume_any d W hr
  have hf : Fr ((w.alloc (.cells (dgV d) 41)).alloc (.cells zb16 28)) w.heap.size (dgV d) 41 := Fr.old (Fr.new rfl)
  have hg : Fr ((w.alloc (.cells (dgV d) 41)).alloc (.cells zb16 28)) (w.heap.size + 1) zb16 28 := Fr.new (by simp)
  have hb0 : Below w.heap.size w ((w.alloc (.cells (dgV d) 41)).alloc (.cells zb16 28)) := ((Below.refl _ _).alloc (Nat.le_refl _) _).alloc (by simp) _
  by_cases hok : d.ok
  · obtain ⟨hq, hn, hn2, hl⟩ := okD hok
    have e1 : resV d = pg d.q d.len d.rest := if_pos hok
    have e2 : resE d = 0 := if_pos hok
    have e3 : doneR d = (told (chg d.q (d.rest ++ endL d.rest.length d.len.toNat)), 0) := if_pos hok
    have hdo := fun W (h : KT W) => donep_any d.q d.len.toNat d.rest W hq h (by omega) (by omega)
    have ht := told_length (chg d.q (d.rest ++ endL d.rest.length d.len.toNat))
    rw [← hn] at hdo
    rw [e1, e2] at hre
    rw [e3]
    obtain ⟨T, hT⟩ : ∃ T, told (chg d.q (d.rest ++ endL d.rest.length d.len.toNat)) = T := ⟨_, rfl⟩
    rw [hT] at hdo ht
    rw [hT]
    obtain ⟨q, hq'⟩ : ∃ q, d.q = q := ⟨_, rfl⟩
    rw [hq'] at hre hdo
    have hsz : (bcA T).size = 16 := by rw [bcA_size, ht]
    have hk0 := hK.step hb0
    clear hT hq' hq e1 e2 e3 ht hok hK hn hn2 hl
    have H := Lib.hid (And.intro hb0 (And.intro hg (And.intro hsz hk0)))
    clear hb0 hg hsz hk0
    go_enter Tryd.func22, Tryd.ntmps22
    go_wp2_with (refine wpList_load_row rfl 41 _ rfl _ rfl _ _ _ _ hf Tryd.underlying41 rfl size41 ?_)
    refine (hre _).mono ?_
    rintro e w1 ⟨rfl, hb1⟩
    obtain ⟨hb0, hg, hsz, hk0⟩ := H.out
    clear H
    have hg1 := Fr.call hb1 hg
    have hB1 : Below w.heap.size w w1 := hb0.trans (hb1.mono hb0.size)
    have hk1 := hk0.step hb1
    clear hb0 hg hk0 hb1 hf hre
    have hz1 : Fr (w1.alloc (.cells zp 60)) w1.heap.size zp 60 := Fr.new rfl
    have hp2 : Fr ((w1.alloc (.cells zp 60)).setRow w1.heap.size (pg q d.len d.rest)) w1.heap.size (pg q d.len d.rest) 60 := setRow_heap _ _ _ _ _ _ hz1
    have hbz : Below w1.heap.size w1 ((w1.alloc (.cells zp 60)).setRow w1.heap.size (pg q d.len d.rest)) := below_setRow ((Below.refl _ _).alloc (Nat.le_refl _) _) (Nat.le_refl _) _
    have hk2 := hk1.step hbz
    have hB2 : Below w.heap.size w ((w1.alloc (.cells zp 60)).setRow w1.heap.size (pg q d.len d.rest)) := hB1.trans (hbz.mono hB1.size)
    have hg2 := Fr.call hbz hg1
    clear hbz
    have H := Lib.hid (And.intro hB2 (And.intro hg2 (And.intro hsz hk2)))
    clear hk2 hB2 hg2 hk1 hB1 hg1 hsz
    go_wp2_with (first | (refine wpList_load_row rfl 60 _ rfl _ rfl _ _ _ _ hp2 Tryd.underlying60 rfl size60 ?_) | (refine wpList_store_row rfl 60 _ _ rfl _ (pg q d.len d.rest) rfl rfl _ _ hz1 size60 rfl (one6 _ _ _) ?_))
    refine (hdo _ H.out.2.2.2).mono ?_
    rintro e w3 ⟨rfl, hb3⟩
    obtain ⟨hB2, hg2, hsz, -⟩ := H.out
    clear H
    have hg3 := Fr.call hb3 hg2
    have hB3 := hB2.trans (hb3.mono hB2.size)
    clear hb3 hB2 hg2 hdo
    go_wp2_with (refine wpList_store_row rfl 28 _ _ rfl _ (bcA T) rfl rfl _ _ hg3 (size28.trans (by rw [hsz])) (by rw [hsz] <;> rfl) (bcA_one T) ?_)
    exact bodyPost_ret (v := .tuple #[.agg (bcA T), .int .i64 0]) (results_row_tmp rfl _ _ (w.heap.size + 1) _ (bcA T) _ _ _ rfl rfl (setRow_heap _ _ _ _ _ _ hg3) Tryd.underlying28 rfl (size28.trans (by rw [hsz]))) rfl ⟨rfl, below_setRow hB3 (by omega) _⟩
  · have e1 : resV d = zp := if_neg hok
    have e2 : resE d = 80 := if_neg hok
    have e3 : doneR d = (zero16, 80) := if_neg hok
    rw [e1, e2] at hre
    rw [e3]
    have hk0 := hK.step hb0
    clear e1 e2 e3 hok hK
    have H := Lib.hid (And.intro hb0 (And.intro hg hk0))
    clear hb0 hg hk0
    go_enter Tryd.func22, Tryd.ntmps22
    go_wp2_with (refine wpList_load_row rfl 41 _ rfl _ rfl _ _ _ _ hf Tryd.underlying41 rfl size41 ?_)
    refine (hre _).mono ?_
    rintro e w1 ⟨rfl, hb1⟩
    obtain ⟨hb0, hg, hk0⟩ := H.out
    clear H
    have hg1 := Fr.call hb1 hg
    have hB1 : Below w.heap.size w w1 := hb0.trans (hb1.mono hb0.size)
    have hk1 := hk0.step hb1
    clear hb0 hg hk0 hb1 hf hre
    have hz1 : Fr (w1.alloc (.cells zp 60)) w1.heap.size zp 60 := Fr.new rfl
    have hp2 : Fr ((w1.alloc (.cells zp 60)).setRow w1.heap.size zp) w1.heap.size zp 60 := setRow_heap _ _ _ _ _ _ hz1
    have hbz : Below w1.heap.size w1 ((w1.alloc (.cells zp 60)).setRow w1.heap.size zp) := below_setRow ((Below.refl _ _).alloc (Nat.le_refl _) _) (Nat.le_refl _) _
    have hk2 := hk1.step hbz
    have hB2 : Below w.heap.size w ((w1.alloc (.cells zp 60)).setRow w1.heap.size zp) := hB1.trans (hbz.mono hB1.size)
    have hg2 := Fr.call hbz hg1
    clear hbz
    clear hk2 hp2 hk1 hB1 hg1
    have H := Lib.hid hB2
    clear hB2
    go_wp2_with (first | (refine wpList_store_row rfl 60 _ _ rfl _ zp rfl rfl _ _ hz1 size60 rfl (by kernel_rfl) ?_) | (refine wpList_store_row rfl 28 _ _ rfl _ zb16 rfl rfl _ _ hg2 size28 rfl (by kernel_rfl) ?_))
    exact bodyPost_ret (v := .tuple #[.agg zb16, .int .i64 80]) (results_row_tmp rfl _ _ (w.heap.size + 1) _ zb16 _ _ _ rfl rfl (setRow_heap _ _ _ _ _ _ hg2) Tryd.underlying28 rfl size28) rfl ⟨rfl, below_setRow H.out (by omega) _⟩

set_option maxRecDepth 100000 in
set_option maxHeartbeats 2000000 in
theorem moreD_any (d : Dg) (s : List UInt8) (w : World) (hr : d.rest.length ≤ 1000000) (hs : s.length ≤ 100000) (hK : KT w) :
    Calls Tryd.prog 21 #[.agg (dgV d), .string (B s)] w fun e w' => e = .returned (.tuple #[.agg (dgV (moreR d s).1), .int .i64 (moreR d s).2]) ∧ Below w.heap.size w w' := by
  have hre := fun W => resume_any d W hr
  have hz := B_size s
  have hf : Fr ((w.alloc (.cells (dgV d) 41)).alloc (.cells zd 41)) w.heap.size (dgV d) 41 := Fr.old (Fr.new rfl)
  have hg : Fr ((w.alloc (.cells (dgV d) 41)).alloc (.cells zd 41)) (w.heap.size + 1) zd 41 := Fr.new (by simp)
  have hb0 : Below w.heap.size w ((w.alloc (.cells (dgV d) 41)).alloc (.cells zd 41)) := ((Below.refl _ _).alloc (Nat.le_refl _) _).alloc (by simp) _
  have hk0 := hK.step hb0
  have H := Lib.hid (And.intro hb0 (And.intro hg hk0))
  clear hb0 hg hk0 hK
  by_cases hok : d.ok
  · obtain ⟨hq, hn, hn2, hl⟩ := okD hok
    have e1 : resV d = pg d.q d.len d.rest := if_pos hok
    have e2 : resE d = 0 := if_pos hok
    rw [e1, e2] at hre
    by_cases hlt : 65536 < d.len + s.length
    · have e3 : moreR d s = (Dg.none, 3) := by rw [moreR, if_pos hok, if_pos hlt]
      have b1 : ((s.length : Nat) : Int) > 65536 - d.len := by omega
      have b2 : 0 ≤ d.len := by omega
      have b3 : d.len ≤ 65536 := by omega
      rw [e3]
      obtain ⟨q, hq'⟩ : ∃ q, d.q = q := ⟨_, rfl⟩
      rw [hq'] at hre
      clear hq' hq e1 e2 e3 hok hn hn2 hl hlt
      go_enter Tryd.func21, Tryd.ntmps21
      go_wp2_with (refine wpList_load_row rfl 41 _ rfl _ rfl _ _ _ _ hf Tryd.underlying41 rfl size41 ?_)
      refine (hre _).mono ?_
      rintro e w1 ⟨rfl, hb1⟩
      obtain ⟨hb0, hg, hk0⟩ := H.out
      clear H
      have hg1 := Fr.call hb1 hg
      have hB1 : Below w.heap.size w w1 := hb0.trans (hb1.mono hb0.size)
      have hk1 := hk0.step hb1
      clear hb0 hg hk0 hb1 hf hre
      have hz1 : Fr (w1.alloc (.cells zp 60)) w1.heap.size zp 60 := Fr.new rfl
      have hp2 : Fr ((w1.alloc (.cells zp 60)).setRow w1.heap.size (pg q d.len d.rest)) w1.heap.size (pg q d.len d.rest) 60 := setRow_heap _ _ _ _ _ _ hz1
      have hbz : Below w1.heap.size w1 ((w1.alloc (.cells zp 60)).setRow w1.heap.size (pg q d.len d.rest)) := below_setRow ((Below.refl _ _).alloc (Nat.le_refl _) _) (Nat.le_refl _) _
      have hk2 := hk1.step hbz
      have hB2 : Below w.heap.size w ((w1.alloc (.cells zp 60)).setRow w1.heap.size (pg q d.len d.rest)) := hB1.trans (hbz.mono hB1.size)
      have hg2 := Fr.call hbz hg1
      clear hbz
      clear hk2 hk1 hB1 hg1
      have H := Lib.hid hB2
      clear hB2
      have c4 : ((w1.alloc (.cells zp 60)).setRow w1.heap.size (pg q d.len d.rest)).cell? ⟨w1.heap.size, 4, none⟩ = some (.int .i64 d.len) := hp2.cell 4
      simp only [zp] at c4
      go_wp2_with (first | (refine wpList_store_row rfl 60 _ _ rfl _ (pg q d.len d.rest) rfl rfl _ _ hz1 size60 rfl (one6 _ _ _) ?_) | (refine wpList_store_row rfl 41 _ _ rfl _ zd rfl rfl _ _ hg2 size41 rfl (by kernel_rfl) ?_))
      exact bodyPost_ret (v := .tuple #[.agg zd, .int .i64 3]) (results_row_tmp rfl _ _ (w.heap.size + 1) _ zd _ _ _ rfl rfl (setRow_heap _ _ _ _ _ _ hg2) Tryd.underlying41 rfl size41) rfl ⟨rfl, below_setRow H.out (by omega) _⟩
    · have e3 : moreR d s = (mkD (chg d.q (d.rest ++ s)) (d.len.toNat + s.length) (restL (d.rest ++ s)), 0) := by rw [moreR, if_pos hok, if_neg hlt]
      have b1 : ¬ ((s.length : Nat) : Int) > 65536 - d.len := by omega
      have b2 : 0 ≤ d.len := by omega
      have b3 : d.len ≤ 65536 := by omega
      have hmo := fun W (h : KT W) => more_any d.q d.len.toNat d.rest s W hq h (by omega) (by omega) hs
      have hdi := fun W => digest_any (chg d.q (d.rest ++ s)) ((d.len.toNat + s.length : Nat) : Int) (restL (d.rest ++ s)) W (chg_ok hq)
      rw [← hn] at hmo
      have e4 : mkD (chg d.q (d.rest ++ s)) (d.len.toNat + s.length) (restL (d.rest ++ s)) = ⟨(chg d.q (d.rest ++ s)).1, (chg d.q (d.rest ++ s)).2.1, (chg d.q (d.rest ++ s)).2.2.1, (chg d.q (d.rest ++ s)).2.2.2, ((d.len.toNat + s.length : Nat) : Int), restL (d.rest ++ s)⟩ := rfl
      rw [← e4] at hdi
      rw [e3]
      obtain ⟨D, hD⟩ : ∃ D, mkD (chg d.q (d.rest ++ s)) (d.len.toNat + s.length) (restL (d.rest ++ s)) = D := ⟨_, rfl⟩
      rw [hD] at hdi
      rw [hD]
      obtain ⟨q2, hq2⟩ : ∃ q, chg d.q (d.rest ++ s) = q := ⟨_, rfl⟩
      obtain ⟨n2, hn2'⟩ : ∃ q, ((d.len.toNat + s.length : Nat) : Int) = q := ⟨_, rfl⟩
      obtain ⟨r2, hr2⟩ : ∃ q, restL (d.rest ++ s) = q := ⟨_, rfl⟩
      rw [hq2, hn2', hr2] at hmo hdi
      obtain ⟨q, hq'⟩ : ∃ q, d.q = q := ⟨_, rfl⟩
      rw [hq'] at hre hmo
      clear hq' hq e1 e2 e3 e4 hok hn hn2 hl hlt hD hq2 hn2' hr2
      go_enter Tryd.func21, Tryd.ntmps21
      go_wp2_with (refine wpList_load_row rfl 41 _ rfl _ rfl _ _ _ _ hf Tryd.underlying41 rfl size41 ?_)
      refine (hre _).mono ?_
      rintro e w1 ⟨rfl, hb1⟩
      obtain ⟨hb0, hg, hk0⟩ := H.out
      clear H
      have hg1 := Fr.call hb1 hg
      have hB1 : Below w.heap.size w w1 := hb0.trans (hb1.mono hb0.size)
      have hk1 := hk0.step hb1
      clear hb0 hg hk0 hb1 hf hre
      have hz1 : Fr (w1.alloc (.cells zp 60)) w1.heap.size zp 60 := Fr.new rfl
      have hp2 : Fr ((w1.alloc (.cells zp 60)).setRow w1.heap.size (pg q d.len d.rest)) w1.heap.size (pg q d.len d.rest) 60 := setRow_heap _ _ _ _ _ _ hz1
      have hbz : Below w1.heap.size w1 ((w1.alloc (.cells zp 60)).setRow w1.heap.size (pg q d.len d.rest)) := below_setRow ((Below.refl _ _).alloc (Nat.le_refl _) _) (Nat.le_refl _) _
      have hk2 := hk1.step hbz
      have hB2 : Below w.heap.size w ((w1.alloc (.cells zp 60)).setRow w1.heap.size (pg q d.len d.rest)) := hB1.trans (hbz.mono hB1.size)
      have hg2 := Fr.call hbz hg1
      clear hbz
      have H := Lib.hid (And.intro hB2 (And.intro hg2 hk2))
      clear hB2 hg2 hk2 hk1 hB1 hg1
      have c4 : ((w1.alloc (.cells zp 60)).setRow w1.heap.size (pg q d.len d.rest)).cell? ⟨w1.heap.size, 4, none⟩ = some (.int .i64 d.len) := hp2.cell 4
      simp only [zp] at c4
      go_wp2_with (first | (refine wpList_load_row rfl 60 _ rfl _ rfl _ _ _ _ hp2 Tryd.underlying60 rfl size60 ?_) | (refine wpList_store_row rfl 60 _ _ rfl _ (pg q d.len d.rest) rfl rfl _ _ hz1 size60 rfl (one6 _ _ _) ?_))
      refine (hmo _ H.out.2.2).mono ?_
      rintro e w3 ⟨rfl, hb3⟩
      obtain ⟨hB2, hg2, -⟩ := H.out
      clear H
      have hg3 := Fr.call hb3 hg2
      have hB3 := hB2.trans (hb3.mono hB2.size)
      clear hb3 hB2 hg2 hmo hp2 hz1 c4
      go_wp2_with fail
      refine (hdi _).mono ?_
      rintro e w4 ⟨rfl, hb4⟩
      have hg4 := Fr.call hb4 hg3
      have hB4 := hB3.trans (hb4.mono hB3.size)
      clear hb4 hB3 hg3 hdi
      go_wp2_with (refine wpList_store_row rfl 41 _ _ rfl _ (dgV D) rfl rfl _ _ hg4 size41 rfl (one41 _) ?_)
      exact bodyPost_ret (v := .tuple #[.agg (dgV D), .int .i64 0]) (results_row_tmp rfl _ _ (w.heap.size + 1) _ (dgV D) _ _ _ rfl rfl (setRow_heap _ _ _ _ _ _ hg4) Tryd.underlying41 rfl size41) rfl ⟨rfl, below_setRow hB4 (by omega) _⟩
  · have e1 : resV d = zp := if_neg hok
    have e2 : resE d = 80 := if_neg hok
    have e3 : moreR d s = (Dg.none, 80) := if_neg hok
    rw [e1, e2] at hre
    rw [e3]
    clear e1 e2 e3 hok
    go_enter Tryd.func21, Tryd.ntmps21
    go_wp2_with (refine wpList_load_row rfl 41 _ rfl _ rfl _ _ _ _ hf Tryd.underlying41 rfl size41 ?_)
    refine (hre _).mono ?_
    rintro e w1 ⟨rfl, hb1⟩
    obtain ⟨hb0, hg, hk0⟩ := H.out
    clear H
    have hg1 := Fr.call hb1 hg
    have hB1 : Below w.heap.size w w1 := hb0.trans (hb1.mono hb0.size)
    have hk1 := hk0.step hb1
    clear hb0 hg hk0 hb1 hf hre
    have hz1 : Fr (w1.alloc (.cells zp 60)) w1.heap.size zp 60 := Fr.new rfl
    have hp2 : Fr ((w1.alloc (.cells zp 60)).setRow w1.heap.size zp) w1.heap.size zp 60 := setRow_heap _ _ _ _ _ _ hz1
    have hbz : Below w1.heap.size w1 ((w1.alloc (.cells zp 60)).setRow w1.heap.size zp) := below_setRow ((Below.refl _ _).alloc (Nat.le_refl _) _) (Nat.le_refl _) _
    have hk2 := hk1.step hbz
    have hB2 : Below w.heap.size w ((w1.alloc (.cells zp 60)).setRow w1.heap.size zp) := hB1.trans (hbz.mono hB1.size)
    have hg2 := Fr.call hbz hg1
    clear hbz
    clear hk2 hp2 hk1 hB1 hg1
    have H := Lib.hid hB2
    clear hB2
    go_wp2_with (first | (refine wpList_store_row rfl 60 _ _ rfl _ zp rfl rfl _ _ hz1 size60 rfl (by kernel_rfl) ?_) | (refine wpList_store_row rfl 41 _ _ rfl _ zd rfl rfl _ _ hg2 size41 rfl (by kernel_rfl) ?_))
    exact bodyPost_ret (v := .tuple #[.agg zd, .int .i64 80]) (results_row_tmp rfl _ _ (w.heap.size + 1) _ zd _ _ _ rfl rfl (setRow_heap _ _ _ _ _ _ hg2) Tryd.underlying41 rfl size41) rfl ⟨rfl, below_setRow H.out (by omega) _⟩
end Go.Proofs.YtlimkbnnjhjcgaaDoor
