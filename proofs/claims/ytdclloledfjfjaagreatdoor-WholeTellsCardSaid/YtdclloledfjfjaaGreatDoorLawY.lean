/- WholeTells: for every two texts, two drafts and an integer the law returns true, and every argument reads behind the call as it read before. CONDITIONS: none on the arguments; the five package-level variables that the row lists read, when the call begins, as the text of the program lays them. -/
import Derived.Test.YtdclloledfjfjaaGreatDoorLawU
import Derived.Test.YtdclloledfjfjaaGreatDoorRefS
namespace Go.Proofs.YtdclloledfjfjaaGreatDoor
open Go.RowKit Vd
attribute [local go_sem ↓] Go.wp_at_zero Go.wp_at_succ

theorem same_int (l : List UInt8) (b : l.length ≤ 1000000) : ∃ (j k : Int),
    (∀ W, Gnd W → Calls Tryz.prog 14 #[.string ⟨l.toArray⟩] W fun e w' => e = .returned (.tuple #[.int .i64 j, .int .i64 k]) ∧ Below W.heap.size W w') ∧
    (∀ W, Calls Tryz.prog 15 #[.string ⟨l.toArray⟩] W fun e w' => e = .returned (.tuple #[.int .i64 j, .int .i64 k]) ∧ Below W.heap.size W w') := by
  cases h : rd l with
  | none => exact ⟨_, _, fun W _ => wint_none l W h, fun W => rint_none l W b h⟩
  | some z =>
    by_cases hz : -9223372036854775808 ≤ z ∧ z ≤ 9223372036854775807
    · exact ⟨_, _, fun W _ => wint_some l z W h hz.1 hz.2, fun W => rint_some l z W h hz.1 hz.2⟩
    · exact ⟨_, _, fun W hg => wint_big l z W hg h hz, fun W => rint_big l z W h hz⟩
theorem same_sign (l : List UInt8) (b : l.length ≤ 1000000) : ∃ (j k : Int),
    (∀ W, Calls Tryz.prog 16 #[.string ⟨l.toArray⟩] W fun e w' => e = .returned (.tuple #[.int .i64 j, .int .i64 k]) ∧ Below W.heap.size W w') ∧
    (∀ W, Calls Tryz.prog 17 #[.string ⟨l.toArray⟩] W fun e w' => e = .returned (.tuple #[.int .i64 j, .int .i64 k]) ∧ Below W.heap.size W w') := by
  cases h : rd l with
  | none => exact ⟨_, _, fun W => wsign_none l W h, fun W => rsign_none l W b h⟩
  | some z => exact ⟨_, _, fun W => wsign_some l z W h, fun W => rsign_some l z W h⟩
theorem same_cmp (l1 l2 : List UInt8) (b1 : l1.length ≤ 1000000) (b2 : l2.length ≤ 1000000) : ∃ (j k : Int),
    (∀ W, Calls Tryz.prog 18 #[.string ⟨l1.toArray⟩, .string ⟨l2.toArray⟩] W fun e w' => e = .returned (.tuple #[.int .i64 j, .int .i64 k]) ∧ Below W.heap.size W w') ∧
    (∀ W, Calls Tryz.prog 19 #[.string ⟨l1.toArray⟩, .string ⟨l2.toArray⟩] W fun e w' => e = .returned (.tuple #[.int .i64 j, .int .i64 k]) ∧ Below W.heap.size W w') := by
  cases h1 : rd l1 with
  | none => exact ⟨_, _, fun W => wcmp_none l1 l2 W (Or.inl h1), fun W => rcmp_none l1 l2 W b1 b2 (Or.inl h1)⟩
  | some x =>
    cases h2 : rd l2 with
    | none => exact ⟨_, _, fun W => wcmp_none l1 l2 W (Or.inr h2), fun W => rcmp_none l1 l2 W b1 b2 (Or.inr h2)⟩
    | some y => exact ⟨_, _, fun W => wcmp_some l1 l2 x y W h1 h2, fun W => rcmp_some l1 l2 x y W h1 h2⟩
theorem same_check (l : List UInt8) (b : l.length ≤ 1000000) : ∃ (k : Int),
    (∀ W, Calls Tryz.prog 20 #[.string ⟨l.toArray⟩] W fun e w' => e = .returned (.int .i64 k) ∧ Below W.heap.size W w') ∧
    (∀ W, Calls Tryz.prog 21 #[.string ⟨l.toArray⟩] W fun e w' => e = .returned (.int .i64 k) ∧ Below W.heap.size W w') := by
  have hr := fun W => rcheck_any l W b
  cases h : rd l with
  | none =>
    rw [rd_noB h] at hr
    exact ⟨10, fun W => wcheck_none l W h, hr⟩
  | some z =>
    rw [rd_okB h] at hr
    exact ⟨0, fun W => wcheck_some l z W h, hr⟩

theorem infoP : (Tryz.prog.info? 33).map (fun i => (i.zero, i.size, i.bytes)) = some (some (.agg #[.string ⟨#[]⟩, .string ⟨#[]⟩]), 2, 32) := by kernel_rfl

theorem news_two (w : World) (u v : Value) (t : TypeId) (hu : u.oneCell' = true) (hv : v.oneCell' = true) :
    (∀ j x, [u, v][j]? = some x → (w.alloc (.cells #[u, v] t)).cell? ((⟨w.heap.size, 0, none⟩ : Addr).add j) = some x) ∧ ∀ x ∈ [u, v], x.oneCell' = true := by
  refine ⟨fun j x hj => ?_, fun x hx => ?_⟩
  · rw [addr_plain, cell_of_row _ w.heap.size _ _ _ (0, 0) (heap_alloc_new w _), Nat.zero_add]
    rw [← hj]
    simp
  · rcases List.mem_cons.1 hx with rfl | hx
    · exact hu
    · rw [List.mem_singleton.1 hx]; exact hv

/-- the five pairs: the texts that the law asks about -/
theorem five_at (a b x y p5 q5 : List UInt8) (cur : Array Value) (g i : Nat) (W : World) (f : W.heap[g]? = some (.cells cur 33 (0, 0))) (ht : cur.toList.take (5 * 2) = (four4 a b x y).toList ++ [.string ⟨p5.toArray⟩, .string ⟨q5.toArray⟩]) (ha : a.length ≤ 1000000) (hb : b.length ≤ 1000000) (hx : x.length ≤ 1000000) (hy : y.length ≤ 1000000) (hp : p5.length ≤ 1000000) (hq : q5.length ≤ 1000000) (hi : i < 5) :
    ∃ p q : List UInt8, W.cell? ⟨g, i * 2, none⟩ = some (.string ⟨p.toArray⟩) ∧ W.cell? ⟨g, i * 2 + 1, none⟩ = some (.string ⟨q.toArray⟩) ∧ p.length ≤ 1000000 ∧ q.length ≤ 1000000 := by
  have hc : ∀ o, o < 10 → W.cell? ⟨g, o, none⟩ = ((four4 a b x y).toList ++ [.string ⟨p5.toArray⟩, .string ⟨q5.toArray⟩])[o]? := fun o ho => by
    rw [cell_of_row W g o _ _ (0, 0) f, ← ht, List.getElem?_take_of_lt (by omega)]; simp
  rcases (show i = 0 ∨ i = 1 ∨ i = 2 ∨ i = 3 ∨ i = 4 by omega) with rfl | rfl | rfl | rfl | rfl
  · exact ⟨a, b, by rw [hc _ (by decide)]; rfl, by rw [hc _ (by decide)]; rfl, ha, hb⟩
  · exact ⟨x, y, by rw [hc _ (by decide)]; rfl, by rw [hc _ (by decide)]; rfl, hx, hy⟩
  · exact ⟨a, y, by rw [hc _ (by decide)]; rfl, by rw [hc _ (by decide)]; rfl, ha, hy⟩
  · exact ⟨y, b, by rw [hc _ (by decide)]; rfl, by rw [hc _ (by decide)]; rfl, hy, hb⟩
  · exact ⟨p5, q5, by rw [hc _ (by decide)]; rfl, by rw [hc _ (by decide)]; rfl, hp, hq⟩

theorem owns_open {w : World} {base : Nat} {e : TypeId} {size : Nat} {v : Value} {n : Nat} {xs : List Value} (h : w.ownsRow base e size v n xs) (hn : 0 < n) : ∃ (g cap : Nat) (cur : Array Value), v = .slice (some ⟨g, 0, none⟩) n cap ∧ base ≤ g ∧ w.heap[g]? = some (.cells cur e (0, 0)) ∧ n ≤ cap ∧ cap ≤ maxLen ∧ cur.toList.take (n * size) = xs := by
  rcases h.2 with ⟨_, h0⟩ | ⟨g, cap, cur, h1, h2, h3, h4, h5, _, h7⟩
  · omega
  · exact ⟨g, cap, cur, h1, h2, h3, h4, h5, h7⟩

theorem wr_len {z : Int} (h0 : -9223372036854775808 ≤ z) (h1 : z ≤ 9223372036854775807) : (wr z).length ≤ 1000000 := by
  refine rd_len (z := z) (rd_wr ?_)
  have hlow : z.natAbs < 10 ^ 20 := by omega
  exact Nat.lt_of_lt_of_le hlow (Nat.pow_le_pow_right (by omega) (by rw [maxDigits_eq]; omega))

set_option maxRecDepth 100000 in
set_option maxHeartbeats 8000000 in
theorem tells_core (a b : List UInt8) (b1 : Bool) (A1 : Option Addr) (n1 c1 z1 : Nat) (xs1 : List Nat) (b2 : Bool) (A2 : Option Addr) (n2 c2 z2 : Nat) (xs2 : List Nat) (w : World) (N : Int) (hN : -9223372036854775808 ≤ N ∧ N ≤ 9223372036854775807) (hg : Gnd w) (h1 : DraftIn w b1 A1 n1 c1 z1 xs1) (h2 : DraftIn w b2 A2 n2 c2 z2 xs2) :
    Calls Tryz.prog 3 #[.agg (TwoV a b b1 A1 n1 c1 z1 b2 A2 n2 c2 z2), .int .i64 N] w fun e w' => e = .returned (.bool true) ∧ Below w.heap.size w w' := by
  have hbW : Below w.heap.size w (w.alloc (.cells (TwoV a b b1 A1 n1 c1 z1 b2 A2 n2 c2 z2) 27)) := (Below.refl _ _).alloc (Nat.le_refl _) _
  have hwk := works_any _ (hg.below hbW)
  have hcl : ∀ W, Below (w.alloc (.cells (TwoV a b b1 A1 n1 c1 z1 b2 A2 n2 c2 z2) 27)).heap.size (w.alloc (.cells (TwoV a b b1 A1 n1 c1 z1 b2 A2 n2 c2 z2) 27)) W → ∀ o, o < 8 → W.cell? ⟨w.heap.size, o, none⟩ = (TwoV a b b1 A1 n1 c1 z1 b2 A2 n2 c2 z2)[o]? := fun W hW o ho => by
    rw [hW.cell (p := ⟨w.heap.size, o, none⟩) (by simp), cell_of_row _ w.heap.size o _ _ (0, 0) (heap_alloc_new w _)]
  obtain ⟨M, hM⟩ : ∃ M, IntKind.i64.wrap (-N) = M := ⟨_, rfl⟩
  have hMr : -9223372036854775808 ≤ M ∧ M ≤ 9223372036854775807 := by rw [← hM, IntKind.wrap_i64]; omega
  obtain ⟨i0, hi, hz0, hz1, hz2⟩ := info_parts infoP
  have HI := Lib.hid (And.intro hi (And.intro hz0 (And.intro hz1 hz2)))
  have HC := Lib.hid (And.intro hcl (And.intro hbW (And.intro hg (And.intro h1 (And.intro h2 (And.intro hN hMr))))))
  clear hcl hbW hg h1 h2 hN hMr hi hz0 hz1 hz2
  go_enter Tryz.func3, Tryz.ntmps3
  go_wp2_with fail
  refine hwk.mono ?_
  rintro e w1 ⟨rfl, hb1⟩
  have hbw1 := HC.out.2.1.trans (hb1.mono HC.out.2.1.size)
  have hK1 : Wk w w1 := ⟨hbw1, (HC.out.2.2.1.below hbw1)⟩
  have ho1 := wof_any N w1 hK1.2 HC.out.2.2.2.2.2.1.1 HC.out.2.2.2.2.2.1.2
  have HK := Lib.hid (And.intro hb1 hK1)
  clear hwk hb1 hbw1 hK1
  go_wp2_with fail
  refine ho1.mono ?_
  rintro e w2 ⟨rfl, hb2⟩
  have ho2 := rof_any N w2 HC.out.2.2.2.2.2.1.1 HC.out.2.2.2.2.2.1.2
  have HK2 := Lib.hid hb2
  clear ho1 hb2
  go_wp2_with fail
  refine ho2.mono ?_
  rintro e w3 ⟨rfl, hb3⟩
  have hbx := below_tr HK2.out hb3
  have hby := HK.out.1.trans (hbx.mono HK.out.1.size)
  have hK3 := HK.out.2.step hbx
  obtain ⟨hcl, hbW, hg, h1, h2, hN, hMr⟩ := HC.out
  have f0 := hcl w3 hby 0 (by decide)
  have f1 := hcl w3 hby 1 (by decide)
  have f2 := hcl w3 hby 2 (by decide)
  have f3 := hcl w3 hby 3 (by decide)
  have f4 := hcl w3 hby 4 (by decide)
  have f5 := hcl w3 hby 5 (by decide)
  have f6 := hcl w3 hby 6 (by decide)
  have f7 := hcl w3 hby 7 (by decide)
  simp only [TwoV] at f0 f1 f2 f3 f4 f5 f6 f7
  have hpr := pairs_any2 a b b1 A1 n1 c1 z1 xs1 b2 A2 n2 c2 z2 xs2 w3 (h1.below hK3.1) (h2.below hK3.1)
  have HK3 := Lib.hid hK3
  clear hcl hbW hg h1 h2 hN hMr hbx hby hK3 hb3 ho2
  go_wp2_with fail
  refine hpr.mono ?_
  rintro e w4 ⟨g, ta, tb, x, y, rfl, hF, la, lb, lx, ly, hb4, hgl⟩
  have hK4 := HK3.out.step hb4
  have ho3 := rof_any N w4 HC.out.2.2.2.2.2.1.1 HC.out.2.2.2.2.2.1.2
  have HL := Lib.hid (And.intro la (And.intro lb (And.intro lx (And.intro ly hgl))))
  have HF := Lib.hid (And.intro hF hK4)
  clear f0 f1 f2 f3 f4 f5 f6 f7 hpr la lb lx ly hF hK4 hb4 hgl
  go_wp2_with fail
  refine ho3.mono ?_
  rintro e w5 ⟨rfl, hb5⟩
  have hK5 := HF.out.2.step hb5
  have hF5 := (hb5.block g (heap_lt HF.out.1)).trans HF.out.1
  have ho4 := rof_any M w5 HC.out.2.2.2.2.2.2.1 HC.out.2.2.2.2.2.2.2
  have HF5 := Lib.hid (And.intro hF5 hK5)
  clear ho3 hb5 hK5 hF5
  go_wp2_with fail
  refine ho4.mono ?_
  rintro e w6 ⟨rfl, hb6⟩
  have hK6 := HF5.out.2.step hb6
  have hF6 := (hb6.block g (heap_lt HF5.out.1)).trans HF5.out.1
  have hbd := fun (s t : ByteArray) W => pair_built s t W
  obtain ⟨p5, hp5⟩ : ∃ p, p = wr N := ⟨_, rfl⟩
  obtain ⟨q5, hq5⟩ : ∃ p, p = wr M := ⟨_, rfl⟩
  rw [← hp5, ← hq5]
  have hba : Below w6.heap.size w6 (w6.alloc (.cells #[.string ⟨p5.toArray⟩, .string ⟨q5.toArray⟩] 33)) := (Below.refl _ _).alloc (Nat.le_refl _) _
  have hK7 := hK6.step hba
  have hF7 := (hba.block g (heap_lt hF6)).trans hF6
  have hgw : w.heap.size ≤ g := Nat.le_trans HK3.out.1.size HL.out.2.2.2.2
  have hown : (w6.alloc (.cells #[.string ⟨p5.toArray⟩, .string ⟨q5.toArray⟩] 33)).ownsRow w.heap.size 33 2 (.slice (some ⟨g, 0, none⟩) 4 4) 4 (four4 ta tb x y).toList :=
    ⟨rfl, Or.inr ⟨g, 4, _, rfl, hgw, hF7, Nat.le_refl _, by unfold maxLen; omega, rfl, rfl⟩⟩
  have hnew := news_two w6 (.string ⟨p5.toArray⟩) (.string ⟨q5.toArray⟩) 33 rfl rfl
  have HF6 := Lib.hid (And.intro hK7 (And.intro hp5 hq5))
  clear ho4 hb6 hK6 hF6 hp5 hq5 hba hK7 hF7 HF5 HF
  go_wp2_with (at_builtin; refine wpList_append_own _ rfl (.tmp 27) (.tmp 34) 31 rfl w.heap.size 33 i0 (.agg #[.string ⟨#[]⟩, .string ⟨#[]⟩]) 2 32 Tryz.underlying31 HI.out.1 HI.out.2.1 HI.out.2.2.1 HI.out.2.2.2 rfl (by decide) _ 4 (four4 ta tb x y).toList rfl hown ⟨w6.heap.size, 0, none⟩ 1 1 [.string ⟨p5.toArray⟩, .string ⟨q5.toArray⟩] rfl rfl hnew.1 hnew.2 (by unfold maxLen; omega) (by omega) HF6.out.1.1.size ?_; intro v' w7 hown' hgrow _; obtain ⟨g2, cap, cur, rfl, hge, hF8, hle, hmax, htake⟩ := owns_open hown' (by omega); rw [show 4 + 1 = 5 from rfl] at hle)
  have hbel : Below w.heap.size w w7 := below_own HF6.out.1.1 hown hgrow (Nat.le_refl _) HF6.out.1.1.size
  have hK8 : Wk w w7 := ⟨hbel, HC.out.2.2.1.below hbel⟩
  have hlp : p5.length ≤ 1000000 := by rw [HF6.out.2.1]; exact wr_len HC.out.2.2.2.2.2.1.1 HC.out.2.2.2.2.2.1.2
  have hlq : q5.length ≤ 1000000 := by rw [HF6.out.2.2]; exact wr_len HC.out.2.2.2.2.2.2.1 HC.out.2.2.2.2.2.2.2
  have HP := Lib.hid (And.intro hF8 (And.intro hK8 (And.intro htake (And.intro hlp hlq))))
  clear hbel hown' hown hgrow hge hF8 hle hmax htake hK8 hlp hlq hnew hgw
  go_loopg [37] 5 (fun r iv W => ∃ i : Nat, r = 5 - i ∧ iv = .int .i64 (i : Int) ∧ i ≤ 5 ∧ W.heap[g2]? = some (.cells cur 33 (0, 0)) ∧ Wk w W)
  case atStart => exact ⟨0, rfl, rfl, by omega, HP.out.1, HP.out.2.1⟩
  case round =>
    obtain ⟨i, rfl, rfl, hi, hf, hk⟩ := hrel
    by_cases ha : i < 5
    · have i1 : (i : Int) < 5 := by omega
      have i2 : (0 : Int) ≤ (i : Int) := by omega
      obtain ⟨p, q, hp0, hq0, lp, lq⟩ := five_at ta tb x y p5 q5 cur g2 i wr hf HP.out.2.2.1 HL.out.1 HL.out.2.1 HL.out.2.2.1 HL.out.2.2.2.1 HP.out.2.2.2.1 HP.out.2.2.2.2 ha
      have hP0 := PairW.start (s := .string ⟨p.toArray⟩) (t := .string ⟨q.toArray⟩) hk hf
      obtain ⟨h, hh⟩ : ∃ h, h = wr.heap.size := ⟨_, rfl⟩
      obtain ⟨s1, k1, e1, e2⟩ := same_int p lp
      obtain ⟨s2, k2, e3, e4⟩ := same_sign p lp
      obtain ⟨s3, k3, e5, e6⟩ := same_cmp p q lp lq
      obtain ⟨k4, e7, e8⟩ := same_check p lp
      have E1 := Lib.hid e1
      have E2 := Lib.hid e2
      have E3 := Lib.hid e3
      have E4 := Lib.hid e4
      have E5 := Lib.hid e5
      have E6 := Lib.hid e6
      have HI := Lib.hid (And.intro ha hi)
      have hc0 := hP0.c0
      have hc1 := hP0.c1
      have E7 : Hid (∀ W, (PairW w g2 wr.heap.size cur (.string ⟨p.toArray⟩) (.string ⟨q.toArray⟩) W ∧ W.cell? ⟨wr.heap.size, 0, none⟩ = some (.string ⟨p.toArray⟩)) → Calls Tryz.prog 20 #[.string ⟨p.toArray⟩] W fun e w' => e = .returned (.int .i64 k4) ∧ (PairW w g2 wr.heap.size cur (.string ⟨p.toArray⟩) (.string ⟨q.toArray⟩) w' ∧ w'.cell? ⟨wr.heap.size, 0, none⟩ = some (.string ⟨p.toArray⟩))) := Lib.hid fun W hS => (e7 W).mono fun e w' ⟨he, hb⟩ => ⟨he, hS.1.step hb, (hS.1.step hb).c0⟩
      have E8 : Hid (∀ W, (PairW w g2 wr.heap.size cur (.string ⟨p.toArray⟩) (.string ⟨q.toArray⟩) W ∧ W.cell? ⟨wr.heap.size, 0, none⟩ = some (.string ⟨p.toArray⟩)) → Calls Tryz.prog 21 #[.string ⟨p.toArray⟩] W fun e w' => e = .returned (.int .i64 k4) ∧ (PairW w g2 wr.heap.size cur (.string ⟨p.toArray⟩) (.string ⟨q.toArray⟩) w' ∧ w'.cell? ⟨wr.heap.size, 0, none⟩ = some (.string ⟨p.toArray⟩))) := Lib.hid fun W hS => (e8 W).mono fun e w' ⟨he, hb⟩ => ⟨he, hS.1.step hb, (hS.1.step hb).c0⟩
      clear e1 e2 e3 e4 e5 e6 e7 e8 ha hi hf hk lp lq hh
      go_wp2_with fail
      refine (E1.out _ hP0.k.2).mono ?_
      rintro e v1 ⟨rfl, hb⟩
      have hP1 := hP0.step hb
      clear hP0 hb hc0 hc1 E1
      have hc0 := hP1.c0
      have hc1 := hP1.c1
      go_wp2_with fail
      refine (E2.out _).mono ?_
      rintro e v2 ⟨rfl, hb⟩
      have hP2 := hP1.step hb
      clear hP1 hb hc0 hc1 E2
      have hc0 := hP2.c0
      have hc1 := hP2.c1
      go_wp2_with fail
      refine (E3.out _).mono ?_
      rintro e v3 ⟨rfl, hb⟩
      have hP3 := hP2.step hb
      clear hP2 hb hc0 hc1 E3
      have hc0 := hP3.c0
      have hc1 := hP3.c1
      go_wp2_with fail
      refine (E4.out _).mono ?_
      rintro e v4 ⟨rfl, hb⟩
      have hP4 := hP3.step hb
      clear hP3 hb hc0 hc1 E4
      have hc0 := hP4.c0
      have hc1 := hP4.c1
      go_wp2_with fail
      refine (E5.out _).mono ?_
      rintro e v5 ⟨rfl, hb⟩
      have hP5 := hP4.step hb
      clear hP4 hb hc0 hc1 E5
      have hc0 := hP5.c0
      have hc1 := hP5.c1
      go_wp2_with fail
      refine (E6.out _).mono ?_
      rintro e v6 ⟨rfl, hb⟩
      have hP6 := hP5.step hb
      clear hP5 hb hc0 hc1 E6
      have hc0 := hP6.c0
      have hc1 := hP6.c1
      go_wp2_with fail
      go_region_held3 (fun W => PairW w g2 wr.heap.size cur (.string ⟨p.toArray⟩) (.string ⟨q.toArray⟩) W ∧ W.cell? ⟨wr.heap.size, 0, none⟩ = some (.string ⟨p.toArray⟩)) (first | with_reducible assumption | exact ⟨⟨⟨hP6.k.1.drew, hP6.k.2.below (Below.refl _ _).drew⟩, hP6.f, hP6.c0, hP6.c1⟩, hP6.c0⟩)
        (first
          | (go_at_call 20; refine (E7.out _ ?_).mono ?_; with_reducible assumption; rintro e v7 ⟨rfl, hS7⟩)
          | (go_at_call 21; refine (E8.out _ ?_).mono ?_; with_reducible assumption; rintro e v8 ⟨rfl, hS8⟩))
      have hPz := hS8.1
      clear hP6 hc0 hc1 hS8
      go_wp2_with fail
      go_roundg (5 - (i + 1))
      case measure => have := HI.out.1; omega
      case rel => exact ⟨i + 1, rfl, by go_num, by have := HI.out.1; omega, hPz.f, hPz.k⟩
    · obtain rfl : i = 5 := by omega
      go_wp2_with fail
      go_ret
      exact ⟨rfl, hk.1⟩

end Go.Proofs.YtdclloledfjfjaaGreatDoor

namespace Go.Proofs.YtdclloledfjfjaaGreatDoor.tells
open Go.ChangeShapes Go.WideShapes Go.ChangeAt Go.RowKit Vd

theorem i64_wf {n : Int} (h : (Lit.int .i64 n).wf = true) : -9223372036854775808 ≤ n ∧ n ≤ 9223372036854775807 := (Lit.wf_int_iff .i64 n).1 h

/-- The door's own heap meets the row's list. -/
theorem door_met (os : Os) (args : Array Value) : laidMetH Tryz.prog Rows.wholeTellsRow.laid ((World.doorLaid Tryz.prog 400 os).forCall (fun _ _ => 0) ⟨#[], args, []⟩).memory :=
  laidMetH_of_parts3 (fuel := 8) (laidMet_of_run' 8 (by kernel_rfl) (by kernel_rfl)) (by kernel_rfl) (by kernel_rfl)

theorem laidOutHere : laidOutB Tryz.prog = true := by kernel_rfl

def wit : Array Value := #[.agg #[.string ⟨#[]⟩, .string ⟨#[]⟩, .bool false, .slice none 0 0, .int .u16 0, .bool false, .slice none 0 0, .int .u16 0], .int .i64 0]

set_option maxRecDepth 100000 in
theorem lifted (os : Os) (started : os.Started) (H : Type) (enc : TypeId × Value → H) :
    ReturnsInHanded {} Tryz.checked os 3 .any (fun w args => (Rows.wholeTellsSpec.pre enc Tryz.prog Tryz.f3 [] false w args ∧ laidMetH Tryz.prog Rows.wholeTellsRow.laid w) ∧ sizedMet enc Tryz.prog Tryz.f3 (OpenSpec.ofChange Rows.wholeTellsSpec) false w args)
      (Rows.wholeTellsSpec.post enc Tryz.prog Tryz.f3 false true false false) := by
  refine returnsInHanded_of_change_and (C := Tryz.checked) (X := fun w _ => laidMetH Tryz.prog Rows.wholeTellsRow.laid w) (fun _ _ _ hh h => h.of_heap hh) ownKnobNone started (by kernel_rfl) Tryz.func3
    (ChangeSpec.witness_shaped (enc := enc) (C := Tryz.checked) (os := os) (X := fun w _ => laidMetH Tryz.prog Rows.wholeTellsRow.laid w) false (World.doorLaid Tryz.prog 400 os) wit 8 rfl (World.shaped_of_RefB (by kernel_rfl) (by kernel_rfl)) (by kernel_rfl) (by kernel_rfl) (by kernel_rfl) (door_met os _)) ?_
  intro W base args ds gs before hval0 hW _ _ hL _
  have hval : ∀ (j : Nat) t v, Tryz.f3.params[j]? = some t → args[j]? = some v → Value.okWide Tryz.prog W .any base t v := hval0
  have hW' := hW
  obtain ⟨p, q, hA0, hV, rfl, hfz, hnd⟩ := hW
  have hA : DataW.TrodAll enc Tryz.prog W 0 (fun _ => true) true Tryz.f3.params.toList args.toList ds p := hA0
  rw [Tryz.params3] at hA hval
  obtain ⟨v0, vs0, d0, ds0, p0, q0, hargs, rfl, rfl, h0, r0⟩ := trodAll_cons hA
  obtain ⟨v1, vs1, d1, ds1, p1, q1, rfl, rfl, rfl, h1, r1⟩ := trodAll_cons r0
  obtain ⟨rfl, rfl, rfl⟩ := trodAll_nil r1
  obtain rfl : args = #[v0, v1] := by cases args; simp_all
  obtain ⟨rfl, rfl⟩ := trodVars_none hV
  obtain ⟨a, b, b1, A1, n1, c1, z1, xs1, b2, A2, n2, c2, z2, xs2, rfl, D1, D2⟩ := open_two (hval 0 _ _ rfl rfl) h0
  obtain ⟨n, rfl, rfl, rfl, wn⟩ := open_int Tryz.underlying3 (hval 1 _ _ rfl rfl) h1
  refine (tells_core a b b1 A1 n1 c1 z1 xs1 b2 A2 n2 c2 z2 xs2 W n (i64_wf wn) (gnd_of_laid hL) D1 D2).mono fun e W' ⟨he, hb⟩ => ?_
  subst he
  exact ⟨_, rfl, post_true (tb := 4) laidOutHere (by kernel_rfl) Tryz.underlying4 (by kernel_rfl) rfl rfl hW' hb⟩

theorem said : Rows.WholeTellsSaid :=
  OpenClaim.holds_of_wide 3 Tryz.f3 rfl rfl rfl rfl rfl rfl rfl ⟨rfl, rfl, rfl, rfl, rfl⟩ rfl rfl rfl rfl rfl (by kernel_rfl) Tryz.func3 (by kernel_rfl)
    (of_decide_eq_true (by kernel_rfl)) (by unfold Func.isWrapper; first | (rw [if_pos (by decide +kernel)]; kernel_rfl) | (rw [if_neg (by decide +kernel)]; exact ⟨rfl, rfl⟩))
    (fun os started H enc _ => lifted os started H enc)

theorem plain (f : FuncId) (fn : Func) (hf : Tryz.pinned.checked.prog.funcNamed "verdigris/verdigrislaw01.WholeTells" = some f) (hfn : Tryz.pinned.checked.prog.funcs[f]? = some fn) :
    true = Tryz.pinned.checked.prog.looks [] ∧ ∀ (j : Nat) t, fn.params[j]? = some t → Tryz.pinned.checked.prog.wantsStandIn t = false := by
  obtain rfl : f = 3 := Option.some.inj ((show Tryz.prog.funcNamed "verdigris/verdigrislaw01.WholeTells" = some 3 by kernel_rfl).symm.trans hf) |>.symm
  obtain rfl : fn = Tryz.f3 := (Option.some.inj (Tryz.func3.symm.trans hfn)).symm
  refine ⟨by kernel_rfl, fun j t ht => ?_⟩
  rw [Tryz.params3] at ht
  have : t = 27 ∨ t = 3 := by simpa using Array.mem_of_getElem? ht
  rcases this with rfl | rfl
  · exact (show Tryz.prog.wantsStandIn 27 = false by kernel_rfl)
  · exact (show Tryz.prog.wantsStandIn 3 = false by kernel_rfl)

/-- THE CARD. -/
theorem card : Rows.WholeTellsCardSaid :=
  Claim7.holds_tied_plain_at .later [] _ _ _ _ said (fun _ h => by cases h) (by kernel_rfl) (fun _ h => by cases h) wholeTells_row_tie rfl ⟨rfl, rfl⟩ (by kernel_rfl) rfl plain (by kernel_rfl)
#print axioms card
end Go.Proofs.YtdclloledfjfjaaGreatDoor.tells
