/- FracPowers: the law's walk. FracPowers: for every two drafts of fractions and every two numbers the law returns true, and every argument reads behind the call as it read before. CONDITIONS: none on the arguments; the package-level variables that the row lists read, when the call begins, as the text of the program lays them. -/
import Derived.Test.YtfkdcgjphnoioaaGreatDoorFrcB
import Derived.Test.YtfkdcgjphnoioaaGreatDoorFrcA
import Derived.Deep.DeepCutAuto
import Derived.Test.YtfkdcgjphnoioaaGreatDoorCardF
import Derived.ChangeSame
import Derived.Lay
import Derived.Shelf.Vars
import Derived.ChangeMaps5
namespace Go.Proofs.YtfkdcgjphnoioaaGreatDoor
open Go.RowKit Vd
attribute [local go_sem ↓] Go.wp_at_zero Go.wp_at_succ

theorem wk_of {w W : World} (h : Gnd w) (hb : Below w.heap.size w W) : Wk w W := ⟨hb, h.below hb⟩
/-- a short fraction of a draft -/
theorem short_q {i : World} {b1 : Bool} {A1 : Option Addr} {n1 c1 z1 : Nat} {xs1 : List Nat} {b2 : Bool} {A2 : Option Addr} {n2 c2 z2 : Nat} {xs2 : List Nat} (h1 : DraftIn i b1 A1 n1 c1 z1 xs1) (h2 : DraftIn i b2 A2 n2 c2 z2 xs2) (W : World) (hb : Below i.heap.size i W) :
    Calls Tryz.prog 28 #[.agg #[.bool b1, .slice A1 n1 c1, .int .u16 (z1 : Int), .bool b2, .slice A2 n2 c2, .int .u16 (z2 : Int)]] W fun e w' => ∃ l m : List UInt8, e = .returned (qV l m) ∧ (∃ x : Rat, Bq x 3 ∧ l = tN x ∧ m = tD x) ∧ Below W.heap.size W w' := by
  have e1 := h1.below hb
  have e2 := h2.below hb
  refine (fshort_any b1 A1 n1 c1 z1 xs1 b2 A2 n2 c2 z2 xs2 W e1.sl e1.ok e1.n e2.sl e2.ok e2.n).mono ?_
  rintro e w' ⟨m, d, h3, h4, h5, h6, he, hbw⟩
  exact ⟨_, _, he, ⟨Rat.divInt m d, Bq.divInt (by omega) (Nat.le_trans (show m.natAbs ≤ 1000 by omega) (by decide)) (Nat.le_trans (show d.natAbs ≤ 1000 by omega) (by decide)), rfl, rfl⟩, hbw⟩

set_option maxRecDepth 100000 in
set_option maxHeartbeats 8000000 in
theorem fpowers_core (b1 : Bool) (A1 : Option Addr) (n1 c1 z1 : Nat) (xs1 : List Nat) (b2 : Bool) (A2 : Option Addr) (n2 c2 z2 : Nat) (xs2 : List Nat) (b3 : Bool) (A3 : Option Addr) (n3 c3 z3 : Nat) (xs3 : List Nat) (b4 : Bool) (A4 : Option Addr) (n4 c4 z4 : Nat) (xs4 : List Nat) (n many : Nat) (w : World) (hg : Gnd w) (D1 : DraftIn w b1 A1 n1 c1 z1 xs1) (D2 : DraftIn w b2 A2 n2 c2 z2 xs2) (D3 : DraftIn w b3 A3 n3 c3 z3 xs3) (D4 : DraftIn w b4 A4 n4 c4 z4 xs4) :
    Calls Tryz.prog 10 #[.agg #[.bool b1, .slice A1 n1 c1, .int .u16 (z1 : Int), .bool b2, .slice A2 n2 c2, .int .u16 (z2 : Int)], .agg #[.bool b3, .slice A3 n3 c3, .int .u16 (z3 : Int), .bool b4, .slice A4 n4 c4, .int .u16 (z4 : Int)], .int .u8 (n : Int), .int .u8 (many : Int)] w fun e w' => e = .returned (.bool true) ∧ Below w.heap.size w w' := by
  obtain ⟨k, hk⟩ : ∃ k, k = n % 41 := ⟨_, rfl⟩
  obtain ⟨m, hm⟩ : ∃ m, m = many % 30 := ⟨_, rfl⟩
  have hk2 : (n : Int).tmod 41 = (k : Int) := by rw [hk, Int.tmod_eq_emod_of_nonneg (by omega)]; omega
  have hm2 : (many : Int).tmod 30 = (m : Int) := by rw [hm, Int.tmod_eq_emod_of_nonneg (by omega)]; omega
  have hk3 : (0 : Int) ≤ (k : Int) ∧ (k : Int) ≤ 40 := by omega
  have hm3 : (0 : Int) ≤ (m : Int) ∧ (m : Int) ≤ 29 := by omega
  obtain ⟨W0, hW0⟩ : ∃ W0, W0 = (w.alloc (.cells #[.bool b1, .slice A1 n1 c1, .int .u16 (z1 : Int), .bool b2, .slice A2 n2 c2, .int .u16 (z2 : Int)] 30)).alloc (.cells #[.bool b3, .slice A3 n3 c3, .int .u16 (z3 : Int), .bool b4, .slice A4 n4 c4, .int .u16 (z4 : Int)] 30) := ⟨_, rfl⟩
  have hbW : Below w.heap.size w W0 := by rw [hW0]; exact ((Below.refl _ _).alloc (Nat.le_refl _) _).alloc (by simp) _
  have hE0 : Fr W0 w.heap.size #[.bool b1, .slice A1 n1 c1, .int .u16 (z1 : Int), .bool b2, .slice A2 n2 c2, .int .u16 (z2 : Int)] 30 := by rw [hW0]; exact (Fr.new rfl).old
  have hE1 : Fr W0 (w.heap.size + 1) #[.bool b3, .slice A3 n3 c3, .int .u16 (z3 : Int), .bool b4, .slice A4 n4 c4, .int .u16 (z4 : Int)] 30 := by rw [hW0]; exact Fr.new (by simp)
  have hwk := fworks_any W0 (hg.below hbW)
  rw [hW0] at hwk
  have H := Lib.hid (And.intro hbW (And.intro hE0 (And.intro hE1 (And.intro D1 (And.intro D2 (And.intro D3 (And.intro D4 hg)))))))
  have hmk := fun W => mkFr m (by omega) W
  clear D1 D2 D3 D4 hg hk hm hbW hE0 hE1
  go_enter Tryz.func10, Tryz.ntmps10
  go_wp2_with fail
  refine hwk.mono ?_
  rw [← hW0]
  rintro e V ⟨rfl, hb1⟩
  have hbV := belowt H.out.1 H.out.1.size hb1
  have hSV : Wk w V := ⟨hbV, H.out.2.2.2.2.2.2.2.below hbV⟩
  have hF0 := H.out.2.1.call hb1
  have hF1 := H.out.2.2.1.call hb1
  clear hwk hb1 hW0
  go_upto_region 3 with fail
  have hK3 : ∀ W, Below V.heap.size V W → Below V.heap.size V W ∧ W.cell? ⟨w.heap.size, 0, none⟩ = some (.bool b1) ∧ W.cell? ⟨w.heap.size, 1, none⟩ = some (.slice A1 n1 c1) ∧ W.cell? ⟨w.heap.size, 2, none⟩ = some (.int .u16 (z1 : Int)) ∧ W.cell? ⟨w.heap.size, 3, none⟩ = some (.bool b2) ∧ W.cell? ⟨w.heap.size, 4, none⟩ = some (.slice A2 n2 c2) ∧ W.cell? ⟨w.heap.size, 5, none⟩ = some (.int .u16 (z2 : Int)) ∧ W.cell? ⟨w.heap.size + 1, 0, none⟩ = some (.bool b3) ∧ W.cell? ⟨w.heap.size + 1, 1, none⟩ = some (.slice A3 n3 c3) ∧ W.cell? ⟨w.heap.size + 1, 2, none⟩ = some (.int .u16 (z3 : Int)) ∧ W.cell? ⟨w.heap.size + 1, 3, none⟩ = some (.bool b4) ∧ W.cell? ⟨w.heap.size + 1, 4, none⟩ = some (.slice A4 n4 c4) ∧ W.cell? ⟨w.heap.size + 1, 5, none⟩ = some (.int .u16 (z4 : Int)) := fun W hb => ⟨hb, keepc hb (hF0.cell 0), keepc hb (hF0.cell 1), keepc hb (hF0.cell 2), keepc hb (hF0.cell 3), keepc hb (hF0.cell 4), keepc hb (hF0.cell 5), keepc hb (hF1.cell 0), keepc hb (hF1.cell 1), keepc hb (hF1.cell 2), keepc hb (hF1.cell 3), keepc hb (hF1.cell 4), keepc hb (hF1.cell 5)⟩
  have G30 : Hid (∀ W, Below V.heap.size V W ∧ W.cell? ⟨w.heap.size, 0, none⟩ = some (.bool b1) ∧ W.cell? ⟨w.heap.size, 1, none⟩ = some (.slice A1 n1 c1) ∧ W.cell? ⟨w.heap.size, 2, none⟩ = some (.int .u16 (z1 : Int)) ∧ W.cell? ⟨w.heap.size, 3, none⟩ = some (.bool b2) ∧ W.cell? ⟨w.heap.size, 4, none⟩ = some (.slice A2 n2 c2) ∧ W.cell? ⟨w.heap.size, 5, none⟩ = some (.int .u16 (z2 : Int)) ∧ W.cell? ⟨w.heap.size + 1, 0, none⟩ = some (.bool b3) ∧ W.cell? ⟨w.heap.size + 1, 1, none⟩ = some (.slice A3 n3 c3) ∧ W.cell? ⟨w.heap.size + 1, 2, none⟩ = some (.int .u16 (z3 : Int)) ∧ W.cell? ⟨w.heap.size + 1, 3, none⟩ = some (.bool b4) ∧ W.cell? ⟨w.heap.size + 1, 4, none⟩ = some (.slice A4 n4 c4) ∧ W.cell? ⟨w.heap.size + 1, 5, none⟩ = some (.int .u16 (z4 : Int)) → Calls Tryz.prog 28 #[.agg #[.bool b1, .slice A1 n1 c1, .int .u16 (z1 : Int), .bool b2, .slice A2 n2 c2, .int .u16 (z2 : Int)]] W fun e w' => ∃ l m : List UInt8, e = .returned (qV l m) ∧ (∃ x : Rat, Bq x 3 ∧ l = tN x ∧ m = tD x) ∧ Below W.heap.size W w' ∧ Below V.heap.size V w' ∧ w'.cell? ⟨w.heap.size, 0, none⟩ = some (.bool b1) ∧ w'.cell? ⟨w.heap.size, 1, none⟩ = some (.slice A1 n1 c1) ∧ w'.cell? ⟨w.heap.size, 2, none⟩ = some (.int .u16 (z1 : Int)) ∧ w'.cell? ⟨w.heap.size, 3, none⟩ = some (.bool b2) ∧ w'.cell? ⟨w.heap.size, 4, none⟩ = some (.slice A2 n2 c2) ∧ w'.cell? ⟨w.heap.size, 5, none⟩ = some (.int .u16 (z2 : Int)) ∧ w'.cell? ⟨w.heap.size + 1, 0, none⟩ = some (.bool b3) ∧ w'.cell? ⟨w.heap.size + 1, 1, none⟩ = some (.slice A3 n3 c3) ∧ w'.cell? ⟨w.heap.size + 1, 2, none⟩ = some (.int .u16 (z3 : Int)) ∧ w'.cell? ⟨w.heap.size + 1, 3, none⟩ = some (.bool b4) ∧ w'.cell? ⟨w.heap.size + 1, 4, none⟩ = some (.slice A4 n4 c4) ∧ w'.cell? ⟨w.heap.size + 1, 5, none⟩ = some (.int .u16 (z4 : Int))) := Lib.hid (fun W hS => (short_q H.out.2.2.2.1 H.out.2.2.2.2.1 W (hbV.trans (hS.1.mono hbV.size))).mono fun e w' ⟨l, m, he, hx, hb⟩ => ⟨l, m, he, hx, hb, hK3 _ (hS.1.trans (hb.mono hS.1.size))⟩)
  have G31 : Hid (∀ W, Below V.heap.size V W ∧ W.cell? ⟨w.heap.size, 0, none⟩ = some (.bool b1) ∧ W.cell? ⟨w.heap.size, 1, none⟩ = some (.slice A1 n1 c1) ∧ W.cell? ⟨w.heap.size, 2, none⟩ = some (.int .u16 (z1 : Int)) ∧ W.cell? ⟨w.heap.size, 3, none⟩ = some (.bool b2) ∧ W.cell? ⟨w.heap.size, 4, none⟩ = some (.slice A2 n2 c2) ∧ W.cell? ⟨w.heap.size, 5, none⟩ = some (.int .u16 (z2 : Int)) ∧ W.cell? ⟨w.heap.size + 1, 0, none⟩ = some (.bool b3) ∧ W.cell? ⟨w.heap.size + 1, 1, none⟩ = some (.slice A3 n3 c3) ∧ W.cell? ⟨w.heap.size + 1, 2, none⟩ = some (.int .u16 (z3 : Int)) ∧ W.cell? ⟨w.heap.size + 1, 3, none⟩ = some (.bool b4) ∧ W.cell? ⟨w.heap.size + 1, 4, none⟩ = some (.slice A4 n4 c4) ∧ W.cell? ⟨w.heap.size + 1, 5, none⟩ = some (.int .u16 (z4 : Int)) → Calls Tryz.prog 28 #[.agg #[.bool b3, .slice A3 n3 c3, .int .u16 (z3 : Int), .bool b4, .slice A4 n4 c4, .int .u16 (z4 : Int)]] W fun e w' => ∃ l m : List UInt8, e = .returned (qV l m) ∧ (∃ x : Rat, Bq x 3 ∧ l = tN x ∧ m = tD x) ∧ Below W.heap.size W w' ∧ Below V.heap.size V w' ∧ w'.cell? ⟨w.heap.size, 0, none⟩ = some (.bool b1) ∧ w'.cell? ⟨w.heap.size, 1, none⟩ = some (.slice A1 n1 c1) ∧ w'.cell? ⟨w.heap.size, 2, none⟩ = some (.int .u16 (z1 : Int)) ∧ w'.cell? ⟨w.heap.size, 3, none⟩ = some (.bool b2) ∧ w'.cell? ⟨w.heap.size, 4, none⟩ = some (.slice A2 n2 c2) ∧ w'.cell? ⟨w.heap.size, 5, none⟩ = some (.int .u16 (z2 : Int)) ∧ w'.cell? ⟨w.heap.size + 1, 0, none⟩ = some (.bool b3) ∧ w'.cell? ⟨w.heap.size + 1, 1, none⟩ = some (.slice A3 n3 c3) ∧ w'.cell? ⟨w.heap.size + 1, 2, none⟩ = some (.int .u16 (z3 : Int)) ∧ w'.cell? ⟨w.heap.size + 1, 3, none⟩ = some (.bool b4) ∧ w'.cell? ⟨w.heap.size + 1, 4, none⟩ = some (.slice A4 n4 c4) ∧ w'.cell? ⟨w.heap.size + 1, 5, none⟩ = some (.int .u16 (z4 : Int))) := Lib.hid (fun W hS => (short_q H.out.2.2.2.2.2.1 H.out.2.2.2.2.2.2.1 W (hbV.trans (hS.1.mono hbV.size))).mono fun e w' ⟨l, m, he, hx, hb⟩ => ⟨l, m, he, hx, hb, hK3 _ (hS.1.trans (hb.mono hS.1.size))⟩)
  go_cut [9, 10] (fun s9 s10 wx => ∃ (g9 g10 : Nat) (x1 x2 y1 y2 : List UInt8), s9 = .pointer (some ⟨g9, 0, none⟩) ∧ s10 = .pointer (some ⟨g10, 0, none⟩) ∧ (∃ x : Rat, Bq x 3 ∧ x1 = tN x ∧ x2 = tD x) ∧ (∃ x : Rat, Bq x 3 ∧ y1 = tN x ∧ y2 = tD x) ∧ Fr wx g9 #[.string ⟨x1.toArray⟩, .string ⟨x2.toArray⟩] 24 ∧ Fr wx g10 #[.string ⟨y1.toArray⟩, .string ⟨y2.toArray⟩] 24 ∧ V.heap.size ≤ g9 ∧ V.heap.size ≤ g10 ∧ Below V.heap.size V wx)
  case first =>
    go_region_held3 (fun W => Below V.heap.size V W ∧ W.cell? ⟨w.heap.size, 0, none⟩ = some (.bool b1) ∧ W.cell? ⟨w.heap.size, 1, none⟩ = some (.slice A1 n1 c1) ∧ W.cell? ⟨w.heap.size, 2, none⟩ = some (.int .u16 (z1 : Int)) ∧ W.cell? ⟨w.heap.size, 3, none⟩ = some (.bool b2) ∧ W.cell? ⟨w.heap.size, 4, none⟩ = some (.slice A2 n2 c2) ∧ W.cell? ⟨w.heap.size, 5, none⟩ = some (.int .u16 (z2 : Int)) ∧ W.cell? ⟨w.heap.size + 1, 0, none⟩ = some (.bool b3) ∧ W.cell? ⟨w.heap.size + 1, 1, none⟩ = some (.slice A3 n3 c3) ∧ W.cell? ⟨w.heap.size + 1, 2, none⟩ = some (.int .u16 (z3 : Int)) ∧ W.cell? ⟨w.heap.size + 1, 3, none⟩ = some (.bool b4) ∧ W.cell? ⟨w.heap.size + 1, 4, none⟩ = some (.slice A4 n4 c4) ∧ W.cell? ⟨w.heap.size + 1, 5, none⟩ = some (.int .u16 (z4 : Int)))
      (first | with_reducible assumption | (refine hK3 _ ?_; (repeat (first | with_reducible assumption | with_reducible exact Below.refl _ _ | with_reducible refine Below.drew ?_ | with_reducible refine Below.alloc ?_ (by first | omega | (simp; done) | (simp; omega)) _ | with_reducible refine Below.setCell ?_ (by first | (simp; done) | (simp; omega) | omega) _))))
      (first
      | (go_at_call 28; with_reducible refine (G30.out _ ?_).mono ?_; with_reducible assumption; rintro e w30 ⟨l30, m30, rfl, hx30, hb30, hS30⟩; have hB30 := hS30.1; have hs30 := hB30.size; have hz30 := hb30.size; (try simp at hz30); obtain ⟨hk301, hk302⟩ := kept2 hb30; (try (have e3000 := hk301 (V.heap.size) 0 ?se3000; case se3000 => (first | omega | (simp; done) | (simp; omega)))); (try (have f3000 := hk302 (V.heap.size) 0 ?sf3000; case sf3000 => (first | omega | (simp; done) | (simp; omega)))); (try (have e3001 := hk301 (V.heap.size) 1 ?se3001; case se3001 => (first | omega | (simp; done) | (simp; omega)))); (try (have f3001 := hk302 (V.heap.size) 1 ?sf3001; case sf3001 => (first | omega | (simp; done) | (simp; omega)))); (try (have c300 : V.heap.size < w30.heap.size := ?sc300; case sc300 => omega)); (try (have d300 := Nat.ne_of_lt c300)); (try (have e3010 := hk301 (V.heap.size + 1) 0 ?se3010; case se3010 => (first | omega | (simp; done) | (simp; omega)))); (try (have f3010 := hk302 (V.heap.size + 1) 0 ?sf3010; case sf3010 => (first | omega | (simp; done) | (simp; omega)))); (try (have e3011 := hk301 (V.heap.size + 1) 1 ?se3011; case se3011 => (first | omega | (simp; done) | (simp; omega)))); (try (have f3011 := hk302 (V.heap.size + 1) 1 ?sf3011; case sf3011 => (first | omega | (simp; done) | (simp; omega)))); (try (have c301 : V.heap.size + 1 < w30.heap.size := ?sc301; case sc301 => omega)); (try (have d301 := Nat.ne_of_lt c301)); clear hk301 hk302)
      | (go_at_call 28; with_reducible refine (G31.out _ ?_).mono ?_; with_reducible assumption; rintro e w31 ⟨l31, m31, rfl, hx31, hb31, hS31⟩; have hB31 := hS31.1; have hs31 := hB31.size; have hz31 := hb31.size; (try simp at hz31); obtain ⟨hk311, hk312⟩ := kept2 hb31; (try (have e3100 := hk311 (V.heap.size) 0 ?se3100; case se3100 => (first | omega | (simp; done) | (simp; omega)))); (try (have f3100 := hk312 (V.heap.size) 0 ?sf3100; case sf3100 => (first | omega | (simp; done) | (simp; omega)))); (try (have e3101 := hk311 (V.heap.size) 1 ?se3101; case se3101 => (first | omega | (simp; done) | (simp; omega)))); (try (have f3101 := hk312 (V.heap.size) 1 ?sf3101; case sf3101 => (first | omega | (simp; done) | (simp; omega)))); (try (have c310 : V.heap.size < w31.heap.size := ?sc310; case sc310 => omega)); (try (have d310 := Nat.ne_of_lt c310)); (try (have e3110 := hk311 (V.heap.size + 1) 0 ?se3110; case se3110 => (first | omega | (simp; done) | (simp; omega)))); (try (have f3110 := hk312 (V.heap.size + 1) 0 ?sf3110; case sf3110 => (first | omega | (simp; done) | (simp; omega)))); (try (have e3111 := hk311 (V.heap.size + 1) 1 ?se3111; case se3111 => (first | omega | (simp; done) | (simp; omega)))); (try (have f3111 := hk312 (V.heap.size + 1) 1 ?sf3111; case sf3111 => (first | omega | (simp; done) | (simp; omega)))); (try (have c311 : V.heap.size + 1 < w31.heap.size := ?sc311; case sc311 => omega)); (try (have d311 := Nat.ne_of_lt c311)); (try (have e3120 := hk311 (w30.heap.size) 0 ?se3120; case se3120 => (first | omega | (simp; done) | (simp; omega)))); (try (have f3120 := hk312 (w30.heap.size) 0 ?sf3120; case sf3120 => (first | omega | (simp; done) | (simp; omega)))); (try (have e3121 := hk311 (w30.heap.size) 1 ?se3121; case se3121 => (first | omega | (simp; done) | (simp; omega)))); (try (have f3121 := hk312 (w30.heap.size) 1 ?sf3121; case sf3121 => (first | omega | (simp; done) | (simp; omega)))); (try (have c312 : w30.heap.size < w31.heap.size := ?sc312; case sc312 => omega)); (try (have d312 := Nat.ne_of_lt c312)); (try (have e3130 := hk311 (w30.heap.size + 1) 0 ?se3130; case se3130 => (first | omega | (simp; done) | (simp; omega)))); (try (have f3130 := hk312 (w30.heap.size + 1) 0 ?sf3130; case sf3130 => (first | omega | (simp; done) | (simp; omega)))); (try (have e3131 := hk311 (w30.heap.size + 1) 1 ?se3131; case se3131 => (first | omega | (simp; done) | (simp; omega)))); (try (have f3131 := hk312 (w30.heap.size + 1) 1 ?sf3131; case sf3131 => (first | omega | (simp; done) | (simp; omega)))); (try (have c313 : w30.heap.size + 1 < w31.heap.size := ?sc313; case sc313 => omega)); (try (have d313 := Nat.ne_of_lt c313)); clear hk311 hk312))
    all_goals
      go_wp2_with fail
      go_meet
      refine ⟨_, _, l30, m30, l31, m31, rfl, rfl, ?_, ?_, ?_, ?_, ?_, ?_, ?_⟩
      all_goals (first
        | omega
        | rfl
        | exact hx30
        | exact hx31
        | (repeat (first
          | (with_reducible refine Fr.new ?_; focus (first | rfl | (simp; done) | omega | (simp; omega))) | (with_reducible refine Fr.fillF ?_) | (with_reducible refine Fr.old ?_) | (with_reducible refine Fr.drew ?_) | (with_reducible refine Fr.call hb31 ?_) | (with_reducible refine Fr.call hb30 ?_) | ((with_reducible refine Fr.far ?_ (Fr.far ?_ ?_)); (focus (first | omega | (simp; omega))); (focus (first | omega | (simp; omega)))))
           done)
        | (repeat (first | with_reducible assumption | with_reducible refine Below.drew ?_ | with_reducible refine Below.alloc ?_ (by first | omega | (simp; done) | (simp; omega)) _ | with_reducible refine Below.setCell ?_ (by first | (simp; done) | (simp; omega) | omega) _)
           done))
  case rest =>
    obtain ⟨g9, g10, x1, x2, y1, y2, rfl, rfl, hr3_0, hr3_1, hFg9, hFg10, hlg9, hlg10, hbc⟩ := hcut
    obtain ⟨x, hx, ex1, ex2⟩ := hr3_0
    obtain ⟨y, hy, ey1, ey2⟩ := hr3_1
    have hsd := powers_said x y k m hx hy (by omega) (by omega)
    rw [← ex1, ← ex2, ← ey1, ← ey2] at hsd
    obtain ⟨p1, p2, r1, r2, U1, U2, T1, T2, s1, s2, M1, M2, k1, k2, k3, k4, k5, k6, k7, k8⟩ := hsd
    have C1 := Lib.hid k1
    have C2 := Lib.hid k2
    have C3 := Lib.hid k3
    have C4 := Lib.hid k4
    have C5 := Lib.hid k5
    have C6 := Lib.hid k6
    have C7 := Lib.hid k7
    have C8 := Lib.hid k8
    have hS3 := hSV.step hbc
    have F9 := hFg9
    have F10 := hFg10
    have lw9 : w.heap.size ≤ g9 := Nat.le_trans hbV.size hlg9
    clear k1 k2 k3 k4 k5 k6 k7 k8 hx hy ex1 ex2 ey1 ey2 hFg9 hFg10 hSV hbc hbV hF0 hF1 hK3 G30 G31 hlg9 hlg10
    obtain ⟨a0, a1, -, -⟩ := F9.cells2
    obtain ⟨b0, b1', -, -⟩ := F10.cells2
    have HF := Lib.hid (And.intro F9 F10)
    clear F9 F10
    go_wp2_with fail
    refine (C1.out.wk hS3).mono ?_
    rintro e w5 ⟨rfl, hb5, hS5⟩
    have F9 := HF.out.1.call hb5
    have F10 := HF.out.2.call hb5
    clear hS3 a0 a1 b0 b1' HF hb5
    go_wp2_with fail
    have hn : Below w5.heap.size w5 (w5.alloc (.cells #[.string ⟨p1.toArray⟩, .string ⟨p2.toArray⟩] 24)) := (Below.refl _ _).alloc (Nat.le_refl _) _
    have N13 : Fr (w5.alloc (.cells #[.string ⟨p1.toArray⟩, .string ⟨p2.toArray⟩] 24)) w5.heap.size #[.string ⟨p1.toArray⟩, .string ⟨p2.toArray⟩] 24 := Fr.new rfl
    have q9_13 : g9 < w5.heap.size := F9.lt
    have N9 := F9.call hn
    have q10_13 : g10 < w5.heap.size := F10.lt
    have N10 := F10.call hn
    have hSn := hS5.step hn
    clear hn F9 F10
    obtain ⟨V5, hV5⟩ : ∃ V, V = w5.alloc (.cells #[.string ⟨p1.toArray⟩, .string ⟨p2.toArray⟩] 24) := ⟨_, rfl⟩
    rw [← hV5] at N9 N10 N13 hSn ⊢
    obtain ⟨g13, hg13⟩ : ∃ g, g = w5.heap.size := ⟨_, rfl⟩
    rw [← hg13] at N13 q9_13 q10_13 ⊢
    clear hg13
    refine (C2.out.wk hSn).mono ?_
    rintro e w6 ⟨rfl, hb6, hS6⟩
    have F9 := N9.call hb6
    have F10 := N10.call hb6
    have F13 := N13.call hb6
    clear hSn hb6 hV5 N9 N10 N13
    have e9 : g9 ≠ g13 := by omega
    have e10 : g10 ≠ g13 := by omega
    have e9s : g13 ≠ g9 := by omega
    have e10s : g13 ≠ g10 := by omega
    obtain ⟨a9, b9, c9, d9⟩ := F9.cells2
    obtain ⟨a13, b13, c13, d13⟩ := F13.cells2
    have HF := Lib.hid (And.intro F9 (And.intro F10 F13))
    clear F9 F10 F13
    go_wp2_with fail
    obtain ⟨F9, F10, F13⟩ := HF.out
    clear HF
    clear a9 b9 c9 d9 a13 b13 c13 d13
    have hSn : Wk w ((w6.setCell ⟨g13, 0, none⟩ (.string ⟨r1.toArray⟩)).setCell ⟨g13, 1, none⟩ (.string ⟨r2.toArray⟩)) := wk_of H.out.2.2.2.2.2.2.2 ((hS6.1.setCell (Nat.le_trans lw9 (Nat.le_of_lt q9_13)) _).setCell (Nat.le_trans lw9 (Nat.le_of_lt q9_13)) _)
    have N9 : Fr ((w6.setCell ⟨g13, 0, none⟩ (.string ⟨r1.toArray⟩)).setCell ⟨g13, 1, none⟩ (.string ⟨r2.toArray⟩)) g9 #[.string ⟨x1.toArray⟩, .string ⟨x2.toArray⟩] 24 := Fr.far e9 (Fr.far e9 F9)
    have N10 : Fr ((w6.setCell ⟨g13, 0, none⟩ (.string ⟨r1.toArray⟩)).setCell ⟨g13, 1, none⟩ (.string ⟨r2.toArray⟩)) g10 #[.string ⟨y1.toArray⟩, .string ⟨y2.toArray⟩] 24 := Fr.far e10 (Fr.far e10 F10)
    have N13 : Fr ((w6.setCell ⟨g13, 0, none⟩ (.string ⟨r1.toArray⟩)).setCell ⟨g13, 1, none⟩ (.string ⟨r2.toArray⟩)) g13 #[.string ⟨r1.toArray⟩, .string ⟨r2.toArray⟩] 24 := Fr.set2 F13
    clear F9 F10 F13 e9 e10 e9s e10s
    obtain ⟨V6, hV6⟩ : ∃ V, V = ((w6.setCell ⟨g13, 0, none⟩ (.string ⟨r1.toArray⟩)).setCell ⟨g13, 1, none⟩ (.string ⟨r2.toArray⟩)) := ⟨_, rfl⟩
    rw [← hV6] at N9 N10 N13 hSn ⊢
    refine (C3.out.wk hSn).mono ?_
    rintro e w7 ⟨rfl, hb7, hS7⟩
    have F9 := N9.call hb7
    have F10 := N10.call hb7
    have F13 := N13.call hb7
    clear hSn hb7 hV6 N9 N10 N13
    obtain ⟨a10, b10, -, -⟩ := F10.cells2a
    have HF := Lib.hid (And.intro F9 (And.intro F10 F13))
    clear F9 F10 F13
    go_wp2_with fail
    obtain ⟨F9, F10, F13⟩ := HF.out
    clear HF
    clear a10 b10
    have hn : Below w7.heap.size w7 (w7.alloc (.cells #[.string ⟨U1.toArray⟩, .string ⟨U2.toArray⟩] 24)) := (Below.refl _ _).alloc (Nat.le_refl _) _
    have N16 : Fr (w7.alloc (.cells #[.string ⟨U1.toArray⟩, .string ⟨U2.toArray⟩] 24)) w7.heap.size #[.string ⟨U1.toArray⟩, .string ⟨U2.toArray⟩] 24 := Fr.new rfl
    have q9_16 : g9 < w7.heap.size := F9.lt
    have N9 := F9.call hn
    have q10_16 : g10 < w7.heap.size := F10.lt
    have N10 := F10.call hn
    have q13_16 : g13 < w7.heap.size := F13.lt
    have N13 := F13.call hn
    have hSn := hS7.step hn
    clear hn F9 F10 F13
    obtain ⟨V7, hV7⟩ : ∃ V, V = w7.alloc (.cells #[.string ⟨U1.toArray⟩, .string ⟨U2.toArray⟩] 24) := ⟨_, rfl⟩
    rw [← hV7] at N9 N10 N13 N16 hSn ⊢
    obtain ⟨g16, hg16⟩ : ∃ g, g = w7.heap.size := ⟨_, rfl⟩
    rw [← hg16] at N16 q9_16 q10_16 q13_16 ⊢
    clear hg16
    refine (C4.out.wk hSn).mono ?_
    rintro e w8 ⟨rfl, hb8, hS8⟩
    have F9 := N9.call hb8
    have F10 := N10.call hb8
    have F13 := N13.call hb8
    have F16 := N16.call hb8
    clear hSn hb8 hV7 N9 N10 N13 N16
    obtain ⟨a16, b16, -, -⟩ := F16.cells2a
    have HF := Lib.hid (And.intro F9 (And.intro F10 (And.intro F13 F16)))
    clear F9 F10 F13 F16
    go_wp2_with fail
    obtain ⟨F9, F10, F13, F16⟩ := HF.out
    clear HF
    clear a16 b16
    have hn : Below w8.heap.size w8 (w8.alloc (.cells #[.string ⟨T1.toArray⟩, .string ⟨T2.toArray⟩] 24)) := (Below.refl _ _).alloc (Nat.le_refl _) _
    have N18 : Fr (w8.alloc (.cells #[.string ⟨T1.toArray⟩, .string ⟨T2.toArray⟩] 24)) w8.heap.size #[.string ⟨T1.toArray⟩, .string ⟨T2.toArray⟩] 24 := Fr.new rfl
    have q9_18 : g9 < w8.heap.size := F9.lt
    have N9 := F9.call hn
    have q10_18 : g10 < w8.heap.size := F10.lt
    have N10 := F10.call hn
    have q13_18 : g13 < w8.heap.size := F13.lt
    have N13 := F13.call hn
    have q16_18 : g16 < w8.heap.size := F16.lt
    have N16 := F16.call hn
    have hSn := hS8.step hn
    clear hn F9 F10 F13 F16
    obtain ⟨V8, hV8⟩ : ∃ V, V = w8.alloc (.cells #[.string ⟨T1.toArray⟩, .string ⟨T2.toArray⟩] 24) := ⟨_, rfl⟩
    rw [← hV8] at N9 N10 N13 N16 N18 hSn ⊢
    obtain ⟨g18, hg18⟩ : ∃ g, g = w8.heap.size := ⟨_, rfl⟩
    rw [← hg18] at N18 q9_18 q10_18 q13_18 q16_18 ⊢
    clear hg18
    refine (C5.out.wk hSn).mono ?_
    rintro e w9 ⟨rfl, hb9, hS9⟩
    have F9 := N9.call hb9
    have F10 := N10.call hb9
    have F13 := N13.call hb9
    have F16 := N16.call hb9
    have F18 := N18.call hb9
    clear hSn hb9 hV8 N9 N10 N13 N16 N18
    have HF := Lib.hid (And.intro F9 (And.intro F10 (And.intro F13 (And.intro F16 F18))))
    clear F9 F10 F13 F16 F18
    go_wp2_with fail
    obtain ⟨F9, F10, F13, F16, F18⟩ := HF.out
    clear HF
    clear F10 F16 F18
    have hn : Below w9.heap.size w9 ((w9.alloc (.cells #[.string ⟨r1.toArray⟩, .string ⟨r2.toArray⟩] 24)).alloc (.cells (flat2 (List.replicate m zp)).toArray 24)) := ((Below.refl _ _).alloc (Nat.le_refl _) _).alloc (by simp) _
    have N20 : Fr ((w9.alloc (.cells #[.string ⟨r1.toArray⟩, .string ⟨r2.toArray⟩] 24)).alloc (.cells (flat2 (List.replicate m zp)).toArray 24)) w9.heap.size #[.string ⟨r1.toArray⟩, .string ⟨r2.toArray⟩] 24 := (Fr.new rfl).old
    have N21 : Fr ((w9.alloc (.cells #[.string ⟨r1.toArray⟩, .string ⟨r2.toArray⟩] 24)).alloc (.cells (flat2 (List.replicate m zp)).toArray 24)) (w9.heap.size + 1) (flat2 (fil m 0 (x1, x2))).toArray 24 := by rw [fil_zero]; exact Fr.new (by simp)
    have q9_20 : g9 < w9.heap.size := F9.lt
    have q13_20 : g13 < w9.heap.size := F13.lt
    have N9 := F9.call hn
    have N13 := F13.call hn
    have hSn := hS9.step hn
    obtain ⟨V9, hV9⟩ : ∃ V, V = (w9.alloc (.cells #[.string ⟨r1.toArray⟩, .string ⟨r2.toArray⟩] 24)).alloc (.cells (flat2 (List.replicate m zp)).toArray 24) := ⟨_, rfl⟩
    rw [← hV9] at N9 N13 N20 N21 hSn ⊢
    obtain ⟨g21, hg21⟩ : ∃ g, g = w9.heap.size + 1 := ⟨_, rfl⟩
    rw [← hg21] at N21 ⊢
    obtain ⟨g20, hg20⟩ : ∃ g, g = w9.heap.size := ⟨_, rfl⟩
    rw [← hg20] at N20 ⊢
    have d9 : g9 ≠ g21 := by omega
    have d13 : g13 ≠ g21 := by omega
    have d20 : g20 ≠ g21 := by omega
    have d9' : g21 ≠ g9 := by omega
    have lw21 : w.heap.size ≤ g21 := by omega
    clear hg20 hg21 hV9 hn F9 F13
    go_loopg [74] m (fun r iv W => ∃ i : Nat, r = m - i ∧ iv = .int .i64 (i : Int) ∧ i ≤ m ∧ Fr W g9 #[.string ⟨x1.toArray⟩, .string ⟨x2.toArray⟩] 24 ∧ Fr W g13 #[.string ⟨r1.toArray⟩, .string ⟨r2.toArray⟩] 24 ∧ Fr W g20 #[.string ⟨r1.toArray⟩, .string ⟨r2.toArray⟩] 24 ∧ Fr W g21 (flat2 (fil m i (x1, x2))).toArray 24 ∧ Wk w W)
    case atStart => exact ⟨0, rfl, rfl, by omega, N9, N13, N20, N21, hSn⟩
    case round =>
      clear N9 N13 N20 N21 hSn
      obtain ⟨i, rfl, rfl, hi, F9, F13, F20, F21, hk⟩ := hrel
      by_cases ha : i < m
      · have i1 : (i : Int) < (m : Int) := by omega
        have i2 : (0 : Int) ≤ (i : Int) := by omega
        obtain ⟨a9, b9, c9, e9⟩ := F9.cells2
        have hx := List.getElem?_eq_getElem (l := fil m i (x1, x2)) (i := i) (by rw [fil_length hi]; exact ha)
        obtain ⟨pp, hpp⟩ : ∃ p, p = (fil m i (x1, x2))[i]'(by rw [fil_length hi]; exact ha) := ⟨_, rfl⟩
        rw [← hpp] at hx
        obtain ⟨t1, t2⟩ := pp
        obtain ⟨e0, e1⟩ := flat2_get _ _ _ hx
        have u0 : wr.cell? ⟨g21, i * 2, none⟩ = some (.string ⟨t1.toArray⟩) := by rw [F21.cell, List.getElem?_toArray]; exact e0
        have u1 : wr.cell? ⟨g21, i * 2 + 1, none⟩ = some (.string ⟨t2.toArray⟩) := by rw [F21.cell, List.getElem?_toArray]; exact e1
        have z0 := F21.frozen (i * 2)
        have z1 := F21.frozen (i * 2 + 1)
        have HR := Lib.hid (And.intro hi (And.intro ha (And.intro F9 (And.intro F13 (And.intro F20 (And.intro F21 hk))))))
        clear hx hpp e0 e1 hi ha F9 F13 F20 F21 hk
        go_wp2_with fail
        obtain ⟨hi, ha, F9, F13, F20, F21, hk⟩ := HR.out
        go_roundg (m - (i + 1))
        case measure => omega
        case rel =>
          have key := frF_set (i := i) (p := (x1, x2)) F21 (by rw [fil_length hi]; exact ha)
          rw [fil_set ha] at key
          exact ⟨i + 1, rfl, by go_num, by omega, Fr.far d9 (Fr.far d9 F9), Fr.far d13 (Fr.far d13 F13), Fr.far d20 (Fr.far d20 F20), key, wk_of H.out.2.2.2.2.2.2.2 ((hk.1.setCell lw21 _).setCell lw21 _)⟩
      · obtain rfl : m = i := by omega
        rw [fil_all] at F21
        have hS10 := hk
        have HR := Lib.hid (And.intro F9 (And.intro F13 (And.intro F20 F21)))
        clear hi ha F9 F13 F20 F21 hk
        go_wp2_with fail
        obtain ⟨F9, F13, F20, F21⟩ := HR.out
        refine (C6.out _ _ F21).mono ?_
        rintro e w11 ⟨rfl, hb11⟩
        have N9 := F9.call hb11
        have N13 := F13.call hb11
        have N20 := F20.call hb11
        have hS11 := hS10.step hb11
        clear F9 F13 F20 F21 HR hS10 hb11
        go_upto_region 17 with fail
        obtain ⟨V, hV⟩ : ∃ V, V = w11.alloc (.cells #[.string ⟨s1.toArray⟩, .string ⟨s2.toArray⟩] 24) := ⟨_, rfl⟩
        have hF24 : Fr V w11.heap.size #[.string ⟨s1.toArray⟩, .string ⟨s2.toArray⟩] 24 := by rw [hV]; exact Fr.new rfl
        have hF9 : Fr V g9 #[.string ⟨x1.toArray⟩, .string ⟨x2.toArray⟩] 24 := by rw [hV]; exact N9.old
        have hF13 : Fr V g13 #[.string ⟨r1.toArray⟩, .string ⟨r2.toArray⟩] 24 := by rw [hV]; exact N13.old
        have hF20 : Fr V g20 #[.string ⟨r1.toArray⟩, .string ⟨r2.toArray⟩] 24 := by rw [hV]; exact N20.old
        have hSV : Wk w V := by rw [hV]; exact hS11.step ((Below.refl _ _).alloc (Nat.le_refl _) _)
        rw [← hV]
        obtain ⟨g24, hg24⟩ : ∃ g, g = w11.heap.size := ⟨_, rfl⟩
        rw [← hg24] at hF24 ⊢
        clear hV hg24 hS11 N9 N13 N20
        have hgV := hSV.2
        have hK17 : ∀ W, Below V.heap.size V W → Below V.heap.size V W ∧ W.cell? ⟨g9, 0, none⟩ = some (.string ⟨x1.toArray⟩) ∧ W.cell? ⟨g9, 1, none⟩ = some (.string ⟨x2.toArray⟩) := fun W hb => ⟨hb, keepc hb hF9.cells2.1, keepc hb hF9.cells2.2.1⟩
        have G170 : Hid (∀ W, Below V.heap.size V W ∧ W.cell? ⟨g9, 0, none⟩ = some (.string ⟨x1.toArray⟩) ∧ W.cell? ⟨g9, 1, none⟩ = some (.string ⟨x2.toArray⟩) → Calls Tryz.prog 45 #[.int .i64 (m : Int), .int .i64 1] W fun e w' => e = .returned (.agg #[.string ⟨M1.toArray⟩, .string ⟨M2.toArray⟩]) ∧ Below W.heap.size W w' ∧ Below V.heap.size V w' ∧ w'.cell? ⟨g9, 0, none⟩ = some (.string ⟨x1.toArray⟩) ∧ w'.cell? ⟨g9, 1, none⟩ = some (.string ⟨x2.toArray⟩)) := Lib.hid (fun W hS => (C7.out W (hgV.below hS.1)).mono fun e w' ⟨he, hb⟩ => ⟨he, hb, hK17 _ (hS.1.trans (hb.mono hS.1.size))⟩)
        have G171 : Hid (∀ W, Below V.heap.size V W ∧ W.cell? ⟨g9, 0, none⟩ = some (.string ⟨x1.toArray⟩) ∧ W.cell? ⟨g9, 1, none⟩ = some (.string ⟨x2.toArray⟩) → Calls Tryz.prog 32 #[.agg #[.string ⟨x1.toArray⟩, .string ⟨x2.toArray⟩], .agg #[.string ⟨M1.toArray⟩, .string ⟨M2.toArray⟩]] W fun e w' => e = .returned (.tuple #[.agg #[.string ⟨s1.toArray⟩, .string ⟨s2.toArray⟩], .int .i64 0]) ∧ Below W.heap.size W w' ∧ Below V.heap.size V w' ∧ w'.cell? ⟨g9, 0, none⟩ = some (.string ⟨x1.toArray⟩) ∧ w'.cell? ⟨g9, 1, none⟩ = some (.string ⟨x2.toArray⟩)) := Lib.hid (fun W hS => (C8.out W (hgV.below hS.1)).mono fun e w' ⟨he, hb⟩ => ⟨he, hb, hK17 _ (hS.1.trans (hb.mono hS.1.size))⟩)
        go_cut [26, 27] (fun s26 s27 wx => ∃ g26 : Nat, s26 = .pointer (some ⟨g26, 0, none⟩) ∧ s27 = .int .i64 0 ∧ Fr wx g26 #[.string ⟨s1.toArray⟩, .string ⟨s2.toArray⟩] 24 ∧ V.heap.size ≤ g26 ∧ Below V.heap.size V wx)
        case first =>
          go_region_held3 (fun W => Below V.heap.size V W ∧ W.cell? ⟨g9, 0, none⟩ = some (.string ⟨x1.toArray⟩) ∧ W.cell? ⟨g9, 1, none⟩ = some (.string ⟨x2.toArray⟩))
            (first | with_reducible assumption | (refine hK17 _ ?_; (repeat (first | with_reducible assumption | with_reducible exact Below.refl _ _ | with_reducible refine Below.drew ?_ | with_reducible refine Below.alloc ?_ (by first | omega | (simp; done) | (simp; omega)) _ | with_reducible refine Below.setCell ?_ (by first | (simp; done) | (simp; omega) | omega) _))))
            (first
            | (go_at_call 45; with_reducible refine (G170.out _ ?_).mono ?_; with_reducible assumption; rintro e w170 ⟨rfl, hb170, hS170⟩; have hB170 := hS170.1; have hs170 := hB170.size; have hz170 := hb170.size; (try simp at hz170); obtain ⟨hk1701, hk1702⟩ := kept2 hb170; (try (have e17000 := hk1701 (V.heap.size) 0 ?se17000; case se17000 => (first | omega | (simp; done) | (simp; omega)))); (try (have f17000 := hk1702 (V.heap.size) 0 ?sf17000; case sf17000 => (first | omega | (simp; done) | (simp; omega)))); (try (have e17001 := hk1701 (V.heap.size) 1 ?se17001; case se17001 => (first | omega | (simp; done) | (simp; omega)))); (try (have f17001 := hk1702 (V.heap.size) 1 ?sf17001; case sf17001 => (first | omega | (simp; done) | (simp; omega)))); (try (have c1700 : V.heap.size < w170.heap.size := ?sc1700; case sc1700 => omega)); (try (have d1700 := Nat.ne_of_lt c1700)); clear hk1701 hk1702)
            | (go_at_call 32; with_reducible refine (G171.out _ ?_).mono ?_; with_reducible assumption; rintro e w171 ⟨rfl, hb171, hS171⟩; have hB171 := hS171.1; have hs171 := hB171.size; have hz171 := hb171.size; (try simp at hz171); obtain ⟨hk1711, hk1712⟩ := kept2 hb171; (try (have e17100 := hk1711 (V.heap.size) 0 ?se17100; case se17100 => (first | omega | (simp; done) | (simp; omega)))); (try (have f17100 := hk1712 (V.heap.size) 0 ?sf17100; case sf17100 => (first | omega | (simp; done) | (simp; omega)))); (try (have e17101 := hk1711 (V.heap.size) 1 ?se17101; case se17101 => (first | omega | (simp; done) | (simp; omega)))); (try (have f17101 := hk1712 (V.heap.size) 1 ?sf17101; case sf17101 => (first | omega | (simp; done) | (simp; omega)))); (try (have c1710 : V.heap.size < w171.heap.size := ?sc1710; case sc1710 => omega)); (try (have d1710 := Nat.ne_of_lt c1710)); (try (have e17110 := hk1711 (w170.heap.size) 0 ?se17110; case se17110 => (first | omega | (simp; done) | (simp; omega)))); (try (have f17110 := hk1712 (w170.heap.size) 0 ?sf17110; case sf17110 => (first | omega | (simp; done) | (simp; omega)))); (try (have e17111 := hk1711 (w170.heap.size) 1 ?se17111; case se17111 => (first | omega | (simp; done) | (simp; omega)))); (try (have f17111 := hk1712 (w170.heap.size) 1 ?sf17111; case sf17111 => (first | omega | (simp; done) | (simp; omega)))); (try (have c1711 : w170.heap.size < w171.heap.size := ?sc1711; case sc1711 => omega)); (try (have d1711 := Nat.ne_of_lt c1711)); clear hk1711 hk1712))
          all_goals
            go_wp2_with fail
            go_meet
            refine ⟨_, rfl, rfl, ?_, ?_, ?_⟩
            all_goals (first
              | omega
              | rfl
              | (repeat (first
                | (with_reducible refine Fr.new ?_; focus (first | rfl | (simp; done) | omega | (simp; omega))) | (with_reducible refine Fr.fillF ?_) | (with_reducible refine Fr.old ?_) | (with_reducible refine Fr.drew ?_) | (with_reducible refine Fr.call hb171 ?_) | (with_reducible refine Fr.call hb170 ?_) | ((with_reducible refine Fr.far ?_ (Fr.far ?_ ?_)); (focus (first | omega | (simp; omega))); (focus (first | omega | (simp; omega)))))
                 done)
              | (repeat (first | with_reducible assumption | with_reducible refine Below.drew ?_ | with_reducible refine Below.alloc ?_ (by first | omega | (simp; done) | (simp; omega)) _ | with_reducible refine Below.setCell ?_ (by first | (simp; done) | (simp; omega) | omega) _)
                 done))
        case rest =>
          obtain ⟨g26, rfl, rfl, hFg26, hlg26, hbc⟩ := hcut
          have hSc := hSV.step hbc
          obtain ⟨x13, y13, -, -⟩ := (hF13.call hbc).cells2
          obtain ⟨x20, y20, -, -⟩ := (hF20.call hbc).cells2
          obtain ⟨x24, y24, -, -⟩ := (hF24.call hbc).cells2
          obtain ⟨x26, y26, -, -⟩ := hFg26.cells2
          clear hF9 hF13 hF20 hF24 hFg26 hbc hgV hSV hK17 G170 G171
          go_wp2_with fail
          go_ret
          exact ⟨rfl, hSc.1⟩

end Go.Proofs.YtfkdcgjphnoioaaGreatDoor

namespace Go.Proofs.YtfkdcgjphnoioaaGreatDoor
open Go.ChangeShapes Go.WideShapes Go.ChangeAt Go.RowKit Vd

theorem array6 {α : Type} {cs : Array α} (h : cs.size = 6) : ∃ c0 c1 c2 c3 c4 c5, cs = #[c0, c1, c2, c3, c4, c5] := by
  obtain ⟨l⟩ := cs
  match l, h with
  | [c0, c1, c2, c3, c4, c5], _ => exact ⟨c0, c1, c2, c3, c4, c5, rfl⟩

section
variable {H : Type} {enc : TypeId × Value → H}
set_option maxRecDepth 100000 in
theorem draft_of_trod {W : World} {m : Nat} {c0 c1 c2 : Value} {y : DataW H × List MemPlace} (h : DataW.trod enc Tryz.prog W 0 (fun _ => true) true m 28 [c0, c1, c2] = some y) :
    ∃ (b : Bool) (A : Option Addr) (n c z : Nat) (xs : List Nat), c0 = .bool b ∧ c1 = .slice A n c ∧ c2 = .int .u16 (z : Int) ∧ DraftIn W b A n c z xs := by
  obtain ⟨y0, y1, y2, k, _, _, g0, g1, g2⟩ := Go.Deep.trod_struct3 Tryz.underlying28 h
  have hy0 : DataW.trod enc Tryz.prog W 0 (fun _ => true) true k 4 [c0] = some y0 := g0
  have hy1 : DataW.trod enc Tryz.prog W 0 (fun _ => true) true k 25 [c1] = some y1 := g1
  have hy2 : DataW.trod enc Tryz.prog W 0 (fun _ => true) true k 26 [c2] = some y2 := g2
  clear g0 g1 g2
  obtain ⟨b, e0, _⟩ := DataW.trod_bool Tryz.underlying4 hy0
  obtain ⟨z, e2, _, wz⟩ := DataW.trod_int Tryz.underlying26 hy2
  simp at e0 e2
  subst e0 e2
  have hz := u16_wf wz
  rcases open_ints Tryz.underlying25 Tryz.underlying26 (by kernel_rfl) hy1 with ⟨e1, _⟩ | ⟨a, len, cap, zs, e1, _, hlc, hcm, hzl, _, hcell, hw⟩
  · simp at e1
    subst e1
    exact ⟨b, none, 0, 0, z.toNat, [], rfl, rfl, by rw [Int.toNat_of_nonneg hz.1], ⟨Sl.nil, Ok.nil, by omega, by omega⟩⟩
  · simp at e1
    subst e1
    rw [if_pos rfl] at hzl
    have hn : len ≤ 9223372036854775807 := by unfold maxLen at hcm; omega
    have hd := fun i hi => dropInts zs hw i hi
    refine ⟨b, some a, len, cap, z.toNat, (zs.map Int.toNat).take len, rfl, rfl, by rw [Int.toNat_of_nonneg hz.1], ⟨⟨?_, fun h0 => ?_⟩, ?_, by omega, hn⟩⟩
    · rw [List.length_take, List.length_map]; omega
    · have hs := spot_none (hcell 0 (by omega))
      have hs' : a.spot = none := by simpa [Addr.add] using hs
      obtain ⟨g, o, sp⟩ := a
      simp only at hs'
      subst hs'
      refine ⟨g, o, rfl, ?_, fun i hi => ?_⟩
      · have h1 := World.block_lt_of_cell? W _ (hcell 0 (by omega))
        simpa [Addr.add] using h1
      · have h1 := hcell i (by omega)
        rw [add_plain, (hd i (by omega)).1] at h1
        rw [h1, nth_take hi]
        rfl
    · refine okOf _ fun i hi => ?_
      rw [List.length_take, List.length_map] at hi
      rw [nth_take (by omega)]
      exact (hd i (by omega)).2

set_option maxRecDepth 100000 in
/-- THE DRAFT OF A FRACTION THAT CAME IN. -/
theorem open_fdraft {W : World} {base : Nat} {v : Value} {d : DataW H} {p : List MemPlace} (hv : Value.okWide Tryz.prog W .any base 30 v) (h : DataW.Trod enc Tryz.prog W 0 (fun _ => true) true 30 v d p) :
    ∃ (b1 : Bool) (A1 : Option Addr) (n1 c1 z1 : Nat) (xs1 : List Nat) (b2 : Bool) (A2 : Option Addr) (n2 c2 z2 : Nat) (xs2 : List Nat), v = .agg #[.bool b1, .slice A1 n1 c1, .int .u16 (z1 : Int), .bool b2, .slice A2 n2 c2, .int .u16 (z2 : Int)] ∧ DraftIn W b1 A1 n1 c1 z1 xs1 ∧ DraftIn W b2 A2 n2 c2 z2 xs2 := by
  obtain ⟨cs, rfl, hsz⟩ := okWide_struct Tryz.underlying30 hv
  obtain ⟨u0, u1, u2, u3, u4, u5, rfl⟩ := array6 (hsz.trans (by kernel_rfl))
  obtain ⟨fuel, hf⟩ := h
  obtain ⟨y0, y1, n, _, _, h0, h1⟩ := trod_struct2 Tryz.underlying30 hf
  obtain ⟨b1, A1, n1, c1, z1, xs1, rfl, rfl, rfl, D1⟩ := draft_of_trod (show DataW.trod enc Tryz.prog W 0 (fun _ => true) true n 28 [u0, u1, u2] = some y0 from h0)
  obtain ⟨b2, A2, n2, c2, z2, xs2, rfl, rfl, rfl, D2⟩ := draft_of_trod (show DataW.trod enc Tryz.prog W 0 (fun _ => true) true n 28 [u3, u4, u5] = some y1 from h1)
  exact ⟨b1, A1, n1, c1, z1, xs1, b2, A2, n2, c2, z2, xs2, rfl, D1, D2⟩
end
end Go.Proofs.YtfkdcgjphnoioaaGreatDoor

namespace Go.Proofs.YtfkdcgjphnoioaaGreatDoor.powers
open Go.ChangeShapes Go.WideShapes Go.ChangeAt Go.RowKit Vd

theorem laidOutHere : laidOutB Tryz.prog = true := by kernel_rfl

def wit : Array Value := #[.agg #[.bool false, .slice none 0 0, .int .u16 0, .bool false, .slice none 0 0, .int .u16 0], .agg #[.bool false, .slice none 0 0, .int .u16 0, .bool false, .slice none 0 0, .int .u16 0], .int .u8 0, .int .u8 0]

/-- A WORLD IN WHICH THE LISTED VARIABLES LIE. -/
theorem laid_met (os : Os) (args : Array Value) : laidMetH Tryz.prog Rows.fracPowersRow.laid ((World.laidAll Tryz.prog os Rows.fracPowersRow.laid).forCall (fun _ _ => 0) ⟨#[], args, []⟩).memory := by
  rw [MakeChecks.laidMetH_plain _ _ _ (by kernel_rfl)]
  exact laidMet_laidAll _ (by kernel_rfl) (by kernel_rfl)

set_option maxRecDepth 100000 in
theorem lifted (os : Os) (started : os.Started) (H : Type) (enc : TypeId × Value → H) :
    ReturnsInHanded {} Tryz.checked os 10 .any (fun w args => (Rows.fracPowersSpec.pre enc Tryz.prog Tryz.f10 [] false w args ∧ laidMetH Tryz.prog Rows.fracPowersRow.laid w) ∧ sizedMet enc Tryz.prog Tryz.f10 (OpenSpec.ofChange Rows.fracPowersSpec) false w args)
      (Rows.fracPowersSpec.post enc Tryz.prog Tryz.f10 false true false false) := by
  refine returnsInHanded_of_change_and (C := Tryz.checked) (X := fun w _ => laidMetH Tryz.prog Rows.fracPowersRow.laid w) (fun _ _ _ hh h => h.of_heap hh) ownKnobNone started (by kernel_rfl) Tryz.func10
    (ChangeSpec.witness_shaped (enc := enc) (C := Tryz.checked) (os := os) (X := fun w _ => laidMetH Tryz.prog Rows.fracPowersRow.laid w) false (World.laidAll Tryz.prog os Rows.fracPowersRow.laid) wit 8 (World.laidAll_os _ _ _) (World.shaped_of_ZipB (by kernel_rfl) (by kernel_rfl)) (by kernel_rfl) (by kernel_rfl) (by kernel_rfl) (laid_met os _)) ?_
  intro W base args ds gs before hval0 hW _ _ hL _
  have hval : ∀ (j : Nat) t v, Tryz.f10.params[j]? = some t → args[j]? = some v → Value.okWide Tryz.prog W .any base t v := hval0
  have hW' := hW
  obtain ⟨p, q, hA0, hV, rfl, hfz, hnd⟩ := hW
  have hA : DataW.TrodAll enc Tryz.prog W 0 (fun _ => true) true Tryz.f10.params.toList args.toList ds p := hA0
  rw [Tryz.params10] at hA hval
  obtain ⟨v0, vs0, d0, ds0, p0, q0, hargs, rfl, rfl, h0, r0⟩ := trodAll_cons hA
  obtain ⟨v1, vs1, d1, ds1, p1, q1, rfl, rfl, rfl, h1, r1⟩ := trodAll_cons r0
  obtain ⟨v2, vs2, d2, ds2, p2, q2, rfl, rfl, rfl, h2, r2⟩ := trodAll_cons r1
  obtain ⟨v3, vs3, d3, ds3, p3, q3, rfl, rfl, rfl, h3, r3⟩ := trodAll_cons r2
  obtain ⟨rfl, rfl, rfl⟩ := trodAll_nil r3
  obtain rfl : args = #[v0, v1, v2, v3] := by cases args; simp_all
  obtain ⟨rfl, rfl⟩ := trodVars_none hV
  obtain ⟨b1, A1, n1, c1, z1, xs1, b2, A2, n2, c2, z2, xs2, rfl, D1, D2⟩ := open_fdraft (hval 0 _ _ rfl rfl) h0
  obtain ⟨b3, A3, n3, c3, z3, xs3, b4, A4, n4, c4, z4, xs4, rfl, D3, D4⟩ := open_fdraft (hval 1 _ _ rfl rfl) h1
  obtain ⟨n, rfl, rfl, rfl, wn⟩ := open_int Tryz.underlying5 (hval 2 _ _ rfl rfl) h2
  have iN := (Lit.wf_int_iff .u8 n).1 wn
  rw [IntKind.min_u8, IntKind.max_u8] at iN
  obtain ⟨n, rfl⟩ := Int.eq_ofNat_of_zero_le iN.1
  obtain ⟨k, rfl, rfl, rfl, wk⟩ := open_int Tryz.underlying5 (hval 3 _ _ rfl rfl) h3
  have ik := (Lit.wf_int_iff .u8 k).1 wk
  rw [IntKind.min_u8, IntKind.max_u8] at ik
  obtain ⟨k, rfl⟩ := Int.eq_ofNat_of_zero_le ik.1
  refine (fpowers_core b1 A1 n1 c1 z1 xs1 b2 A2 n2 c2 z2 xs2 b3 A3 n3 c3 z3 xs3 b4 A4 n4 c4 z4 xs4 n k W (gnd_of_laid hL) D1 D2 D3 D4).mono fun e W' ⟨he, hb⟩ => ?_
  subst he
  exact ⟨_, rfl, post_true (tb := 4) laidOutHere (by kernel_rfl) Tryz.underlying4 (by kernel_rfl) rfl rfl hW' hb⟩

theorem said : Rows.FracPowersSaid :=
  OpenClaim.holds_of_wide 10 Tryz.f10 rfl rfl rfl rfl rfl rfl rfl ⟨rfl, rfl, rfl, rfl, rfl⟩ rfl rfl rfl rfl rfl (by kernel_rfl) Tryz.func10 (by kernel_rfl)
    (of_decide_eq_true (by kernel_rfl)) (by unfold Func.isWrapper; first | (rw [if_pos (by decide +kernel)]; kernel_rfl) | (rw [if_neg (by decide +kernel)]; exact ⟨rfl, rfl⟩))
    (fun os started H enc _ => lifted os started H enc)

theorem plain (f : FuncId) (fn : Func) (hf : Tryz.pinned.checked.prog.funcNamed "verdigris/verdigrislaw02.FracPowers" = some f) (hfn : Tryz.pinned.checked.prog.funcs[f]? = some fn) :
    true = Tryz.pinned.checked.prog.looks [] ∧ ∀ (j : Nat) t, fn.params[j]? = some t → Tryz.pinned.checked.prog.wantsStandIn t = false := by
  obtain rfl : f = 10 := Option.some.inj ((show Tryz.prog.funcNamed "verdigris/verdigrislaw02.FracPowers" = some 10 by kernel_rfl).symm.trans hf) |>.symm
  obtain rfl : fn = Tryz.f10 := (Option.some.inj (Tryz.func10.symm.trans hfn)).symm
  refine ⟨by kernel_rfl, fun j t ht => ?_⟩
  rw [Tryz.params10] at ht
  have : t = 30 ∨ t = 5 := by simpa using Array.mem_of_getElem? ht
  rcases this with rfl | rfl
  · exact (show Tryz.prog.wantsStandIn 30 = false by kernel_rfl)
  · exact (show Tryz.prog.wantsStandIn 5 = false by kernel_rfl)

/-- THE CARD. -/
theorem card : Rows.FracPowersCardSaid :=
  Claim7.holds_tied_plain_at .later [] _ _ _ _ said (fun _ h => by cases h) (by kernel_rfl) (fun _ h => by cases h) fracPowers_row_tie rfl ⟨rfl, rfl⟩ (by kernel_rfl) rfl plain (by kernel_rfl)
#print axioms card
end Go.Proofs.YtfkdcgjphnoioaaGreatDoor.powers
