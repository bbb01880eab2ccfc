/- FracCompares: the law's walk. -/
import Derived.Test.YtfkdcgjphnoioaaGreatDoorFrcB
import Derived.Test.YtfkdcgjphnoioaaGreatDoorFrdC
import Derived.Test.YtfkdcgjphnoioaaGreatDoorFreA
import Derived.Test.YtfkdcgjphnoioaaGreatDoorFrcG
import Derived.Deep.DeepCutAuto
namespace Go.Proofs.YtfkdcgjphnoioaaGreatDoor
open Go.RowKit Vd
attribute [local go_sem ↓] Go.wp_at_zero Go.wp_at_succ

set_option maxRecDepth 100000 in
set_option maxHeartbeats 8000000 in
theorem fcompares_core (b1 : Bool) (A1 : Option Addr) (n1 c1 z1 : Nat) (xs1 : List Nat) (b2 : Bool) (A2 : Option Addr) (n2 c2 z2 : Nat) (xs2 : List Nat) (b3 : Bool) (A3 : Option Addr) (n3 c3 z3 : Nat) (xs3 : List Nat) (b4 : Bool) (A4 : Option Addr) (n4 c4 z4 : Nat) (xs4 : List Nat) (w : World) (hg : Gnd w) (D1 : DraftIn w b1 A1 n1 c1 z1 xs1) (D2 : DraftIn w b2 A2 n2 c2 z2 xs2) (D3 : DraftIn w b3 A3 n3 c3 z3 xs3) (D4 : DraftIn w b4 A4 n4 c4 z4 xs4) :
    Calls Tryz.prog 7 #[.agg #[.bool b1, .slice A1 n1 c1, .int .u16 (z1 : Int), .bool b2, .slice A2 n2 c2, .int .u16 (z2 : Int)], .agg #[.bool b3, .slice A3 n3 c3, .int .u16 (z3 : Int), .bool b4, .slice A4 n4 c4, .int .u16 (z4 : Int)]] w fun e w' => e = .returned (.bool true) ∧ Below w.heap.size w w' := by
  obtain ⟨W0, hW0⟩ : ∃ W0, W0 = (w.alloc (.cells #[.bool b1, .slice A1 n1 c1, .int .u16 (z1 : Int), .bool b2, .slice A2 n2 c2, .int .u16 (z2 : Int)] 30)).alloc (.cells #[.bool b3, .slice A3 n3 c3, .int .u16 (z3 : Int), .bool b4, .slice A4 n4 c4, .int .u16 (z4 : Int)] 30) := ⟨_, rfl⟩
  have hbW : Below w.heap.size w W0 := by rw [hW0]; exact ((Below.refl _ _).alloc (Nat.le_refl _) _).alloc (by simp) _
  have hE0 : Fr W0 w.heap.size #[.bool b1, .slice A1 n1 c1, .int .u16 (z1 : Int), .bool b2, .slice A2 n2 c2, .int .u16 (z2 : Int)] 30 := by rw [hW0]; exact (Fr.new rfl).old
  have hE1 : Fr W0 (w.heap.size + 1) #[.bool b3, .slice A3 n3 c3, .int .u16 (z3 : Int), .bool b4, .slice A4 n4 c4, .int .u16 (z4 : Int)] 30 := by rw [hW0]; exact Fr.new (by simp)
  have hwk := fworks_any W0 (hg.below hbW)
  rw [hW0] at hwk
  have H := Lib.hid (And.intro hbW (And.intro hE0 (And.intro hE1 (And.intro D1 (And.intro D2 (And.intro D3 (And.intro D4 hg)))))))
  clear D1 D2 D3 D4 hg hbW hE0 hE1
  go_enter Tryz.func7, Tryz.ntmps7
  go_wp2_with fail
  refine hwk.mono ?_
  rw [← hW0]
  rintro e V ⟨rfl, hb1⟩
  have hbV := belowt H.out.1 H.out.1.size hb1
  have hSV : Wk w V := ⟨hbV, H.out.2.2.2.2.2.2.2.below hbV⟩
  have hF0 := H.out.2.1.call hb1
  have hF1 := H.out.2.2.1.call hb1
  clear hwk hb1 hW0
  go_upto_region 3 with fail
  have hK3 : ∀ W, Below V.heap.size V W → Below V.heap.size V W ∧ W.cell? ⟨w.heap.size, 0, none⟩ = some (.bool b1) ∧ W.cell? ⟨w.heap.size, 1, none⟩ = some (.slice A1 n1 c1) ∧ W.cell? ⟨w.heap.size, 2, none⟩ = some (.int .u16 (z1 : Int)) ∧ W.cell? ⟨w.heap.size, 3, none⟩ = some (.bool b2) ∧ W.cell? ⟨w.heap.size, 4, none⟩ = some (.slice A2 n2 c2) ∧ W.cell? ⟨w.heap.size, 5, none⟩ = some (.int .u16 (z2 : Int)) ∧ W.cell? ⟨w.heap.size + 1, 0, none⟩ = some (.bool b3) ∧ W.cell? ⟨w.heap.size + 1, 1, none⟩ = some (.slice A3 n3 c3) ∧ W.cell? ⟨w.heap.size + 1, 2, none⟩ = some (.int .u16 (z3 : Int)) ∧ W.cell? ⟨w.heap.size + 1, 3, none⟩ = some (.bool b4) ∧ W.cell? ⟨w.heap.size + 1, 4, none⟩ = some (.slice A4 n4 c4) ∧ W.cell? ⟨w.heap.size + 1, 5, none⟩ = some (.int .u16 (z4 : Int)) := fun W hb => ⟨hb, keepc hb (hF0.cell 0), keepc hb (hF0.cell 1), keepc hb (hF0.cell 2), keepc hb (hF0.cell 3), keepc hb (hF0.cell 4), keepc hb (hF0.cell 5), keepc hb (hF1.cell 0), keepc hb (hF1.cell 1), keepc hb (hF1.cell 2), keepc hb (hF1.cell 3), keepc hb (hF1.cell 4), keepc hb (hF1.cell 5)⟩
  have G30 : Hid (∀ W, Below V.heap.size V W ∧ W.cell? ⟨w.heap.size, 0, none⟩ = some (.bool b1) ∧ W.cell? ⟨w.heap.size, 1, none⟩ = some (.slice A1 n1 c1) ∧ W.cell? ⟨w.heap.size, 2, none⟩ = some (.int .u16 (z1 : Int)) ∧ W.cell? ⟨w.heap.size, 3, none⟩ = some (.bool b2) ∧ W.cell? ⟨w.heap.size, 4, none⟩ = some (.slice A2 n2 c2) ∧ W.cell? ⟨w.heap.size, 5, none⟩ = some (.int .u16 (z2 : Int)) ∧ W.cell? ⟨w.heap.size + 1, 0, none⟩ = some (.bool b3) ∧ W.cell? ⟨w.heap.size + 1, 1, none⟩ = some (.slice A3 n3 c3) ∧ W.cell? ⟨w.heap.size + 1, 2, none⟩ = some (.int .u16 (z3 : Int)) ∧ W.cell? ⟨w.heap.size + 1, 3, none⟩ = some (.bool b4) ∧ W.cell? ⟨w.heap.size + 1, 4, none⟩ = some (.slice A4 n4 c4) ∧ W.cell? ⟨w.heap.size + 1, 5, none⟩ = some (.int .u16 (z4 : Int)) → Calls Tryz.prog 42 #[.agg #[.bool b1, .slice A1 n1 c1, .int .u16 (z1 : Int), .bool b2, .slice A2 n2 c2, .int .u16 (z2 : Int)]] W fun e w' => ∃ l m : List UInt8, e = .returned (qV l m) ∧ (∃ x : Rat, Bq x 39 ∧ l = tN x ∧ m = tD x) ∧ Below W.heap.size W w' ∧ Below V.heap.size V w' ∧ w'.cell? ⟨w.heap.size, 0, none⟩ = some (.bool b1) ∧ w'.cell? ⟨w.heap.size, 1, none⟩ = some (.slice A1 n1 c1) ∧ w'.cell? ⟨w.heap.size, 2, none⟩ = some (.int .u16 (z1 : Int)) ∧ w'.cell? ⟨w.heap.size, 3, none⟩ = some (.bool b2) ∧ w'.cell? ⟨w.heap.size, 4, none⟩ = some (.slice A2 n2 c2) ∧ w'.cell? ⟨w.heap.size, 5, none⟩ = some (.int .u16 (z2 : Int)) ∧ w'.cell? ⟨w.heap.size + 1, 0, none⟩ = some (.bool b3) ∧ w'.cell? ⟨w.heap.size + 1, 1, none⟩ = some (.slice A3 n3 c3) ∧ w'.cell? ⟨w.heap.size + 1, 2, none⟩ = some (.int .u16 (z3 : Int)) ∧ w'.cell? ⟨w.heap.size + 1, 3, none⟩ = some (.bool b4) ∧ w'.cell? ⟨w.heap.size + 1, 4, none⟩ = some (.slice A4 n4 c4) ∧ w'.cell? ⟨w.heap.size + 1, 5, none⟩ = some (.int .u16 (z4 : Int))) := Lib.hid (fun W hS => (frac_q H.out.2.2.2.1 H.out.2.2.2.2.1 W (hbV.trans (hS.1.mono hbV.size))).mono fun e w' ⟨l, m, he, hx, hb⟩ => ⟨l, m, he, hx, hb, hK3 _ (hS.1.trans (hb.mono hS.1.size))⟩)
  have G31 : Hid (∀ W, Below V.heap.size V W ∧ W.cell? ⟨w.heap.size, 0, none⟩ = some (.bool b1) ∧ W.cell? ⟨w.heap.size, 1, none⟩ = some (.slice A1 n1 c1) ∧ W.cell? ⟨w.heap.size, 2, none⟩ = some (.int .u16 (z1 : Int)) ∧ W.cell? ⟨w.heap.size, 3, none⟩ = some (.bool b2) ∧ W.cell? ⟨w.heap.size, 4, none⟩ = some (.slice A2 n2 c2) ∧ W.cell? ⟨w.heap.size, 5, none⟩ = some (.int .u16 (z2 : Int)) ∧ W.cell? ⟨w.heap.size + 1, 0, none⟩ = some (.bool b3) ∧ W.cell? ⟨w.heap.size + 1, 1, none⟩ = some (.slice A3 n3 c3) ∧ W.cell? ⟨w.heap.size + 1, 2, none⟩ = some (.int .u16 (z3 : Int)) ∧ W.cell? ⟨w.heap.size + 1, 3, none⟩ = some (.bool b4) ∧ W.cell? ⟨w.heap.size + 1, 4, none⟩ = some (.slice A4 n4 c4) ∧ W.cell? ⟨w.heap.size + 1, 5, none⟩ = some (.int .u16 (z4 : Int)) → Calls Tryz.prog 42 #[.agg #[.bool b3, .slice A3 n3 c3, .int .u16 (z3 : Int), .bool b4, .slice A4 n4 c4, .int .u16 (z4 : Int)]] W fun e w' => ∃ l m : List UInt8, e = .returned (qV l m) ∧ (∃ x : Rat, Bq x 39 ∧ l = tN x ∧ m = tD x) ∧ Below W.heap.size W w' ∧ Below V.heap.size V w' ∧ w'.cell? ⟨w.heap.size, 0, none⟩ = some (.bool b1) ∧ w'.cell? ⟨w.heap.size, 1, none⟩ = some (.slice A1 n1 c1) ∧ w'.cell? ⟨w.heap.size, 2, none⟩ = some (.int .u16 (z1 : Int)) ∧ w'.cell? ⟨w.heap.size, 3, none⟩ = some (.bool b2) ∧ w'.cell? ⟨w.heap.size, 4, none⟩ = some (.slice A2 n2 c2) ∧ w'.cell? ⟨w.heap.size, 5, none⟩ = some (.int .u16 (z2 : Int)) ∧ w'.cell? ⟨w.heap.size + 1, 0, none⟩ = some (.bool b3) ∧ w'.cell? ⟨w.heap.size + 1, 1, none⟩ = some (.slice A3 n3 c3) ∧ w'.cell? ⟨w.heap.size + 1, 2, none⟩ = some (.int .u16 (z3 : Int)) ∧ w'.cell? ⟨w.heap.size + 1, 3, none⟩ = some (.bool b4) ∧ w'.cell? ⟨w.heap.size + 1, 4, none⟩ = some (.slice A4 n4 c4) ∧ w'.cell? ⟨w.heap.size + 1, 5, none⟩ = some (.int .u16 (z4 : Int))) := Lib.hid (fun W hS => (frac_q H.out.2.2.2.2.2.1 H.out.2.2.2.2.2.2.1 W (hbV.trans (hS.1.mono hbV.size))).mono fun e w' ⟨l, m, he, hx, hb⟩ => ⟨l, m, he, hx, hb, hK3 _ (hS.1.trans (hb.mono hS.1.size))⟩)
  go_cut [5, 6] (fun s5 s6 wx => ∃ (g5 g6 : Nat) (x1 x2 y1 y2 : List UInt8), s5 = .pointer (some ⟨g5, 0, none⟩) ∧ s6 = .pointer (some ⟨g6, 0, none⟩) ∧ (∃ x : Rat, Bq x 39 ∧ x1 = tN x ∧ x2 = tD x) ∧ (∃ x : Rat, Bq x 39 ∧ y1 = tN x ∧ y2 = tD x) ∧ Fr wx g5 #[.string ⟨x1.toArray⟩, .string ⟨x2.toArray⟩] 24 ∧ Fr wx g6 #[.string ⟨y1.toArray⟩, .string ⟨y2.toArray⟩] 24 ∧ V.heap.size ≤ g5 ∧ V.heap.size ≤ g6 ∧ Below V.heap.size V wx)
  case first =>
    go_region_held3 (fun W => Below V.heap.size V W ∧ W.cell? ⟨w.heap.size, 0, none⟩ = some (.bool b1) ∧ W.cell? ⟨w.heap.size, 1, none⟩ = some (.slice A1 n1 c1) ∧ W.cell? ⟨w.heap.size, 2, none⟩ = some (.int .u16 (z1 : Int)) ∧ W.cell? ⟨w.heap.size, 3, none⟩ = some (.bool b2) ∧ W.cell? ⟨w.heap.size, 4, none⟩ = some (.slice A2 n2 c2) ∧ W.cell? ⟨w.heap.size, 5, none⟩ = some (.int .u16 (z2 : Int)) ∧ W.cell? ⟨w.heap.size + 1, 0, none⟩ = some (.bool b3) ∧ W.cell? ⟨w.heap.size + 1, 1, none⟩ = some (.slice A3 n3 c3) ∧ W.cell? ⟨w.heap.size + 1, 2, none⟩ = some (.int .u16 (z3 : Int)) ∧ W.cell? ⟨w.heap.size + 1, 3, none⟩ = some (.bool b4) ∧ W.cell? ⟨w.heap.size + 1, 4, none⟩ = some (.slice A4 n4 c4) ∧ W.cell? ⟨w.heap.size + 1, 5, none⟩ = some (.int .u16 (z4 : Int)))
      (first | with_reducible assumption | (refine hK3 _ ?_; (repeat (first | with_reducible assumption | with_reducible exact Below.refl _ _ | with_reducible refine Below.drew ?_ | with_reducible refine Below.alloc ?_ (by first | omega | (simp; done) | (simp; omega)) _ | with_reducible refine Below.setCell ?_ (by first | (simp; done) | (simp; omega) | omega) _))))
      (first
      | (go_at_call 42; with_reducible refine (G30.out _ ?_).mono ?_; with_reducible assumption; rintro e w30 ⟨l30, m30, rfl, hx30, hb30, hS30⟩; have hB30 := hS30.1; have hs30 := hB30.size; have hz30 := hb30.size; (try simp at hz30); obtain ⟨hk301, hk302⟩ := kept2 hb30; (try (have e3000 := hk301 (V.heap.size) 0 ?se3000; case se3000 => (first | omega | (simp; done) | (simp; omega)))); (try (have f3000 := hk302 (V.heap.size) 0 ?sf3000; case sf3000 => (first | omega | (simp; done) | (simp; omega)))); (try (have e3001 := hk301 (V.heap.size) 1 ?se3001; case se3001 => (first | omega | (simp; done) | (simp; omega)))); (try (have f3001 := hk302 (V.heap.size) 1 ?sf3001; case sf3001 => (first | omega | (simp; done) | (simp; omega)))); (try (have c300 : V.heap.size < w30.heap.size := ?sc300; case sc300 => omega)); (try (have d300 := Nat.ne_of_lt c300)); (try (have e3010 := hk301 (V.heap.size + 1) 0 ?se3010; case se3010 => (first | omega | (simp; done) | (simp; omega)))); (try (have f3010 := hk302 (V.heap.size + 1) 0 ?sf3010; case sf3010 => (first | omega | (simp; done) | (simp; omega)))); (try (have e3011 := hk301 (V.heap.size + 1) 1 ?se3011; case se3011 => (first | omega | (simp; done) | (simp; omega)))); (try (have f3011 := hk302 (V.heap.size + 1) 1 ?sf3011; case sf3011 => (first | omega | (simp; done) | (simp; omega)))); (try (have c301 : V.heap.size + 1 < w30.heap.size := ?sc301; case sc301 => omega)); (try (have d301 := Nat.ne_of_lt c301)); clear hk301 hk302)
      | (go_at_call 42; with_reducible refine (G31.out _ ?_).mono ?_; with_reducible assumption; rintro e w31 ⟨l31, m31, rfl, hx31, hb31, hS31⟩; have hB31 := hS31.1; have hs31 := hB31.size; have hz31 := hb31.size; (try simp at hz31); obtain ⟨hk311, hk312⟩ := kept2 hb31; (try (have e3100 := hk311 (V.heap.size) 0 ?se3100; case se3100 => (first | omega | (simp; done) | (simp; omega)))); (try (have f3100 := hk312 (V.heap.size) 0 ?sf3100; case sf3100 => (first | omega | (simp; done) | (simp; omega)))); (try (have e3101 := hk311 (V.heap.size) 1 ?se3101; case se3101 => (first | omega | (simp; done) | (simp; omega)))); (try (have f3101 := hk312 (V.heap.size) 1 ?sf3101; case sf3101 => (first | omega | (simp; done) | (simp; omega)))); (try (have c310 : V.heap.size < w31.heap.size := ?sc310; case sc310 => omega)); (try (have d310 := Nat.ne_of_lt c310)); (try (have e3110 := hk311 (V.heap.size + 1) 0 ?se3110; case se3110 => (first | omega | (simp; done) | (simp; omega)))); (try (have f3110 := hk312 (V.heap.size + 1) 0 ?sf3110; case sf3110 => (first | omega | (simp; done) | (simp; omega)))); (try (have e3111 := hk311 (V.heap.size + 1) 1 ?se3111; case se3111 => (first | omega | (simp; done) | (simp; omega)))); (try (have f3111 := hk312 (V.heap.size + 1) 1 ?sf3111; case sf3111 => (first | omega | (simp; done) | (simp; omega)))); (try (have c311 : V.heap.size + 1 < w31.heap.size := ?sc311; case sc311 => omega)); (try (have d311 := Nat.ne_of_lt c311)); (try (have e3120 := hk311 (w30.heap.size) 0 ?se3120; case se3120 => (first | omega | (simp; done) | (simp; omega)))); (try (have f3120 := hk312 (w30.heap.size) 0 ?sf3120; case sf3120 => (first | omega | (simp; done) | (simp; omega)))); (try (have e3121 := hk311 (w30.heap.size) 1 ?se3121; case se3121 => (first | omega | (simp; done) | (simp; omega)))); (try (have f3121 := hk312 (w30.heap.size) 1 ?sf3121; case sf3121 => (first | omega | (simp; done) | (simp; omega)))); (try (have c312 : w30.heap.size < w31.heap.size := ?sc312; case sc312 => omega)); (try (have d312 := Nat.ne_of_lt c312)); (try (have e3130 := hk311 (w30.heap.size + 1) 0 ?se3130; case se3130 => (first | omega | (simp; done) | (simp; omega)))); (try (have f3130 := hk312 (w30.heap.size + 1) 0 ?sf3130; case sf3130 => (first | omega | (simp; done) | (simp; omega)))); (try (have e3131 := hk311 (w30.heap.size + 1) 1 ?se3131; case se3131 => (first | omega | (simp; done) | (simp; omega)))); (try (have f3131 := hk312 (w30.heap.size + 1) 1 ?sf3131; case sf3131 => (first | omega | (simp; done) | (simp; omega)))); (try (have c313 : w30.heap.size + 1 < w31.heap.size := ?sc313; case sc313 => omega)); (try (have d313 := Nat.ne_of_lt c313)); clear hk311 hk312))
    all_goals
      go_wp2_with fail
      go_meet
      refine ⟨_, _, l30, m30, l31, m31, rfl, rfl, ?_, ?_, ?_, ?_, ?_, ?_, ?_⟩
      all_goals (first
        | omega
        | rfl
        | exact hx30
        | exact hx31
        | (repeat (first
          | (with_reducible refine Fr.new ?_; focus (first | rfl | (simp; done) | omega | (simp; omega))) | (with_reducible refine Fr.fillF ?_) | (with_reducible refine Fr.old ?_) | (with_reducible refine Fr.drew ?_) | (with_reducible refine Fr.call hb31 ?_) | (with_reducible refine Fr.call hb30 ?_) | ((with_reducible refine Fr.far ?_ (Fr.far ?_ ?_)); (focus (first | omega | (simp; omega))); (focus (first | omega | (simp; omega)))))
           done)
        | (repeat (first | with_reducible assumption | with_reducible refine Below.drew ?_ | with_reducible refine Below.alloc ?_ (by first | omega | (simp; done) | (simp; omega)) _ | with_reducible refine Below.setCell ?_ (by first | (simp; done) | (simp; omega) | omega) _)
           done))
  case rest =>
    obtain ⟨g5, g6, x1, x2, y1, y2, rfl, rfl, hr3_0, hr3_1, hFg5, hFg6, hlg5, hlg6, hbc⟩ := hcut
    rename World => w1
    obtain ⟨x, hx, ex1, ex2⟩ := hr3_0
    obtain ⟨y, hy, ey1, ey2⟩ := hr3_1
    have hsd := compares_said x y hx hy
    have hsd2 := compares2_said x hx
    rw [← ex1, ← ex2, ← ey1, ← ey2] at hsd
    rw [← ex1, ← ex2] at hsd2
    obtain ⟨c, d1, d2, l1, l2, h1, h2, k1, k2, k3, k4, k5, k6⟩ := hsd
    obtain ⟨sg, u, o, n1', n2', m1, m2, z1', z2', o1, o2, s1, s2, k7, k8, k9, k10, k11, k12, k13, k14, k15, k16, k17⟩ := hsd2
    have C1 := Lib.hid k1
    have C2 := Lib.hid k2
    have C3 := Lib.hid k3
    have C4 := Lib.hid k4
    have C5 := Lib.hid k5
    have C7 := Lib.hid k7
    have C8 := Lib.hid k8
    have C9 := Lib.hid k9
    have C10 := Lib.hid k10
    have C11 := Lib.hid k11
    have C12 := Lib.hid k12
    have C13 := Lib.hid k13
    have C14 := Lib.hid k14
    have C6 := Lib.hid k6
    have C15 := Lib.hid (And.intro k15 (And.intro k16 k17))
    have hS := hSV.step hbc
    have F5 := hFg5
    have F6 := hFg6
    clear k1 k2 k3 k4 k5 k6 k7 k8 k9 k10 k11 k12 k13 k14 k15 k16 k17 hx hy ex1 ex2 ey1 ey2 hFg5 hFg6 hSV hbc hbV hF0 hF1 hK3 G30 G31 hlg5 hlg6
    obtain ⟨a5, b5, c5, d5⟩ := F5.cells2
    obtain ⟨a6, b6, c6, d6⟩ := F6.cells2
    have HF := Lib.hid (And.intro F5 (And.intro F6 hS))
    clear F5 F6 hS
    go_wp2_with fail
    obtain ⟨F5, F6, hS⟩ := HF.out
    clear HF
    clear a5 b5 c5 d5 a6 b6 c6 d6
    have hSn := hS
    have N5 := F5
    have N6 := F6
    clear hS F5 F6
    refine (C1.out.wk hSn).mono ?_
    rintro e w2 ⟨rfl, hb, hS⟩
    have F5 := N5.call hb
    have F6 := N6.call hb
    clear hSn hb N5 N6
    obtain ⟨a5, b5, c5, d5⟩ := F5.cells2
    obtain ⟨a6, b6, c6, d6⟩ := F6.cells2
    have HF := Lib.hid (And.intro F5 (And.intro F6 hS))
    clear F5 F6 hS
    go_wp2_with fail
    obtain ⟨F5, F6, hS⟩ := HF.out
    clear HF
    clear a5 b5 c5 d5 a6 b6 c6 d6
    have hSn := hS
    have N5 := F5
    have N6 := F6
    clear hS F5 F6
    refine (C2.out.wk hSn).mono ?_
    rintro e w4 ⟨rfl, hb, hS⟩
    have F5 := N5.call hb
    have F6 := N6.call hb
    clear hSn hb N5 N6
    have HF := Lib.hid (And.intro F5 (And.intro F6 hS))
    clear F5 F6 hS
    go_wp2_with fail
    obtain ⟨F5, F6, hS⟩ := HF.out
    clear HF
    have hn : Below w4.heap.size w4 (w4.alloc (.cells #[.string ⟨d1.toArray⟩, .string ⟨d2.toArray⟩] 24)) := (Below.refl _ _).alloc (Nat.le_refl _) _
    have N9 : Fr (w4.alloc (.cells #[.string ⟨d1.toArray⟩, .string ⟨d2.toArray⟩] 24)) w4.heap.size #[.string ⟨d1.toArray⟩, .string ⟨d2.toArray⟩] 24 := Fr.new rfl
    have N5 := F5.call hn
    have N6 := F6.call hn
    have hSn := hS.step hn
    clear hn hS F5 F6
    obtain ⟨V5, hV5⟩ : ∃ V, V = (w4.alloc (.cells #[.string ⟨d1.toArray⟩, .string ⟨d2.toArray⟩] 24)) := ⟨_, rfl⟩
    rw [← hV5] at N5 N6 N9 hSn ⊢
    obtain ⟨g9, hg9⟩ : ∃ g, g = w4.heap.size := ⟨_, rfl⟩
    rw [← hg9] at N9  ⊢
    clear hg9 hV5
    refine (C3.out.wk hSn).mono ?_
    rintro e w6 ⟨rfl, hb, hS⟩
    have F5 := N5.call hb
    have F6 := N6.call hb
    have F9 := N9.call hb
    clear hSn hb N5 N6 N9
    obtain ⟨a5, b5, c5, d5⟩ := F5.cells2
    obtain ⟨a6, b6, c6, d6⟩ := F6.cells2
    have HF := Lib.hid (And.intro F5 (And.intro F6 (And.intro F9 hS)))
    clear F5 F6 F9 hS
    go_wp2_with fail
    obtain ⟨F5, F6, F9, hS⟩ := HF.out
    clear HF
    clear a5 b5 c5 d5 a6 b6 c6 d6
    have hSn := hS
    have N5 := F5
    have N6 := F6
    have N9 := F9
    clear hS F5 F6 F9
    refine (C4.out.wk hSn).mono ?_
    rintro e w8 ⟨rfl, hb, hS⟩
    have F5 := N5.call hb
    have F6 := N6.call hb
    have F9 := N9.call hb
    clear hSn hb N5 N6 N9
    obtain ⟨a5, b5, -, -⟩ := F5.cells2a
    obtain ⟨a6, b6, -, -⟩ := F6.cells2a
    have HF := Lib.hid (And.intro F5 (And.intro F6 (And.intro F9 hS)))
    clear F5 F6 F9 hS
    go_wp2_with fail
    obtain ⟨F5, F6, F9, hS⟩ := HF.out
    clear HF
    clear a5 b5 a6 b6
    have hn : Below w8.heap.size w8 (w8.alloc (.cells #[.string ⟨l1.toArray⟩, .string ⟨l2.toArray⟩] 24)) := (Below.refl _ _).alloc (Nat.le_refl _) _
    have N13 : Fr (w8.alloc (.cells #[.string ⟨l1.toArray⟩, .string ⟨l2.toArray⟩] 24)) w8.heap.size #[.string ⟨l1.toArray⟩, .string ⟨l2.toArray⟩] 24 := Fr.new rfl
    have N5 := F5.call hn
    have N6 := F6.call hn
    have N9 := F9.call hn
    have hSn := hS.step hn
    clear hn hS F5 F6 F9
    obtain ⟨V9, hV9⟩ : ∃ V, V = (w8.alloc (.cells #[.string ⟨l1.toArray⟩, .string ⟨l2.toArray⟩] 24)) := ⟨_, rfl⟩
    rw [← hV9] at N5 N6 N9 N13 hSn ⊢
    obtain ⟨g13, hg13⟩ : ∃ g, g = w8.heap.size := ⟨_, rfl⟩
    rw [← hg13] at N13  ⊢
    clear hg13 hV9
    refine (C5.out.wk hSn).mono ?_
    rintro e w10 ⟨rfl, hb, hS⟩
    have F5 := N5.call hb
    have F6 := N6.call hb
    have F9 := N9.call hb
    have F13 := N13.call hb
    clear hSn hb N5 N6 N9 N13
    have HF := Lib.hid (And.intro F5 (And.intro F6 (And.intro F9 (And.intro F13 hS))))
    clear F5 F6 F9 F13 hS
    go_upto_region 9 with fail
    obtain ⟨F5, F6, F9, F13, hS⟩ := HF.out
    clear HF
    have hn : Below w10.heap.size w10 (w10.alloc (.cells #[.string ⟨h1.toArray⟩, .string ⟨h2.toArray⟩] 24)) := (Below.refl _ _).alloc (Nat.le_refl _) _
    have N15 : Fr (w10.alloc (.cells #[.string ⟨h1.toArray⟩, .string ⟨h2.toArray⟩] 24)) w10.heap.size #[.string ⟨h1.toArray⟩, .string ⟨h2.toArray⟩] 24 := Fr.new rfl
    have N5 := F5.call hn
    have N6 := F6.call hn
    have N9 := F9.call hn
    have N13 := F13.call hn
    have hSn := hS.step hn
    clear hn hS F5 F6 F9 F13
    obtain ⟨V11, hV11⟩ : ∃ V, V = (w10.alloc (.cells #[.string ⟨h1.toArray⟩, .string ⟨h2.toArray⟩] 24)) := ⟨_, rfl⟩
    rw [← hV11] at N5 N6 N9 N13 N15 hSn ⊢
    obtain ⟨g15, hg15⟩ : ∃ g, g = w10.heap.size := ⟨_, rfl⟩
    rw [← hg15] at N15  ⊢
    clear hg15 hV11
    have hF5 := N5
    have hF6 := N6
    have hF9 := N9
    have hF13 := N13
    have hF15 := N15
    have hSV := hSn
    have hgV := hSV.2
    clear hSn N5 N6 N9 N13 N15
    have HV := Lib.hid (And.intro hF5 (And.intro hF6 (And.intro hF9 (And.intro hF13 (And.intro hF15 (And.intro hSV hgV))))))
    go_cut [119] (fun s119 wx => s119 = .bool false ∧ wx = V11)
    case first =>
      rcases C6.out with ⟨hc, hne, rfl, rfl, rfl, rfl⟩ | ⟨hc, rfl, rfl, rfl, rfl, rfl, rfl⟩ | ⟨hc, hne, rfl, rfl, rfl, rfl⟩
      all_goals
        obtain ⟨a5, b5, -, -⟩ := hF5.cells2
        obtain ⟨a6, b6, -, -⟩ := hF6.cells2
        obtain ⟨a13, b13, -, -⟩ := hF13.cells2
        obtain ⟨a15, b15, -, -⟩ := hF15.cells2
        clear HV C1 C2 C3 C4 C5 C6 C7 C8 C9 C10 C11 C12 C13 C14 C15 hF5 hF6 hF9 hF13 hF15 hSV hgV
      case inl =>
        have e0 : ¬ c = 0 := by omega
        have e1 : decide (c = 0) = false := decide_eq_false (by omega)
        have e2 : decide (c ≤ 0) = true := decide_eq_true (by omega)
        have e3 : decide (0 < c) = false := decide_eq_false (by omega)
        have e4 : (c == 0) = false := by simp [e0]
        clear hc
        rcases Decidable.not_and_iff_or_not.1 hne with hn | hn
        all_goals
          clear hne
          go_wp2_with fail
          all_goals
            go_meet
            refine ⟨?_, rfl⟩
            first | rfl | rw [e4]
      case inr.inl =>
        subst hc
        go_wp2_with fail
        go_meet
        exact ⟨rfl, rfl⟩
      case inr.inr =>
        have e0 : ¬ c = 0 := by omega
        have e1 : decide (c = 0) = false := decide_eq_false (by omega)
        have e2 : decide (c ≤ 0) = false := decide_eq_false (by omega)
        have e3 : decide (0 < c) = true := decide_eq_true (by omega)
        have e4 : (c == 0) = false := by simp [e0]
        clear hc
        rcases Decidable.not_and_iff_or_not.1 hne with hn | hn
        all_goals
          clear hne
          go_wp2_with fail
          all_goals
            go_meet
            refine ⟨?_, rfl⟩
            first | rfl | rw [e4]
    case rest =>
      rename World => w20
      obtain ⟨rfl, hwc⟩ := hcut
      rw [← hwc] at hF5 hF6 hF9 hF13 hF15 hSV
      have hS := hSV
      have F5 := hF5
      have F6 := hF6
      clear hwc HV hF5 hF6 hF9 hF13 hF15 hSV hgV C1 C2 C3 C4 C5 C6
      obtain ⟨a5, b5, c5, d5⟩ := F5.cells2
      have HF := Lib.hid (And.intro F5 (And.intro F6 hS))
      clear F5 F6 hS
      go_wp2_with fail
      obtain ⟨F5, F6, hS⟩ := HF.out
      clear HF
      clear a5 b5 c5 d5
      have hSn := hS
      have N5 := F5
      have N6 := F6
      clear hS F5 F6
      refine (C7.out.wk hSn).mono ?_
      rintro e w13 ⟨rfl, hb, hS⟩
      have F5 := N5.call hb
      have F6 := N6.call hb
      clear hSn hb N5 N6
      obtain ⟨a5, b5, -, -⟩ := F5.cells2a
      have HF := Lib.hid (And.intro F5 (And.intro F6 hS))
      clear F5 F6 hS
      go_wp2_with fail
      obtain ⟨F5, F6, hS⟩ := HF.out
      clear HF
      clear a5 b5
      have hn : Below w13.heap.size w13 (w13.alloc (.cells #[.string ⟨n1'.toArray⟩, .string ⟨n2'.toArray⟩] 24)) := (Below.refl _ _).alloc (Nat.le_refl _) _
      have N17 : Fr (w13.alloc (.cells #[.string ⟨n1'.toArray⟩, .string ⟨n2'.toArray⟩] 24)) w13.heap.size #[.string ⟨n1'.toArray⟩, .string ⟨n2'.toArray⟩] 24 := Fr.new rfl
      have N5 := F5.call hn
      have N6 := F6.call hn
      have hSn := hS.step hn
      clear hn hS F5 F6
      obtain ⟨V14, hV14⟩ : ∃ V, V = (w13.alloc (.cells #[.string ⟨n1'.toArray⟩, .string ⟨n2'.toArray⟩] 24)) := ⟨_, rfl⟩
      rw [← hV14] at N5 N6 N17 hSn ⊢
      obtain ⟨g17, hg17⟩ : ∃ g, g = w13.heap.size := ⟨_, rfl⟩
      rw [← hg17] at N17  ⊢
      clear hg17 hV14
      refine (C8.out.wk hSn).mono ?_
      rintro e w15 ⟨rfl, hb, hS⟩
      have F5 := N5.call hb
      have F6 := N6.call hb
      have F17 := N17.call hb
      clear hSn hb N5 N6 N17
      have HF := Lib.hid (And.intro F5 (And.intro F6 (And.intro F17 hS)))
      clear F5 F6 F17 hS
      go_wp2_with fail
      obtain ⟨F5, F6, F17, hS⟩ := HF.out
      clear HF
      have hn : Below w15.heap.size w15 (w15.alloc (.cells #[.string ⟨m1.toArray⟩, .string ⟨m2.toArray⟩] 24)) := (Below.refl _ _).alloc (Nat.le_refl _) _
      have N18 : Fr (w15.alloc (.cells #[.string ⟨m1.toArray⟩, .string ⟨m2.toArray⟩] 24)) w15.heap.size #[.string ⟨m1.toArray⟩, .string ⟨m2.toArray⟩] 24 := Fr.new rfl
      have N5 := F5.call hn
      have N6 := F6.call hn
      have N17 := F17.call hn
      have hSn := hS.step hn
      clear hn hS F5 F6 F17
      obtain ⟨V16, hV16⟩ : ∃ V, V = (w15.alloc (.cells #[.string ⟨m1.toArray⟩, .string ⟨m2.toArray⟩] 24)) := ⟨_, rfl⟩
      rw [← hV16] at N5 N6 N17 N18 hSn ⊢
      obtain ⟨g18, hg18⟩ : ∃ g, g = w15.heap.size := ⟨_, rfl⟩
      rw [← hg18] at N18  ⊢
      clear hg18 hV16
      refine (C9.out.wk hSn).mono ?_
      rintro e w17 ⟨rfl, hb, hS⟩
      have F5 := N5.call hb
      have F6 := N6.call hb
      have F17 := N17.call hb
      have F18 := N18.call hb
      clear hSn hb N5 N6 N17 N18
      have HF := Lib.hid (And.intro F5 (And.intro F6 (And.intro F17 (And.intro F18 hS))))
      clear F5 F6 F17 F18 hS
      go_wp2_with fail
      obtain ⟨F5, F6, F17, F18, hS⟩ := HF.out
      clear HF
      have hSn := hS
      have N5 := F5
      have N6 := F6
      have N17 := F17
      have N18 := F18
      clear hS F5 F6 F17 F18
      refine (C10.out.wk hSn).mono ?_
      rintro e w19 ⟨rfl, hb, hS⟩
      have F5 := N5.call hb
      have F6 := N6.call hb
      have F17 := N17.call hb
      have F18 := N18.call hb
      clear hSn hb N5 N6 N17 N18
      obtain ⟨a5, b5, -, -⟩ := F5.cells2b
      have HF := Lib.hid (And.intro F5 (And.intro F6 (And.intro F17 (And.intro F18 hS))))
      clear F5 F6 F17 F18 hS
      go_wp2_with fail
      obtain ⟨F5, F6, F17, F18, hS⟩ := HF.out
      clear HF
      clear a5 b5
      have hn : Below w19.heap.size w19 ((w19.alloc (.cells #[.string ⟨z1'.toArray⟩, .string ⟨z2'.toArray⟩] 24)).alloc (.cells #[.string ⟨o1.toArray⟩, .string ⟨o2.toArray⟩] 24)) := ((Below.refl _ _).alloc (Nat.le_refl _) _).alloc (by simp) _
      have N19 : Fr ((w19.alloc (.cells #[.string ⟨z1'.toArray⟩, .string ⟨z2'.toArray⟩] 24)).alloc (.cells #[.string ⟨o1.toArray⟩, .string ⟨o2.toArray⟩] 24)) w19.heap.size #[.string ⟨z1'.toArray⟩, .string ⟨z2'.toArray⟩] 24 := (Fr.new rfl).old
      have N20 : Fr ((w19.alloc (.cells #[.string ⟨z1'.toArray⟩, .string ⟨z2'.toArray⟩] 24)).alloc (.cells #[.string ⟨o1.toArray⟩, .string ⟨o2.toArray⟩] 24)) (w19.heap.size + 1) #[.string ⟨o1.toArray⟩, .string ⟨o2.toArray⟩] 24 := Fr.new (by simp)
      have N5 := F5.call hn
      have N6 := F6.call hn
      have N17 := F17.call hn
      have N18 := F18.call hn
      have hSn := hS.step hn
      clear hn hS F5 F6 F17 F18
      obtain ⟨V20, hV20⟩ : ∃ V, V = ((w19.alloc (.cells #[.string ⟨z1'.toArray⟩, .string ⟨z2'.toArray⟩] 24)).alloc (.cells #[.string ⟨o1.toArray⟩, .string ⟨o2.toArray⟩] 24)) := ⟨_, rfl⟩
      rw [← hV20] at N5 N6 N17 N18 N19 N20 hSn ⊢
      obtain ⟨g20, hg20⟩ : ∃ g, g = w19.heap.size + 1 := ⟨_, rfl⟩
      rw [← hg20] at N20 ⊢
      obtain ⟨g19, hg19⟩ : ∃ g, g = w19.heap.size := ⟨_, rfl⟩
      rw [← hg19] at N19 ⊢
      clear hg19 hg20 hV20
      refine (C11.out.wk hSn).mono ?_
      rintro e w21 ⟨rfl, hb, hS⟩
      have F5 := N5.call hb
      have F6 := N6.call hb
      have F17 := N17.call hb
      have F18 := N18.call hb
      have F19 := N19.call hb
      have F20 := N20.call hb
      clear hSn hb N5 N6 N17 N18 N19 N20
      obtain ⟨a5, b5, c5, d5⟩ := F5.cells2
      obtain ⟨a19, b19, c19, d19⟩ := F19.cells2
      obtain ⟨a20, b20, c20, d20⟩ := F20.cells2
      have HF := Lib.hid (And.intro F5 (And.intro F6 (And.intro F17 (And.intro F18 (And.intro F19 (And.intro F20 hS))))))
      clear F5 F6 F17 F18 F19 F20 hS
      go_wp2_with fail
      obtain ⟨F5, F6, F17, F18, F19, F20, hS⟩ := HF.out
      clear HF
      clear a5 b5 c5 d5 a19 b19 c19 d19 a20 b20 c20 d20
      have hSn := hS
      have N5 := F5
      have N6 := F6
      have N17 := F17
      have N18 := F18
      have N19 := F19
      have N20 := F20
      clear hS F5 F6 F17 F18 F19 F20
      refine (C12.out.wk hSn).mono ?_
      rintro e w23 ⟨rfl, hb, hS⟩
      have F5 := N5.call hb
      have F6 := N6.call hb
      have F17 := N17.call hb
      have F18 := N18.call hb
      have F19 := N19.call hb
      have F20 := N20.call hb
      clear hSn hb N5 N6 N17 N18 N19 N20
      obtain ⟨a19, b19, -, -⟩ := F19.cells2a
      have HF := Lib.hid (And.intro F5 (And.intro F6 (And.intro F17 (And.intro F18 (And.intro F19 (And.intro F20 hS))))))
      clear F5 F6 F17 F18 F19 F20 hS
      go_wp2_with fail
      obtain ⟨F5, F6, F17, F18, F19, F20, hS⟩ := HF.out
      clear HF
      clear a19 b19
      have hn : Below w23.heap.size w23 (w23.alloc (.cells #[.string ⟨s1.toArray⟩, .string ⟨s2.toArray⟩] 24)) := (Below.refl _ _).alloc (Nat.le_refl _) _
      have N22 : Fr (w23.alloc (.cells #[.string ⟨s1.toArray⟩, .string ⟨s2.toArray⟩] 24)) w23.heap.size #[.string ⟨s1.toArray⟩, .string ⟨s2.toArray⟩] 24 := Fr.new rfl
      have N5 := F5.call hn
      have N6 := F6.call hn
      have N17 := F17.call hn
      have N18 := F18.call hn
      have N19 := F19.call hn
      have N20 := F20.call hn
      have hSn := hS.step hn
      clear hn hS F5 F6 F17 F18 F19 F20
      obtain ⟨V24, hV24⟩ : ∃ V, V = (w23.alloc (.cells #[.string ⟨s1.toArray⟩, .string ⟨s2.toArray⟩] 24)) := ⟨_, rfl⟩
      rw [← hV24] at N5 N6 N17 N18 N19 N20 N22 hSn ⊢
      obtain ⟨g22, hg22⟩ : ∃ g, g = w23.heap.size := ⟨_, rfl⟩
      rw [← hg22] at N22  ⊢
      clear hg22 hV24
      refine (C13.out.wk hSn).mono ?_
      rintro e w25 ⟨rfl, hb, hS⟩
      have F5 := N5.call hb
      have F6 := N6.call hb
      have F17 := N17.call hb
      have F18 := N18.call hb
      have F19 := N19.call hb
      have F20 := N20.call hb
      have F22 := N22.call hb
      clear hSn hb N5 N6 N17 N18 N19 N20 N22
      obtain ⟨a22, b22, c22, d22⟩ := F22.cells2
      obtain ⟨a20, b20, c20, d20⟩ := F20.cells2
      have HF := Lib.hid (And.intro F5 (And.intro F6 (And.intro F17 (And.intro F18 (And.intro F19 (And.intro F20 (And.intro F22 hS)))))))
      clear F5 F6 F17 F18 F19 F20 F22 hS
      go_wp2_with fail
      obtain ⟨F5, F6, F17, F18, F19, F20, F22, hS⟩ := HF.out
      clear HF
      clear a22 b22 c22 d22 a20 b20 c20 d20
      have hSn := hS
      have N5 := F5
      have N6 := F6
      have N17 := F17
      have N18 := F18
      have N19 := F19
      have N20 := F20
      have N22 := F22
      clear hS F5 F6 F17 F18 F19 F20 F22
      refine (C14.out.wk hSn).mono ?_
      rintro e w27 ⟨rfl, hb, hS⟩
      have F5 := N5.call hb
      have F6 := N6.call hb
      have F17 := N17.call hb
      have F18 := N18.call hb
      have F19 := N19.call hb
      have F20 := N20.call hb
      have F22 := N22.call hb
      clear hSn hb N5 N6 N17 N18 N19 N20 N22
      obtain ⟨hu, ho, hs⟩ := C15.out
      have e1 : decide (0 ≤ u) = true := decide_eq_true hu
      have e2 : decide (o ≤ 0) = true := decide_eq_true ho
      obtain ⟨a5, b5, -, -⟩ := F5.cells2
      obtain ⟨a17, b17, -, -⟩ := F17.cells2
      obtain ⟨a18, b18, -, -⟩ := F18.cells2
      have hSc := Lib.hid hS
      clear hS hu ho C15 F5 F6 F17 F18 F19 F20 F22
      rcases hs with ⟨hg, rfl, rfl⟩ | ⟨hg, rfl, rfl⟩
      · have e3 : decide (0 ≤ sg) = true := decide_eq_true hg
        have e4 : decide (sg < 0) = false := decide_eq_false (by omega)
        clear hg
        go_wp2_with fail
        go_ret
        exact ⟨rfl, hSc.out.1⟩
      · have e3 : decide (0 ≤ sg) = false := decide_eq_false (by omega)
        have e4 : decide (sg < 0) = true := decide_eq_true hg
        clear hg
        go_wp2_with fail
        go_ret
        exact ⟨rfl, hSc.out.1⟩

end Go.Proofs.YtfkdcgjphnoioaaGreatDoor
