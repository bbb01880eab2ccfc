/- FracBack: the law's walk. FracBack: for every integer, every number of places and every text the law returns true, and every argument reads behind the call as it read before. CONDITIONS: none on the arguments; the seven package-level variables that the row lists read, when the call begins, as the text of the program lays them. -/
import Derived.Test.YtfkdcgjphnoioaaGreatDoorFrcB
import Derived.Test.YtfkdcgjphnoioaaGreatDoorFrcA
import Derived.Deep.DeepCutAuto
import Derived.Test.YtfkdcgjphnoioaaGreatDoorCardF
import Derived.Lay
import Derived.Shelf.Vars
import Derived.ChangeMaps5
namespace Go.Proofs.YtfkdcgjphnoioaaGreatDoor
open Go.RowKit Vd
attribute [local go_sem ↓] Go.wp_at_zero Go.wp_at_succ

set_option maxRecDepth 100000 in
set_option maxHeartbeats 8000000 in
theorem back_core (n : Int) (p : Nat) (s : List UInt8) (m : Int) (w : World) (hg : Gnd w) (hm : w.cell? ⟨0, 0, none⟩ = some (.int .i64 m)) (h0 : -9223372036854775808 ≤ n) (h1 : n ≤ 9223372036854775807) (hp : p < 256) :
    Calls Tryz.prog 9 #[.int .i64 n, .int .u8 (p : Int), .string ⟨s.toArray⟩] w fun e w' => e = .returned (.bool true) ∧ Below w.heap.size w w' := by
  obtain ⟨K, hK⟩ : ∃ K, K = p % 21 := ⟨_, rfl⟩
  obtain ⟨c1, c2, t1, t2, n1, n2, a1, a2, l, k1, k2, k3, k4, k5, k6⟩ := back_said n K (by omega) h0 h1
  have hwk := fworks_any w hg
  have hS0 : Wk w w := Wk.start hg
  have hp2 : (p : Int).tmod 21 = (K : Int) := by rw [hK, Int.tmod_eq_emod_of_nonneg (by omega)]; omega
  have hp3 : (0 : Int) ≤ (K : Int) ∧ (K : Int) ≤ 20 := by omega
  have C1 := Lib.hid k1
  have C2 := Lib.hid k2
  have C3 := Lib.hid k3
  have C4 := Lib.hid k4
  have C5 := Lib.hid k5
  have C6 := Lib.hid k6
  have HM := Lib.hid (And.intro hm h0)
  clear k1 k2 k3 k4 k5 k6 hm hg hK h0 h1 hp
  go_enter Tryz.func9, Tryz.ntmps9
  go_wp2_with fail
  refine hwk.mono ?_
  rintro e w1 ⟨rfl, hb1⟩
  have hS1 := hS0.step hb1
  clear hwk hb1 hS0
  go_wp2_with fail
  refine (C1.out.wk hS1).mono ?_
  rintro e w2 ⟨rfl, -, hS2⟩
  clear hS1
  go_wp2_with fail
  refine (C2.out.wk hS2).mono ?_
  rintro e w3 ⟨rfl, -, hS3⟩
  clear hS2
  go_upto_region 5 with fail
  obtain ⟨V, hV⟩ : ∃ V, V = w3.alloc (.cells #[.string ⟨t1.toArray⟩, .string ⟨t2.toArray⟩] 24) := ⟨_, rfl⟩
  have hF8 : Fr V w3.heap.size #[.string ⟨t1.toArray⟩, .string ⟨t2.toArray⟩] 24 := by rw [hV]; exact Fr.new rfl
  have hSV : Wk w V := by rw [hV]; exact hS3.step ((Below.refl _ _).alloc (Nat.le_refl _) _)
  rw [← hV]
  obtain ⟨g8, hg8⟩ : ∃ g, g = w3.heap.size := ⟨_, rfl⟩
  rw [← hg8] at hF8 ⊢
  clear hV hg8 hS3
  have hgV := hSV.2
  have hK5 : ∀ W, Below V.heap.size V W → Below V.heap.size V W ∧ W.cell? ⟨g8, 0, none⟩ = some (.string ⟨t1.toArray⟩) ∧ W.cell? ⟨g8, 1, none⟩ = some (.string ⟨t2.toArray⟩) := fun W hb => ⟨hb, keepc hb hF8.cells2.1, keepc hb hF8.cells2.2.1⟩
  have G50 : Hid (∀ W, Below V.heap.size V W ∧ W.cell? ⟨g8, 0, none⟩ = some (.string ⟨t1.toArray⟩) ∧ W.cell? ⟨g8, 1, none⟩ = some (.string ⟨t2.toArray⟩) → Calls Tryz.prog 45 #[.int .i64 n, .int .i64 1] W fun e w' => e = .returned (.agg #[.string ⟨n1.toArray⟩, .string ⟨n2.toArray⟩]) ∧ Below W.heap.size W w' ∧ Below V.heap.size V w' ∧ w'.cell? ⟨g8, 0, none⟩ = some (.string ⟨t1.toArray⟩) ∧ w'.cell? ⟨g8, 1, none⟩ = some (.string ⟨t2.toArray⟩)) := Lib.hid (fun W hS => (C3.out W (hgV.below hS.1)).mono fun e w' ⟨he, hb⟩ => ⟨he, hb, hK5 _ (hS.1.trans (hb.mono hS.1.size))⟩)
  have G51 : Hid (∀ W, Below V.heap.size V W ∧ W.cell? ⟨g8, 0, none⟩ = some (.string ⟨t1.toArray⟩) ∧ W.cell? ⟨g8, 1, none⟩ = some (.string ⟨t2.toArray⟩) → Calls Tryz.prog 33 #[.agg #[.string ⟨n1.toArray⟩, .string ⟨n2.toArray⟩], .agg #[.string ⟨t1.toArray⟩, .string ⟨t2.toArray⟩]] W fun e w' => e = .returned (.tuple #[.agg #[.string ⟨a1.toArray⟩, .string ⟨a2.toArray⟩], .int .i64 0]) ∧ Below W.heap.size W w' ∧ Below V.heap.size V w' ∧ w'.cell? ⟨g8, 0, none⟩ = some (.string ⟨t1.toArray⟩) ∧ w'.cell? ⟨g8, 1, none⟩ = some (.string ⟨t2.toArray⟩)) := Lib.hid (fun W hS => (C4.out W (hgV.below hS.1)).mono fun e w' ⟨he, hb⟩ => ⟨he, hb, hK5 _ (hS.1.trans (hb.mono hS.1.size))⟩)
  go_cut [10, 11] (fun s10 s11 wx => ∃ g10 : Nat, s10 = .pointer (some ⟨g10, 0, none⟩) ∧ s11 = .int .i64 0 ∧ Fr wx g10 #[.string ⟨a1.toArray⟩, .string ⟨a2.toArray⟩] 24 ∧ V.heap.size ≤ g10 ∧ Below V.heap.size V wx)
  case first =>
    go_region_held3 (fun W => Below V.heap.size V W ∧ W.cell? ⟨g8, 0, none⟩ = some (.string ⟨t1.toArray⟩) ∧ W.cell? ⟨g8, 1, none⟩ = some (.string ⟨t2.toArray⟩))
      (first | with_reducible assumption | (refine hK5 _ ?_; (repeat (first | with_reducible assumption | with_reducible exact Below.refl _ _ | with_reducible refine Below.drew ?_ | with_reducible refine Below.alloc ?_ (by first | omega | (simp; done) | (simp; omega)) _ | with_reducible refine Below.setCell ?_ (by first | (simp; done) | (simp; omega) | omega) _))))
      (first
      | (go_at_call 45; with_reducible refine (G50.out _ ?_).mono ?_; with_reducible assumption; rintro e w50 ⟨rfl, hb50, hS50⟩; have hB50 := hS50.1; have hs50 := hB50.size; have hz50 := hb50.size; (try simp at hz50); obtain ⟨hk501, hk502⟩ := kept2 hb50; (try (have e5000 := hk501 (V.heap.size) 0 ?se5000; case se5000 => (first | omega | (simp; done) | (simp; omega)))); (try (have f5000 := hk502 (V.heap.size) 0 ?sf5000; case sf5000 => (first | omega | (simp; done) | (simp; omega)))); (try (have e5001 := hk501 (V.heap.size) 1 ?se5001; case se5001 => (first | omega | (simp; done) | (simp; omega)))); (try (have f5001 := hk502 (V.heap.size) 1 ?sf5001; case sf5001 => (first | omega | (simp; done) | (simp; omega)))); (try (have c500 : V.heap.size < w50.heap.size := ?sc500; case sc500 => omega)); (try (have d500 := Nat.ne_of_lt c500)); clear hk501 hk502)
      | (go_at_call 33; with_reducible refine (G51.out _ ?_).mono ?_; with_reducible assumption; rintro e w51 ⟨rfl, hb51, hS51⟩; have hB51 := hS51.1; have hs51 := hB51.size; have hz51 := hb51.size; (try simp at hz51); obtain ⟨hk511, hk512⟩ := kept2 hb51; (try (have e5100 := hk511 (V.heap.size) 0 ?se5100; case se5100 => (first | omega | (simp; done) | (simp; omega)))); (try (have f5100 := hk512 (V.heap.size) 0 ?sf5100; case sf5100 => (first | omega | (simp; done) | (simp; omega)))); (try (have e5101 := hk511 (V.heap.size) 1 ?se5101; case se5101 => (first | omega | (simp; done) | (simp; omega)))); (try (have f5101 := hk512 (V.heap.size) 1 ?sf5101; case sf5101 => (first | omega | (simp; done) | (simp; omega)))); (try (have c510 : V.heap.size < w51.heap.size := ?sc510; case sc510 => omega)); (try (have d510 := Nat.ne_of_lt c510)); (try (have e5110 := hk511 (w50.heap.size) 0 ?se5110; case se5110 => (first | omega | (simp; done) | (simp; omega)))); (try (have f5110 := hk512 (w50.heap.size) 0 ?sf5110; case sf5110 => (first | omega | (simp; done) | (simp; omega)))); (try (have e5111 := hk511 (w50.heap.size) 1 ?se5111; case se5111 => (first | omega | (simp; done) | (simp; omega)))); (try (have f5111 := hk512 (w50.heap.size) 1 ?sf5111; case sf5111 => (first | omega | (simp; done) | (simp; omega)))); (try (have c511 : w50.heap.size < w51.heap.size := ?sc511; case sc511 => omega)); (try (have d511 := Nat.ne_of_lt c511)); clear hk511 hk512))
    all_goals
      go_wp2_with fail
      go_meet
      refine ⟨_, rfl, rfl, ?_, ?_, ?_⟩
      all_goals (first
        | omega
        | rfl
        | (repeat (first
          | (with_reducible refine Fr.new ?_; focus (first | rfl | (simp; done) | omega | (simp; omega))) | (with_reducible refine Fr.fillF ?_) | (with_reducible refine Fr.old ?_) | (with_reducible refine Fr.drew ?_) | (with_reducible refine Fr.call hb51 ?_) | (with_reducible refine Fr.call hb50 ?_) | (with_reducible refine Fr.far ?_ (Fr.far ?_ ?_); focus (first | omega | (simp; omega)); focus (first | omega | (simp; omega))))
           done)
        | (repeat (first | with_reducible assumption | with_reducible refine Below.drew ?_ | with_reducible refine Below.alloc ?_ (by first | omega | (simp; done) | (simp; omega)) _ | with_reducible refine Below.setCell ?_ (by first | (simp; done) | (simp; omega) | omega) _)
           done))
  case rest =>
    obtain ⟨g10, rfl, rfl, hFg10, hlg10, hbc⟩ := hcut
    have hS5 := hSV.step hbc
    clear hK5 G50 G51 hF8 hSV hgV hbc hlg10
    obtain ⟨y0, y1, -, -⟩ := hFg10.cells2
    have HF10 := Lib.hid hFg10
    clear hFg10
    go_wp2_with fail
    refine (C5.out.wk hS5).mono ?_
    rintro e w6 ⟨rfl, hb6, hS6⟩
    have hF10 := HF10.out.call hb6
    obtain ⟨y0, y1, -, -⟩ := hF10.cells2
    have HF11 := Lib.hid hF10
    clear hS5 hb6 hF10
    go_wp2_with fail
    refine (is2_any w _ _ _ hS6).mono ?_
    rintro e w7 ⟨p7, q7, rfl, hc7, hd7, hS7⟩
    clear hS6
    go_wp2_with fail
    refine (op_keep2 C6.out w _ hS7 _ _ _ _ hc7 hd7).mono ?_
    clear hc7 hd7 hS7
    rintro e w8 ⟨rfl, hc8, hd8, hS8⟩
    go_wp2_with fail
    refine (is2_fn w _ _ _ _ _ hc8 hd8 hS8).mono ?_
    clear hc8 hd8 hS8
    rintro e w9 ⟨rfl, hS9⟩
    obtain ⟨L, hL⟩ : ∃ L, L = min s.length 100 := ⟨_, rfl⟩
    obtain ⟨x, hx⟩ : ∃ x, x = s.take L := ⟨_, rfl⟩
    have hmin : min (s.length : Int) 100 = (L : Int) := by omega
    have hLs : L ≤ s.length := by omega
    have hL1 : (0 : Int) ≤ (L : Int) ∧ (L : Int) ≤ 100 := by omega
    have hex : (⟨s.toArray⟩ : ByteArray).extract 0 L = ⟨x.toArray⟩ := by rw [extT, hx]
    have hxl : x.length ≤ 100 := by rw [hx, List.length_take]; omega
    have hsd := back2_said x hxl
    have HX := Lib.hid (And.intro hxl hsd)
    clear hL hx hxl hsd
    go_wp2_with fail
    rcases HX.out.2 with hbad | ⟨b1, b2, hP, hT⟩
    · have HBAD := Lib.hid hbad
      clear hbad
      unfold frNone at HBAD
      refine (HBAD.out.wk hS9).mono ?_
      rintro e w10 ⟨rfl, -, hS10⟩
      clear hS9
      go_wp2_with fail
      go_ret
      exact ⟨rfl, hS10.1.alloc hS10.1.size _⟩
    · have HP := Lib.hid hP
      have HT := Lib.hid hT
      clear hP hT
      refine (HP.out.wk hS9).mono ?_
      rintro e w10 ⟨rfl, -, hS10⟩
      have hcm := keepc (hS10.1.alloc hS10.1.size (.cells #[.string ⟨b1.toArray⟩, .string ⟨b2.toArray⟩] 24)) HM.out.1
      have hcu := Tryz.strings_Cut ⟨x.toArray⟩ ⟨#[46]⟩ m _ (show x.length < 4294967281 by have := HX.out.1; omega) hcm
      rw [show (⟨x.toArray⟩ : ByteArray).data.toList = x by simp, show (⟨#[46]⟩ : ByteArray).data.toList = [46] from rfl] at hcu
      rw [cut_beh] at hcu
      obtain ⟨bx, hbx⟩ : ∃ b, b = beh x := ⟨_, rfl⟩
      rw [← hbx] at hcu HT
      obtain ⟨cx1, hcx1⟩ : ∃ b, b = (Lib.cut x [46]).1 := ⟨_, rfl⟩
      obtain ⟨cx2, hcx2⟩ : ∃ b, b = (Lib.cut x [46]).2.2 := ⟨_, rfl⟩
      rw [← hcx1, ← hcx2] at hcu
      obtain ⟨V2, hV2⟩ : ∃ V, V = w10.alloc (.cells #[.string ⟨b1.toArray⟩, .string ⟨b2.toArray⟩] 24) := ⟨_, rfl⟩
      have hF14 : Fr V2 w10.heap.size #[.string ⟨b1.toArray⟩, .string ⟨b2.toArray⟩] 24 := by rw [hV2]; exact Fr.new rfl
      have hSV2 : Wk w V2 := by rw [hV2]; exact hS10.step ((Below.refl _ _).alloc (Nat.le_refl _) _)
      clear hbx hcx1 hcx2 hS9 hcm hS10
      go_wp2_with fail
      rw [← hV2] at hcu ⊢
      obtain ⟨g14, hg14⟩ : ∃ g, g = w10.heap.size := ⟨_, rfl⟩
      rw [← hg14] at hF14 ⊢
      clear hV2 hg14
      refine hcu.mono ?_
      rintro e w11 ⟨rfl, nn, hw11⟩
      clear hcu
      have hF14 : Fr w11 g14 #[.string ⟨b1.toArray⟩, .string ⟨b2.toArray⟩] 24 := by rw [hw11]; exact hF14
      have hSV2 : Wk w w11 := by rw [hw11]; exact hSV2.step (below_drewN (Below.refl _ _) nn)
      clear hw11
      have hS0 : Below w11.heap.size w11 w11 ∧ w11.cell? ⟨g14, 0, none⟩ = some (.string ⟨b1.toArray⟩) ∧ w11.cell? ⟨g14, 1, none⟩ = some (.string ⟨b2.toArray⟩) := ⟨Below.refl _ _, hF14.cells2.1, hF14.cells2.2.1⟩
      have hKc : ∀ W w', (Below w11.heap.size w11 W ∧ W.cell? ⟨g14, 0, none⟩ = some (.string ⟨b1.toArray⟩) ∧ W.cell? ⟨g14, 1, none⟩ = some (.string ⟨b2.toArray⟩)) → Below W.heap.size W w' → (Below w11.heap.size w11 w' ∧ w'.cell? ⟨g14, 0, none⟩ = some (.string ⟨b1.toArray⟩) ∧ w'.cell? ⟨g14, 1, none⟩ = some (.string ⟨b2.toArray⟩)) := fun W w' h hb => ⟨h.1.trans (hb.mono h.1.size), keepc hb h.2.1, keepc hb h.2.2⟩
      have T0 : Hid (∀ W, (Below w11.heap.size w11 W ∧ W.cell? ⟨g14, 0, none⟩ = some (.string ⟨b1.toArray⟩) ∧ W.cell? ⟨g14, 1, none⟩ = some (.string ⟨b2.toArray⟩)) → Calls Tryz.prog 53 #[.string ⟨x.toArray⟩] W fun e w' => ∃ p : Addr, e = .returned (.func (.func 107) #[] #[.pointer (some p)]) ∧ w'.cell? p = some (.string ⟨x.toArray⟩) ∧ (Below w11.heap.size w11 w' ∧ w'.cell? ⟨g14, 0, none⟩ = some (.string ⟨b1.toArray⟩) ∧ w'.cell? ⟨g14, 1, none⟩ = some (.string ⟨b2.toArray⟩))) := Lib.hid (fun W hS => (tells2_any W ⟨x.toArray⟩ W ⟨Below.refl _ _, hSV2.2.below hS.1⟩).mono fun e w' ⟨p, he, hc, hw⟩ => ⟨p, he, hc, hKc _ _ hS hw.1⟩)
      have T1 : Hid (∀ W, (Below w11.heap.size w11 W ∧ W.cell? ⟨g14, 0, none⟩ = some (.string ⟨b1.toArray⟩) ∧ W.cell? ⟨g14, 1, none⟩ = some (.string ⟨b2.toArray⟩)) → Calls Tryz.prog 48 #[.agg #[.string ⟨b1.toArray⟩, .string ⟨b2.toArray⟩], .int .i64 (bx.length : Int)] W fun e w' => e = .returned (.tuple #[.string ⟨x.toArray⟩, .int .i64 0]) ∧ Below W.heap.size W w' ∧ (Below w11.heap.size w11 w' ∧ w'.cell? ⟨g14, 0, none⟩ = some (.string ⟨b1.toArray⟩) ∧ w'.cell? ⟨g14, 1, none⟩ = some (.string ⟨b2.toArray⟩))) := Lib.hid (fun W hS => (HT.out W (hSV2.2.below hS.1)).mono fun e w' ⟨he, hb⟩ => ⟨he, hb, hKc _ _ hS hb⟩)
      clear hF14 hKc
      go_wp2_with fail
      have hS1 := And.intro hS0.1.drew hS0.2
      clear hS0
      go_region_held3 (fun W => Below w11.heap.size w11 W ∧ W.cell? ⟨g14, 0, none⟩ = some (.string ⟨b1.toArray⟩) ∧ W.cell? ⟨g14, 1, none⟩ = some (.string ⟨b2.toArray⟩)) (first | with_reducible assumption | exact hS1)
        (first
          | (go_at_call 53; with_reducible refine (T0.out _ ?_).mono ?_; with_reducible assumption; rintro e w20 ⟨p20, rfl, hc20, hS20⟩)
          | (go_at_call 48; with_reducible refine (T1.out _ ?_).mono ?_; with_reducible assumption; rintro e w21 ⟨rfl, hb21, hS21⟩; have hc21 := keepc hb21 hc20)
          | (go_at_call 107; with_reducible refine (tells2_fn _ _ _ hc21).mono ?_; rintro e w22 ⟨rfl, rfl⟩))
      go_wp2_with fail
      go_ret
      exact ⟨rfl, belowt hSV2.1 hSV2.1.size hS21.1⟩

end Go.Proofs.YtfkdcgjphnoioaaGreatDoor

namespace Go.Proofs.YtfkdcgjphnoioaaGreatDoor
open Go.ChangeShapes Go.WideShapes Go.ChangeAt Go.RowKit Vd

/-- The plain wrap: the row's list of variables and the world's shape both kept. -/
theorem returnsInHanded_and_shaped {H : Type} {enc : TypeId × Value → H} {a : Assume} {C : Checked} {os : Os} {f : FuncId} {fn : Func} {s : ChangeSpec} {conds : List PathCond} {apart fresh handsOn again : Bool} {X : World → Array Value → Prop}
    (hX : ∀ (w w' : World) (args : Array Value), w.heap = w'.heap → X w args → X w' args)
    (own : ownKnob C.prog.godebug = none) (started : os.Started) (noInit : C.prog.inits.idxOf? f = none) (hfn : C.prog.funcs[f]? = some fn)
    (witness : ∃ (w : World) (tape : Tape) (i : Input), w.os = os ∧ (w.forCall tape i).Shaped C.prog ∧ i.vars = [] ∧ Input.okWide C.prog (w.forCall tape i) .any w.heap.size f i ∧
      ((s.pre enc C.prog fn conds apart (w.forCall tape i).memory i.args ∧ X (w.forCall tape i).memory i.args) ∧ sizedMet enc C.prog fn (OpenSpec.ofChange s) apart (w.forCall tape i).memory i.args) ∧ a.holds C.prog (lone (Frame.enter C.prog f i.args .normal) [] (w.forCall tape i)))
    (contract : ∀ (W : World) (base : Nat) (args : Array Value) (ds gs : List (DataW H)) (before : List MemPlace),
      (∀ (j : Nat) t v, fn.params[j]? = some t → args[j]? = some v → Value.okWide C.prog W .any base t v) →
      DataW.Whole enc C.prog fn.params.toList s.vars apart W args.toList ds gs before →
      conds.all (PathCond.test C.prog ⟨fn.params.toList, ds, s.plain.varTypes C.prog, gs⟩) = true →
      (DataW.weightsEach C.prog (fn.params.toList ++ s.plain.varTypes C.prog) (ds ++ gs)).all (· ≤ reachBytes) = true → X W args → W.ShapedOpen C.prog →
      a.holds C.prog (lone (Frame.enter C.prog f args .normal) [] W) →
      Calls C.prog f args W fun e W' => ∃ v, e = .returned v ∧ s.post enc C.prog fn apart fresh handsOn again W args v W') :
    ReturnsInHanded a C os f .any (fun w args => (s.pre enc C.prog fn conds apart w args ∧ X w args) ∧ sizedMet enc C.prog fn (OpenSpec.ofChange s) apart w args) (s.post enc C.prog fn apart fresh handsOn again) := by
  refine returnsInHanded_of_calls own started noInit witness ?_
  intro w tape i _ hsh _ hok hpre hholds
  obtain ⟨_, _, _, fn', hfn', _, _, _, _, hval⟩ := hok
  have e : fn' = fn := Option.some.inj (hfn'.symm.trans hfn)
  subst e
  obtain ⟨⟨⟨ds, gs, before, hw, hc⟩, hx⟩, hz⟩ := hpre
  have hw' := DataW.Whole.of_heap (w' := w.forCall tape i) (by rfl) hw
  refine (contract (w.forCall tape i) w.heap.size i.args ds gs before hval hw' hc (hz.weights hw) (hX _ _ _ (by rfl) hx) hsh hholds).mono fun e W' ⟨v, he, hp⟩ => ?_
  subst he
  exact ChangeSpec.post_blind hp

theorem maxLen_int {W : World} (h : W.ShapedOpen Tryz.prog) : ∃ m, W.cell? ⟨0, 0, none⟩ = some (.int .i64 m) :=
  cell_of_shapedOpen_int (g := 0) (t := 3) (zero := #[.int .i64 0]) h (of_decide_eq_true (by kernel_rfl)) (by kernel_rfl) rfl (by kernel_rfl) (by kernel_rfl) Tryz.underlying3

end Go.Proofs.YtfkdcgjphnoioaaGreatDoor

namespace Go.Proofs.YtfkdcgjphnoioaaGreatDoor.back
open Go.ChangeShapes Go.WideShapes Go.ChangeAt Go.RowKit Vd

theorem laidOutHere : laidOutB Tryz.prog = true := by kernel_rfl

def wit : Array Value := #[.int .i64 0, .int .u8 0, .string ⟨#[]⟩]

/-- A WORLD IN WHICH THE LISTED VARIABLES LIE. -/
theorem laid_met (os : Os) (args : Array Value) : laidMetH Tryz.prog Rows.fracBackRow.laid ((World.laidAll Tryz.prog os Rows.fracBackRow.laid).forCall (fun _ _ => 0) ⟨#[], args, []⟩).memory := by
  rw [MakeChecks.laidMetH_plain _ _ _ (by kernel_rfl)]
  exact laidMet_laidAll _ (by kernel_rfl) (by kernel_rfl)

set_option maxRecDepth 100000 in
theorem lifted (os : Os) (started : os.Started) (H : Type) (enc : TypeId × Value → H) :
    ReturnsInHanded {} Tryz.checked os 9 .any (fun w args => (Rows.fracBackSpec.pre enc Tryz.prog Tryz.f9 [] false w args ∧ laidMetH Tryz.prog Rows.fracBackRow.laid w) ∧ sizedMet enc Tryz.prog Tryz.f9 (OpenSpec.ofChange Rows.fracBackSpec) false w args)
      (Rows.fracBackSpec.post enc Tryz.prog Tryz.f9 false true false false) := by
  refine returnsInHanded_and_shaped (C := Tryz.checked) (X := fun w _ => laidMetH Tryz.prog Rows.fracBackRow.laid w) (fun _ _ _ hh h => h.of_heap hh) ownKnobNone started (by kernel_rfl) Tryz.func9
    (ChangeSpec.witness_shaped (enc := enc) (C := Tryz.checked) (os := os) (X := fun w _ => laidMetH Tryz.prog Rows.fracBackRow.laid w) false (World.laidAll Tryz.prog os Rows.fracBackRow.laid) wit 8 (World.laidAll_os _ _ _) (World.shaped_of_ZipB (by kernel_rfl) (by kernel_rfl)) (by kernel_rfl) (by kernel_rfl) (by kernel_rfl) (laid_met os _)) ?_
  intro W base args ds gs before hval0 hW _ _ hL hsh _
  have hval : ∀ (j : Nat) t v, Tryz.f9.params[j]? = some t → args[j]? = some v → Value.okWide Tryz.prog W .any base t v := hval0
  have hW' := hW
  obtain ⟨p, q, hA0, hV, rfl, hfz, hnd⟩ := hW
  have hA : DataW.TrodAll enc Tryz.prog W 0 (fun _ => true) true Tryz.f9.params.toList args.toList ds p := hA0
  rw [Tryz.params9] at hA hval
  obtain ⟨v0, vs0, d0, ds0, p0, q0, hargs, rfl, rfl, h0, r0⟩ := trodAll_cons hA
  obtain ⟨v1, vs1, d1, ds1, p1, q1, rfl, rfl, rfl, h1, r1⟩ := trodAll_cons r0
  obtain ⟨v2, vs2, d2, ds2, p2, q2, rfl, rfl, rfl, h2, r2⟩ := trodAll_cons r1
  obtain ⟨rfl, rfl, rfl⟩ := trodAll_nil r2
  obtain rfl : args = #[v0, v1, v2] := by cases args; simp_all
  obtain ⟨rfl, rfl⟩ := trodVars_none hV
  obtain ⟨n, rfl, rfl, rfl, wn⟩ := open_int Tryz.underlying3 (hval 0 _ _ rfl rfl) h0
  have iN := (Lit.wf_int_iff .i64 n).1 wn
  rw [IntKind.min_i64, IntKind.max_i64] at iN
  obtain ⟨k, rfl, rfl, rfl, wk⟩ := open_int Tryz.underlying5 (hval 1 _ _ rfl rfl) h1
  have ik := (Lit.wf_int_iff .u8 k).1 wk
  rw [IntKind.min_u8, IntKind.max_u8] at ik
  obtain ⟨k, rfl⟩ := Int.eq_ofNat_of_zero_le ik.1
  obtain ⟨s, rfl, rfl, rfl, _⟩ := ChangeMaps.open_string Tryz.underlying9 (hval 2 _ _ rfl rfl) h2
  obtain ⟨l, rfl⟩ : ∃ l : List UInt8, s = ⟨l.toArray⟩ := ⟨s.data.toList, by simp⟩
  obtain ⟨m, hm⟩ := maxLen_int hsh
  refine (back_core n k l m W (gnd_of_laid hL) hm iN.1 iN.2 (by omega)).mono fun e W' ⟨he, hb⟩ => ?_
  subst he
  exact ⟨_, rfl, post_true (tb := 4) laidOutHere (by kernel_rfl) Tryz.underlying4 (by kernel_rfl) rfl rfl hW' hb⟩

theorem said : Rows.FracBackSaid :=
  OpenClaim.holds_of_wide 9 Tryz.f9 rfl rfl rfl rfl rfl rfl rfl ⟨rfl, rfl, rfl, rfl, rfl⟩ rfl rfl rfl rfl rfl (by kernel_rfl) Tryz.func9 (by kernel_rfl)
    (of_decide_eq_true (by kernel_rfl)) (by unfold Func.isWrapper; first | (rw [if_pos (by decide +kernel)]; kernel_rfl) | (rw [if_neg (by decide +kernel)]; exact ⟨rfl, rfl⟩))
    (fun os started H enc _ => lifted os started H enc)

theorem plain (f : FuncId) (fn : Func) (hf : Tryz.pinned.checked.prog.funcNamed "verdigris/verdigrislaw02.FracBack" = some f) (hfn : Tryz.pinned.checked.prog.funcs[f]? = some fn) :
    true = Tryz.pinned.checked.prog.looks [] ∧ ∀ (j : Nat) t, fn.params[j]? = some t → Tryz.pinned.checked.prog.wantsStandIn t = false := by
  obtain rfl : f = 9 := Option.some.inj ((show Tryz.prog.funcNamed "verdigris/verdigrislaw02.FracBack" = some 9 by kernel_rfl).symm.trans hf) |>.symm
  obtain rfl : fn = Tryz.f9 := (Option.some.inj (Tryz.func9.symm.trans hfn)).symm
  refine ⟨by kernel_rfl, fun j t ht => ?_⟩
  rw [Tryz.params9] at ht
  have : t = 3 ∨ t = 5 ∨ t = 9 := by simpa using Array.mem_of_getElem? ht
  rcases this with rfl | rfl | rfl
  · exact (show Tryz.prog.wantsStandIn 3 = false by kernel_rfl)
  · exact (show Tryz.prog.wantsStandIn 5 = false by kernel_rfl)
  · exact (show Tryz.prog.wantsStandIn 9 = false by kernel_rfl)

/-- THE CARD. -/
theorem card : Rows.FracBackCardSaid :=
  Claim7.holds_tied_plain_at .later [] _ _ _ _ said (fun _ h => by cases h) (by kernel_rfl) (fun _ h => by cases h) fracBack_row_tie rfl ⟨rfl, rfl⟩ (by kernel_rfl) rfl plain (by kernel_rfl)
#print axioms card
end Go.Proofs.YtfkdcgjphnoioaaGreatDoor.back
