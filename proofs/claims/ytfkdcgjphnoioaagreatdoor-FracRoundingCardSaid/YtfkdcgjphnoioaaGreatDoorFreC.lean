/- FracRounding: the law's walk. -/
import Derived.Test.YtfkdcgjphnoioaaGreatDoorFrcB
import Derived.Test.YtfkdcgjphnoioaaGreatDoorFrdC
import Derived.Test.YtfkdcgjphnoioaaGreatDoorFreS
import Derived.Deep.DeepCutAuto
import Derived.Deep.LoopGhost
namespace Go.Proofs.YtfkdcgjphnoioaaGreatDoor
open Go.RowKit Vd
attribute [local go_sem ↓] Go.wp_at_zero Go.wp_at_succ

set_option maxRecDepth 100000 in
set_option maxHeartbeats 80000000 in
theorem frounding_core (b1 : Bool) (A1 : Option Addr) (n1 c1 z1 : Nat) (xs1 : List Nat) (b2 : Bool) (A2 : Option Addr) (n2 c2 z2 : Nat) (xs2 : List Nat) (scale places : Nat) (hsc : scale ≤ 4294967295) (w : World) (hg : Gnd w) (D1 : DraftIn w b1 A1 n1 c1 z1 xs1) (D2 : DraftIn w b2 A2 n2 c2 z2 xs2) :
    Calls Tryz.prog 8 #[.agg #[.bool b1, .slice A1 n1 c1, .int .u16 (z1 : Int), .bool b2, .slice A2 n2 c2, .int .u16 (z2 : Int)], .int .u32 (scale : Int), .int .u32 (places : Int)] w fun e w' => e = .returned (.bool true) ∧ Below w.heap.size w w' := by
  obtain ⟨P, hP⟩ : ∃ P, P = places % 21 := ⟨_, rfl⟩
  have hP2 : (places : Int).tmod 21 = (P : Int) := by rw [hP, Int.tmod_eq_emod_of_nonneg (by omega)]; omega
  have hP3 : P ≤ 20 := by omega
  obtain ⟨K, hK⟩ : ∃ K, K = 1 + scale := ⟨_, rfl⟩
  have hK1 : RowKit.wrap64 (scale : Int) = (scale : Int) := by unfold RowKit.wrap64; omega
  have hK2 : RowKit.wrap64 (1 + (scale : Int)) = (K : Int) := by unfold RowKit.wrap64; omega
  have hP4 : RowKit.wrap64 (P : Int) = (P : Int) := by unfold RowKit.wrap64; omega
  have hK0 : 1 ≤ K := by omega
  have hK3 : K ≤ 4294967296 := by omega
  obtain ⟨W0, hW0⟩ : ∃ W0, W0 = w.alloc (.cells #[.bool b1, .slice A1 n1 c1, .int .u16 (z1 : Int), .bool b2, .slice A2 n2 c2, .int .u16 (z2 : Int)] 30) := ⟨_, rfl⟩
  have hbW : Below w.heap.size w W0 := by rw [hW0]; exact (Below.refl _ _).alloc (Nat.le_refl _) _
  have hE0 : Fr W0 w.heap.size #[.bool b1, .slice A1 n1 c1, .int .u16 (z1 : Int), .bool b2, .slice A2 n2 c2, .int .u16 (z2 : Int)] 30 := by rw [hW0]; exact Fr.new rfl
  have hwk := fworks_any W0 (hg.below hbW)
  rw [hW0] at hwk
  have H := Lib.hid (And.intro hbW (And.intro hE0 (And.intro D1 (And.intro D2 hg))))
  have HN := Lib.hid (And.intro hP3 (And.intro hK0 hK3))
  clear D1 D2 hg hbW hE0 hP hK hP3 hK0 hK3 hsc
  go_enter Tryz.func8, Tryz.ntmps8
  go_wp2_with fail
  refine hwk.mono ?_
  rw [← hW0]
  rintro e V ⟨rfl, hb1⟩
  have hbV := belowt H.out.1 H.out.1.size hb1
  have hSV : Wk w V := ⟨hbV, H.out.2.2.2.2.below hbV⟩
  have hF0 := H.out.2.1.call hb1
  clear hwk hb1 hW0
  have a0 := hF0.cell 0
  have a1 := hF0.cell 1
  have a2 := hF0.cell 2
  have a3 := hF0.cell 3
  have a4 := hF0.cell 4
  have a5 := hF0.cell 5
  have HF := Lib.hid (And.intro hbV hSV)
  clear hF0 hbV hSV
  go_wp2_with fail
  obtain ⟨hbV, hSV⟩ := HF.out
  refine (frac_q H.out.2.2.1 H.out.2.2.2.1 V hbV).mono ?_
  rintro e w1 ⟨x1, x2, rfl, ⟨x, hx, ex1, ex2⟩, hb⟩
  have hS := hSV.step hb
  have hsd := rounding_saidS x hx K P HN.out.2.1 HN.out.2.2 HN.out.1
  rw [← ex1, ← ex2] at hsd
  obtain ⟨u, v, cc, bb, f, l1, l2, o1, o2, g1, g2, h1, h2, t, r1, r2, d1, d2, t1, t2, e1, e2, y1, y2, m1, m2, k1, k2, k3, k4, k5, k6, ku, kv, k7, k8, k9, k10, k11, k12, k13, k14, k15, k16, k17, kc, kb⟩ := hsd
  have C1 := Lib.hid k1
  have C2 := Lib.hid k2
  have C3 := Lib.hid k3
  have C4 := Lib.hid k4
  have C5 := Lib.hid k5
  have C6 := Lib.hid k6
  have C7 := Lib.hid k7
  have C9 := Lib.hid k9
  have C10 := Lib.hid k10
  have C11 := Lib.hid k11
  have C12 := Lib.hid k12
  have C13 := Lib.hid k13
  have C14 := Lib.hid k14
  have C15 := Lib.hid k15
  have C16 := Lib.hid k16
  have C17 := Lib.hid k17
  have e1' : decide (0 < u) = false := decide_eq_false (by omega)
  have e2' : decide (v ≤ 0) = false := decide_eq_false (by omega)
  have e3' : decide (cc ≤ 0) = true := decide_eq_true kc
  have e4' : decide (0 < bb) = true := decide_eq_true kb
  have C8 := Lib.hid k8
  clear hb hbV hSV HF ku kv kc kb k1 k2 k3 k4 k5 k6 k7 k8 k9 k10 k11 k12 k13 k14 k15 k16 k17 hx ex1 ex2 a0 a1 a2 a3 a4 a5
  have HF := Lib.hid ( hS)
  clear hS
  go_wp2_with fail
  have hS := HF.out
  clear HF
  obtain ⟨V1, g7, hV, hg, N7, hn, hSn⟩ := boxed hS #[.string ⟨x1.toArray⟩, .string ⟨x2.toArray⟩] 24
  clear hn hS 
  rw [← hV, ← hg]
  clear hV hg
  refine (C1.out.wk hSn).mono ?_
  rintro e w2 ⟨rfl, hb, hS⟩
  have F7 := N7.call hb
  clear hSn hb N7
  as_aux_lemma =>
   have HF := Lib.hid (And.intro F7 hS)
   clear F7 hS
   go_wp2_with fail
   obtain ⟨F7, hS⟩ := HF.out
   clear HF
   have hSn := hS
   have N7 := F7
   clear hS F7
   refine (C2.out.wk hSn).mono ?_
   rintro e w4 ⟨rfl, hb, hS⟩
   have F7 := N7.call hb
   clear hSn hb N7
   have HF := Lib.hid (And.intro F7 hS)
   clear F7 hS
   go_upto_region 6 with fail
   obtain ⟨F7, hS⟩ := HF.out
   clear HF
   obtain ⟨V5, g10, hV, hg, N10, hn, hSn⟩ := boxed hS #[.string ⟨l1.toArray⟩, .string ⟨l2.toArray⟩] 24
   have N7 := F7.call hn
   clear hn hS F7
   rw [← hV, ← hg]
   clear hV hg
   have hF7 := N7
   have hF10 := N10
   have hSV := hSn
   have hgV := hSV.2
   clear hSn N7 N10
   have hK6 : ∀ W, Below V5.heap.size V5 W → Below V5.heap.size V5 W ∧ W.cell? ⟨g10, 0, none⟩ = some (.string ⟨l1.toArray⟩) ∧ W.cell? ⟨g10, 1, none⟩ = some (.string ⟨l2.toArray⟩) := fun W hb => ⟨hb, keepc hb hF10.cells2.1, keepc hb hF10.cells2.2.1⟩
   have G60 : Hid (∀ W, Below V5.heap.size V5 W ∧ W.cell? ⟨g10, 0, none⟩ = some (.string ⟨l1.toArray⟩) ∧ W.cell? ⟨g10, 1, none⟩ = some (.string ⟨l2.toArray⟩) → Calls Tryz.prog 45 #[.int .i64 1, .int .i64 1] W fun e w' => e = .returned (.agg #[.string ⟨o1.toArray⟩, .string ⟨o2.toArray⟩]) ∧ Below W.heap.size W w' ∧ Below V5.heap.size V5 w' ∧ w'.cell? ⟨g10, 0, none⟩ = some (.string ⟨l1.toArray⟩) ∧ w'.cell? ⟨g10, 1, none⟩ = some (.string ⟨l2.toArray⟩)) := Lib.hid (fun W hS => (C3.out W (hgV.below hS.1)).mono fun e w' ⟨he, hb⟩ => ⟨he, hb, hK6 _ (hS.1.trans (hb.mono hS.1.size))⟩)
   have G61 : Hid (∀ W, Below V5.heap.size V5 W ∧ W.cell? ⟨g10, 0, none⟩ = some (.string ⟨l1.toArray⟩) ∧ W.cell? ⟨g10, 1, none⟩ = some (.string ⟨l2.toArray⟩) → Calls Tryz.prog 30 #[.agg #[.string ⟨l1.toArray⟩, .string ⟨l2.toArray⟩], .agg #[.string ⟨o1.toArray⟩, .string ⟨o2.toArray⟩]] W fun e w' => e = .returned (.tuple #[.agg #[.string ⟨g1.toArray⟩, .string ⟨g2.toArray⟩], .int .i64 0]) ∧ Below W.heap.size W w' ∧ Below V5.heap.size V5 w' ∧ w'.cell? ⟨g10, 0, none⟩ = some (.string ⟨l1.toArray⟩) ∧ w'.cell? ⟨g10, 1, none⟩ = some (.string ⟨l2.toArray⟩)) := Lib.hid (fun W hS => (C4.out W (hgV.below hS.1)).mono fun e w' ⟨he, hb⟩ => ⟨he, hb, hK6 _ (hS.1.trans (hb.mono hS.1.size))⟩)
   go_cut [12, 13] (fun s12 s13 wx => ∃ g12 : Nat, s12 = .pointer (some ⟨g12, 0, none⟩) ∧ s13 = .int .i64 0 ∧ Fr wx g12 #[.string ⟨g1.toArray⟩, .string ⟨g2.toArray⟩] 24 ∧ V5.heap.size ≤ g12 ∧ Below V5.heap.size V5 wx)
   case first =>
     go_region_held3 (fun W => Below V5.heap.size V5 W ∧ W.cell? ⟨g10, 0, none⟩ = some (.string ⟨l1.toArray⟩) ∧ W.cell? ⟨g10, 1, none⟩ = some (.string ⟨l2.toArray⟩))
       (first | with_reducible assumption | (refine hK6 _ ?_; (repeat (first | with_reducible assumption | with_reducible exact Below.refl _ _ | with_reducible refine Below.drew ?_ | with_reducible refine Below.alloc ?_ (by first | omega | (simp; done) | (simp; omega)) _ | with_reducible refine Below.setCell ?_ (by first | (simp; done) | (simp; omega) | omega) _))))
       (first
       | (go_at_call 45; with_reducible refine (G60.out _ ?_).mono ?_; with_reducible assumption; rintro e w60 ⟨rfl, hb60, hS60⟩; have hB60 := hS60.1; have hs60 := hB60.size; have hz60 := hb60.size; (try simp at hz60); obtain ⟨hk601, hk602⟩ := kept2 hb60; (try (have h4 := kept4 hb60 (V5.heap.size) ?s4; (case s4 => (first | omega | (simp; done) | (simp; omega))); obtain ⟨e6000, f6000, e6001, f6001, c600, d600⟩ := h4)); clear hk601 hk602)
       | (go_at_call 30; with_reducible refine (G61.out _ ?_).mono ?_; with_reducible assumption; rintro e w61 ⟨rfl, hb61, hS61⟩; have hB61 := hS61.1; have hs61 := hB61.size; have hz61 := hb61.size; (try simp at hz61); obtain ⟨hk611, hk612⟩ := kept2 hb61; (try (have h4 := kept4 hb61 (V5.heap.size) ?s4; (case s4 => (first | omega | (simp; done) | (simp; omega))); obtain ⟨e6100, f6100, e6101, f6101, c610, d610⟩ := h4)); (try (have h4 := kept4 hb61 (w60.heap.size) ?s4; (case s4 => (first | omega | (simp; done) | (simp; omega))); obtain ⟨e6110, f6110, e6111, f6111, c611, d611⟩ := h4)); clear hk611 hk612))
     all_goals
       go_wp2_with fail
       go_meet
       refine ⟨_, rfl, rfl, ?_, ?_, ?_⟩
       all_goals (first
         | omega
         | rfl
         | (repeat (first
           | (with_reducible refine Fr.new ?_; focus (first | rfl | (simp; done) | omega | (simp; omega))) | (with_reducible refine Fr.fillF ?_) | (with_reducible refine Fr.old ?_) | (with_reducible refine Fr.drew ?_) | (with_reducible refine Fr.call hb61 ?_) | (with_reducible refine Fr.call hb60 ?_) | ((with_reducible refine Fr.far ?_ (Fr.far ?_ ?_)); (focus (first | omega | (simp; omega))); (focus (first | omega | (simp; omega)))))
            done)
         | (repeat (first | with_reducible assumption | with_reducible refine Below.drew ?_ | with_reducible refine Below.alloc ?_ (by first | omega | (simp; done) | (simp; omega)) _ | with_reducible refine Below.setCell ?_ (by first | (simp; done) | (simp; omega) | omega) _)
            done))
   case rest =>
     obtain ⟨g12, rfl, rfl, hFg12, hlg12, hbc⟩ := hcut
     rename World => w6
     have hS := hSV.step hbc
     have F7 := hF7.call hbc
     have F10 := hF10.call hbc
     have F12 := hFg12
     clear hbc hSV hgV hK6 G60 G61 hF7 hF10 hFg12 hlg12
     obtain ⟨a10, b10, c10, d10⟩ := F10.cells2
     obtain ⟨a7, b7, c7, d7⟩ := F7.cells2
     have HF := Lib.hid (And.intro F7 (And.intro F10 (And.intro F12 hS)))
     clear F7 F10 F12 hS
     go_wp2_with fail
     obtain ⟨F7, F10, F12, hS⟩ := HF.out
     clear HF
     clear a10 b10 c10 d10 a7 b7 c7 d7
     have hSn := hS
     have N7 := F7
     have N10 := F10
     have N12 := F12
     clear hS F7 F10 F12
     refine (C5.out.wk hSn).mono ?_
     rintro e w8 ⟨rfl, hb, hS⟩
     have F7 := N7.call hb
     have F10 := N10.call hb
     have F12 := N12.call hb
     clear hSn hb N7 N10 N12
     as_aux_lemma =>
      obtain ⟨a12, b12, c12, d12⟩ := F12.cells2
      obtain ⟨a7, b7, c7, d7⟩ := F7.cells2
      have HF := Lib.hid (And.intro F7 (And.intro F10 (And.intro F12 hS)))
      clear F7 F10 F12 hS
      go_wp2_with fail
      obtain ⟨F7, F10, F12, hS⟩ := HF.out
      clear HF
      clear a12 b12 c12 d12 a7 b7 c7 d7
      have hSn := hS
      have N7 := F7
      have N10 := F10
      have N12 := F12
      clear hS F7 F10 F12
      refine (C6.out.wk hSn).mono ?_
      rintro e w10 ⟨rfl, hb, hS⟩
      have F7 := N7.call hb
      have F10 := N10.call hb
      have F12 := N12.call hb
      clear hSn hb N7 N10 N12
      have HF := Lib.hid (And.intro F7 (And.intro F10 (And.intro F12 hS)))
      clear F7 F10 F12 hS
      go_wp2_with fail
      obtain ⟨F7, F10, F12, hS⟩ := HF.out
      clear HF
      have hSn := hS
      have N7 := F7
      have N10 := F10
      have N12 := F12
      clear hS F7 F10 F12
      refine (C7.out.wk hSn).mono ?_
      rintro e w12 ⟨rfl, hb, hS⟩
      have F7 := N7.call hb
      have F10 := N10.call hb
      have F12 := N12.call hb
      clear hSn hb N7 N10 N12
      obtain ⟨nn, ee, k8, k9⟩ : ∃ nn ee : Int, Gives 47 #[qV x1 x2, .int .i64 (K : Int)] (.tuple #[.int .i64 nn, .int .i64 ee]) ∧ ((nn = 0 ∧ ee = 6) ∨ (ee = 0 ∧ ∃ (c b : Int) (a1 a2 p1 p2 i1 i2 s1 s2 j1 j2 : List UInt8), Gives 45 #[.int .i64 (K : Int), .int .i64 1] (qV a1 a2) ∧ Gives 32 #[qV x1 x2, qV a1 a2] (okV p1 p2) ∧ Gives 45 #[.int .i64 nn, .int .i64 1] (qV i1 i2) ∧ Gives 31 #[qV i1 i2, qV p1 p2] (okV s1 s2) ∧ Gives 21 #[qV s1 s2, qV h1 h2] (.tuple #[.int .i64 c, .int .i64 0]) ∧ Gives 38 #[qV h1 h2] (okV j1 j2) ∧ Gives 21 #[qV s1 s2, qV j1 j2] (.tuple #[.int .i64 b, .int .i64 0]) ∧ c ≤ 0 ∧ 0 < b)) := by
        rcases C8.out with k8 | ⟨n, c, b, a1, a2, p1, p2, i1, i2, s1, s2, j1, j2, i3, i4⟩
        · exact ⟨0, 6, k8, .inl ⟨rfl, rfl⟩⟩
        · exact ⟨n, 0, i3, .inr ⟨rfl, c, b, a1, a2, p1, p2, i1, i2, s1, s2, j1, j2, i4⟩⟩
      have D8 := Lib.hid k8
      have D9 := Lib.hid k9
      clear k8 k9 C8
      as_aux_lemma =>
       obtain ⟨a7, b7, -, -⟩ := F7.cells2a
       have HF := Lib.hid (And.intro F7 (And.intro F10 (And.intro F12 hS)))
       clear F7 F10 F12 hS
       go_wp2_with fail
       obtain ⟨F7, F10, F12, hS⟩ := HF.out
       clear HF
       clear a7 b7
       obtain ⟨V13, g19, hV, hg, N19, hn, hSn⟩ := boxed hS #[.string ⟨h1.toArray⟩, .string ⟨h2.toArray⟩] 24
       have N7 := F7.call hn
       have N10 := F10.call hn
       have N12 := F12.call hn
       clear hn hS F7 F10 F12
       rw [← hV, ← hg]
       clear hV hg
       refine (D8.out.wk hSn).mono ?_
       rintro e w14 ⟨rfl, hb, hS⟩
       have F7 := N7.call hb
       have F10 := N10.call hb
       have F12 := N12.call hb
       have F19 := N19.call hb
       clear hSn hb N7 N10 N12 N19
       have HF := Lib.hid (And.intro F7 (And.intro F10 (And.intro F12 (And.intro F19 hS))))
       clear F7 F10 F12 F19 hS
       go_upto_if 110 with fail
       obtain ⟨F7, F10, F12, F19, hS⟩ := HF.out
       clear HF
       clear F10 F12
       go_cut [] (fun wx => Fr wx g7 #[.string ⟨x1.toArray⟩, .string ⟨x2.toArray⟩] 24 ∧ Fr wx g19 #[.string ⟨h1.toArray⟩, .string ⟨h2.toArray⟩] 24 ∧ Wk w wx)
       case first =>
         rcases D9.out with ⟨rfl, rfl⟩ | ⟨rfl, c, b, a1, a2, p1, p2, i1, i2, s1, s2, j1, j2, i4, i5, i6, i7, i8, i9, i10, i11, i12⟩
         · have HF := Lib.hid (And.intro F7 (And.intro F19 hS))
           clear F7 F19 hS
           go_wp2_with fail
           go_meet
           exact HF.out
         · have A2 := Lib.hid i4
           have A3 := Lib.hid i5
           have A4 := Lib.hid i6
           have A5 := Lib.hid i7
           have A6 := Lib.hid i8
           have A7 := Lib.hid i9
           have A8 := Lib.hid i10
           have e5' : decide (0 < c) = false := decide_eq_false (by omega)
           have e6' : decide (b ≤ 0) = false := decide_eq_false (by omega)
           clear i4 i5 i6 i7 i8 i9 i10 i11 i12
           have HF := Lib.hid (And.intro F7 (And.intro F19 hS))
           clear F7 F19 hS
           go_upto_region 15 with fail
           obtain ⟨F7, F19, hS⟩ := HF.out
           clear HF
           have hSn := hS
           have N7 := F7
           have N19 := F19
           clear hS F7 F19
           have hF7 := N7
           have hF19 := N19
           have hSV := hSn
           have hgV := hSV.2
           clear hSn N7 N19
           have hK15 : ∀ W, Below w14.heap.size w14 W → Below w14.heap.size w14 W ∧ W.cell? ⟨g7, 0, none⟩ = some (.string ⟨x1.toArray⟩) ∧ W.cell? ⟨g7, 1, none⟩ = some (.string ⟨x2.toArray⟩) := fun W hb => ⟨hb, keepc hb hF7.cells2.1, keepc hb hF7.cells2.2.1⟩
           have G150 : Hid (∀ W, Below w14.heap.size w14 W ∧ W.cell? ⟨g7, 0, none⟩ = some (.string ⟨x1.toArray⟩) ∧ W.cell? ⟨g7, 1, none⟩ = some (.string ⟨x2.toArray⟩) → Calls Tryz.prog 45 #[.int .i64 (K : Int), .int .i64 1] W fun e w' => e = .returned (.agg #[.string ⟨a1.toArray⟩, .string ⟨a2.toArray⟩]) ∧ Below W.heap.size W w' ∧ Below w14.heap.size w14 w' ∧ w'.cell? ⟨g7, 0, none⟩ = some (.string ⟨x1.toArray⟩) ∧ w'.cell? ⟨g7, 1, none⟩ = some (.string ⟨x2.toArray⟩)) := Lib.hid (fun W hS => (A2.out W (hgV.below hS.1)).mono fun e w' ⟨he, hb⟩ => ⟨he, hb, hK15 _ (hS.1.trans (hb.mono hS.1.size))⟩)
           have G151 : Hid (∀ W, Below w14.heap.size w14 W ∧ W.cell? ⟨g7, 0, none⟩ = some (.string ⟨x1.toArray⟩) ∧ W.cell? ⟨g7, 1, none⟩ = some (.string ⟨x2.toArray⟩) → Calls Tryz.prog 32 #[.agg #[.string ⟨x1.toArray⟩, .string ⟨x2.toArray⟩], .agg #[.string ⟨a1.toArray⟩, .string ⟨a2.toArray⟩]] W fun e w' => e = .returned (.tuple #[.agg #[.string ⟨p1.toArray⟩, .string ⟨p2.toArray⟩], .int .i64 0]) ∧ Below W.heap.size W w' ∧ Below w14.heap.size w14 w' ∧ w'.cell? ⟨g7, 0, none⟩ = some (.string ⟨x1.toArray⟩) ∧ w'.cell? ⟨g7, 1, none⟩ = some (.string ⟨x2.toArray⟩)) := Lib.hid (fun W hS => (A3.out W (hgV.below hS.1)).mono fun e w' ⟨he, hb⟩ => ⟨he, hb, hK15 _ (hS.1.trans (hb.mono hS.1.size))⟩)
           go_cut [22, 23] (fun s22 s23 wx => ∃ g22 : Nat, s22 = .pointer (some ⟨g22, 0, none⟩) ∧ s23 = .int .i64 0 ∧ Fr wx g22 #[.string ⟨p1.toArray⟩, .string ⟨p2.toArray⟩] 24 ∧ w14.heap.size ≤ g22 ∧ Below w14.heap.size w14 wx)
           case first =>
             go_region_held3 (fun W => Below w14.heap.size w14 W ∧ W.cell? ⟨g7, 0, none⟩ = some (.string ⟨x1.toArray⟩) ∧ W.cell? ⟨g7, 1, none⟩ = some (.string ⟨x2.toArray⟩))
               (first | with_reducible assumption | (refine hK15 _ ?_; (repeat (first | with_reducible assumption | with_reducible exact Below.refl _ _ | with_reducible refine Below.drew ?_ | with_reducible refine Below.alloc ?_ (by first | omega | (simp; done) | (simp; omega)) _ | with_reducible refine Below.setCell ?_ (by first | (simp; done) | (simp; omega) | omega) _))))
               (first
               | (go_at_call 45; with_reducible refine (G150.out _ ?_).mono ?_; with_reducible assumption; rintro e w150 ⟨rfl, hb150, hS150⟩; have hB150 := hS150.1; have hs150 := hB150.size; have hz150 := hb150.size; (try simp at hz150); obtain ⟨hk1501, hk1502⟩ := kept2 hb150; (try (have h4 := kept4 hb150 (w14.heap.size) ?s4; (case s4 => (first | omega | (simp; done) | (simp; omega))); obtain ⟨e15000, f15000, e15001, f15001, c1500, d1500⟩ := h4)); clear hk1501 hk1502)
               | (go_at_call 32; with_reducible refine (G151.out _ ?_).mono ?_; with_reducible assumption; rintro e w151 ⟨rfl, hb151, hS151⟩; have hB151 := hS151.1; have hs151 := hB151.size; have hz151 := hb151.size; (try simp at hz151); obtain ⟨hk1511, hk1512⟩ := kept2 hb151; (try (have h4 := kept4 hb151 (w14.heap.size) ?s4; (case s4 => (first | omega | (simp; done) | (simp; omega))); obtain ⟨e15100, f15100, e15101, f15101, c1510, d1510⟩ := h4)); (try (have h4 := kept4 hb151 (w150.heap.size) ?s4; (case s4 => (first | omega | (simp; done) | (simp; omega))); obtain ⟨e15110, f15110, e15111, f15111, c1511, d1511⟩ := h4)); clear hk1511 hk1512))
             all_goals
               go_wp2_with fail
               go_meet
               refine ⟨_, rfl, rfl, ?_, ?_, ?_⟩
               all_goals (first
                 | omega
                 | rfl
                 | (repeat (first
                   | (with_reducible refine Fr.new ?_; focus (first | rfl | (simp; done) | omega | (simp; omega))) | (with_reducible refine Fr.fillF ?_) | (with_reducible refine Fr.old ?_) | (with_reducible refine Fr.drew ?_) | (with_reducible refine Fr.call hb151 ?_) | (with_reducible refine Fr.call hb150 ?_) | ((with_reducible refine Fr.far ?_ (Fr.far ?_ ?_)); (focus (first | omega | (simp; omega))); (focus (first | omega | (simp; omega)))))
                    done)
                 | (repeat (first | with_reducible assumption | with_reducible refine Below.drew ?_ | with_reducible refine Below.alloc ?_ (by first | omega | (simp; done) | (simp; omega)) _ | with_reducible refine Below.setCell ?_ (by first | (simp; done) | (simp; omega) | omega) _)
                    done))
           case rest =>
             obtain ⟨g22, rfl, rfl, hFg22, hlg22, hbc⟩ := hcut
             rename World => w16
             have hS := hSV.step hbc
             have F7 := hF7.call hbc
             have F19 := hF19.call hbc
             have F22 := hFg22
             clear hbc hSV hgV hK15 G150 G151 hF7 hF19 hFg22 hlg22
             have HF := Lib.hid (And.intro F7 (And.intro F19 (And.intro F22 hS)))
             clear F7 F19 F22 hS
             go_upto_region 16 with fail
             obtain ⟨F7, F19, F22, hS⟩ := HF.out
             clear HF
             have hSn := hS
             have N7 := F7
             have N19 := F19
             have N22 := F22
             clear hS F7 F19 F22
             have hF7 := N7
             have hF19 := N19
             have hF22 := N22
             have hSV := hSn
             have hgV := hSV.2
             clear hSn N7 N19 N22
             have hK16 : ∀ W, Below w16.heap.size w16 W → Below w16.heap.size w16 W ∧ W.cell? ⟨g22, 0, none⟩ = some (.string ⟨p1.toArray⟩) ∧ W.cell? ⟨g22, 1, none⟩ = some (.string ⟨p2.toArray⟩) := fun W hb => ⟨hb, keepc hb hF22.cells2.1, keepc hb hF22.cells2.2.1⟩
             have G160 : Hid (∀ W, Below w16.heap.size w16 W ∧ W.cell? ⟨g22, 0, none⟩ = some (.string ⟨p1.toArray⟩) ∧ W.cell? ⟨g22, 1, none⟩ = some (.string ⟨p2.toArray⟩) → Calls Tryz.prog 45 #[.int .i64 nn, .int .i64 1] W fun e w' => e = .returned (.agg #[.string ⟨i1.toArray⟩, .string ⟨i2.toArray⟩]) ∧ Below W.heap.size W w' ∧ Below w16.heap.size w16 w' ∧ w'.cell? ⟨g22, 0, none⟩ = some (.string ⟨p1.toArray⟩) ∧ w'.cell? ⟨g22, 1, none⟩ = some (.string ⟨p2.toArray⟩)) := Lib.hid (fun W hS => (A4.out W (hgV.below hS.1)).mono fun e w' ⟨he, hb⟩ => ⟨he, hb, hK16 _ (hS.1.trans (hb.mono hS.1.size))⟩)
             have G161 : Hid (∀ W, Below w16.heap.size w16 W ∧ W.cell? ⟨g22, 0, none⟩ = some (.string ⟨p1.toArray⟩) ∧ W.cell? ⟨g22, 1, none⟩ = some (.string ⟨p2.toArray⟩) → Calls Tryz.prog 31 #[.agg #[.string ⟨i1.toArray⟩, .string ⟨i2.toArray⟩], .agg #[.string ⟨p1.toArray⟩, .string ⟨p2.toArray⟩]] W fun e w' => e = .returned (.tuple #[.agg #[.string ⟨s1.toArray⟩, .string ⟨s2.toArray⟩], .int .i64 0]) ∧ Below W.heap.size W w' ∧ Below w16.heap.size w16 w' ∧ w'.cell? ⟨g22, 0, none⟩ = some (.string ⟨p1.toArray⟩) ∧ w'.cell? ⟨g22, 1, none⟩ = some (.string ⟨p2.toArray⟩)) := Lib.hid (fun W hS => (A5.out W (hgV.below hS.1)).mono fun e w' ⟨he, hb⟩ => ⟨he, hb, hK16 _ (hS.1.trans (hb.mono hS.1.size))⟩)
             go_cut [24, 25] (fun s24 s25 wx => ∃ g24 : Nat, s24 = .pointer (some ⟨g24, 0, none⟩) ∧ s25 = .int .i64 0 ∧ Fr wx g24 #[.string ⟨s1.toArray⟩, .string ⟨s2.toArray⟩] 24 ∧ w16.heap.size ≤ g24 ∧ Below w16.heap.size w16 wx)
             case first =>
               go_region_held3 (fun W => Below w16.heap.size w16 W ∧ W.cell? ⟨g22, 0, none⟩ = some (.string ⟨p1.toArray⟩) ∧ W.cell? ⟨g22, 1, none⟩ = some (.string ⟨p2.toArray⟩))
                 (first | with_reducible assumption | (refine hK16 _ ?_; (repeat (first | with_reducible assumption | with_reducible exact Below.refl _ _ | with_reducible refine Below.drew ?_ | with_reducible refine Below.alloc ?_ (by first | omega | (simp; done) | (simp; omega)) _ | with_reducible refine Below.setCell ?_ (by first | (simp; done) | (simp; omega) | omega) _))))
                 (first
                 | (go_at_call 45; with_reducible refine (G160.out _ ?_).mono ?_; with_reducible assumption; rintro e w160 ⟨rfl, hb160, hS160⟩; have hB160 := hS160.1; have hs160 := hB160.size; have hz160 := hb160.size; (try simp at hz160); obtain ⟨hk1601, hk1602⟩ := kept2 hb160; (try (have h4 := kept4 hb160 (w16.heap.size) ?s4; (case s4 => (first | omega | (simp; done) | (simp; omega))); obtain ⟨e16000, f16000, e16001, f16001, c1600, d1600⟩ := h4)); clear hk1601 hk1602)
                 | (go_at_call 31; with_reducible refine (G161.out _ ?_).mono ?_; with_reducible assumption; rintro e w161 ⟨rfl, hb161, hS161⟩; have hB161 := hS161.1; have hs161 := hB161.size; have hz161 := hb161.size; (try simp at hz161); obtain ⟨hk1611, hk1612⟩ := kept2 hb161; (try (have h4 := kept4 hb161 (w16.heap.size) ?s4; (case s4 => (first | omega | (simp; done) | (simp; omega))); obtain ⟨e16100, f16100, e16101, f16101, c1610, d1610⟩ := h4)); (try (have h4 := kept4 hb161 (w160.heap.size) ?s4; (case s4 => (first | omega | (simp; done) | (simp; omega))); obtain ⟨e16110, f16110, e16111, f16111, c1611, d1611⟩ := h4)); clear hk1611 hk1612))
               all_goals
                 go_wp2_with fail
                 go_meet
                 refine ⟨_, rfl, rfl, ?_, ?_, ?_⟩
                 all_goals (first
                   | omega
                   | rfl
                   | (repeat (first
                     | (with_reducible refine Fr.new ?_; focus (first | rfl | (simp; done) | omega | (simp; omega))) | (with_reducible refine Fr.fillF ?_) | (with_reducible refine Fr.old ?_) | (with_reducible refine Fr.drew ?_) | (with_reducible refine Fr.call hb161 ?_) | (with_reducible refine Fr.call hb160 ?_) | ((with_reducible refine Fr.far ?_ (Fr.far ?_ ?_)); (focus (first | omega | (simp; omega))); (focus (first | omega | (simp; omega)))))
                      done)
                   | (repeat (first | with_reducible assumption | with_reducible refine Below.drew ?_ | with_reducible refine Below.alloc ?_ (by first | omega | (simp; done) | (simp; omega)) _ | with_reducible refine Below.setCell ?_ (by first | (simp; done) | (simp; omega) | omega) _)
                      done))
             case rest =>
               obtain ⟨g24, rfl, rfl, hFg24, hlg24, hbc⟩ := hcut
               rename World => w18
               have hS := hSV.step hbc
               have F7 := hF7.call hbc
               have F19 := hF19.call hbc
               have F22 := hF22.call hbc
               have F24 := hFg24
               clear hbc hSV hgV hK16 G160 G161 hF7 hF19 hF22 hFg24 hlg24
               obtain ⟨a24, b24, c24, d24⟩ := F24.cells2
               obtain ⟨a19, b19, c19, d19⟩ := F19.cells2
               have HF := Lib.hid (And.intro F7 (And.intro F19 (And.intro F22 (And.intro F24 hS))))
               clear F7 F19 F22 F24 hS
               go_wp2_with fail
               obtain ⟨F7, F19, F22, F24, hS⟩ := HF.out
               clear HF
               clear a24 b24 c24 d24 a19 b19 c19 d19
               have hSn := hS
               have N7 := F7
               have N19 := F19
               have N22 := F22
               have N24 := F24
               clear hS F7 F19 F22 F24
               refine (A6.out.wk hSn).mono ?_
               rintro e w20 ⟨rfl, hb, hS⟩
               have F7 := N7.call hb
               have F19 := N19.call hb
               have F22 := N22.call hb
               have F24 := N24.call hb
               clear hSn hb N7 N19 N22 N24
               as_aux_lemma =>
                obtain ⟨a19, b19, c19, d19⟩ := F19.cells2
                have HF := Lib.hid (And.intro F7 (And.intro F19 (And.intro F22 (And.intro F24 hS))))
                clear F7 F19 F22 F24 hS
                go_wp2_with fail
                obtain ⟨F7, F19, F22, F24, hS⟩ := HF.out
                clear HF
                clear a19 b19 c19 d19
                have hSn := hS
                have N7 := F7
                have N19 := F19
                have N22 := F22
                have N24 := F24
                clear hS F7 F19 F22 F24
                refine (A7.out.wk hSn).mono ?_
                rintro e w22 ⟨rfl, hb, hS⟩
                have F7 := N7.call hb
                have F19 := N19.call hb
                have F22 := N22.call hb
                have F24 := N24.call hb
                clear hSn hb N7 N19 N22 N24
                obtain ⟨a24, b24, -, -⟩ := F24.cells2a
                have HF := Lib.hid (And.intro F7 (And.intro F19 (And.intro F22 (And.intro F24 hS))))
                clear F7 F19 F22 F24 hS
                go_wp2_with fail
                obtain ⟨F7, F19, F22, F24, hS⟩ := HF.out
                clear HF
                clear a24 b24
                obtain ⟨V23, g28, hV, hg, N28, hn, hSn⟩ := boxed hS #[.string ⟨j1.toArray⟩, .string ⟨j2.toArray⟩] 24
                have N7 := F7.call hn
                have N19 := F19.call hn
                have N22 := F22.call hn
                have N24 := F24.call hn
                clear hn hS F7 F19 F22 F24
                rw [← hV, ← hg]
                clear hV hg
                refine (A8.out.wk hSn).mono ?_
                rintro e w24 ⟨rfl, hb, hS⟩
                have F7 := N7.call hb
                have F19 := N19.call hb
                have F22 := N22.call hb
                have F24 := N24.call hb
                have F28 := N28.call hb
                clear hSn hb N7 N19 N22 N24 N28
                clear F22 F24 F28
                have HF := Lib.hid (And.intro F7 (And.intro F19 hS))
                clear F7 F19 hS
                go_wp2_with fail
                obtain ⟨F7, F19, hS⟩ := HF.out
                clear HF
                go_meet
                exact ⟨F7, F19, hS⟩
       case rest =>
         rename World => w201
         obtain ⟨F7, F19, hS⟩ := hcut
         clear D9
         obtain ⟨a7, b7, c7, d7⟩ := F7.cells2
         have HF := Lib.hid (And.intro F7 (And.intro F19 hS))
         clear F7 F19 hS
         go_wp2_with fail
         obtain ⟨F7, F19, hS⟩ := HF.out
         clear HF
         clear a7 b7 c7 d7
         have hSn := hS
         have N7 := F7
         have N19 := F19
         clear hS F7 F19
         refine (C9.out.wk hSn).mono ?_
         rintro e w203 ⟨rfl, hb, hS⟩
         have F7 := N7.call hb
         have F19 := N19.call hb
         clear hSn hb N7 N19
         as_aux_lemma =>
          have HF := Lib.hid (And.intro F7 (And.intro F19 hS))
          clear F7 F19 hS
          go_wp2_with fail
          obtain ⟨F7, F19, hS⟩ := HF.out
          clear HF
          have hSn := hS
          have N7 := F7
          have N19 := F19
          clear hS F7 F19
          refine (C10.out.wk hSn).mono ?_
          rintro e w205 ⟨rfl, hb, hS⟩
          have F7 := N7.call hb
          have F19 := N19.call hb
          clear hSn hb N7 N19
          obtain ⟨a7, b7, -, -⟩ := F7.cells2a
          have HF := Lib.hid (And.intro F7 (And.intro F19 hS))
          clear F7 F19 hS
          go_wp2_with fail
          obtain ⟨F7, F19, hS⟩ := HF.out
          clear HF
          clear a7 b7
          obtain ⟨V206, g34, hV, hg, N34, hn, hSn⟩ := boxed hS #[.string ⟨r1.toArray⟩, .string ⟨r2.toArray⟩] 24
          have N7 := F7.call hn
          have N19 := F19.call hn
          clear hn hS F7 F19
          rw [← hV, ← hg]
          clear hV hg
          refine (C11.out.wk hSn).mono ?_
          rintro e w207 ⟨rfl, hb, hS⟩
          have F7 := N7.call hb
          have F19 := N19.call hb
          have F34 := N34.call hb
          clear hSn hb N7 N19 N34
          as_aux_lemma =>
           have HF := Lib.hid (And.intro F7 (And.intro F19 (And.intro F34 hS)))
           clear F7 F19 F34 hS
           go_wp2_with fail
           obtain ⟨F7, F19, F34, hS⟩ := HF.out
           clear HF
           obtain ⟨V208, g35, hV, hg, N35, hn, hSn⟩ := boxed hS #[.string ⟨d1.toArray⟩, .string ⟨d2.toArray⟩] 24
           have q7_35 : g7 < g35 := by rw [hg]; exact F7.lt
           have N7 := F7.call hn
           have q19_35 : g19 < g35 := by rw [hg]; exact F19.lt
           have N19 := F19.call hn
           have q34_35 : g34 < g35 := by rw [hg]; exact F34.lt
           have N34 := F34.call hn
           have lw35 : w.heap.size ≤ g35 := by rw [hg]; exact hS.1.size
           clear hn hS F7 F19 F34
           rw [← hV, ← hg]
           clear hV hg
           refine (C12.out.wk hSn).mono ?_
           rintro e w209 ⟨rfl, hb, hS⟩
           have F7 := N7.call hb
           have F19 := N19.call hb
           have F34 := N34.call hb
           have F35 := N35.call hb
           clear hSn hb N7 N19 N34 N35
           have HF := Lib.hid (And.intro F7 (And.intro F19 (And.intro F34 (And.intro F35 hS))))
           clear F7 F19 F34 F35 hS
           go_wp2_with fail
           obtain ⟨F7, F19, F34, F35, hS⟩ := HF.out
           clear HF
           have hSn := hS
           have N7 := F7
           have N19 := F19
           have N34 := F34
           have N35 := F35
           clear hS F7 F19 F34 F35
           refine (C13.out.wk hSn).mono ?_
           rintro e w211 ⟨rfl, hb, hS⟩
           have F7 := N7.call hb
           have F19 := N19.call hb
           have F34 := N34.call hb
           have F35 := N35.call hb
           clear hSn hb N7 N19 N34 N35
           as_aux_lemma =>
            obtain ⟨a35, b35, -, -⟩ := F35.cells2a
            have HF := Lib.hid (And.intro F7 (And.intro F19 (And.intro F34 (And.intro F35 hS))))
            clear F7 F19 F34 F35 hS
            go_wp2_with fail
            obtain ⟨F7, F19, F34, F35, hS⟩ := HF.out
            clear HF
            clear a35 b35
            obtain ⟨V212, g36, hV, hg, N36, hn, hSn⟩ := boxed hS #[.string ⟨e1.toArray⟩, .string ⟨e2.toArray⟩] 24
            have N7 := F7.call hn
            have N19 := F19.call hn
            have N34 := F34.call hn
            have q35_36 : g35 < g36 := by rw [hg]; exact F35.lt
            have N35 := F35.call hn
            clear hn hS F7 F19 F34 F35
            rw [← hV, ← hg]
            clear hV hg
            refine (C14.out.wk hSn).mono ?_
            rintro e w213 ⟨rfl, hb, hS⟩
            have F7 := N7.call hb
            have F19 := N19.call hb
            have F34 := N34.call hb
            have F35 := N35.call hb
            have F36 := N36.call hb
            clear hSn hb N7 N19 N34 N35 N36
            obtain ⟨a35, b35, c35, d35⟩ := F35.cells2
            obtain ⟨a19, b19, c19, d19⟩ := F19.cells2
            have e19 : g19 ≠ g35 := by omega
            have e19_ : g35 ≠ g19 := by omega
            have HF := Lib.hid (And.intro F7 (And.intro F19 (And.intro F34 (And.intro F35 (And.intro F36 hS)))))
            clear F7 F19 F34 F35 F36 hS
            go_wp2_with fail
            obtain ⟨F7, F19, F34, F35, F36, hS⟩ := HF.out
            clear HF
            clear a35 b35 c35 d35 a19 b19 c19 d19 e19 e19_
            have hSn : Wk w ((w213.setCell ⟨g35, 0, none⟩ (.string ⟨y1.toArray⟩)).setCell ⟨g35, 1, none⟩ (.string ⟨y2.toArray⟩)) := wk_of H.out.2.2.2.2 ((hS.1.setCell lw35 _).setCell lw35 _)
            have N7 : Fr ((w213.setCell ⟨g35, 0, none⟩ (.string ⟨y1.toArray⟩)).setCell ⟨g35, 1, none⟩ (.string ⟨y2.toArray⟩)) g7 #[.string ⟨x1.toArray⟩, .string ⟨x2.toArray⟩] 24 := Fr.far (by omega) (Fr.far (by omega) F7)
            have N19 : Fr ((w213.setCell ⟨g35, 0, none⟩ (.string ⟨y1.toArray⟩)).setCell ⟨g35, 1, none⟩ (.string ⟨y2.toArray⟩)) g19 #[.string ⟨h1.toArray⟩, .string ⟨h2.toArray⟩] 24 := Fr.far (by omega) (Fr.far (by omega) F19)
            have N34 : Fr ((w213.setCell ⟨g35, 0, none⟩ (.string ⟨y1.toArray⟩)).setCell ⟨g35, 1, none⟩ (.string ⟨y2.toArray⟩)) g34 #[.string ⟨r1.toArray⟩, .string ⟨r2.toArray⟩] 24 := Fr.far (by omega) (Fr.far (by omega) F34)
            have N35 : Fr ((w213.setCell ⟨g35, 0, none⟩ (.string ⟨y1.toArray⟩)).setCell ⟨g35, 1, none⟩ (.string ⟨y2.toArray⟩)) g35 #[.string ⟨y1.toArray⟩, .string ⟨y2.toArray⟩] 24 := Fr.set2 F35
            have N36 : Fr ((w213.setCell ⟨g35, 0, none⟩ (.string ⟨y1.toArray⟩)).setCell ⟨g35, 1, none⟩ (.string ⟨y2.toArray⟩)) g36 #[.string ⟨e1.toArray⟩, .string ⟨e2.toArray⟩] 24 := Fr.far (by omega) (Fr.far (by omega) F36)
            clear hS F7 F19 F34 F35 F36
            obtain ⟨V214, hV214⟩ : ∃ V, V = ((w213.setCell ⟨g35, 0, none⟩ (.string ⟨y1.toArray⟩)).setCell ⟨g35, 1, none⟩ (.string ⟨y2.toArray⟩)) := ⟨_, rfl⟩
            rw [← hV214] at N7 N19 N34 N35 N36 hSn ⊢
            clear hV214
            refine (C15.out.wk hSn).mono ?_
            rintro e w215 ⟨rfl, hb, hS⟩
            have F7 := N7.call hb
            have F19 := N19.call hb
            have F34 := N34.call hb
            have F35 := N35.call hb
            have F36 := N36.call hb
            clear hSn hb N7 N19 N34 N35 N36
            have HF := Lib.hid (And.intro F7 (And.intro F19 (And.intro F34 (And.intro F35 (And.intro F36 hS)))))
            clear F7 F19 F34 F35 F36 hS
            go_upto_region 31 with fail
            obtain ⟨F7, F19, F34, F35, F36, hS⟩ := HF.out
            clear HF
            have hSn := hS
            have N7 := F7
            have N19 := F19
            have N34 := F34
            have N35 := F35
            have N36 := F36
            clear hS F7 F19 F34 F35 F36
            have hF7 := N7
            have hF19 := N19
            have hF34 := N34
            have hF35 := N35
            have hF36 := N36
            have hSV := hSn
            have hgV := hSV.2
            clear hSn N7 N19 N34 N35 N36
            have hK31 : ∀ W, Below w215.heap.size w215 W → Below w215.heap.size w215 W ∧ W.cell? ⟨g35, 0, none⟩ = some (.string ⟨y1.toArray⟩) ∧ W.cell? ⟨g35, 1, none⟩ = some (.string ⟨y2.toArray⟩) := fun W hb => ⟨hb, keepc hb hF35.cells2.1, keepc hb hF35.cells2.2.1⟩
            have G310 : Hid (∀ W, Below w215.heap.size w215 W ∧ W.cell? ⟨g35, 0, none⟩ = some (.string ⟨y1.toArray⟩) ∧ W.cell? ⟨g35, 1, none⟩ = some (.string ⟨y2.toArray⟩) → Calls Tryz.prog 45 #[.int .i64 (-1), .int .i64 2] W fun e w' => e = .returned (.agg #[.string ⟨m1.toArray⟩, .string ⟨m2.toArray⟩]) ∧ Below W.heap.size W w' ∧ Below w215.heap.size w215 w' ∧ w'.cell? ⟨g35, 0, none⟩ = some (.string ⟨y1.toArray⟩) ∧ w'.cell? ⟨g35, 1, none⟩ = some (.string ⟨y2.toArray⟩)) := Lib.hid (fun W hS => (C16.out W (hgV.below hS.1)).mono fun e w' ⟨he, hb⟩ => ⟨he, hb, hK31 _ (hS.1.trans (hb.mono hS.1.size))⟩)
            have G311 : Hid (∀ W, Below w215.heap.size w215 W ∧ W.cell? ⟨g35, 0, none⟩ = some (.string ⟨y1.toArray⟩) ∧ W.cell? ⟨g35, 1, none⟩ = some (.string ⟨y2.toArray⟩) → Calls Tryz.prog 21 #[.agg #[.string ⟨y1.toArray⟩, .string ⟨y2.toArray⟩], .agg #[.string ⟨m1.toArray⟩, .string ⟨m2.toArray⟩]] W fun e w' => e = .returned (.tuple #[.int .i64 bb, .int .i64 0]) ∧ Below W.heap.size W w' ∧ Below w215.heap.size w215 w' ∧ w'.cell? ⟨g35, 0, none⟩ = some (.string ⟨y1.toArray⟩) ∧ w'.cell? ⟨g35, 1, none⟩ = some (.string ⟨y2.toArray⟩)) := Lib.hid (fun W hS => (C17.out W (hgV.below hS.1)).mono fun e w' ⟨he, hb⟩ => ⟨he, hb, hK31 _ (hS.1.trans (hb.mono hS.1.size))⟩)
            go_cut [39, 40] (fun s39 s40 wx => s39 = .int .i64 bb ∧ s40 = .int .i64 0 ∧ Below w215.heap.size w215 wx)
            case first =>
              go_region_held3 (fun W => Below w215.heap.size w215 W ∧ W.cell? ⟨g35, 0, none⟩ = some (.string ⟨y1.toArray⟩) ∧ W.cell? ⟨g35, 1, none⟩ = some (.string ⟨y2.toArray⟩))
                (first | with_reducible assumption | (refine hK31 _ ?_; (repeat (first | with_reducible assumption | with_reducible exact Below.refl _ _ | with_reducible refine Below.drew ?_ | with_reducible refine Below.alloc ?_ (by first | omega | (simp; done) | (simp; omega)) _ | with_reducible refine Below.setCell ?_ (by first | (simp; done) | (simp; omega) | omega) _))))
                (first
                | (go_at_call 45; with_reducible refine (G310.out _ ?_).mono ?_; with_reducible assumption; rintro e w310 ⟨rfl, hb310, hS310⟩; have hB310 := hS310.1; have hs310 := hB310.size; have hz310 := hb310.size; (try simp at hz310); obtain ⟨hk3101, hk3102⟩ := kept2 hb310; clear hk3101 hk3102)
                | (go_at_call 21; with_reducible refine (G311.out _ ?_).mono ?_; with_reducible assumption; rintro e w311 ⟨rfl, hb311, hS311⟩; have hB311 := hS311.1; have hs311 := hB311.size; have hz311 := hb311.size; (try simp at hz311); obtain ⟨hk3111, hk3112⟩ := kept2 hb311; clear hk3111 hk3112))
              all_goals
                go_wp2_with fail
                go_meet
                refine ⟨rfl, rfl, ?_⟩
                all_goals (first
                  | omega
                  | rfl
                  | (repeat (first
                    | (with_reducible refine Fr.new ?_; focus (first | rfl | (simp; done) | omega | (simp; omega))) | (with_reducible refine Fr.fillF ?_) | (with_reducible refine Fr.old ?_) | (with_reducible refine Fr.drew ?_) | (with_reducible refine Fr.call hb311 ?_) | (with_reducible refine Fr.call hb310 ?_) | ((with_reducible refine Fr.far ?_ (Fr.far ?_ ?_)); (focus (first | omega | (simp; omega))); (focus (first | omega | (simp; omega)))))
                     done)
                  | (repeat (first | with_reducible assumption | with_reducible refine Below.drew ?_ | with_reducible refine Below.alloc ?_ (by first | omega | (simp; done) | (simp; omega)) _ | with_reducible refine Below.setCell ?_ (by first | (simp; done) | (simp; omega) | omega) _)
                     done))
            case rest =>
              obtain ⟨rfl, rfl, hbc⟩ := hcut
              rename World => w217
              have hS := hSV.step hbc
              have F7 := hF7.call hbc
              have F19 := hF19.call hbc
              have F34 := hF34.call hbc
              have F35 := hF35.call hbc
              have F36 := hF36.call hbc
              clear hbc hSV hgV hK31 G310 G311 hF7 hF19 hF34 hF35 hF36
              have hSc := Lib.hid hS
              clear hS F7 F19 F34 F35 F36
              go_wp2_with fail
              go_ret
              exact ⟨rfl, hSc.out.1⟩

end Go.Proofs.YtfkdcgjphnoioaaGreatDoor
