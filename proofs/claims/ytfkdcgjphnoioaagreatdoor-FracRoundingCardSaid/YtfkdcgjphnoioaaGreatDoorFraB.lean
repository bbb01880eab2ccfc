/- Frames: what a variable's block holds, over calls, new blocks and stores; numbers of package number beside stores. Contracts: number.Of, readWhole, part, lowest. -/
import Derived.Test.YtfkdcgjphnoioaaGreatDoorFraA
import Derived.Laws.Tables
namespace Go.Proofs.YtfkdcgjphnoioaaGreatDoor
open Go.RowKit Vd
attribute [local go_sem ↓] Go.wp_at_zero Go.wp_at_succ

/-- block b holds just these cells -/
def Fr (W : World) (b : Nat) (vs : Array Value) (t : TypeId) : Prop := W.heap[b]? = some (.cells vs t (0, 0))
section
variable {W W' : World} {b g o : Nat} {vs : Array Value} {t : TypeId}
theorem Fr.lt (h : Fr W b vs t) : b < W.heap.size := (Array.getElem?_eq_some_iff.1 h).1
theorem Fr.call (hb : Below W.heap.size W W') (h : Fr W b vs t) : Fr W' b vs t := (hb.block b h.lt).trans h
theorem Fr.new (h : b = W.heap.size) : Fr (W.alloc (.cells vs t)) b vs t := by subst h; exact heap_alloc_new W _
theorem Fr.old {u : Obj} (h : Fr W b vs t) : Fr (W.alloc u) b vs t := Fr.call ((Below.refl _ _).alloc (Nat.le_refl _) u) h
theorem Fr.drew (h : Fr W b vs t) : Fr W.drew b vs t := h
theorem Fr.drewN {k : Nat} (h : Fr W b vs t) : Fr (W.drewN k) b vs t := h
theorem Fr.far {v : Value} (hne : b ≠ g) (h : Fr W b vs t) : Fr (W.setCell ⟨g, o, none⟩ v) b vs t := (Below.heap_setCell W ⟨g, o, none⟩ v b hne).trans h
theorem Fr.set {v : Value} (h : Fr W b vs t) : Fr (W.setCell ⟨b, o, none⟩ v) b (vs.setIfInBounds o v) t := by
  unfold Fr at h ⊢
  simp [World.setCell, Array.getElem?_modify, h]
theorem Fr.set2 {u v u' v' : Value} (h : Fr W b #[u, v] t) : Fr ((W.setCell ⟨b, 0, none⟩ u').setCell ⟨b, 1, none⟩ v') b #[u', v'] t := h.set.set
theorem Fr.set4 {a c d e a' c' d' e' : Value} (h : Fr W b #[a, c, d, e] t) : Fr ((((W.setCell ⟨b, 0, none⟩ a').setCell ⟨b, 1, none⟩ c').setCell ⟨b, 2, none⟩ d').setCell ⟨b, 3, none⟩ e') b #[a', c', d', e'] t := h.set.set.set.set
theorem Fr.cell (h : Fr W b vs t) (o : Nat) : W.cell? ⟨b, o, none⟩ = vs[o]? := cell_of_row W b o _ _ (0, 0) h
theorem Fr.frozen (h : Fr W b vs t) (o : Nat) : W.frozen? ⟨b, o, none⟩ = false := by
  unfold Fr at h
  simp [World.frozen?, h]
theorem Fr.cells2 {u v : Value} (h : Fr W b #[u, v] t) : W.cell? ⟨b, 0, none⟩ = some u ∧ W.cell? ⟨b, 1, none⟩ = some v ∧ W.frozen? ⟨b, 0, none⟩ = false ∧ W.frozen? ⟨b, 1, none⟩ = false := ⟨h.cell 0, h.cell 1, h.frozen 0, h.frozen 1⟩
theorem Fr.cells2a {a c : Value} (h : Fr W b #[a, c] t) : (∀ p0 : Obj, (W.alloc p0).cell? ⟨b, 0, none⟩ = some a) ∧ (∀ p0 : Obj, (W.alloc p0).cell? ⟨b, 1, none⟩ = some c) ∧ (∀ p0 : Obj, (W.alloc p0).frozen? ⟨b, 0, none⟩ = false) ∧ (∀ p0 : Obj, (W.alloc p0).frozen? ⟨b, 1, none⟩ = false) := ⟨fun _ => h.old.cell 0, fun _ => h.old.cell 1, fun _ => h.old.frozen 0, fun _ => h.old.frozen 1⟩
theorem Fr.cells2b {a c : Value} (h : Fr W b #[a, c] t) : (∀ p0 p1 : Obj, ((W.alloc p0).alloc p1).cell? ⟨b, 0, none⟩ = some a) ∧ (∀ p0 p1 : Obj, ((W.alloc p0).alloc p1).cell? ⟨b, 1, none⟩ = some c) ∧ (∀ p0 p1 : Obj, ((W.alloc p0).alloc p1).frozen? ⟨b, 0, none⟩ = false) ∧ (∀ p0 p1 : Obj, ((W.alloc p0).alloc p1).frozen? ⟨b, 1, none⟩ = false) := ⟨fun _ _ => h.old.old.cell 0, fun _ _ => h.old.old.cell 1, fun _ _ => h.old.old.frozen 0, fun _ _ => h.old.old.frozen 1⟩
theorem Fr.cells4a {a c d e : Value} (h : Fr W b #[a, c, d, e] t) : (∀ p0 : Obj, (W.alloc p0).cell? ⟨b, 0, none⟩ = some a) ∧ (∀ p0 : Obj, (W.alloc p0).cell? ⟨b, 1, none⟩ = some c) ∧ (∀ p0 : Obj, (W.alloc p0).cell? ⟨b, 2, none⟩ = some d) ∧ (∀ p0 : Obj, (W.alloc p0).cell? ⟨b, 3, none⟩ = some e) ∧ (∀ p0 : Obj, (W.alloc p0).frozen? ⟨b, 0, none⟩ = false) ∧ (∀ p0 : Obj, (W.alloc p0).frozen? ⟨b, 1, none⟩ = false) ∧ (∀ p0 : Obj, (W.alloc p0).frozen? ⟨b, 2, none⟩ = false) ∧ (∀ p0 : Obj, (W.alloc p0).frozen? ⟨b, 3, none⟩ = false) := ⟨fun _ => h.old.cell 0, fun _ => h.old.cell 1, fun _ => h.old.cell 2, fun _ => h.old.cell 3, fun _ => h.old.frozen 0, fun _ => h.old.frozen 1, fun _ => h.old.frozen 2, fun _ => h.old.frozen 3⟩
theorem Fr.cells4 {a c d e : Value} (h : Fr W b #[a, c, d, e] t) : W.cell? ⟨b, 0, none⟩ = some a ∧ W.cell? ⟨b, 1, none⟩ = some c ∧ W.cell? ⟨b, 2, none⟩ = some d ∧ W.cell? ⟨b, 3, none⟩ = some e ∧ W.frozen? ⟨b, 0, none⟩ = false ∧ W.frozen? ⟨b, 1, none⟩ = false ∧ W.frozen? ⟨b, 2, none⟩ = false ∧ W.frozen? ⟨b, 3, none⟩ = false := ⟨h.cell 0, h.cell 1, h.cell 2, h.cell 3, h.frozen 0, h.frozen 1, h.frozen 2, h.frozen 3⟩
end

/-- no cell is a word of a number -/
def notWord : Value → Bool
  | .int .u64 _ => false
  | _ => true
theorem MagV.beside {W : World} {b o : Nat} {vs : Array Value} {t : TypeId} {m : Value} {n : Nat} {u : Value} (h : Fr W b vs t) (hn : vs.toList.all notWord = true) (hm : MagV W m n) : MagV (W.setCell ⟨b, o, none⟩ u) m n := by
  obtain ⟨A, c, e, h1, h2, h3⟩ := hm
  have hne : ∀ g o, A = some ⟨g, o, none⟩ → 0 < wlen B64 n → g ≠ b := by
    intro g o e hl eg
    subst eg
    obtain ⟨g2, o2, e2, _, hc⟩ := h3.2 hl
    rw [e] at e2
    injection e2 with e2
    injection e2 with e2 e3
    subst e2
    have hc0 := hc 0 hl
    rw [h.cell] at hc0
    have hm := Array.mem_of_getElem? hc0
    have := List.all_eq_true.1 hn _ (Array.mem_toList_iff.2 hm)
    unfold U at this
    simp [notWord] at this
  exact ⟨A, c, e, h1, h2, h3.far (p := ⟨b, o, none⟩) hne u⟩
theorem SgV.beside {W : World} {b o : Nat} {vs : Array Value} {t : TypeId} {v : Value} {z : Int} {u : Value} (h : Fr W b vs t) (hn : vs.toList.all notWord = true) (hv : SgV W v z) : SgV (W.setCell ⟨b, o, none⟩ u) v z := by
  obtain ⟨m, e, hm⟩ := hv
  exact ⟨m, e, hm.beside h hn⟩
theorem SgV.set2 {W : World} {b : Nat} {x y u u' : Value} {t : TypeId} {v : Value} {z : Int} (h : Fr W b #[x, y] t) (h1 : notWord x = true) (h2 : notWord y = true) (h3 : notWord u = true) (hv : SgV W v z) : SgV ((W.setCell ⟨b, 0, none⟩ u).setCell ⟨b, 1, none⟩ u') v z :=
  (hv.beside h (by simp [h1, h2])).beside (vs := #[u, y]) (t := t) h.set (by simp [h3, h2])
theorem SgV.set4 {W : World} {b : Nat} {x0 x1 x2 x3 u0 u1 u2 u3 : Value} {t : TypeId} {v : Value} {z : Int} (h : Fr W b #[x0, x1, x2, x3] t) (h0 : notWord x0 = true) (h1 : notWord x1 = true) (h2 : notWord x2 = true) (h3 : notWord x3 = true) (k0 : notWord u0 = true) (k1 : notWord u1 = true) (k2 : notWord u2 = true) (hv : SgV W v z) :
    SgV ((((W.setCell ⟨b, 0, none⟩ u0).setCell ⟨b, 1, none⟩ u1).setCell ⟨b, 2, none⟩ u2).setCell ⟨b, 3, none⟩ u3) v z :=
  (((hv.beside h (by simp [h0, h1, h2, h3])).beside (vs := #[u0, x1, x2, x3]) (t := t) h.set (by simp [h1, h2, h3, k0])).beside (vs := #[u0, u1, x2, x3]) (t := t) (Fr.set (o := 1) (Fr.set (o := 0) h)) (by simp [h2, h3, k0, k1])).beside (vs := #[u0, u1, u2, x3]) (t := t) (Fr.set (o := 2) (Fr.set (o := 1) (Fr.set (o := 0) h))) (by simp [h3, k0, k1, k2])
theorem SgV.old {W : World} {v : Value} {z : Int} {u : Obj} (hv : SgV W v z) : SgV (W.alloc u) v z := hv.below ((Below.refl _ _).alloc (Nat.le_refl _) u)
theorem SgV.call {W W' : World} {v : Value} {z : Int} (hb : Below W.heap.size W W') (hv : SgV W v z) : SgV W' v z := hv.below hb

theorem sg_built (A : Option Addr) (n c : Nat) (k : Bool) (W : World) : (Instr.build 87 #[(0, .slice A n c), (1, .bool k)]).run Tryz.prog W = .ok (.agg #[.slice A n c, .bool k]) W :=
  run_build W _ _ _ (by kernel_rfl)
theorem ra_built (A : Option Addr) (n c : Nat) (k : Bool) (A' : Option Addr) (n' c' : Nat) (k' : Bool) (W : World) : (Instr.build 89 #[(0, .agg #[.slice A n c, .bool k]), (1, .agg #[.slice A' n' c', .bool k'])]).run Tryz.prog W = .ok (.agg #[.slice A n c, .bool k, .slice A' n' c', .bool k']) W :=
  run_build W _ _ _ (by kernel_rfl)
theorem ra_built0 (W : World) : (Instr.build 89 #[]).run Tryz.prog W = .ok (.agg #[.slice none 0 0, .bool false, .slice none 0 0, .bool false]) W :=
  run_build W _ _ _ (by kernel_rfl)
theorem fr_built (s t : ByteArray) (W : World) : (Instr.build 24 #[(0, .string s), (1, .string t)]).run Tryz.prog W = .ok (.agg #[.string s, .string t]) W :=
  run_build W _ _ _ (by kernel_rfl)
theorem fr_built0 (W : World) : (Instr.build 24 #[]).run Tryz.prog W = .ok (.agg #[.string ⟨#[]⟩, .string ⟨#[]⟩]) W :=
  run_build W _ _ _ (by kernel_rfl)

set_option maxRecDepth 100000 in
set_option maxHeartbeats 1000000 in
theorem numOf_any (n : Int) (w : World) (h0 : -9223372036854775808 ≤ n) (h1 : n ≤ 9223372036854775807) :
    Calls Tryz.prog 59 #[.int .i64 n] w fun e w' => ∃ (A : Option Addr) (l c : Nat) (k : Bool), e = .returned (.agg #[.slice A l c, .bool k]) ∧ SgV w' (.agg #[.slice A l c, .bool k]) n ∧ Below w.heap.size w w' := by
  have hF0 : Fr (w.alloc (.cells #[.slice none 0 0, .bool false] 87)) w.heap.size #[.slice none 0 0, .bool false] 87 := Fr.new rfl
  have hbW : Below w.heap.size w (w.alloc (.cells #[.slice none 0 0, .bool false] 87)) := (Below.refl _ _).alloc (Nat.le_refl _) _
  have hbd := sg_built
  rcases (show n < 0 ∨ 0 ≤ n by omega) with h | h
  · obtain ⟨m, rfl⟩ : ∃ m : Nat, n = -(m : Int) := ⟨n.natAbs, by omega⟩
    have hfw := fun W => fromWord_any m (by show m < 18446744073709551616; omega) W
    obtain ⟨u, hu⟩ : ∃ u : Int, u = 18446744073709551616 - (m : Int) := ⟨_, rfl⟩
    have e1 : IntKind.u64.wrap (-(m : Int)) = u := by rw [IntKind.wrap_u64]; omega
    have e2 : IntKind.u64.wrap (-u) = (m : Int) := by rw [IntKind.wrap_u64]; omega
    have hs : decide (-(m : Int) < 0) = true := by simpa using h
    have HM := Lib.hid (And.intro h (And.intro hbW hs))
    clear hu h0 h1 hbW hs
    go_enter Tryz.func59, Tryz.ntmps59
    go_wp2_with fail
    refine (hfw _).mono ?_
    rintro e w1 ⟨v, rfl, hv, hb⟩
    obtain ⟨A, c, rfl, _, _⟩ := hv.ok_len
    have hF1 := hF0.call hb
    obtain ⟨c0, c1, z0, z1⟩ := hF1.cells2
    have HV := Lib.hid (And.intro hv hb)
    clear hv hb hfw
    go_wp2_with fail
    exact bodyPost_ret (v := .agg #[.slice A (wlen B64 m) c, .bool true]) (by simp [results, Tryz.results59, go_sem, c0, c1]) rfl ⟨A, _, c, true, rfl, SgV.set2 hF1 rfl rfl rfl ⟨_, by rw [HM.out.2.2], by simpa using HV.out.1⟩, ((HM.out.2.1.trans (HV.out.2.mono HM.out.2.1.size)).setCell (Nat.le_refl _) _).setCell (Nat.le_refl _) _⟩
  · obtain ⟨m, rfl⟩ : ∃ m : Nat, n = (m : Int) := ⟨n.natAbs, by omega⟩
    have hfw := fun W => fromWord_any m (by show m < 18446744073709551616; omega) W
    have e1 : IntKind.u64.wrap (m : Int) = (m : Int) := by rw [IntKind.wrap_u64]; omega
    have hs : decide ((m : Int) < 0) = false := by simp
    have h' : ¬ (m : Int) < 0 := by omega
    have HM := Lib.hid (And.intro h (And.intro hbW hs))
    clear h0 h1 hbW hs h
    go_enter Tryz.func59, Tryz.ntmps59
    go_wp2_with fail
    refine (hfw _).mono ?_
    rintro e w1 ⟨v, rfl, hv, hb⟩
    obtain ⟨A, c, rfl, _, _⟩ := hv.ok_len
    have hF1 := hF0.call hb
    obtain ⟨c0, c1, z0, z1⟩ := hF1.cells2
    have HV := Lib.hid (And.intro hv hb)
    clear hv hb hfw
    go_wp2_with fail
    exact bodyPost_ret (v := .agg #[.slice A (wlen B64 m) c, .bool false]) (by simp [results, Tryz.results59, go_sem, c0, c1]) rfl ⟨A, _, c, false, rfl, SgV.set2 hF1 rfl rfl rfl ⟨_, by rw [HM.out.2.2], by simpa using HV.out.1⟩, ((HM.out.2.1.trans (HV.out.2.mono HM.out.2.1.size)).setCell (Nat.le_refl _) _).setCell (Nat.le_refl _) _⟩

set_option maxRecDepth 100000 in
set_option maxHeartbeats 1000000 in
theorem frw_some (l : List UInt8) (z : Int) (w : World) (h : rd l = some z) :
    Calls Tryz.prog 63 #[.string ⟨l.toArray⟩] w fun e w' => ∃ (A : Option Addr) (n c : Nat) (k : Bool), e = .returned (.tuple #[.agg #[.slice A n c, .bool k], .bool true]) ∧ SgV w' (.agg #[.slice A n c, .bool k]) z ∧ Below w.heap.size w w' := by
  have hr := fun W => read600_some l z W h
  have hF0 : Fr (w.alloc (.cells #[.slice none 0 0, .bool false] 87)) w.heap.size #[.slice none 0 0, .bool false] 87 := Fr.new rfl
  have hbW : Below w.heap.size w (w.alloc (.cells #[.slice none 0 0, .bool false] 87)) := (Below.refl _ _).alloc (Nat.le_refl _) _
  clear h
  go_enter Tryz.func63, Tryz.ntmps63
  go_wp2_with fail
  refine (hr _).mono ?_
  rintro e w1 ⟨A, n, c, k, rfl, hv, hb⟩
  have hF1 := hF0.call hb
  obtain ⟨c0, c1, z0, z1⟩ := hF1.cells2
  have HB := Lib.hid (hbW.trans (hb.mono hbW.size))
  clear hb hr
  go_wp2_with fail
  exact bodyPost_ret (v := .tuple #[.agg #[.slice A n c, .bool k], .bool true]) (by simp [results, Tryz.results63, go_sem, c0, c1]) rfl ⟨A, n, c, k, rfl, SgV.set2 hF1 rfl rfl rfl hv, (HB.out.setCell (Nat.le_refl _) _).setCell (Nat.le_refl _) _⟩

end Go.Proofs.YtfkdcgjphnoioaaGreatDoor
