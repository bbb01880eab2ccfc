/- Contracts of the reference for whole numbers: cut, made. -/
import Derived.Test.YtdclloledfjfjaaGreatDoorSgnA
namespace Go.Proofs.YtdclloledfjfjaaGreatDoor
open Go.RowKit Vd

/-- the base of the reference -/
def B4 : Nat := 10000
theorem B4_eq : B4 = 10000 := rfl
theorem two_le_B4 : 2 ≤ B4 := by decide

theorem IsTrim.take4 {xs : List Nat} {k : Nat} (h : IsTrim xs k) (ho : Ok B4 xs) : xs.take k = ws B4 (val B4 xs) :=
  ws_of_pad two_le_B4 ho rfl h.1 h.2.1 (fun x hk hx => by
    have := h.2.2 hk
    unfold nth at this
    rw [hx] at this
    exact this)
theorem IsTrim.len4 {xs : List Nat} {k : Nat} (h : IsTrim xs k) (ho : Ok B4 xs) : k = wlen B4 (val B4 xs) := by
  have := congrArg List.length (h.take4 ho)
  rw [List.length_take, Nat.min_eq_left h.1] at this
  exact this

/-- the slice value v is the digits of n -/
def DigV (w : World) (v : Value) (n : Nat) : Prop := ∃ A c, v = .slice A (wlen B4 n) c ∧ wlen B4 n ≤ c ∧ c ≤ 9223372036854775807 ∧ Sl w I8 A (wlen B4 n) (ws B4 n)
theorem DigV.below {w w' : World} {v : Value} {n : Nat} (h : DigV w v n) (hb : Below w.heap.size w w') : DigV w' v n := by
  obtain ⟨A, c, e, h1, h2, h3⟩ := h
  exact ⟨A, c, e, h1, h2, h3.below hb⟩
theorem DigV.zero (w : World) : DigV w (.slice none 0 0) 0 := by
  refine ⟨none, 0, by rw [wlen_zero], by rw [wlen_zero]; exact Nat.le_refl _, by omega, ?_⟩
  rw [wlen_zero, ws_zero]; exact Sl.nil
/-- the value v is the plain number z -/
def PlV (w : World) (v : Value) (z : Int) : Prop := ∃ m, v = .agg #[.bool (decide (z < 0)), m] ∧ DigV w m z.natAbs
theorem PlV.below {w w' : World} {v : Value} {z : Int} (h : PlV w v z) (hb : Below w.heap.size w w') : PlV w' v z := by
  obtain ⟨m, e, hm⟩ := h
  exact ⟨m, e, hm.below hb⟩

set_option maxHeartbeats 400000 in
theorem cut4_any (A : Option Addr) (n c : Nat) (xs : List Nat) (w : World) (h : Sl w I8 A n xs) (hc : n ≤ c) (hn : c ≤ 9223372036854775807) :
    Calls Tryz.prog 182 #[.slice A n c] w fun e w' => ∃ k, e = .returned (.slice A k c) ∧ IsTrim xs k ∧ w = w' := by
  go_enter Tryz.func182, Tryz.ntmps182
  go_wp2
  go_loop [3] (fun i => ∃ k : Nat, k ≤ n ∧ i = .int .i64 k ∧ (∀ j, k ≤ j → nth xs j = 0)) (fun i => (intOf i).toNat)
  case atStart => exact ⟨n, Nat.le_refl _, rfl, fun j hj => nth_ge (by have := h.len; omega)⟩
  case round =>
    obtain ⟨k, hk, rfl, hz⟩ := hrel
    cases k with
    | zero =>
      go_wp2
      go_ret
      exact ⟨0, rfl, ⟨Nat.zero_le _, hz, fun h => absurd h (by omega)⟩, rfl⟩
    | succ j =>
      obtain ⟨g, o, rfl, hg, hcell⟩ := h.at_ (by omega)
      have h1 := hcell j (by omega)
      unfold I8 at h1
      clear hcell
      by_cases h0 : nth xs j = 0
      · rw [h0] at h1
        go_wp2
        refine ⟨⟨j, by omega, rfl, fun i hi => ?_⟩, by simp [intOf]⟩
        rcases Nat.eq_or_lt_of_le hi with e | e
        · rw [← e]; exact h0
        · exact hz i (by omega)
      · have h2 : ((nth xs j : Int) == 0) = false := by rw [beq_eq_false_iff_ne]; omega
        go_wp2
        go_ret
        exact ⟨j + 1, rfl, ⟨by have := h.len; omega, hz, fun _ => by simpa using h0⟩, rfl⟩

theorem DigV.of_trim {w : World} {A : Option Addr} {n c k : Nat} {xs : List Nat} (h : Sl w I8 A n xs) (ho : Ok B4 xs) (ht : IsTrim xs k) (hc : n ≤ c) (hn : c ≤ 9223372036854775807) : DigV w (.slice A k c) (val B4 xs) := by
  have hk := ht.len4 ho
  have hkn : k ≤ n := by have := ht.1; have := h.len; omega
  have hs := h.take hkn
  rw [ht.take4 ho] at hs
  subst hk
  exact ⟨A, c, rfl, by omega, hn, hs⟩

/-- 'cut' of digits: the number -/
theorem cut4_dig (A : Option Addr) (n c : Nat) (xs : List Nat) (w : World) (h : Sl w I8 A n xs) (ho : Ok B4 xs) (hc : n ≤ c) (hn : c ≤ 9223372036854775807) :
    Calls Tryz.prog 182 #[.slice A n c] w fun e w' => ∃ k, e = .returned (.slice A k c) ∧ k = wlen B4 (val B4 xs) ∧ DigV w (.slice A k c) (val B4 xs) ∧ w = w' := by
  refine (cut4_any A n c xs w h hc hn).mono ?_
  rintro e w' ⟨k, he, ht, rfl⟩
  exact ⟨k, he, ht.len4 ho, DigV.of_trim h ho ht hc hn, rfl⟩

/-- a variable that holds a plain number -/
def BoxP (W : World) (b : Nat) : Prop := ∃ A n c k, W.heap[b]? = some (.cells #[.bool k, .slice A n c] 92 (0, 0))
theorem BoxP.alloc (w : World) (A : Option Addr) (n c : Nat) (k : Bool) : BoxP (w.alloc (.cells #[.bool k, .slice A n c] 92)) w.heap.size :=
  ⟨A, n, c, k, by show (w.heap.push _)[w.heap.size]? = _; simp⟩
theorem BoxP.lt {W : World} {b : Nat} (h : BoxP W b) : b < W.heap.size := by
  obtain ⟨A, n, c, k, h⟩ := h
  rcases Nat.lt_or_ge b W.heap.size with h1 | h1
  · exact h1
  · rw [Array.getElem?_eq_none h1] at h; cases h
theorem BoxP.below {W W' : World} {b B : Nat} (h : BoxP W b) (hb : Below B W W') (hB : b < B) : BoxP W' b := by
  obtain ⟨A, n, c, k, h⟩ := h
  exact ⟨A, n, c, k, (hb.block b hB).trans h⟩
theorem BoxP.far {W : World} {b : Nat} (h : BoxP W b) {p : Addr} (hp : b ≠ p.block) (u : Value) : BoxP (W.setCell p u) b := by
  obtain ⟨A, n, c, k, h⟩ := h
  exact ⟨A, n, c, k, (Below.heap_setCell W p u b hp).trans h⟩
theorem BoxP.set {W : World} {b : Nat} (h : BoxP W b) (A : Option Addr) (n c : Nat) (k : Bool) : BoxP ((W.setCell ⟨b, 0, none⟩ (.bool k)).setCell ⟨b, 1, none⟩ (.slice A n c)) b := by
  obtain ⟨A', n', c', k', h⟩ := h
  exact ⟨A, n, c, k, by simp [World.setCell, Array.getElem?_modify, h]⟩
theorem BoxP.read {W : World} {b : Nat} (h : BoxP W b) (A : Option Addr) (n c : Nat) (k : Bool) :
    ((W.setCell ⟨b, 0, none⟩ (.bool k)).setCell ⟨b, 1, none⟩ (.slice A n c)).cell? ⟨b, 0, none⟩ = some (.bool k) ∧ ((W.setCell ⟨b, 0, none⟩ (.bool k)).setCell ⟨b, 1, none⟩ (.slice A n c)).cell? ⟨b, 1, none⟩ = some (.slice A n c) := by
  obtain ⟨A', n', c', k', h⟩ := h
  constructor <;> simp [World.setCell, World.cell?, Array.getElem?_modify, h]
theorem BoxP.facts {W : World} {b : Nat} (h : BoxP W b) : (∃ u, W.cell? ⟨b, 0, none⟩ = some u) ∧ (∃ u, W.cell? ⟨b, 1, none⟩ = some u) ∧ W.frozen? ⟨b, 0, none⟩ = false ∧ W.frozen? ⟨b, 1, none⟩ = false := by
  obtain ⟨A, n, c, k, h⟩ := h
  refine ⟨⟨_, by rw [cell_of_row W b 0 _ _ (0, 0) h]; rfl⟩, ⟨_, by rw [cell_of_row W b 1 _ _ (0, 0) h]; rfl⟩, ?_, ?_⟩ <;> simp [World.frozen?, h]
theorem BoxP.dig {W : World} {b : Nat} (h : BoxP W b) {m : Value} {n : Nat} (hm : DigV W m n) (u v : Value) : DigV ((W.setCell ⟨b, 0, none⟩ u).setCell ⟨b, 1, none⟩ v) m n := by
  obtain ⟨A', n', c', k', h⟩ := h
  obtain ⟨A, c, e, h1, h2, h3⟩ := hm
  have hne : ∀ g o, A = some ⟨g, o, none⟩ → 0 < wlen B4 n → g ≠ b := by
    intro g o e hn eg
    subst eg
    obtain ⟨g2, o2, e2, _, hc⟩ := h3.2 hn
    rw [e] at e2
    injection e2 with e2
    injection e2 with e2 e3
    subst e2
    have hc0 := hc 0 hn
    rw [cell_of_row W g (o2 + 0) _ _ (0, 0) h] at hc0
    unfold I8 at hc0
    rcases o2 with _ | _ | o2
    · simp at hc0
    · simp at hc0
    · simp at hc0
  exact ⟨A, c, e, h1, h2, (h3.far (p := ⟨b, 0, none⟩) hne u).far (p := ⟨b, 1, none⟩) hne v⟩
theorem PlV.sets {W : World} {b : Nat} {v : Value} {z : Int} (h : PlV W v z) (hb : BoxP W b) (u u' : Value) : PlV ((W.setCell ⟨b, 0, none⟩ u).setCell ⟨b, 1, none⟩ u') v z := by
  obtain ⟨m, e, hm⟩ := h
  exact ⟨m, e, hb.dig hm u u'⟩
theorem PlV.open {w : World} {v : Value} {z : Int} (h : PlV w v z) : ∃ (A : Option Addr) (n c : Nat) (k : Bool), v = .agg #[.bool k, .slice A n c] := by
  obtain ⟨m, rfl, A, c, rfl, _⟩ := h
  exact ⟨A, _, c, _, rfl⟩

theorem sgn_neg4 (n : Nat) (b : Bool) : decide (sgn n b < 0) = (b && decide (0 < wlen B4 n)) := by
  have h := wlen_eq_zero (b := B4) two_le_B4 (n := n)
  unfold sgn
  cases b
  · simp
  · by_cases hn : n = 0
    · subst hn
      simp [wlen_zero]
    · have h2 : 0 < wlen B4 n := Nat.pos_of_ne_zero fun e => hn (h.1 e)
      simp [h2]; omega

set_option maxRecDepth 100000 in
set_option maxHeartbeats 1000000 in
theorem made_any (b : Bool) (A : Option Addr) (n c : Nat) (xs : List Nat) (w : World) (h : Sl w I8 A n xs) (ho : Ok B4 xs) (hc : n ≤ c) (hn : c ≤ 9223372036854775807) :
    Calls Tryz.prog 139 #[.bool b, .slice A n c] w fun e w' => ∃ v, e = .returned v ∧ PlV w' v (sgn (val B4 xs) b) ∧ Below w.heap.size w w' := by
  have hbW : Below w.heap.size w (w.alloc (.cells #[.bool false, .slice none 0 0] 92)) := (Below.refl _ _).alloc (Nat.le_refl _) _
  have hcut := cut4_any A n c xs _ (h.below hbW) hc hn
  have hs := sgn_neg4 (val B4 xs) b
  have ha := sgn_abs (val B4 xs) b
  have HT : Hid (∀ k, IsTrim xs k → k = wlen B4 (val B4 xs) ∧ DigV w (.slice A k c) (val B4 xs)) := Lib.hid (fun k ht => ⟨ht.len4 ho, DigV.of_trim h ho ht hc hn⟩)
  have H := Lib.hid (And.intro hs ha)
  clear h ho hc hn hs ha
  go_enter Tryz.func139, Tryz.ntmps139
  go_wp2_with fail
  refine hcut.mono ?_
  rintro e w1 ⟨k, rfl, hk, rfl⟩
  have HK := Lib.hid (HT.out k hk)
  clear hk hcut HT
  cases b
  · go_wp2_with fail
    refine bodyPost_ret (v := .agg #[.bool false, .slice A k c]) (by simp [results, Tryz.results139, go_sem]) rfl ⟨_, rfl, ⟨_, by rw [H.out.1]; rfl, ?_⟩, ?_⟩
    · rw [H.out.2]; exact HK.out.2.below ((Below.refl _ _).alloc (Nat.le_refl _) _)
    · exact (Below.refl _ _).alloc (Nat.le_refl _) _
  · go_wp2_with fail
    refine bodyPost_ret (v := .agg #[.bool (decide (0 < k)), .slice A k c]) (by simp [results, Tryz.results139, go_sem]) rfl ⟨_, rfl, ⟨_, by rw [H.out.1, ← HK.out.1]; rfl, ?_⟩, ?_⟩
    · rw [H.out.2]; exact HK.out.2.below ((Below.refl _ _).alloc (Nat.le_refl _) _)
    · exact (Below.refl _ _).alloc (Nat.le_refl _) _

end Go.Proofs.YtdclloledfjfjaaGreatDoor
