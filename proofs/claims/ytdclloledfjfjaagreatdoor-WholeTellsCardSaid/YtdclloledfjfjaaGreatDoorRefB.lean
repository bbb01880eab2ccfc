/- Contract of the reference: Integer of numbers that are not negative. -/
import Derived.Test.YtdclloledfjfjaaGreatDoorRefA
import Derived.Laws.AppendOwn
namespace Go.Proofs.YtdclloledfjfjaaGreatDoor
open Go.RowKit Vd

theorem owns_sl {w : World} {base : Nat} {e : TypeId} {v : Value} {n : Nat} {f : Nat → Value} {xs : List Nat} (h : w.ownsRow base e 1 v n (xs.map f)) :
    ∃ A c, v = .slice A n c ∧ n ≤ c ∧ c ≤ 9223372036854775807 ∧ Sl w f A n xs := by
  obtain ⟨hl, h⟩ := h
  rw [List.length_map, Nat.mul_one] at hl
  rcases h with ⟨rfl, rfl⟩ | ⟨g, cap, cur, rfl, _, hg, hn, hcap, hcs, ht⟩
  · have : xs = [] := List.eq_nil_of_length_eq_zero hl
    subst this
    exact ⟨none, 0, rfl, Nat.le_refl _, by omega, Sl.nil⟩
  · refine ⟨_, cap, rfl, hn, by unfold maxLen at hcap; exact hcap, hl, fun _ => ⟨g, 0, rfl, ?_, fun i hi => ?_⟩⟩
    · exact (Array.getElem?_eq_some_iff.1 hg).1
    · rw [Nat.zero_add, cell_of_row w g i cur e (0, 0) hg]
      rw [Nat.mul_one] at ht
      have h1 : (cur.toList.take n)[i]? = (xs.map f)[i]? := by rw [ht]
      rw [List.getElem?_take_of_lt hi, List.getElem?_map, Array.getElem?_toList] at h1
      rw [h1, List.getElem?_eq_getElem (by omega), nth_lt (by omega)]
      rfl

theorem infoI : (Tryz.prog.info? 3).map (fun i => (i.zero, i.size, i.bytes)) = some (some (.int .i64 0), 1, 8) := by kernel_rfl

theorem val_snoc (b : Nat) (zs : List Nat) (x : Nat) : val b (zs ++ [x]) = val b zs + b ^ zs.length * x := by
  rw [val_append, val_cons, val_nil, Nat.mul_zero, Nat.add_zero]
theorem below_own {B : Nat} {a w w' : World} {base e sz n : Nat} {v : Value} {xs : List Value} (h : Below B a w) (hown : w.ownsRow base e sz v n xs) (hg : w.grownBy w' v.ownBlock) (hb : B ≤ base) (hB : B ≤ w.heap.size) : Below B a w' :=
  h.grown hg hB (fun k hk => by have := hown.lt k hk; omega)

def dLo (m : Nat) : Nat := m % 10000
def dHi (m : Nat) : Nat := m / 10000
theorem dLo_lt (m : Nat) : dLo m < B4 := Nat.mod_lt _ (by decide)
theorem d_eq (m : Nat) : dLo m + B4 * dHi m = m := Nat.mod_add_div _ _
theorem dLo_eq (m : Nat) : (m : Int) % 10000 = (dLo m : Int) := by unfold dLo; omega
theorem dHi_eq (m : Nat) : (m : Int) / 10000 = (dHi m : Int) := by unfold dHi; omega

theorem len_small {l m n : Nat} {v : Nat} (hm : 0 < m) (h : v + B4 ^ l * m = n) (hn : n ≤ 9223372036854775807) : l < 5 := by
  rcases Nat.lt_or_ge l 5 with h1 | h1
  · exact h1
  · have h2 : B4 ^ 5 ≤ B4 ^ l := Nat.pow_le_pow_right (by decide) h1
    have h3 : B4 ^ l ≤ B4 ^ l * m := Nat.le_mul_of_pos_right _ hm
    have h4 : B4 ^ 5 = 100000000000000000000 := by decide
    omega

theorem news_one (w : World) (x : Value) (t : TypeId) (hx : x.oneCell' = true) : (∀ j u, [x][j]? = some u → (w.alloc (.cells #[x] t)).cell? ((⟨w.heap.size, 0, none⟩ : Addr).add j) = some u) ∧ (∀ u ∈ [x], u.oneCell' = true) := by
  constructor
  · intro j u hu
    cases j with
    | zero =>
      simp only [List.getElem?_cons_zero, Option.some.injEq] at hu
      subst hu
      simp [Addr.add]
    | succ j => simp at hu
  · intro u hu
    rw [List.mem_singleton] at hu
    rw [hu]; exact hx

set_option maxRecDepth 100000 in
set_option maxHeartbeats 1000000 in
theorem integer_any (n : Nat) (w : World) (hn : n ≤ 9223372036854775807) :
    Calls Tryz.prog 73 #[.int .i64 (n : Int)] w fun e w' => ∃ v, e = .returned v ∧ PlV w' v (n : Int) ∧ Below w.heap.size w w' := by
  obtain ⟨i0, hi, hz0, hz1, hz2⟩ := info_parts infoI
  have hbx := BoxP.alloc w none 0 0 false
  have hbW : Below w.heap.size w (w.alloc (.cells #[.bool false, .slice none 0 0] 92)) := (Below.refl _ _).alloc (Nat.le_refl _) _
  have i1 : ¬ (n : Int) < 0 := by omega
  have HI := Lib.hid (And.intro hi (And.intro hz0 (And.intro hz1 (And.intro hz2 hn))))
  clear hi hz0 hz1 hz2 hn
  go_enter Tryz.func73, Tryz.ntmps73
  go_wp2_with fail
  go_loopg [0, 3] n (fun m mv v W => ∃ (zs : List Nat) (dv : Value), dv = v ∧ mv = .int .i64 (m : Int) ∧ m ≤ n ∧ Ok B4 zs ∧ val B4 zs + B4 ^ zs.length * m = n ∧ W.ownsRow (w.heap.size + 1) 3 1 v zs.length (zs.map I8) ∧ BoxP W w.heap.size ∧ Below w.heap.size w W ∧ w.heap.size + 1 ≤ W.heap.size)
  case atStart => exact ⟨[], _, rfl, rfl, Nat.le_refl _, Ok.nil, by simp [val_nil], World.ownsRow_nil _ _ _ _, hbx, hbW, by simp⟩
  case round =>
    obtain ⟨zs, dv, hdv, rfl, hm, hok, hval, hown, hbx, hbel, hsz⟩ := hrel
    subst hdv
    by_cases h0 : gk = 0
    · subst h0
      rw [Nat.mul_zero, Nat.add_zero] at hval
      obtain ⟨A, c, rfl, hnc, hcm, hsl⟩ := owns_sl hown
      have hmd := made_any false A zs.length c zs wr hsl hok hnc hcm
      rw [hval, show sgn n false = (n : Int) from rfl] at hmd
      clear hval hown hok hm
      go_wp2_with fail
      refine hmd.mono ?_
      rintro e w2 ⟨v, rfl, hv, hb2⟩
      obtain ⟨A2, n2, c2, k2, rfl⟩ := hv.open
      have hbx2 := hbx.below hb2 hbx.lt
      obtain ⟨⟨q0, hc0⟩, ⟨q1, hc1⟩, hf0, hf1⟩ := hbx2.facts
      go_wp2_with fail
      exact bodyPost_ret (v := .agg #[.bool k2, .slice A2 n2 c2]) (by simp [results, Tryz.results73, go_sem, hc0, hc1]) rfl ⟨_, rfl, hv.sets hbx2 _ _, ((hbel.trans (hb2.mono hbel.size)).setCell (Nat.le_refl _) _).setCell (Nat.le_refl _) _⟩
    · have hp : 0 < gk := Nat.pos_of_ne_zero h0
      have k0 : ((gk : Int) == 0) = false := by rw [beq_eq_false_iff_ne]; omega
      have k0' : ((gk : Int) != 0) = true := by rw [bne_iff_ne]; omega
      have hl5 := len_small hp hval HI.out.2.2.2.2
      have e1 := dLo_eq gk
      have e2 := dHi_eq gk
      have g1 : (0 : Int) ≤ (gk : Int) := by omega
      have g2 : (gk : Int) ≤ 9223372036854775807 := by have := HI.out.2.2.2.2; omega
      have i2 : ¬ (dLo gk : Int) < 0 := by omega
      have hnew := news_one wr (.int .i64 (dLo gk : Int)) 3 rfl
      have hownA := hown.alloc (.cells #[.int .i64 (dLo gk : Int)] 3)
      have HV := Lib.hid (And.intro hval (And.intro hm (And.intro hl5 (And.intro hp h0))))
      clear hval hm hl5 h0 hp
      go_wp2_with (at_builtin; refine wpList_append_own _ rfl (.tmp 16) (.tmp 18) 90 rfl (w.heap.size + 1) 3 i0 (.int .i64 0) 1 8 Tryz.underlying90 HI.out.1 HI.out.2.1 HI.out.2.2.1 HI.out.2.2.2.1 rfl (by decide) dv zs.length (zs.map I8) rfl hownA ⟨wr.heap.size, 0, none⟩ 1 1 [.int .i64 (dLo gk : Int)] rfl rfl hnew.1 hnew.2 (by have := HV.out.2.2.1; unfold maxLen; omega) (by have := HV.out.2.2.1; omega) (by simp; omega) ?_; intro v' w1 hown' hgrow _)
      have hok' : Ok B4 (zs ++ [dLo gk]) := hok.app (Ok.cons (dLo_lt gk) Ok.nil)
      have hval' : val B4 (zs ++ [dLo gk]) + B4 ^ (zs ++ [dLo gk]).length * dHi gk = n := by
        rw [val_snoc, List.length_append, List.length_singleton, Nat.pow_succ, Nat.mul_assoc, Nat.add_assoc, ← Nat.mul_add, d_eq]; exact HV.out.1
      have hown2 : w1.ownsRow (w.heap.size + 1) 3 1 v' (zs ++ [dLo gk]).length ((zs ++ [dLo gk]).map I8) := by
        rw [List.length_append, List.map_append]; exact hown'
      have hwr : Below wr.heap.size wr (wr.alloc (.cells #[.int .i64 (dLo gk : Int)] 3)) := (Below.refl _ _).alloc (Nat.le_refl _) _
      have hb1 : Below (w.heap.size + 1) (wr.alloc (.cells #[.int .i64 (dLo gk : Int)] 3)) w1 := below_own (Below.refl _ _) hownA hgrow (Nat.le_refl _) (by simp; omega)
      have hb0 : Below (w.heap.size + 1) wr w1 := (hwr.mono hsz).trans hb1
      go_wp2_with fail
      go_roundg (dHi gk)
      case measure => unfold dHi; exact Nat.div_lt_self HV.out.2.2.2.1 (by decide)
      case rel => exact ⟨_, _, rfl, rfl, Nat.le_trans (Nat.div_le_self _ _) HV.out.2.1, hok', hval', hown2, hbx.below hb0 (by omega), hbel.trans (hb0.mono (by omega)), Nat.le_trans hsz hb0.size⟩

end Go.Proofs.YtdclloledfjfjaaGreatDoor
