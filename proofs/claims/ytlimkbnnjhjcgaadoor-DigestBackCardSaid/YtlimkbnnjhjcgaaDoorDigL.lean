/- Package digest: what stands behind the octets; what ends. -/
import Derived.Test.YtlimkbnnjhjcgaaDoorDigJ
import Derived.Test.YtlimkbnnjhjcgaaDoorShelf
namespace Go.Proofs.YtlimkbnnjhjcgaaDoor
open Go.RowKit Vo
attribute [local go_sem ↓] Go.wp_at_zero Go.wp_at_succ

theorem repeat_one (c : UInt8) (n : Nat) : Lib.repeatL [c] n = List.replicate n c := by
  induction n with
  | zero => rfl
  | succ n ih => rw [List.replicate_succ, ← ih]; rfl
theorem fld0 (q : Q) (n : Int) (r : List UInt8) (W : World) : (Instr.field 60 (.agg (pg q n r)) 0).run Tryd.prog W = .ok (.agg (q4 q)) W := by kernel_rfl
theorem KT.drew {w : World} (h : KT w) : KT w.drew := h
/-- a string as octets: a slice of the call's own -/
theorem convM (l : List UInt8) (w : World) (hl : l.length ≤ 1000000) : ∃ cap w', (convert 9 34 (.string (B l))).run Tryd.prog w = .ok (.slice (some ⟨w.heap.size, 0, none⟩) l.length cap) w' ∧ ownM w' w.heap.size (.slice (some ⟨w.heap.size, 0, none⟩) l.length cap) l ∧ Below w.heap.size w w' := by
  have h := run_bytes_of_string (P := Tryd.prog) w 9 34 5 (B l) Tryd.underlying9 Tryd.underlying34 Tryd.underlying5
  have hz := B_size l
  obtain ⟨cap, hcap⟩ : ∃ c, grownCap w (B l).size 0 5 = c := ⟨_, rfl⟩
  have hge := grownCap_ge w (B l).size 0 5
  have hle := grownCap_le_maxLen w (B l).size 0 5 (by unfold maxLen; omega)
  rw [hcap] at h hge hle
  rw [hz] at h hge
  have hs : (bytesRow (B l) cap).size = cap := by
    unfold bytesRow
    rw [Array.size_append, Array.size_map, Array.size_replicate, show (B l).data.size = l.length by simp, hz]
    omega
  refine ⟨cap, _, h, Or.inr ⟨w.heap.size, cap, _, _, rfl, Nat.le_refl _, heap_alloc_new w.drew _, hge, hle, hs, ?_, by rw [hs]; exact Nat.le_refl _⟩, (Below.refl _ _).drew.alloc (Nat.le_refl _) _⟩
  unfold bytesRow
  rw [Array.toList_append, List.take_append_of_le_length (by simp)]
  simp only [Lib.byteCells]
  rw [show (Array.map (fun b : UInt8 => Value.int IntKind.u8 (b.toNat : Int)) (B l).data).toList = l.map (fun b => Value.int IntKind.u8 (b.toNat : Int)) by simp, List.take_of_length_le (by simp)]
set_option maxRecDepth 100000 in
set_option maxHeartbeats 2000000 in
theorem ending_any (q : Q) (n : Nat) (r : List UInt8) (w : World) (hn : n ≤ 1000000) (hr : r.length < 64) :
    Calls Tryd.prog 52 #[.agg (pg q n r)] w fun e w' => e = .returned (.string (B (endL r.length n))) ∧ Below w.heap.size w w' := by
  have hz := B_size r
  have hrp : ∀ W, Calls Tryd.prog 27 #[.string ⟨#[0]⟩, .int .i64 ((119 - (r.length : Int)) % 64)] W fun e w' => e = .returned (.string (B (List.replicate ((119 - r.length) % 64) 0))) ∧ Below W.heap.size W w' := fun W => by
    have h := Tryd.strings_Repeat ⟨#[0]⟩ ((119 - r.length) % 64) W (by omega) (by show 1 * _ ≤ _; omega)
    rw [show ((119 - (r.length : Int)) % 64) = (((119 - r.length) % 64 : Nat) : Int) by omega, ← repeat_one]
    exact h
  have h0 : (0 : Int) ≤ 119 - (r.length : Int) := by omega
  go_enter Tryd.func52, Tryd.ntmps52
  go_wp2_with fail
  refine (hrp _).mono ?_
  rintro e w1 ⟨rfl, hb1⟩
  have hcat : (⟨#[128]⟩ : ByteArray) ++ B (List.replicate ((119 - r.length) % 64) 0) = B (128 :: List.replicate ((119 - r.length) % 64) 0) := B_append [128] _
  obtain ⟨cap, w2, hcv, hown, hb2⟩ := convM (128 :: List.replicate ((119 - r.length) % 64) 0) w1 (by rw [List.length_cons, List.length_replicate]; omega)
  rw [← hcat, List.length_cons, List.length_replicate] at hcv
  rw [List.length_cons, List.length_replicate] at hown
  have hb3 : Below w.heap.size w w2 := ((Below.refl _ _).alloc (Nat.le_refl _) _).trans ((hb1.mono (by simp)).trans (hb2.mono (by have := hb1.size; simp at this; omega)))
  have c4 : w2.cell? ⟨w.heap.size, 4, none⟩ = some (.int .i64 n) := ((Fr.call hb2 (Fr.call hb1 (Fr.new (W := w) (vs := pg q n r) (t := 60) rfl)))).cell 4
  obtain ⟨m, hm⟩ : ∃ m, (119 - r.length) % 64 + 1 = m := ⟨_, rfl⟩
  rw [hm] at hcv hown
  have hlt := fun W (h : w1.heap.size ≤ W.heap.size) (ho : ownM W w1.heap.size (.slice (some ⟨w1.heap.size, 0, none⟩) m cap) (128 :: List.replicate ((119 - r.length) % 64) 0)) => little_any w1.heap.size (.slice (some ⟨w1.heap.size, 0, none⟩) m cap) _ (8 * n) 8 W h ho (by rw [List.length_cons, List.length_replicate]; omega) (by decide) (by omega)
  rw [show ((8 * n : Nat) : Int) = 8 * (n : Int) by omega] at hlt
  have h1s : w.heap.size ≤ w1.heap.size := by have := hb1.size; simp at this; omega
  clear hb1 hrp hcat
  go_wp2_with fail
  refine (hlt _ hb2.size hown).mono ?_
  rintro e w3 ⟨v', rfl, ho3, hb4⟩
  rw [show (128 :: List.replicate ((119 - r.length) % 64) 0) ++ les (8 * n) 8 = endL r.length n from rfl] at ho3
  have hne : endL r.length n ≠ [] := by unfold endL; simp
  obtain ⟨g, cap2, rfl, hc⟩ := ho3.cells hne
  have hcb := run_convert_bytes_back (P := Tryd.prog) w3 34 9 5 ⟨g, 0, none⟩ cap2 (endL r.length n) Tryd.underlying34 Tryd.underlying5 Tryd.underlying9 (fun j hj => hc j _ (by simp [Lib.byteCells, hj]))
  go_wp2_with fail
  go_ret
  exact ⟨rfl, hb3.trans (hb4.mono h1s)⟩

set_option maxRecDepth 100000 in
set_option maxHeartbeats 4000000 in
theorem donep_any (q : Q) (n : Nat) (r : List UInt8) (w : World) (hq : OkQ q) (hK : KT w) (hn : n ≤ 100000) (hr : r.length < 64) :
    Calls Tryd.prog 32 #[.agg (pg q n r)] w fun e w' => e = .returned (.agg (bcA (told (chg q (r ++ endL r.length n))))) ∧ Below w.heap.size w w' := by
  have hen := fun W => ending_any q n r W (by omega) hr
  have hel := endL_length r.length n
  have hmo := fun W (h : KT W) => more_any q n r (endL r.length n) W hq h (by omega) (by omega) (by omega)
  have hoc := fun W => octets_any (chg q (r ++ endL r.length n)) W (chg_ok hq)
  have ht := told_length (chg q (r ++ endL r.length n))
  obtain ⟨T, hT⟩ : ∃ T, told (chg q (r ++ endL r.length n)) = T := ⟨_, rfl⟩
  obtain ⟨q2, hq2⟩ : ∃ T, chg q (r ++ endL r.length n) = T := ⟨_, rfl⟩
  rw [hT] at hoc ht ⊢
  rw [hq2] at hoc hmo
  obtain ⟨n2, hn2⟩ : ∃ m, n + (endL r.length n).length = m := ⟨_, rfl⟩
  obtain ⟨r2, hr2⟩ : ∃ m, restL (r ++ endL r.length n) = m := ⟨_, rfl⟩
  rw [hn2, hr2] at hmo
  obtain ⟨E, hE⟩ : ∃ m, endL r.length n = m := ⟨_, rfl⟩
  rw [hE] at hen hmo
  have hsz : (bcA T).size = 16 := by rw [bcA_size, ht]
  clear hT hq2 hn2 hr2 hE hel
  have hfd := fld0
  go_enter Tryd.func32, Tryd.ntmps32
  go_wp2_with fail
  change Code.wp _ _ _ _ ((w.alloc (.cells (pg q n r) 60)).alloc (.cells zb16 28))
  obtain ⟨w0, hw0⟩ : ∃ W, ((w.alloc (.cells (pg q n r) 60)).alloc (.cells zb16 28)) = W := ⟨_, rfl⟩
  have hf0 : Fr w0 w.heap.size (pg q n r) 60 := by rw [← hw0]; exact Fr.old (Fr.new rfl)
  have hg0 : Fr w0 (w.heap.size + 1) zb16 28 := by rw [← hw0]; exact Fr.new (by simp)
  have hB0 : Below w.heap.size w w0 := by rw [← hw0]; exact ((Below.refl _ _).alloc (Nat.le_refl _) _).alloc (by simp) _
  rw [hw0]
  clear hw0
  have hk0 := hK.step hB0
  have c0 := hf0.drew.cell 0
  have c1 := hf0.drew.cell 1
  have c2 := hf0.drew.cell 2
  have c3 := hf0.drew.cell 3
  have c4 := hf0.drew.cell 4
  have c5 := hf0.drew.cell 5
  clear hq hK hr hn
  go_region_with (first
    | (go_at_call 52
       refine (hen _).mono ?_
       rintro e w1 ⟨rfl, hb⟩
       have hf1 := Fr.call hb hf0.drew
       have hg1 := Fr.call hb hg0.drew
       have hB1 : Below w.heap.size w w1 := hB0.drew.trans (hb.mono hB0.size)
       have hk1 := KT.step hk0.drew hb
       have d0 := hf1.cell 0
       have d1 := hf1.cell 1
       have d2 := hf1.cell 2
       have d3 := hf1.cell 3
       have d4 := hf1.cell 4
       have d5 := hf1.cell 5)
    | (go_at_call 31
       refine (hmo _ hk1).mono ?_
       rintro e w2 ⟨rfl, hb⟩
       have hg2 := Fr.call hb hg1
       have hB2 : Below w.heap.size w w2 := hB1.trans (hb.mono hB1.size))
    | (go_at_call 53
       refine (hoc _).mono ?_
       rintro e w3 ⟨rfl, hb⟩
       have hg3 := Fr.call hb hg2
       have hB3 : Below w.heap.size w w3 := hB2.trans (hb.mono hB2.size)
       have hst := storeFr hg3 (vs := bcA T) (by rw [hsz]; rfl) (bcA_one T)))
  all_goals
    rename World => w3
    rename Below w.heap.size w w3 => hB3
    rename Fr w3 (w.heap.size + 1) _ _ => hg3
    go_wp2_with fail
    exact bodyPost_ret (v := .agg (bcA T)) (results_cell_row rfl _ _ (w.heap.size + 1) _ _ _ _ rfl (setRow_heap _ _ _ _ _ _ hg3) Tryd.underlying28 rfl (size28.trans (by rw [hsz]))) rfl ⟨rfl, below_setRow hB3 (by omega) _⟩
end Go.Proofs.YtlimkbnnjhjcgaaDoor
