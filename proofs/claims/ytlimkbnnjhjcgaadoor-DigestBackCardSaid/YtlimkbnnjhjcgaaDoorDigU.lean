/- The law's own is, fails, works. -/
import Derived.Test.YtlimkbnnjhjcgaaDoorDigT
namespace Go.Proofs.YtlimkbnnjhjcgaaDoor
open Go.RowKit Vo
attribute [local go_sem ↓] Go.wp_at_zero Go.wp_at_succ

/-- an operation behind a guard that says yes: a row is read -/
theorem wpList_load_row_if {P : Program} {ops : Array Oper} {rest : List Oper} {o : Oper} {a : Act} {w : World} {Q : Exit → Act → World → Prop} (hw : Region.wanted o (yielded ops a.tmps) = true) (ty : TypeId) (x : Operand) (ho : o.op = .load ty x)
    (g : Nat) (hx : a.eval x = .pointer (some ⟨g, 0, none⟩)) (t : TypeId) (cs : Array Value) (fr : Nat × Nat) (d : TypeDesc) (hg : w.heap[g]? = some (.cells cs t fr))
    (hu : P.underlying ty = some d) (hd : (match d with | .struct _ | .array _ _ => true | _ => false) = true) (hi : (P.info? ty).map (·.size) = some cs.size)
    (h : wpList P ops Q rest (a.put o.dst (.agg cs)) w) : wpList P ops Q (o :: rest) a w := by
  unfold wpList
  rw [if_pos hw]
  exact .inl (wp_load_row ty x ho g hx t cs fr d hg hu hd hi h)

set_option maxHeartbeats 2000000 in
set_option maxRecDepth 100000 in
theorem is_any (l want : List UInt8) (w : World) (hl : l.length ≤ 100000) (hK : KT w) (h0 : (sumR l).2 = 0) (h1 : hexL (sumR l).1 = want) (h2 : (sumR l).1.length = 16) :
    Calls Tryd.prog 28 #[.string (B l), .string (B want)] w fun e w' => e = .returned (.bool true) ∧ Below w.heap.size w w' := by
  have hsu := fun W (h : KT W) => sum_any l W hl h
  rw [h0] at hsu
  obtain ⟨T, hT⟩ : ∃ T, (sumR l).1 = T := ⟨_, rfl⟩
  rw [hT] at hsu h1 h2
  have hhx := fun W => hex_any T h2 W
  rw [h1] at hhx
  have hsz : (bcA T).size = 16 := by rw [bcA_size, h2]
  have hK' := Lib.hid hK
  clear hT h0 h1 h2 hK
  go_enter Tryd.func28, Tryd.ntmps28
  go_wp2_with fail
  refine (hsu _ hK'.out).mono ?_
  rintro e w1 ⟨rfl, hb1⟩
  have hz1 : Fr (w1.alloc (.cells zb16 28)) w1.heap.size zb16 28 := Fr.new rfl
  have hp2 : Fr ((w1.alloc (.cells zb16 28)).setRow w1.heap.size (bcA T)) w1.heap.size (bcA T) 28 := setRow_heap _ _ _ _ _ _ hz1
  have hbz : Below w1.heap.size w1 ((w1.alloc (.cells zb16 28)).setRow w1.heap.size (bcA T)) := below_setRow ((Below.refl _ _).alloc (Nat.le_refl _) _) (Nat.le_refl _) _
  have hB2 := Lib.hid (hb1.trans (hbz.mono hb1.size))
  clear hbz hb1 hsu
  go_wp2_with (first | (refine wpList_load_row_if (by rfl) 28 _ rfl _ rfl _ _ _ _ hp2 Tryd.underlying28 rfl (size28.trans (by rw [hsz])) ?_) | (refine wpList_store_row rfl 28 _ _ rfl _ (bcA T) rfl rfl _ _ hz1 (size28.trans (by rw [hsz])) (by rw [hsz] <;> rfl) (bcA_one _) ?_))
  refine (hhx _).mono ?_
  rintro e w2 ⟨rfl, hb2⟩
  have hB3 := hB2.out.trans (hb2.mono hB2.out.size)
  clear hb2 hB2 hhx hp2 hz1
  go_wp2_with fail
  go_ret
  exact ⟨rfl, hB3⟩

set_option maxHeartbeats 2000000 in
set_option maxRecDepth 100000 in
theorem fails_any (t : List UInt8) (w : World) (ht : t.length ≤ 1000000) (h0 : unhexR t = (zero16, 5)) :
    Calls Tryd.prog 29 #[.string (B t)] w fun e w' => e = .returned (.bool true) ∧ Below w.heap.size w w' := by
  have hsu := fun W => unhex_any t W ht
  rw [h0] at hsu
  have hsz : (bcA zero16).size = 16 := by rw [bcA_size]; rfl
  have heq : ∀ W, (binOp .eql 28 (.agg (bcA zero16)) (.agg zb16)).run Tryd.prog W = .ok (.bool true) W := fun W => by rw [zb16_eq, eql_o16 _ _ rfl rfl]; rfl
  simp only [zb16] at heq
  clear h0
  go_enter Tryd.func29, Tryd.ntmps29
  go_wp2_with fail
  refine (hsu _).mono ?_
  rintro e w1 ⟨rfl, hb1⟩
  have hz1 : Fr (w1.alloc (.cells zb16 28)) w1.heap.size zb16 28 := Fr.new rfl
  have hp2 : Fr ((w1.alloc (.cells zb16 28)).setRow w1.heap.size (bcA zero16)) w1.heap.size (bcA zero16) 28 := setRow_heap _ _ _ _ _ _ hz1
  have hbz : Below w1.heap.size w1 ((w1.alloc (.cells zb16 28)).setRow w1.heap.size (bcA zero16)) := below_setRow ((Below.refl _ _).alloc (Nat.le_refl _) _) (Nat.le_refl _) _
  have hB2 := Lib.hid (hb1.trans (hbz.mono hb1.size))
  clear hbz hb1 hsu
  go_wp2_with (first | (refine wpList_load_row rfl 28 _ rfl _ rfl _ _ _ _ hp2 Tryd.underlying28 rfl (size28.trans (by rw [hsz])) ?_) | (refine wpList_store_row rfl 28 _ _ rfl _ (bcA zero16) rfl rfl _ _ hz1 (size28.trans (by rw [hsz])) (by rw [hsz] <;> rfl) (bcA_one _) ?_))
  go_ret
  exact ⟨rfl, hB2.out⟩

theorem s_0 : (sumR []).2 = 0 ∧ hexL (sumR []).1 = [100, 52, 49, 100, 56, 99, 100, 57, 56, 102, 48, 48, 98, 50, 48, 52, 101, 57, 56, 48, 48, 57, 57, 56, 101, 99, 102, 56, 52, 50, 55, 101] ∧ (sumR []).1.length = 16 := by decide +kernel
theorem s_1 : (sumR [97]).2 = 0 ∧ hexL (sumR [97]).1 = [48, 99, 99, 49, 55, 53, 98, 57, 99, 48, 102, 49, 98, 54, 97, 56, 51, 49, 99, 51, 57, 57, 101, 50, 54, 57, 55, 55, 50, 54, 54, 49] ∧ (sumR [97]).1.length = 16 := by decide +kernel
theorem s_3 : (sumR [97, 98, 99]).2 = 0 ∧ hexL (sumR [97, 98, 99]).1 = [57, 48, 48, 49, 53, 48, 57, 56, 51, 99, 100, 50, 52, 102, 98, 48, 100, 54, 57, 54, 51, 102, 55, 100, 50, 56, 101, 49, 55, 102, 55, 50] ∧ (sumR [97, 98, 99]).1.length = 16 := by decide +kernel
theorem s_14 : (sumR [109, 101, 115, 115, 97, 103, 101, 32, 100, 105, 103, 101, 115, 116]).2 = 0 ∧ hexL (sumR [109, 101, 115, 115, 97, 103, 101, 32, 100, 105, 103, 101, 115, 116]).1 = [102, 57, 54, 98, 54, 57, 55, 100, 55, 99, 98, 55, 57, 51, 56, 100, 53, 50, 53, 97, 50, 102, 51, 49, 97, 97, 102, 49, 54, 49, 100, 48] ∧ (sumR [109, 101, 115, 115, 97, 103, 101, 32, 100, 105, 103, 101, 115, 116]).1.length = 16 := by decide +kernel

set_option maxHeartbeats 4000000 in
set_option maxRecDepth 100000 in
theorem works_any (w : World) (hK : KT w) :
    Calls Tryd.prog 9 #[] w fun e w' => e = .returned (.bool true) ∧ Below w.heap.size w w' := by
  have h1 := fun W (h : KT W) => is_any [] _ W (by decide) h s_0.1 s_0.2.1 s_0.2.2
  have h2 := fun W (h : KT W) => is_any _ _ W (by decide) h s_1.1 s_1.2.1 s_1.2.2
  have h3 := fun W (h : KT W) => is_any _ _ W (by decide) h s_3.1 s_3.2.1 s_3.2.2
  have h4 := fun W (h : KT W) => is_any _ _ W (by decide) h s_14.1 s_14.2.1 s_14.2.2
  have m1 : moreR newD [97, 98] = (ofL [97, 98], 0) := more_ofL (s := []) (by decide)
  have m2 : moreR (ofL [97, 98]) [99] = (ofL [97, 98, 99], 0) := more_ofL (s := [97, 98]) (by decide)
  have m3 : doneR (ofL [97, 98, 99]) = ((sumR [97, 98, 99]).1, 0) := by rw [done_ofL (by decide), ← s_3.1]
  have m5 : hexL (sumR [97, 98, 99]).1 = [57, 48, 48, 49, 53, 48, 57, 56, 51, 99, 100, 50, 52, 102, 98, 48, 100, 54, 57, 54, 51, 102, 55, 100, 50, 56, 101, 49, 55, 102, 55, 50] := s_3.2.1
  have m6 : (sumR [97, 98, 99]).1.length = 16 := s_3.2.2
  have hm1 := fun W (h : KT W) => moreD_any newD [97, 98] W (by decide) (by decide) h
  have hm2 := fun W (h : KT W) => moreD_any (ofL [97, 98]) [99] W (by decide +kernel) (by decide) h
  have hm3 := fun W (h : KT W) => done_any (ofL [97, 98, 99]) W (by decide +kernel) h
  rw [m1] at hm1
  rw [m2] at hm2
  rw [m3] at hm3
  obtain ⟨D1, hD1⟩ : ∃ D, ofL [97, 98] = D := ⟨_, rfl⟩
  obtain ⟨D2, hD2⟩ : ∃ D, ofL [97, 98, 99] = D := ⟨_, rfl⟩
  obtain ⟨D0, hD0⟩ : ∃ D, newD = D := ⟨_, rfl⟩
  obtain ⟨T, hT⟩ : ∃ D, (sumR [97, 98, 99]).1 = D := ⟨_, rfl⟩
  have hnw := fun W => new_any W
  rw [hD0] at hm1 hnw
  rw [hD1] at hm1 hm2
  rw [hD2] at hm2 hm3
  rw [hT] at hm3 m5 m6
  have hhx := fun W => hex_any T m6 W
  rw [m5] at hhx
  have f1 := fun W => fails_any [68, 52, 49, 68, 56, 67, 68, 57, 56, 70, 48, 48, 66, 50, 48, 52, 69, 57, 56, 48, 48, 57, 57, 56, 69, 67, 70, 56, 52, 50, 55, 69] W (by decide) (by decide +kernel)
  have f2 := fun W => fails_any [48, 48] W (by decide) (by decide +kernel)
  have hck := fun W => check_any ⟨0, 0, 0, 0, 1, []⟩ W (by decide)
  have hre : resE ⟨0, 0, 0, 0, 1, []⟩ = 80 := by decide +kernel
  rw [hre] at hck
  simp only [dgV] at hck
  have hsz : (bcA T).size = 16 := by rw [bcA_size, m6]
  clear m1 m2 m3 m5 m6 hD1 hD2 hD0 hT hre
  go_enter Tryd.func9, Tryd.ntmps9
  go_wp2_with fail
  refine (h1 _ hK).mono ?_
  rintro e w1 ⟨rfl, hb⟩
  have hBw1 : Below w.heap.size w w1 := hb
  clear hb
  go_wp2_with fail
  refine (h2 _ (hK.step hBw1)).mono ?_
  rintro e w2 ⟨rfl, hb⟩
  have hBw2 := hBw1.trans (hb.mono hBw1.size)
  clear hb
  go_wp2_with fail
  refine (h3 _ (hK.step hBw2)).mono ?_
  rintro e w3 ⟨rfl, hb⟩
  have hBw3 := hBw2.trans (hb.mono hBw2.size)
  clear hb
  go_wp2_with fail
  refine (h4 _ (hK.step hBw3)).mono ?_
  rintro e w4 ⟨rfl, hb⟩
  have hBw4 := hBw3.trans (hb.mono hBw3.size)
  clear hb
  go_wp2_with fail
  refine (hnw _).mono ?_
  rintro e w5 ⟨rfl, hb⟩
  have hBw5 := hBw4.trans (hb.mono hBw4.size)
  clear hb
  go_wp2_with fail
  refine (hm1 _ (hK.step hBw5)).mono ?_
  rintro e w6 ⟨rfl, hb⟩
  have hBw6 := hBw5.trans (hb.mono hBw5.size)
  clear hb
  clear hBw1 hBw2 hBw3 hBw4 hBw5 h1 h2 h3 h4 hnw hm1
  have hz1 : Fr (w6.alloc (.cells zd 41)) w6.heap.size zd 41 := Fr.new rfl
  have hp1 : Fr ((w6.alloc (.cells zd 41)).setRow w6.heap.size (dgV D1)) w6.heap.size (dgV D1) 41 := setRow_heap _ _ _ _ _ _ hz1
  have hBa : Below w.heap.size w ((w6.alloc (.cells zd 41)).setRow w6.heap.size (dgV D1)) := below_setRow (hBw6.alloc hBw6.size _) hBw6.size _
  have h6 := hBw6.size
  have hba : Below w6.heap.size w6 ((w6.alloc (.cells zd 41)).setRow w6.heap.size (dgV D1)) := below_setRow ((Below.refl _ _).alloc (Nat.le_refl _) _) (Nat.le_refl _) _
  go_wp2_with (first | (refine wpList_load_row rfl 41 _ rfl _ rfl _ _ _ _ hp1 Tryd.underlying41 rfl size41 ?_) | (refine wpList_store_row rfl 41 _ _ rfl _ (dgV D1) rfl rfl _ _ hz1 size41 rfl (one41 _) ?_))
  refine (hm2 _ (hK.step hBa)).mono ?_
  rintro e w7 ⟨rfl, hb⟩
  have hz2 := Fr.call hb hp1
  have hBw7 := hBa.trans (hb.mono hBa.size)
  have hp2 : Fr (w7.setRow w6.heap.size (dgV D2)) w6.heap.size (dgV D2) 41 := setRow_heap _ _ _ _ _ _ hz2
  have hBb : Below w.heap.size w (w7.setRow w6.heap.size (dgV D2)) := below_setRow hBw7 h6 _
  clear hb hm2 hz1 hp1 hBa hba hBw6 hBw7
  go_wp2_with (first | (refine wpList_load_row rfl 41 _ rfl _ rfl _ _ _ _ hp2 Tryd.underlying41 rfl size41 ?_) | (refine wpList_store_row rfl 41 _ _ rfl _ (dgV D2) rfl rfl _ _ hz2 size41 rfl (one41 _) ?_))
  refine (hm3 _ (hK.step hBb)).mono ?_
  rintro e w8 ⟨rfl, hb⟩
  have hBw8 := hBb.trans (hb.mono hBb.size)
  have h8 := hBw8.size
  have hz3 : Fr (w8.alloc (.cells zb16 28)) w8.heap.size zb16 28 := Fr.new rfl
  have hp3 : Fr ((w8.alloc (.cells zb16 28)).setRow w8.heap.size (bcA T)) w8.heap.size (bcA T) 28 := setRow_heap _ _ _ _ _ _ hz3
  have hBc : Below w.heap.size w ((w8.alloc (.cells zb16 28)).setRow w8.heap.size (bcA T)) := below_setRow (hBw8.alloc hBw8.size _) hBw8.size _
  clear hb hm3 hz2 hp2 hBb
  go_wp2_with (first | (refine wpList_load_row_if (by rfl) 28 _ rfl _ rfl _ _ _ _ hp3 Tryd.underlying28 rfl (size28.trans (by rw [hsz])) ?_) | (refine wpList_store_row rfl 28 _ _ rfl _ (bcA T) rfl rfl _ _ hz3 (size28.trans (by rw [hsz])) (by rw [hsz] <;> rfl) (bcA_one _) ?_))
  refine (hhx _).mono ?_
  rintro e w9 ⟨rfl, hb⟩
  have hBw9 := hBc.trans (hb.mono hBc.size)
  clear hb
  clear hz3 hp3 hBc hBw8
  go_wp2_with fail
  refine (f1 _).mono ?_
  rintro e wa ⟨rfl, hb⟩
  have hBwa := hBw9.trans (hb.mono hBw9.size)
  clear hb
  go_wp2_with fail
  refine (f2 _).mono ?_
  rintro e wb ⟨rfl, hb⟩
  have hBwb := hBwa.trans (hb.mono hBwa.size)
  clear hb
  go_wp2_with fail
  refine (hck _).mono ?_
  rintro e wc ⟨rfl, hb⟩
  have hBwc := hBwb.trans (hb.mono hBwb.size)
  clear hb
  go_wp2_with fail
  go_ret
  exact ⟨rfl, hBwc⟩
end Go.Proofs.YtlimkbnnjhjcgaaDoor
