/- DigestBack: the walk. -/
import Derived.Test.YtlimkbnnjhjcgaaDoorDigU
namespace Go.Proofs.YtlimkbnnjhjcgaaDoor
open Go.RowKit Vo
attribute [local go_sem ↓] Go.wp_at_zero Go.wp_at_succ

theorem hexB (m : List UInt8) (hm : m.length = 16) : (B (hexL m)).size = 32 := by rw [B_size, hexL_length, hm]

theorem cut40 (t : List UInt8) : (B t).extract 0 (min (t.length : Int) 40).toNat = B (t.take 40) := by
  rw [B_extract, List.drop_zero, Nat.sub_zero]
  congr 1
  by_cases h : t.length ≤ 40
  · rw [show (min (t.length : Int) 40).toNat = t.length by omega, List.take_length, List.take_of_length_le h]
  · rw [show (min (t.length : Int) 40).toNat = 40 by omega]
theorem beqB (l : List UInt8) : ((B l) == (B l)) = true := by
  have : ∀ x : Array UInt8, (x == x) = true := fun x => by simp
  exact this _

set_option maxHeartbeats 4000000 in
set_option maxRecDepth 100000 in
theorem back_core (m t : List UInt8) (w : World) (hm : m.length = 16) (hK : KT w) :
    Calls Tryd.prog 7 #[.agg (bcA m), .string (B t)] w fun e w' => e = .returned (.bool true) ∧ Below w.heap.size w w' := by
  have hz := B_size t
  have hsz : (bcA m).size = 16 := by rw [bcA_size, hm]
  have hf : Fr (w.alloc (.cells (bcA m) 28)) w.heap.size (bcA m) 28 := Fr.new rfl
  have hb0 : Below w.heap.size w (w.alloc (.cells (bcA m) 28)) := (Below.refl _ _).alloc (Nat.le_refl _) _
  have hwk := works_any _ (hK.step hb0)
  have hhx := fun W => hex_any m hm W
  have hlen := hexB m hm
  have hun := fun W => unhex_any (hexL m) W (by rw [hexL_length, hm]; decide)
  rw [unhex_hex hm] at hun
  have hneq : ∀ W, (binOp .neq 28 (.agg (bcA m)) (.agg (bcA m))).run Tryd.prog W = .ok (.bool false) W := fun W => by rw [neq_o16 _ _ hm hm]; simp
  obtain ⟨H, hH⟩ : ∃ H, hexL m = H := ⟨_, rfl⟩
  rw [hH] at hhx hun hlen
  clear hH hm
  have hK := Lib.hid hK
  go_enter Tryd.func7, Tryd.ntmps7
  go_wp2_with fail
  refine hwk.mono ?_
  rintro e w1 ⟨rfl, hb⟩
  have hf1 := Fr.call hb hf
  have hB1 := hb0.trans (hb.mono hb0.size)
  clear hb hf hb0 hwk
  go_wp2_with (refine wpList_load_row rfl 28 _ rfl _ rfl _ _ _ _ hf1 Tryd.underlying28 rfl (size28.trans (by rw [hsz])) ?_)
  refine (hhx _).mono ?_
  rintro e w2 ⟨rfl, hb⟩
  have hf2 := Fr.call hb hf1
  have hB2 := hB1.trans (hb.mono hB1.size)
  clear hb hf1 hB1
  go_wp2_with fail
  refine (hun _).mono ?_
  rintro e w3 ⟨rfl, hb⟩
  have hf3 := Fr.call hb hf2
  have hB3 := hB2.trans (hb.mono hB2.size)
  clear hb hf2 hB2 hun
  have hz1 : Fr (w3.alloc (.cells zb16 28)) w3.heap.size zb16 28 := Fr.new rfl
  have hp : Fr ((w3.alloc (.cells zb16 28)).setRow w3.heap.size (bcA m)) w3.heap.size (bcA m) 28 := setRow_heap _ _ _ _ _ _ hz1
  have hbz : Below w3.heap.size w3 ((w3.alloc (.cells zb16 28)).setRow w3.heap.size (bcA m)) := below_setRow ((Below.refl _ _).alloc (Nat.le_refl _) _) (Nat.le_refl _) _
  have hf4 := Fr.call hbz hf3
  have hB4 := hB3.trans (hbz.mono hB3.size)
  clear hbz hf3 hB3
  go_wp2_with (first
    | (refine wpList_load_row_if (by rfl) 28 _ rfl _ rfl _ _ _ _ hp Tryd.underlying28 rfl (size28.trans (by rw [hsz])) ?_)
    | (refine wpList_load_row_if (by rfl) 28 _ rfl _ rfl _ _ _ _ hf4 Tryd.underlying28 rfl (size28.trans (by rw [hsz])) ?_)
    | (refine wpList_store_row rfl 28 _ _ rfl _ (bcA m) rfl rfl _ _ hz1 (size28.trans (by rw [hsz])) (by rw [hsz] <;> rfl) (bcA_one _) ?_))
  refine (hhx _).mono ?_
  rintro e w5 ⟨rfl, hb⟩
  have hB5 := hB4.trans (hb.mono hB4.size)
  clear hb hf4 hB4 hp hz1
  go_wp2_with fail
  rw [cut40]
  have hul : (t.take 40).length ≤ 1000000 := by simp; omega
  have hun := unhex_any (t.take 40) w5 hul
  have hcs := @hex_unhex (t.take 40)
  have hl2 := unhex_length (t.take 40)
  obtain ⟨u, hu⟩ : ∃ u, t.take 40 = u := ⟨_, rfl⟩
  rw [hu] at hun hcs hl2
  rw [hu]
  obtain ⟨T, hT⟩ : ∃ T, (unhexR u).1 = T := ⟨_, rfl⟩
  obtain ⟨E, hE⟩ : ∃ E, (unhexR u).2 = E := ⟨_, rfl⟩
  rw [hT, hE] at hun hcs
  rw [hT] at hl2
  have hsz2 : (bcA T).size = 16 := by rw [bcA_size, hl2]
  clear hu hT hE hul
  refine hun.mono ?_
  rintro e w6 ⟨rfl, hb⟩
  have hB6 := hB5.trans (hb.mono hB5.size)
  clear hb hB5 hun
  rcases hcs with ⟨rfl, hx⟩ | ⟨rfl, rfl⟩
  · have hhx2 := fun W => hex_any T hl2 W
    rw [hx] at hhx2
    have hbe := beqB u
    clear hx hl2
    have hz1 : Fr (w6.alloc (.cells zb16 28)) w6.heap.size zb16 28 := Fr.new rfl
    have hp : Fr ((w6.alloc (.cells zb16 28)).setRow w6.heap.size (bcA T)) w6.heap.size (bcA T) 28 := setRow_heap _ _ _ _ _ _ hz1
    have hB7 : Below w.heap.size w ((w6.alloc (.cells zb16 28)).setRow w6.heap.size (bcA T)) := below_setRow (hB6.alloc hB6.size _) hB6.size _
    clear hB6
    go_wp2_with (first
      | (refine wpList_load_row_if (by rfl) 28 _ rfl _ rfl _ _ _ _ hp Tryd.underlying28 rfl (size28.trans (by rw [hsz2])) ?_)
      | (refine wpList_store_row rfl 28 _ _ rfl _ (bcA T) rfl rfl _ _ hz1 (size28.trans (by rw [hsz2])) (by rw [hsz2] <;> rfl) (bcA_one _) ?_))
    refine (hhx2 _).mono ?_
    rintro e w8 ⟨rfl, hb⟩
    have hB8 := hB7.trans (hb.mono hB7.size)
    clear hb hB7 hp hz1
    go_wp2_with fail
    go_ret
    exact ⟨rfl, hB8⟩
  · have heq : ∀ W, (binOp .eql 28 (.agg (bcA zero16)) (.agg zb16)).run Tryd.prog W = .ok (.bool true) W := fun W => by rw [zb16_eq, eql_o16 _ _ rfl rfl]; rfl
    simp only [zb16] at heq
    have hz1 : Fr (w6.alloc (.cells zb16 28)) w6.heap.size zb16 28 := Fr.new rfl
    have hp : Fr ((w6.alloc (.cells zb16 28)).setRow w6.heap.size (bcA zero16)) w6.heap.size (bcA zero16) 28 := setRow_heap _ _ _ _ _ _ hz1
    have hB7 : Below w.heap.size w ((w6.alloc (.cells zb16 28)).setRow w6.heap.size (bcA zero16)) := below_setRow (hB6.alloc hB6.size _) hB6.size _
    clear hB6
    go_wp2_with (first
      | (refine wpList_load_row_if (by rfl) 28 _ rfl _ rfl _ _ _ _ hp Tryd.underlying28 rfl (size28.trans (by rw [hsz2])) ?_)
      | (refine wpList_store_row rfl 28 _ _ rfl _ (bcA zero16) rfl rfl _ _ hz1 (size28.trans (by rw [hsz2])) (by rw [hsz2] <;> rfl) (bcA_one _) ?_))
    go_ret
    exact ⟨rfl, hB7⟩
end Go.Proofs.YtlimkbnnjhjcgaaDoor
