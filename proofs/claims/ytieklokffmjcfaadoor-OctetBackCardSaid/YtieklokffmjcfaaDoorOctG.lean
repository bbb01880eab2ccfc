/- Package octet: texts. -/
import Derived.Test.YtieklokffmjcfaaDoorOctE
import Derived.Laws.RangeString
import Derived.Laws.RangeAny
import Derived.WalkMore
import Derived.LoopTactic
namespace Go.Proofs.YtieklokffmjcfaaDoor
open Go.RowKit Vo
attribute [local go_sem ↓] Go.wp_at_zero Go.wp_at_succ

theorem byte_at (s : ByteArray) (k : Nat) (h : k < s.size) : s.data.toList[k]? = some (s[k]'h) := by
  have hk : k < s.data.toList.length := by rw [Array.length_toList]; exact h
  rw [List.getElem?_eq_getElem hk]
  rfl
theorem lead_drop_cons {l : List UInt8} {k : Nat} {c : UInt8} (h : l[k]? = some c) : lead (l.drop k) = if vis c then lead (l.drop (k + 1)) + 1 else 0 := by
  have hk : k < l.length := (List.getElem?_eq_some_iff.1 h).1
  have e : l.drop k = c :: l.drop (k + 1) := by
    rw [List.drop_eq_getElem_cons hk]
    rw [List.getElem?_eq_getElem hk] at h
    rw [Option.some.inj h]
  rw [e]; rfl
theorem lead_drop_end {l : List UInt8} {k : Nat} (h : l.length ≤ k) : lead (l.drop k) = 0 := by
  rw [List.drop_eq_nil_of_le h]; rfl

set_option maxRecDepth 100000 in
set_option maxHeartbeats 2000000 in
theorem textLength_walk (s : ByteArray) (w : World) (hs : s.size ≤ 9223372036854775807) :
    Calls Tryd.prog 36 #[.string s] w fun e w' => e = .returned (.int .i64 (lead s.data.toList)) ∧ ∃ pos, w.iter s pos = w' := by
  go_enter Tryd.func36, Tryd.ntmps36
  go_wp2_with fail
  go_step3
  go_wp2_with fail
  go_step3
  go_wp2_with fail
  go_loopw [3] (fun n W => ∃ pos : Nat, W = w.iter s pos ∧ n = .int .i64 (pos : Int) ∧ pos ≤ s.size ∧ lead s.data.toList = pos + lead (s.data.toList.drop pos)) (fun _ W => s.size - W.iterPos w.heap.size)
  case atStart => exact ⟨0, rfl, rfl, by omega, by simp⟩
  case round =>
    obtain ⟨pos, rfl, rfl, hp, hl⟩ := hrel
    by_cases hlt : pos < s.size
    · by_cases ha : (s[pos]'hlt).toNat < 128
      · have hnx : ∀ ty, (Instr.next (.pointer (some ⟨w.heap.size, 0, none⟩)) true ty).run Tryd.prog (w.iter s pos) = _ := fun ty => run_next_ascii w s pos ty hlt ha
        obtain ⟨c, hc⟩ : ∃ c, s[pos]'hlt = c := ⟨_, rfl⟩
        have hd := lead_drop_cons (l := s.data.toList) (k := pos) (c := c) (by rw [← hc]; exact byte_at s pos hlt)
        rw [hc] at hnx ha
        by_cases hv : 32 ≤ c.toNat ∧ c.toNat ≤ 126
        · rw [show vis c = true by simp [vis, hv]] at hd
          have H := Lib.hid (And.intro hd hl)
          obtain ⟨v1, v2⟩ := hv
          clear hd hl hc
          go_wp2_with fail
          go_roundw
          case rel => exact ⟨pos + 1, rfl, by go_num, by omega, by have := H.out.1; have := H.out.2; simp at *; omega⟩
          case measure => simp; omega
        · rw [show vis c = false by simp [vis]; omega] at hd
          have hz : lead s.data.toList = pos := by simp at hd; omega
          have H := Lib.hid hz
          clear hd hl hc hz
          by_cases v1 : 32 ≤ c.toNat
          · have v2 : ¬ c.toNat ≤ 126 := by omega
            go_wp2_with fail
            (try rw [Exit.noGoto_ret])
            go_ret
            exact ⟨ret_i (by rw [H.out]), _, rfl⟩
          · go_wp2_with fail
            (try rw [Exit.noGoto_ret])
            go_ret
            exact ⟨ret_i (by rw [H.out]), _, rfl⟩
      · have hnx : ∀ ty, (Instr.next (.pointer (some ⟨w.heap.size, 0, none⟩)) true ty).run Tryd.prog (w.iter s pos) = _ := fun ty => run_next_any w s pos ty hlt
        obtain ⟨hr, hw⟩ := decode_high s pos hlt (by omega)
        obtain ⟨c, hc⟩ : ∃ c, s[pos]'hlt = c := ⟨_, rfl⟩
        have hd := lead_drop_cons (l := s.data.toList) (k := pos) (c := c) (by rw [← hc]; exact byte_at s pos hlt)
        rw [hc] at ha
        rw [show vis c = false by simp [vis]; omega] at hd
        have hz : lead s.data.toList = pos := by simp at hd; omega
        obtain ⟨r, hre⟩ : ∃ r, (Utf8.decode s pos).1 = r := ⟨_, rfl⟩
        obtain ⟨p2, hpe⟩ : ∃ p, pos + (Utf8.decode s pos).2 = p := ⟨_, rfl⟩
        rw [hre, hpe] at hnx
        rw [hre] at hr
        have v1 : 32 ≤ r := by omega
        have v2 : ¬ r ≤ 126 := by omega
        have H := Lib.hid hz
        clear hd hl hc hz hw hre hpe hr ha
        go_wp2_with fail
        (try rw [Exit.noGoto_ret])
        go_ret
        exact ⟨ret_i (by rw [H.out]), _, rfl⟩
    · have hnx : ∀ ty, (Instr.next (.pointer (some ⟨w.heap.size, 0, none⟩)) true ty).run Tryd.prog (w.iter s pos) = _ := fun ty => run_next_end w s pos ty hlt
      have hz : lead s.data.toList = pos := by rw [hl, lead_drop_end (by simp; omega)]; rfl
      have H := Lib.hid hz
      clear hl hz
      go_wp2_with fail
      (try rw [Exit.noGoto_ret])
      go_ret
      exact ⟨ret_i (by rw [H.out]), _, rfl⟩
end Go.Proofs.YtieklokffmjcfaaDoor
