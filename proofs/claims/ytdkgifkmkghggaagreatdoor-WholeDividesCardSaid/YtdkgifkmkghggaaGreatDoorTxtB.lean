/- Contract: readDigits. -/
import Derived.Test.YtdkgifkmkghggaaGreatDoorTxtA
import Derived.Lib.JoinLaws
import Derived.WalkMore
namespace Go.Proofs.YtdkgifkmkghggaaGreatDoor
open Go.RowKit Vd

/-- a text as a value -/
def SV (l : List UInt8) : Value := .string ⟨l.toArray⟩

theorem mkRoom (c : Nat) (hc : c ≤ maxW) (w : World) : (Instr.makeSlice 78 (.int .i64 0) (.int .i64 (c : Int))).run Tryz.prog w = .ok (.slice (some ⟨w.heap.size, 0, none⟩) 0 c) (w.alloc (.cells ((List.replicate c 0).map U).toArray 121)) := by
  have h := run_make_room (P := Tryz.prog) 78 121 (.int .u64 0) 8 Tryz.underlying78 infoU rfl .i64 .i64 c (by unfold maxW at hc; omega) (by unfold maxW at hc; omega) w
  rw [← madeCells_eq]
  exact h

/-- what the outer loop keeps: the digits so far, and those ahead -/
structure RdR (l : List UInt8) (w : World) (c : Nat) (p rest : List UInt8) (v : Value) (W : World) (zs : List Nat) : Prop where
  app : l = p ++ rest
  all : p.all isDig = true
  cut : p = [] ∨ rest.length % 19 = 0
  val : v = .slice (some ⟨w.heap.size, 0, none⟩) (wlen B64 (dval p)) c
  len : zs.length = c
  ok : Ok B64 zs
  row : Row W U w.heap.size 121 zs
  tk : zs.take (wlen B64 (dval p)) = ws B64 (dval p)
  bel : Below w.heap.size w W

theorem RdR.at0 (l : List UInt8) (w : World) (c : Nat) : RdR l w c [] l (.slice (some ⟨w.heap.size, 0, none⟩) 0 c) (w.alloc (.cells (Array.replicate c (U 0)) 121)) (List.replicate c 0) :=
  ⟨rfl, rfl, Or.inl rfl, by rw [dval_nil, wlen_zero], by simp, Ok.rep two_le_B _, Row.newRep w U _ _, by rw [dval_nil, wlen_zero, ws_zero]; rfl, (Below.refl _ _).alloc (Nat.le_refl _) _⟩

theorem sizes {l : List UInt8} (h : 0 < l.length) (hl : l.length ≤ 1000000) :
    IntKind.i64.wrap ((l.length : Int) - 1) = ((l.length - 1 : Nat) : Int) ∧ IntKind.i64.wrap (((l.length - 1 : Nat) : Int) % 19) = (((l.length - 1) % 19 : Nat) : Int) ∧ IntKind.i64.wrap ((((l.length - 1) % 19 : Nat) : Int) + 1) = (((l.length - 1) % 19 + 1 : Nat) : Int) := by
  refine ⟨?_, ?_, ?_⟩ <;> rw [IntKind.wrap_i64] <;> omega

theorem room19 {p rest l : List UInt8} {c : Nat} (app : l = p ++ rest) (all : p.all isDig = true) (cut : p = [] ∨ rest.length % 19 = 0) (h0 : 0 < rest.length) (hc : c = l.length / 19 + 1) : wlen B64 (dval p) + 1 ≤ c := by
  rcases cut with rfl | hcut
  · rw [dval_nil, wlen_zero]; omega
  · have hl : l.length = p.length + rest.length := by rw [app, List.length_append]
    obtain ⟨k, hk⟩ : ∃ k, k = l.length / 19 := ⟨_, rfl⟩
    have h1 : p.length ≤ 19 * k := by omega
    have h2 : dval p < B64 ^ k := by
      refine Nat.lt_of_lt_of_le (dval_lt all) (Nat.le_trans (Nat.pow_le_pow_right (by omega) h1) ?_)
      rw [Nat.pow_mul]
      exact Nat.pow_le_pow_left (by decide) k
    have := (wlen_le_iff two_le_B _ _).2 h2
    omega

/-- one more group behind the digits so far -/
theorem group_dval {p rest : List UInt8} {q sz : Nat} (cut : p = [] ∨ rest.length % 19 = 0) (hq : rest.length = q + 1) (hsz : sz = q % 19 + 1) : dval (p ++ rest.take sz) = dval p * G19 + dval (rest.take sz) := by
  rw [dval_append, List.length_take, Nat.min_eq_left (by omega)]
  rcases cut with rfl | hcut
  · rw [dval_nil, Nat.zero_mul, Nat.zero_mul]
  · rw [show sz = 19 by omega, G19_eq]

theorem extB (l : List UInt8) (i : Nat) : (⟨l.toArray⟩ : ByteArray).extract i l.length = ⟨(l.drop i).toArray⟩ := by
  apply ByteArray.ext
  rw [ByteArray.data_extract]
  apply Array.ext'
  simp
  rw [List.take_of_length_le (by rw [List.length_drop]; omega)]

theorem getB {l : List UInt8} {i : Nat} (h : i < l.length) (x : UInt8) (hx : l[i]? = some x) (hb : i < (⟨l.toArray⟩ : ByteArray).size) : (⟨l.toArray⟩ : ByteArray)[i]'hb = x := by
  rw [List.getElem?_eq_getElem h] at hx
  injection hx

theorem take_snoc {l : List UInt8} {i : Nat} {x : UInt8} (hx : l[i]? = some x) : l.take (i + 1) = l.take i ++ [x] := by
  rw [List.take_add_one, hx]; rfl

theorem digit_of {x : UInt8} (h : isDig x = true) : ∃ d : Nat, d ≤ 9 ∧ x.toNat - 48 = d ∧ (((x.toNat : Int) - 48) % 256 = (d : Int)) := by
  rw [isDig_iff] at h
  exact ⟨x.toNat - 48, by omega, rfl, by omega⟩
theorem nodigit_of {x : UInt8} (h : ¬ isDig x = true) : ∃ d : Nat, 9 < d ∧ (((x.toNat : Int) - 48) % 256 = (d : Int)) := by
  rw [isDig_iff] at h
  have := x.toNat_lt
  rcases Nat.lt_or_ge x.toNat 48 with h1 | h1
  · exact ⟨x.toNat + 208, by omega, by omega⟩
  · exact ⟨x.toNat - 48, by omega, by omega⟩

set_option maxRecDepth 100000 in
set_option maxHeartbeats 1000000 in
theorem readDigits_any (l : List UInt8) (w : World) (hl : l.length ≤ 1000000) :
    Calls Tryz.prog 112 #[.string ⟨l.toArray⟩] w fun e w' => ∃ v, e = .returned (.tuple #[v, .bool (l.all isDig)]) ∧ (l.all isDig = true → MagV w' v (dval l) ∧ ∃ n c, v = .slice (some ⟨w.heap.size, 0, none⟩) n c) ∧ Below w.heap.size w w' := by
  obtain ⟨c, hc⟩ : ∃ c, c = l.length / 19 + 1 := ⟨_, rfl⟩
  have hmk := fun W => mkRoom c (by unfold maxW; omega) W
  have e1 : ((l.length : Int) / 19 + 1) = (c : Int) := by rw [hc]; simp
  have e1b : IntKind.i64.wrap ((l.length : Int) / 19 + 1) = (c : Int) := by rw [e1]; rw [IntKind.wrap_i64]; omega
  have HC := Lib.hid (And.intro hc hl)
  clear hc
  go_enter Tryz.func112, Tryz.ntmps112
  go_wp2
  go_step3
  go_wp2
  go_step3
  go_wp2
  go_loopg [0, 2] l.length (fun r s v W => ∃ (p rest : List UInt8) (zs : List Nat), r = rest.length ∧ s = .string ⟨rest.toArray⟩ ∧ RdR l w c p rest v W zs)
  case atStart => exact ⟨[], l, _, rfl, rfl, RdR.at0 l w c⟩
  case round =>
    obtain ⟨p, rest, zs, rfl, rfl, hR⟩ := hrel
    have hv := hR.val
    subst hv
    have HR := Lib.hid hR
    by_cases h0 : 0 < rest.length
    · obtain ⟨q, hq⟩ : ∃ q, rest.length = q + 1 := ⟨rest.length - 1, by omega⟩
      obtain ⟨sz, hsz⟩ : ∃ s, s = q % 19 + 1 := ⟨_, rfl⟩
      have hle : rest.length ≤ 1000000 := by
        have := congrArg List.length hR.app
        rw [List.length_append] at this
        have := HC.out.2
        omega
      have E0 : rest.isEmpty = false := by cases rest with
        | nil => simp at h0
        | cons => rfl
      have E1 : IntKind.i64.wrap ((rest.length : Int) - 1) = (q : Int) := by rw [IntKind.wrap_i64]; omega
      have E2 : IntKind.i64.wrap ((q : Int) % 19 + 1) = (sz : Int) := by rw [IntKind.wrap_i64]; omega
      have HQ := Lib.hid (And.intro hq (And.intro hsz hle))
      clear hR hq hsz hle h0
      go_wp2
      go_loopg [5, 21] sz (fun r s iv W => ∃ i : Nat, i ≤ sz ∧ r = sz - i ∧ iv = .int .i64 (i : Int) ∧ s = .int .u64 ((dval (rest.take i) : Nat) : Int) ∧ (rest.take i).all isDig = true ∧ W = wr)
      case atStart => exact ⟨0, by omega, rfl, rfl, rfl, rfl, rfl⟩
      case round =>
        obtain ⟨i, hi, rfl, rfl, rfl, hall, rfl⟩ := hrel
        by_cases hlt : i < sz
        · have hlt' : (i : Int) < (sz : Int) := by omega
          have hi1 : i < rest.length := by have := HQ.out; omega
          have hi2 : (i : Int) < (rest.length : Int) := by omega
          have hb : i < (⟨rest.toArray⟩ : ByteArray).size := hi1
          obtain ⟨x, hx⟩ : ∃ x, rest[i]? = some x := ⟨rest[i], List.getElem?_eq_getElem hi1⟩
          have hgx := getB hi1 x hx hb
          have hsn := take_snoc hx
          have hdl := dval_lt hall
          rw [List.length_take, Nat.min_eq_left (by omega)] at hdl
          have h18 : i ≤ 18 := by have := HQ.out; omega
          have hpw : (10 : Nat) ^ i ≤ 10 ^ 18 := Nat.pow_le_pow_right (by omega) h18
          obtain ⟨G, hG⟩ : ∃ G, G = dval (rest.take i) := ⟨_, rfl⟩
          rw [← hG] at hdl ⊢
          by_cases hd : isDig x = true
          · obtain ⟨d, hd9, hxd, hD⟩ := digit_of hd
            obtain ⟨G1, hG1⟩ : ∃ g, g = G * 10 := ⟨_, rfl⟩
            obtain ⟨G2, hG2⟩ : ∃ g, g = G1 + d := ⟨_, rfl⟩
            have F1 : IntKind.u64.wrap ((G : Int) * 10) = (G1 : Int) := by
              rw [show (G : Int) * 10 = ((G1 : Nat) : Int) by omega]
              exact wrapU (by rw [B64_eq]; omega)
            have F2 : IntKind.u64.wrap ((G1 : Int) + (d : Int)) = (G2 : Int) := by
              rw [show (G1 : Int) + (d : Int) = ((G2 : Nat) : Int) by omega]
              exact wrapU (by rw [B64_eq]; omega)
            have F3 : decide ((9 : Int) < (d : Int)) = false := by simp; omega
            have F4 : ¬ (9 : Int) < (d : Int) := by omega
            have hE : dval (rest.take (i + 1)) = G2 := by rw [hsn, dval_snoc, ← hG, hxd, hG2, hG1]
            have hA : (rest.take (i + 1)).all isDig = true := by rw [hsn, List.all_append, hall]; simp [hd]
            have HE := Lib.hid (And.intro hE hA)
            clear hsn hdl hpw hG hG1 hG2 hd hx hE hA hxd hd9 hall
            go_wp2
            go_roundg (sz - (i + 1))
            case measure => omega
            case rel => exact ⟨i + 1, by omega, rfl, by go_num, by rw [HE.out.1], HE.out.2, rfl⟩
          · obtain ⟨d, hd9, hD⟩ := nodigit_of hd
            have F3 : decide ((9 : Int) < (d : Int)) = true := by simp; omega
            have F4 : (9 : Int) < (d : Int) := by omega
            have hnd : l.all isDig = false := by
              rw [HR.out.app, List.all_append]
              have : rest.all isDig = false := by
                rw [List.all_eq_false]
                exact ⟨x, List.mem_of_getElem? hx, by simpa using hd⟩
              rw [this, Bool.and_false]
            have HE := Lib.hid hnd
            clear hsn hdl hpw hG hd hx hall hnd
            go_wp2
            rw [Exit.noGoto_ret]
            exact bodyPost_ret (v := .tuple #[_, .bool false]) (by simp [results, Tryz.results112, go_sem]; rfl) rfl ⟨_, by rw [HE.out], fun h => absurd (h.symm.trans HE.out) (by decide), HR.out.bel⟩
        · obtain rfl : i = sz := by omega
          have hlt' : ¬ (i : Int) < (i : Int) := by omega
          obtain ⟨hq, hsz, hle⟩ := HQ.out
          have hdl := dval_lt hall
          rw [List.length_take, Nat.min_eq_left (by omega)] at hdl
          have hpw : (10 : Nat) ^ i ≤ 10 ^ 19 := Nat.pow_le_pow_right (by omega) (by omega)
          obtain ⟨r1, r2, r3, r4, r5, r6, r7, r8, r9⟩ := HR.out
          have hroom := room19 r1 r2 r3 (by omega) HC.out.1
          have hcm : c ≤ maxW := by have := HC.out; unfold maxW; omega
          have hag := appendGroup_any w.heap.size _ c (dval p) (dval (rest.take i)) zs wr r7 r5 rfl r8 hroom hcm (by rw [B64_eq]; omega) r6
          rw [← group_dval r3 hq hsz] at hag
          have hi3 : (i : Int) ≤ (rest.length : Int) := by omega
          have HF := Lib.hid (And.intro r1 (And.intro r2 (And.intro r3 (And.intro r9 (And.intro hq (And.intro hsz hall))))))
          clear hq hsz hle hdl hpw r1 r2 r3 r4 r5 r6 r7 r8 r9 hroom hcm hall hi
          go_wp2_with fail
          refine hag.mono ?_
          rintro e w1 ⟨rfl, ys, y1, y2, y3, y4, y5⟩
          go_wp2_with fail
          obtain ⟨r1, r2, r3, r9, hq, hsz, hall⟩ := HF.out
          go_roundg (rest.drop i).length
          case measure => rw [List.length_drop]; omega
          case rel =>
            refine ⟨p ++ rest.take i, rest.drop i, ys, rfl, by rw [extB], ⟨?_, ?_, Or.inr ?_, rfl, y1, y2, y3, y4, ?_⟩⟩
            · rw [List.append_assoc, List.take_append_drop]; exact r1
            · rw [List.all_append, r2, hall]; rfl
            · rw [List.length_drop]; omega
            · exact r9.trans ⟨y5.os, y5.tape, y5.output, y5.size, fun k hk => y5.block k (Nat.lt_of_lt_of_le hk r9.size) (fun e => by injection e with e; omega)⟩
    · obtain rfl : rest = [] := by cases rest with
        | nil => rfl
        | cons => exact absurd (Nat.succ_pos _) h0
      clear hR
      obtain ⟨r1, r2, r3, r4, r5, r6, r7, r8, r9⟩ := HR.out
      rw [List.append_nil] at r1
      have hkc : wlen B64 (dval p) ≤ c := by
        have := congrArg List.length r8
        rw [List.length_take, length_ws, r5] at this
        omega
      have hm : MagV wr (.slice (some ⟨w.heap.size, 0, none⟩) (wlen B64 (dval p)) c) (dval l) := by
        have h := r7.slk (k := wlen B64 (dval p)) (by rw [r5]; exact hkc)
        rw [r8] at h
        rw [r1]
        exact ⟨_, c, rfl, hkc, by have := HC.out; omega, h⟩
      have hall : l.all isDig = true := by rw [r1]; exact r2
      have HM := Lib.hid (And.intro hm (And.intro hall r9))
      clear r1 r2 r3 r4 r5 r6 r7 r8 r9 hkc hm hall
      go_wp2
      rw [Exit.noGoto_ret]
      exact bodyPost_ret (v := .tuple #[_, .bool true]) (by simp [results, Tryz.results112, go_sem]; rfl) rfl ⟨_, by rw [HM.out.2.1], fun _ => ⟨HM.out.1, _, _, rfl⟩, HM.out.2.2⟩

end Go.Proofs.YtdkgifkmkghggaaGreatDoor
