/- Package digest: the rounds and a step. -/
import Derived.Test.YtlimkbnnjhjcgaaDoorProg
import Derived.Test.YtlimkbnnjhjcgaaDoorDigA
import Derived.WalkKit
import Derived.WalkSpells
import Derived.WalkLawsBesides
import Derived.Below
import Derived.Laws.OwnMore
import Derived.Deep.LoopGhost
import Derived.Deep.QuietTactic
import Derived.BigQuiet
import Derived.Lib.Hide
import Derived.Deep.DrawnRows
import Derived.RegionTactic
import Derived.ChangeAlike
import Derived.Laws.EntriesVeiled
import Derived.Laws.BitsAllLaws
namespace Go.Proofs.YtlimkbnnjhjcgaaDoor
open Go.RowKit Vo
attribute [local go_sem ↓] Go.wp_at_zero Go.wp_at_succ

theorem mkf (fn : Fn) (first cap : Array Value) (w : World) : (Instr.makeFunc fn first cap).run Tryd.prog w = .ok (.func fn first cap) w := rfl
theorem ret_i {k : IntKind} {m n : Int} (h : m = n) : Ending.returned (.int k m) = .returned (.int k n) := by rw [h]
theorem ret_s {s t : ByteArray} (h : s = t) : Ending.returned (.string s) = .returned (.string t) := by rw [h]
theorem ret_a {s t : Array Value} (h : s = t) : Ending.returned (.agg s) = .returned (.agg t) := by rw [h]

theorem qOne {P : Program} {f : FuncId} {args : Array Value} {w : World} {n : Nat} {v : Value} (h : Calls P f args (w.drewN n) fun e w' => e = .returned v ∧ w.drewN n = w') :
    Calls P f args (w.drewN n) fun e w'' => e = .returned v ∧ ∃ m, w'' = w.drewN m :=
  h.mono fun _ _ ⟨he, hm⟩ => ⟨he, n, hm.symm⟩
theorem qAdd {P : Program} {f : FuncId} {args : Array Value} {w : World} {a n : Nat} {v : Value} (h : Calls P f args (w.drewN (a + n)) fun e w' => e = .returned v ∧ w.drewN (a + n) = w') :
    Calls P f args (w.drewN (a + n)) fun e w'' => e = .returned v ∧ ∃ m, w'' = w.drewN (a + m) :=
  h.mono fun _ _ ⟨he, hm⟩ => ⟨he, n, hm.symm⟩
theorem wrap_u32' (x : Int) : IntKind.u32.wrap x = x % 4294967296 := by
  rw [IntKind.wrap_u32]
theorem and_u32 (a b : Nat) (ha : a < 4294967296) (hb : b < 4294967296) : bits .and .u32 (a : Int) (b : Int) = ((a &&& b : Nat) : Int) := by
  have hx : a &&& b < 4294967296 := Nat.lt_of_le_of_lt Nat.and_le_left ha
  have h1 : (BitVec.ofInt 32 (a : Int)).toNat = a := by
    rw [BitVec.ofInt_natCast, BitVec.toNat_ofNat]; exact Nat.mod_eq_of_lt (by omega)
  have h2 : (BitVec.ofInt 32 (b : Int)).toNat = b := by
    rw [BitVec.ofInt_natCast, BitVec.toNat_ofNat]; exact Nat.mod_eq_of_lt (by omega)
  show IntKind.u32.wrap ((BitVec.ofInt 32 (a : Int) &&& BitVec.ofInt 32 (b : Int)).toNat : Int) = _
  rw [BitVec.toNat_and, h1, h2, IntKind.wrap_u32]
  omega
theorem or_u32 (a b : Nat) (ha : a < 4294967296) (hb : b < 4294967296) : bits .or .u32 (a : Int) (b : Int) = ((a ||| b : Nat) : Int) := by
  have hx : a ||| b < 2 ^ 32 := Nat.or_lt_two_pow (by omega) (by omega)
  have h1 : (BitVec.ofInt 32 (a : Int)).toNat = a := by
    rw [BitVec.ofInt_natCast, BitVec.toNat_ofNat]; exact Nat.mod_eq_of_lt (by omega)
  have h2 : (BitVec.ofInt 32 (b : Int)).toNat = b := by
    rw [BitVec.ofInt_natCast, BitVec.toNat_ofNat]; exact Nat.mod_eq_of_lt (by omega)
  show IntKind.u32.wrap ((BitVec.ofInt 32 (a : Int) ||| BitVec.ofInt 32 (b : Int)).toNat : Int) = _
  rw [BitVec.toNat_or, h1, h2, IntKind.wrap_u32]
  omega
theorem xor_u32 (a b : Nat) (ha : a < 4294967296) (hb : b < 4294967296) : bits .xor .u32 (a : Int) (b : Int) = ((a ^^^ b : Nat) : Int) := by
  have hx : a ^^^ b < 2 ^ 32 := Nat.xor_lt_two_pow (by omega) (by omega)
  have h1 : (BitVec.ofInt 32 (a : Int)).toNat = a := by
    rw [BitVec.ofInt_natCast, BitVec.toNat_ofNat]; exact Nat.mod_eq_of_lt (by omega)
  have h2 : (BitVec.ofInt 32 (b : Int)).toNat = b := by
    rw [BitVec.ofInt_natCast, BitVec.toNat_ofNat]; exact Nat.mod_eq_of_lt (by omega)
  show IntKind.u32.wrap ((BitVec.ofInt 32 (a : Int) ^^^ BitVec.ofInt 32 (b : Int)).toNat : Int) = _
  rw [BitVec.toNat_xor, h1, h2, IntKind.wrap_u32]
  omega

theorem not_u32 (b : Nat) (hb : b < 4294967296) : bits .xor .u32 IntKind.u32.max (b : Int) = ((4294967295 - b : Nat) : Int) := by
  have e : IntKind.u32.max = ((4294967295 : Nat) : Int) := by decide
  rw [e, xor_u32 _ _ (by omega) hb]
  congr 1
  have h := congrArg BitVec.toNat (BitVec.allOnes_xor (x := BitVec.ofNat 32 b))
  rw [BitVec.toNat_xor, BitVec.toNat_not, BitVec.toNat_allOnes, BitVec.toNat_ofNat, Nat.mod_eq_of_lt (by omega)] at h
  exact h
theorem and31 (s : Nat) (hs : s < 32) : bits .and .u64 (s : Int) 31 = (s : Int) := by
  have h1 : (BitVec.ofInt 64 (s : Int)).toNat = s := by
    rw [BitVec.ofInt_natCast, BitVec.toNat_ofNat]; exact Nat.mod_eq_of_lt (by omega)
  have h2 : (BitVec.ofInt 64 (31 : Int)).toNat = 31 := by decide
  show IntKind.u64.wrap ((BitVec.ofInt 64 (s : Int) &&& BitVec.ofInt 64 (31 : Int)).toNat : Int) = _
  rw [BitVec.toNat_and, h1, h2, show (31 : Nat) = 2 ^ 5 - 1 from rfl, Nat.and_two_pow_sub_one_eq_mod, IntKind.wrap_u64]
  omega
theorem rot_or (x s : Nat) (hx : x < 4294967296) (hs : s < 32) : bits .or .u32 ((x : Int) * 2 ^ s % 4294967296) ((x : Int) / 2 ^ (32 - s)) = (rotl x s : Int) := by
  have e1 : ((x : Int) * 2 ^ s % 4294967296) = ((x * 2 ^ s % 4294967296 : Nat) : Int) := by simp
  have e2 : ((x : Int) / 2 ^ (32 - s)) = ((x / 2 ^ (32 - s) : Nat) : Int) := by simp
  have h2 : (2 : Nat) ^ (32 - s) * 2 ^ s = 4294967296 := by rw [← Nat.pow_add, show 32 - s + s = 32 by omega]
  have h3 : x * 2 ^ s % 4294967296 = (x % 2 ^ (32 - s)) * 2 ^ s := by rw [← h2, Nat.mul_mod_mul_right]
  have h4 : x / 2 ^ (32 - s) < 2 ^ s := Nat.div_lt_of_lt_mul (by rw [h2]; exact hx)
  have h5 := Nat.shiftLeft_add_eq_or_of_lt h4 (x % 2 ^ (32 - s))
  rw [Nat.shiftLeft_eq] at h5
  rw [e1, e2, or_u32 _ _ (Nat.mod_lt _ (by decide)) (Nat.lt_of_le_of_lt (Nat.div_le_self _ _) hx)]
  unfold rotl
  rw [h3, h5]
set_option maxHeartbeats 400000 in
theorem choose_any (b c d : Nat) (hb : b < 4294967296) (hc : c < 4294967296) (hd : d < 4294967296) (w : World) :
    Calls Tryd.prog 77 #[.int .u32 b, .int .u32 c, .int .u32 d] w fun e w' => e = .returned (.int .u32 ((b &&& c) ||| ((4294967295 - b) &&& d) : Nat)) ∧ w = w' := by
  go_enter Tryd.func77, Tryd.ntmps77
  go_wp2_with fail
  go_ret
  exact ⟨ret_i (by rw [not_u32 b hb, and_u32 _ _ hb hc, and_u32 _ _ (by omega) hd, or_u32 _ _ (Nat.lt_of_le_of_lt Nat.and_le_left hb) (Nat.lt_of_le_of_lt Nat.and_le_right hd)]), rfl⟩
set_option maxHeartbeats 400000 in
theorem mix3_any (b c d : Nat) (hb : b < 4294967296) (hc : c < 4294967296) (hd : d < 4294967296) (w : World) :
    Calls Tryd.prog 80 #[.int .u32 b, .int .u32 c, .int .u32 d] w fun e w' => e = .returned (.int .u32 (mixN 2 b c d)) ∧ w = w' := by
  go_enter Tryd.func80, Tryd.ntmps80
  go_wp2_with fail
  go_ret
  exact ⟨ret_i (by rw [xor_u32 _ _ hb hc, xor_u32 _ _ (Nat.xor_lt_two_pow (n := 32) hb hc) hd]; rfl), rfl⟩
set_option maxHeartbeats 400000 in
theorem mix4_any (b c d : Nat) (hb : b < 4294967296) (hc : c < 4294967296) (hd : d < 4294967296) (w : World) :
    Calls Tryd.prog 81 #[.int .u32 b, .int .u32 c, .int .u32 d] w fun e w' => e = .returned (.int .u32 (mixN 3 b c d)) ∧ w = w' := by
  go_enter Tryd.func81, Tryd.ntmps81
  go_wp2_with fail
  go_ret
  exact ⟨ret_i (by rw [not_u32 d hd, or_u32 _ _ hb (by omega), xor_u32 _ _ hc (Nat.or_lt_two_pow (n := 32) hb (by omega))]; rfl), rfl⟩
set_option maxHeartbeats 400000 in
theorem rotate_any (x s : Nat) (hx : x < 4294967296) (hs : s < 32) (w : World) :
    Calls Tryd.prog 82 #[.int .u32 x, .int .i64 s] w fun e w' => e = .returned (.int .u32 (rotl x s)) ∧ w = w' := by
  have hk := and31 s hs
  go_enter Tryd.func82, Tryd.ntmps82
  go_wp2_with fail
  go_ret
  exact ⟨ret_i (by rw [rot_or x s hx hs]), rfl⟩
set_option maxHeartbeats 400000 in
theorem along_any (m n : Int) (w : World) :
    Calls Tryd.prog 78 #[.int .i64 m, .int .i64 n] w fun e w' => e = .returned (.func (.func 84) #[] #[.pointer (some ⟨w.heap.size, 0, none⟩), .pointer (some ⟨w.heap.size + 1, 0, none⟩)]) ∧ (w.alloc (.cells #[.int .i64 m] 3)).alloc (.cells #[.int .i64 n] 3) = w' := by
  have hmf := mkf
  go_enter Tryd.func78, Tryd.ntmps78
  go_wp2_with fail
  go_ret
  exact ⟨rfl, rfl⟩
set_option maxHeartbeats 400000 in
theorem along1_any (m n i : Nat) (p q : Addr) (w : World) (hm : m ≤ 100) (hn : n ≤ 100) (hi : i ≤ 100) (hp : w.cell? p = some (.int .i64 m)) (hq : w.cell? q = some (.int .i64 n)) :
    Calls Tryd.prog 84 #[.int .i64 i, .pointer (some p), .pointer (some q)] w fun e w' => e = .returned (.int .i64 ((m * i + n) % 16 : Nat)) ∧ w = w' := by
  have hmi : m * i ≤ 100 * 100 := Nat.mul_le_mul hm hi
  go_enter Tryd.func84, Tryd.ntmps84
  go_wp2_with fail
  go_ret
  exact ⟨ret_i (by omega), rfl⟩

set_option maxHeartbeats 400000 in
theorem mix1_any (b c d : Nat) (hb : b < 4294967296) (hc : c < 4294967296) (hd : d < 4294967296) (w : World) :
    Calls Tryd.prog 76 #[.int .u32 b, .int .u32 c, .int .u32 d] w fun e w' => e = .returned (.int .u32 (mixN 0 b c d)) ∧ w = w' := by
  have h := fun W => choose_any b c d hb hc hd W
  go_enter Tryd.func76, Tryd.ntmps76
  go_wp2_with fail
  refine (h _).mono ?_
  rintro e w' ⟨rfl, rfl⟩
  go_wp2_with fail
  go_ret
  exact ⟨rfl, rfl⟩
set_option maxHeartbeats 400000 in
theorem mix2_any (b c d : Nat) (hb : b < 4294967296) (hc : c < 4294967296) (hd : d < 4294967296) (w : World) :
    Calls Tryd.prog 79 #[.int .u32 b, .int .u32 c, .int .u32 d] w fun e w' => e = .returned (.int .u32 (mixN 1 b c d)) ∧ w = w' := by
  have h := fun W => choose_any d b c hd hb hc W
  go_enter Tryd.func79, Tryd.ntmps79
  go_wp2_with fail
  refine (h _).mono ?_
  rintro e w' ⟨rfl, rfl⟩
  go_wp2_with fail
  go_ret
  exact ⟨rfl, rfl⟩

/-- the four numbers as a value -/
abbrev q4 (q : Q) : Array Value := #[.int .u32 q.1, .int .u32 q.2.1, .int .u32 q.2.2.1, .int .u32 q.2.2.2]
/-- the words of a block as a value -/
def wc (ws : List Nat) : Array Value := (ws.map fun x : Nat => Value.int .u32 ((x : Nat) : Int)).toArray
theorem wc_at {ws : List Nat} {k : Nat} (h : k < ws.length) : (wc ws)[k]? = some (.int .u32 (ws.getD k 0 : Nat)) := by
  simp [wc, h]
/-- the table of the constants lies as the text lays it -/
def KT (w : World) : Prop := 0 < w.heap.size ∧ ∀ i, i < 64 → w.cell? ⟨0, i, none⟩ = some (.int .u32 (kN i))
theorem KT.step {w w' : World} (h : KT w) (hb : Below w.heap.size w w') : KT w' :=
  ⟨Nat.lt_of_lt_of_le h.1 hb.size, fun i hi => (hb.cell (World.block_lt_of_cell? w _ (h.2 i hi))).trans (h.2 i hi)⟩

set_option maxRecDepth 100000 in
set_option maxHeartbeats 2000000 in
theorem step_0 (a b c d : Nat) (ws : List Nat) (i : Nat) (p q : Addr) (w : World) (_ha : a < 4294967296) (hb : b < 4294967296) (hc : c < 4294967296) (hd : d < 4294967296) (hl : ws.length = 16) (hi : i < 64) (hi2 : i / 16 = 0) (hK : KT w)
    (hp : w.cell? p = some (.int .i64 1)) (hq : w.cell? q = some (.int .i64 0)) :
    Calls Tryd.prog 66 #[.agg #[.int .u32 a, .int .u32 b, .int .u32 c, .int .u32 d], .agg #[.func (.func 76) #[] #[], .func (.func 84) #[] #[.pointer (some p), .pointer (some q)], .int .i64 7, .int .i64 12, .int .i64 17, .int .i64 22], .int .i64 i, .agg (wc ws)] w fun e w' => e = .returned (.agg (q4 (stepN ws i (a, b, c, d)))) ∧ Below w.heap.size w w' := by
  have hB : Below w.heap.size w ((((w.alloc (.cells #[.int .u32 a, .int .u32 b, .int .u32 c, .int .u32 d] 58)).alloc (.cells #[.func (.func 76) #[] #[], .func (.func 84) #[] #[.pointer (some p), .pointer (some q)], .int .i64 7, .int .i64 12, .int .i64 17, .int .i64 22] 105)).alloc (.cells (wc ws) 100)).alloc (.cells #[.int .u32 0, .int .u32 0, .int .u32 0, .int .u32 0] 58)) := (((((Below.refl _ _).alloc (Nat.le_refl _) _).alloc (by simp) _).alloc (by simp; omega) _).alloc (by simp; omega) _)
  have hk : ((((w.alloc (.cells #[.int .u32 a, .int .u32 b, .int .u32 c, .int .u32 d] 58)).alloc (.cells #[.func (.func 76) #[] #[], .func (.func 84) #[] #[.pointer (some p), .pointer (some q)], .int .i64 7, .int .i64 12, .int .i64 17, .int .i64 22] 105)).alloc (.cells (wc ws) 100)).alloc (.cells #[.int .u32 0, .int .u32 0, .int .u32 0, .int .u32 0] 58)).cell? ⟨0, i, none⟩ = some (.int .u32 (kN i)) := (hK.step hB).2 i hi
  have hi' : (i : Int) < 64 := by omega
  have hm := fun W => mix1_any b c d hb hc hd W
  have hrt : (#[.func (.func 76) #[] #[], .func (.func 84) #[] #[.pointer (some p), .pointer (some q)], .int .i64 7, .int .i64 12, .int .i64 17, .int .i64 22] : Array Value)[2 + i % 4]? = some (.int .i64 (shN 0 i : Nat)) ∧ shN 0 i < 32 := by
    unfold shN
    rcases (show i % 4 = 0 ∨ i % 4 = 1 ∨ i % 4 = 2 ∨ i % 4 = 3 by omega) with h | h | h | h <;> rw [h] <;> exact ⟨rfl, by decide⟩
  have hal : ∀ W, Below w.heap.size w W → Calls Tryd.prog 84 #[.int .i64 i, .pointer (some p), .pointer (some q)] W fun e w' => e = .returned (.int .i64 (idxN 0 i : Nat)) ∧ W = w' := fun W hW =>
    along1_any 1 0 i p q W (by omega) (by omega) (by omega) ((hW.cell (World.block_lt_of_cell? w _ hp)).trans hp) ((hW.cell (World.block_lt_of_cell? w _ hq)).trans hq)
  have hx : idxN 0 i < ws.length := by rw [hl]; exact Nat.mod_lt _ (by decide)
  have hxw := wc_at hx
  obtain ⟨x, hxe⟩ : ∃ x, idxN 0 i = x := ⟨_, rfl⟩
  rw [hxe] at hal hxw hx
  have hx' : (x : Int) < 16 := by omega
  have hst := stepN_eq ws i a b c d
  rw [hi2, hxe] at hst
  obtain ⟨sh, hsh⟩ : ∃ x, shN 0 i = x := ⟨_, rfl⟩
  rw [hsh] at hrt hst
  obtain ⟨m, hme⟩ : ∃ x, mixN 0 b c d = x := ⟨_, rfl⟩
  rw [hme] at hm hst
  obtain ⟨k, hke⟩ : ∃ x, kN i = x := ⟨_, rfl⟩
  rw [hke] at hk hst
  obtain ⟨z, hze⟩ : ∃ y, ws.getD x 0 = y := ⟨_, rfl⟩
  rw [hze] at hxw hst
  have hS : ((a : Int) + m + k + z) % 4294967296 = (((a + m + k + z) % 4294967296 : Nat) : Int) := by omega
  have hr := fun W => rotate_any ((a + m + k + z) % 4294967296) sh (Nat.mod_lt _ (by decide)) hrt.2 W
  rw [← hS] at hr
  have hrt := hrt.1
  have HST := Lib.hid hst
  clear hst hS hze hke hme hsh hxe
  go_enter Tryd.func66, Tryd.ntmps66
  go_wp2_with fail
  go_quiet (fail)
  go_wp2_with fail
  go_quiet ((first | (go_at_call 76; (first | (with_reducible exact qAdd (hm _)) | exact qOne (hm _))) | (go_at_call 84; (first | (with_reducible refine qAdd (hal _ ?_)) | (refine qOne (hal _ ?_))); exact below_drewN hB _)))
  go_wp2_with fail
  refine (hr _).mono ?_
  rintro e w' ⟨rfl, rfl⟩
  go_wp2_with fail
  rw [HST.out]
  refine bodyPost_ret (v := .agg (q4 (d, (b + rotl ((a + m + k + z) % 4294967296) sh) % 4294967296, b, c))) (by simp [results, Tryd.results66, go_sem]) rfl ⟨rfl, ?_⟩
  exact ((((below_drewN hB _).setCell (p := ⟨_, _, _⟩) (by simp; omega) _).setCell (p := ⟨_, _, _⟩) (by simp; omega) _).setCell (p := ⟨_, _, _⟩) (by simp; omega) _).setCell (p := ⟨_, _, _⟩) (by simp; omega) _
set_option maxRecDepth 100000 in
set_option maxHeartbeats 2000000 in
theorem step_1 (a b c d : Nat) (ws : List Nat) (i : Nat) (p q : Addr) (w : World) (_ha : a < 4294967296) (hb : b < 4294967296) (hc : c < 4294967296) (hd : d < 4294967296) (hl : ws.length = 16) (hi : i < 64) (hi2 : i / 16 = 1) (hK : KT w)
    (hp : w.cell? p = some (.int .i64 5)) (hq : w.cell? q = some (.int .i64 1)) :
    Calls Tryd.prog 66 #[.agg #[.int .u32 a, .int .u32 b, .int .u32 c, .int .u32 d], .agg #[.func (.func 79) #[] #[], .func (.func 84) #[] #[.pointer (some p), .pointer (some q)], .int .i64 5, .int .i64 9, .int .i64 14, .int .i64 20], .int .i64 i, .agg (wc ws)] w fun e w' => e = .returned (.agg (q4 (stepN ws i (a, b, c, d)))) ∧ Below w.heap.size w w' := by
  have hB : Below w.heap.size w ((((w.alloc (.cells #[.int .u32 a, .int .u32 b, .int .u32 c, .int .u32 d] 58)).alloc (.cells #[.func (.func 79) #[] #[], .func (.func 84) #[] #[.pointer (some p), .pointer (some q)], .int .i64 5, .int .i64 9, .int .i64 14, .int .i64 20] 105)).alloc (.cells (wc ws) 100)).alloc (.cells #[.int .u32 0, .int .u32 0, .int .u32 0, .int .u32 0] 58)) := (((((Below.refl _ _).alloc (Nat.le_refl _) _).alloc (by simp) _).alloc (by simp; omega) _).alloc (by simp; omega) _)
  have hk : ((((w.alloc (.cells #[.int .u32 a, .int .u32 b, .int .u32 c, .int .u32 d] 58)).alloc (.cells #[.func (.func 79) #[] #[], .func (.func 84) #[] #[.pointer (some p), .pointer (some q)], .int .i64 5, .int .i64 9, .int .i64 14, .int .i64 20] 105)).alloc (.cells (wc ws) 100)).alloc (.cells #[.int .u32 0, .int .u32 0, .int .u32 0, .int .u32 0] 58)).cell? ⟨0, i, none⟩ = some (.int .u32 (kN i)) := (hK.step hB).2 i hi
  have hi' : (i : Int) < 64 := by omega
  have hm := fun W => mix2_any b c d hb hc hd W
  have hrt : (#[.func (.func 79) #[] #[], .func (.func 84) #[] #[.pointer (some p), .pointer (some q)], .int .i64 5, .int .i64 9, .int .i64 14, .int .i64 20] : Array Value)[2 + i % 4]? = some (.int .i64 (shN 1 i : Nat)) ∧ shN 1 i < 32 := by
    unfold shN
    rcases (show i % 4 = 0 ∨ i % 4 = 1 ∨ i % 4 = 2 ∨ i % 4 = 3 by omega) with h | h | h | h <;> rw [h] <;> exact ⟨rfl, by decide⟩
  have hal : ∀ W, Below w.heap.size w W → Calls Tryd.prog 84 #[.int .i64 i, .pointer (some p), .pointer (some q)] W fun e w' => e = .returned (.int .i64 (idxN 1 i : Nat)) ∧ W = w' := fun W hW =>
    along1_any 5 1 i p q W (by omega) (by omega) (by omega) ((hW.cell (World.block_lt_of_cell? w _ hp)).trans hp) ((hW.cell (World.block_lt_of_cell? w _ hq)).trans hq)
  have hx : idxN 1 i < ws.length := by rw [hl]; exact Nat.mod_lt _ (by decide)
  have hxw := wc_at hx
  obtain ⟨x, hxe⟩ : ∃ x, idxN 1 i = x := ⟨_, rfl⟩
  rw [hxe] at hal hxw hx
  have hx' : (x : Int) < 16 := by omega
  have hst := stepN_eq ws i a b c d
  rw [hi2, hxe] at hst
  obtain ⟨sh, hsh⟩ : ∃ x, shN 1 i = x := ⟨_, rfl⟩
  rw [hsh] at hrt hst
  obtain ⟨m, hme⟩ : ∃ x, mixN 1 b c d = x := ⟨_, rfl⟩
  rw [hme] at hm hst
  obtain ⟨k, hke⟩ : ∃ x, kN i = x := ⟨_, rfl⟩
  rw [hke] at hk hst
  obtain ⟨z, hze⟩ : ∃ y, ws.getD x 0 = y := ⟨_, rfl⟩
  rw [hze] at hxw hst
  have hS : ((a : Int) + m + k + z) % 4294967296 = (((a + m + k + z) % 4294967296 : Nat) : Int) := by omega
  have hr := fun W => rotate_any ((a + m + k + z) % 4294967296) sh (Nat.mod_lt _ (by decide)) hrt.2 W
  rw [← hS] at hr
  have hrt := hrt.1
  have HST := Lib.hid hst
  clear hst hS hze hke hme hsh hxe
  go_enter Tryd.func66, Tryd.ntmps66
  go_wp2_with fail
  go_quiet (fail)
  go_wp2_with fail
  go_quiet ((first | (go_at_call 79; (first | (with_reducible exact qAdd (hm _)) | exact qOne (hm _))) | (go_at_call 84; (first | (with_reducible refine qAdd (hal _ ?_)) | (refine qOne (hal _ ?_))); exact below_drewN hB _)))
  go_wp2_with fail
  refine (hr _).mono ?_
  rintro e w' ⟨rfl, rfl⟩
  go_wp2_with fail
  rw [HST.out]
  refine bodyPost_ret (v := .agg (q4 (d, (b + rotl ((a + m + k + z) % 4294967296) sh) % 4294967296, b, c))) (by simp [results, Tryd.results66, go_sem]) rfl ⟨rfl, ?_⟩
  exact ((((below_drewN hB _).setCell (p := ⟨_, _, _⟩) (by simp; omega) _).setCell (p := ⟨_, _, _⟩) (by simp; omega) _).setCell (p := ⟨_, _, _⟩) (by simp; omega) _).setCell (p := ⟨_, _, _⟩) (by simp; omega) _
set_option maxRecDepth 100000 in
set_option maxHeartbeats 2000000 in
theorem step_2 (a b c d : Nat) (ws : List Nat) (i : Nat) (p q : Addr) (w : World) (_ha : a < 4294967296) (hb : b < 4294967296) (hc : c < 4294967296) (hd : d < 4294967296) (hl : ws.length = 16) (hi : i < 64) (hi2 : i / 16 = 2) (hK : KT w)
    (hp : w.cell? p = some (.int .i64 3)) (hq : w.cell? q = some (.int .i64 5)) :
    Calls Tryd.prog 66 #[.agg #[.int .u32 a, .int .u32 b, .int .u32 c, .int .u32 d], .agg #[.func (.func 80) #[] #[], .func (.func 84) #[] #[.pointer (some p), .pointer (some q)], .int .i64 4, .int .i64 11, .int .i64 16, .int .i64 23], .int .i64 i, .agg (wc ws)] w fun e w' => e = .returned (.agg (q4 (stepN ws i (a, b, c, d)))) ∧ Below w.heap.size w w' := by
  have hB : Below w.heap.size w ((((w.alloc (.cells #[.int .u32 a, .int .u32 b, .int .u32 c, .int .u32 d] 58)).alloc (.cells #[.func (.func 80) #[] #[], .func (.func 84) #[] #[.pointer (some p), .pointer (some q)], .int .i64 4, .int .i64 11, .int .i64 16, .int .i64 23] 105)).alloc (.cells (wc ws) 100)).alloc (.cells #[.int .u32 0, .int .u32 0, .int .u32 0, .int .u32 0] 58)) := (((((Below.refl _ _).alloc (Nat.le_refl _) _).alloc (by simp) _).alloc (by simp; omega) _).alloc (by simp; omega) _)
  have hk : ((((w.alloc (.cells #[.int .u32 a, .int .u32 b, .int .u32 c, .int .u32 d] 58)).alloc (.cells #[.func (.func 80) #[] #[], .func (.func 84) #[] #[.pointer (some p), .pointer (some q)], .int .i64 4, .int .i64 11, .int .i64 16, .int .i64 23] 105)).alloc (.cells (wc ws) 100)).alloc (.cells #[.int .u32 0, .int .u32 0, .int .u32 0, .int .u32 0] 58)).cell? ⟨0, i, none⟩ = some (.int .u32 (kN i)) := (hK.step hB).2 i hi
  have hi' : (i : Int) < 64 := by omega
  have hm := fun W => mix3_any b c d hb hc hd W
  have hrt : (#[.func (.func 80) #[] #[], .func (.func 84) #[] #[.pointer (some p), .pointer (some q)], .int .i64 4, .int .i64 11, .int .i64 16, .int .i64 23] : Array Value)[2 + i % 4]? = some (.int .i64 (shN 2 i : Nat)) ∧ shN 2 i < 32 := by
    unfold shN
    rcases (show i % 4 = 0 ∨ i % 4 = 1 ∨ i % 4 = 2 ∨ i % 4 = 3 by omega) with h | h | h | h <;> rw [h] <;> exact ⟨rfl, by decide⟩
  have hal : ∀ W, Below w.heap.size w W → Calls Tryd.prog 84 #[.int .i64 i, .pointer (some p), .pointer (some q)] W fun e w' => e = .returned (.int .i64 (idxN 2 i : Nat)) ∧ W = w' := fun W hW =>
    along1_any 3 5 i p q W (by omega) (by omega) (by omega) ((hW.cell (World.block_lt_of_cell? w _ hp)).trans hp) ((hW.cell (World.block_lt_of_cell? w _ hq)).trans hq)
  have hx : idxN 2 i < ws.length := by rw [hl]; exact Nat.mod_lt _ (by decide)
  have hxw := wc_at hx
  obtain ⟨x, hxe⟩ : ∃ x, idxN 2 i = x := ⟨_, rfl⟩
  rw [hxe] at hal hxw hx
  have hx' : (x : Int) < 16 := by omega
  have hst := stepN_eq ws i a b c d
  rw [hi2, hxe] at hst
  obtain ⟨sh, hsh⟩ : ∃ x, shN 2 i = x := ⟨_, rfl⟩
  rw [hsh] at hrt hst
  obtain ⟨m, hme⟩ : ∃ x, mixN 2 b c d = x := ⟨_, rfl⟩
  rw [hme] at hm hst
  obtain ⟨k, hke⟩ : ∃ x, kN i = x := ⟨_, rfl⟩
  rw [hke] at hk hst
  obtain ⟨z, hze⟩ : ∃ y, ws.getD x 0 = y := ⟨_, rfl⟩
  rw [hze] at hxw hst
  have hS : ((a : Int) + m + k + z) % 4294967296 = (((a + m + k + z) % 4294967296 : Nat) : Int) := by omega
  have hr := fun W => rotate_any ((a + m + k + z) % 4294967296) sh (Nat.mod_lt _ (by decide)) hrt.2 W
  rw [← hS] at hr
  have hrt := hrt.1
  have HST := Lib.hid hst
  clear hst hS hze hke hme hsh hxe
  go_enter Tryd.func66, Tryd.ntmps66
  go_wp2_with fail
  go_quiet (fail)
  go_wp2_with fail
  go_quiet ((first | (go_at_call 80; (first | (with_reducible exact qAdd (hm _)) | exact qOne (hm _))) | (go_at_call 84; (first | (with_reducible refine qAdd (hal _ ?_)) | (refine qOne (hal _ ?_))); exact below_drewN hB _)))
  go_wp2_with fail
  refine (hr _).mono ?_
  rintro e w' ⟨rfl, rfl⟩
  go_wp2_with fail
  rw [HST.out]
  refine bodyPost_ret (v := .agg (q4 (d, (b + rotl ((a + m + k + z) % 4294967296) sh) % 4294967296, b, c))) (by simp [results, Tryd.results66, go_sem]) rfl ⟨rfl, ?_⟩
  exact ((((below_drewN hB _).setCell (p := ⟨_, _, _⟩) (by simp; omega) _).setCell (p := ⟨_, _, _⟩) (by simp; omega) _).setCell (p := ⟨_, _, _⟩) (by simp; omega) _).setCell (p := ⟨_, _, _⟩) (by simp; omega) _
set_option maxRecDepth 100000 in
set_option maxHeartbeats 2000000 in
theorem step_3 (a b c d : Nat) (ws : List Nat) (i : Nat) (p q : Addr) (w : World) (_ha : a < 4294967296) (hb : b < 4294967296) (hc : c < 4294967296) (hd : d < 4294967296) (hl : ws.length = 16) (hi : i < 64) (hi2 : i / 16 = 3) (hK : KT w)
    (hp : w.cell? p = some (.int .i64 7)) (hq : w.cell? q = some (.int .i64 0)) :
    Calls Tryd.prog 66 #[.agg #[.int .u32 a, .int .u32 b, .int .u32 c, .int .u32 d], .agg #[.func (.func 81) #[] #[], .func (.func 84) #[] #[.pointer (some p), .pointer (some q)], .int .i64 6, .int .i64 10, .int .i64 15, .int .i64 21], .int .i64 i, .agg (wc ws)] w fun e w' => e = .returned (.agg (q4 (stepN ws i (a, b, c, d)))) ∧ Below w.heap.size w w' := by
  have hB : Below w.heap.size w ((((w.alloc (.cells #[.int .u32 a, .int .u32 b, .int .u32 c, .int .u32 d] 58)).alloc (.cells #[.func (.func 81) #[] #[], .func (.func 84) #[] #[.pointer (some p), .pointer (some q)], .int .i64 6, .int .i64 10, .int .i64 15, .int .i64 21] 105)).alloc (.cells (wc ws) 100)).alloc (.cells #[.int .u32 0, .int .u32 0, .int .u32 0, .int .u32 0] 58)) := (((((Below.refl _ _).alloc (Nat.le_refl _) _).alloc (by simp) _).alloc (by simp; omega) _).alloc (by simp; omega) _)
  have hk : ((((w.alloc (.cells #[.int .u32 a, .int .u32 b, .int .u32 c, .int .u32 d] 58)).alloc (.cells #[.func (.func 81) #[] #[], .func (.func 84) #[] #[.pointer (some p), .pointer (some q)], .int .i64 6, .int .i64 10, .int .i64 15, .int .i64 21] 105)).alloc (.cells (wc ws) 100)).alloc (.cells #[.int .u32 0, .int .u32 0, .int .u32 0, .int .u32 0] 58)).cell? ⟨0, i, none⟩ = some (.int .u32 (kN i)) := (hK.step hB).2 i hi
  have hi' : (i : Int) < 64 := by omega
  have hm := fun W => mix4_any b c d hb hc hd W
  have hrt : (#[.func (.func 81) #[] #[], .func (.func 84) #[] #[.pointer (some p), .pointer (some q)], .int .i64 6, .int .i64 10, .int .i64 15, .int .i64 21] : Array Value)[2 + i % 4]? = some (.int .i64 (shN 3 i : Nat)) ∧ shN 3 i < 32 := by
    unfold shN
    rcases (show i % 4 = 0 ∨ i % 4 = 1 ∨ i % 4 = 2 ∨ i % 4 = 3 by omega) with h | h | h | h <;> rw [h] <;> exact ⟨rfl, by decide⟩
  have hal : ∀ W, Below w.heap.size w W → Calls Tryd.prog 84 #[.int .i64 i, .pointer (some p), .pointer (some q)] W fun e w' => e = .returned (.int .i64 (idxN 3 i : Nat)) ∧ W = w' := fun W hW =>
    along1_any 7 0 i p q W (by omega) (by omega) (by omega) ((hW.cell (World.block_lt_of_cell? w _ hp)).trans hp) ((hW.cell (World.block_lt_of_cell? w _ hq)).trans hq)
  have hx : idxN 3 i < ws.length := by rw [hl]; exact Nat.mod_lt _ (by decide)
  have hxw := wc_at hx
  obtain ⟨x, hxe⟩ : ∃ x, idxN 3 i = x := ⟨_, rfl⟩
  rw [hxe] at hal hxw hx
  have hx' : (x : Int) < 16 := by omega
  have hst := stepN_eq ws i a b c d
  rw [hi2, hxe] at hst
  obtain ⟨sh, hsh⟩ : ∃ x, shN 3 i = x := ⟨_, rfl⟩
  rw [hsh] at hrt hst
  obtain ⟨m, hme⟩ : ∃ x, mixN 3 b c d = x := ⟨_, rfl⟩
  rw [hme] at hm hst
  obtain ⟨k, hke⟩ : ∃ x, kN i = x := ⟨_, rfl⟩
  rw [hke] at hk hst
  obtain ⟨z, hze⟩ : ∃ y, ws.getD x 0 = y := ⟨_, rfl⟩
  rw [hze] at hxw hst
  have hS : ((a : Int) + m + k + z) % 4294967296 = (((a + m + k + z) % 4294967296 : Nat) : Int) := by omega
  have hr := fun W => rotate_any ((a + m + k + z) % 4294967296) sh (Nat.mod_lt _ (by decide)) hrt.2 W
  rw [← hS] at hr
  have hrt := hrt.1
  have HST := Lib.hid hst
  clear hst hS hze hke hme hsh hxe
  go_enter Tryd.func66, Tryd.ntmps66
  go_wp2_with fail
  go_quiet (fail)
  go_wp2_with fail
  go_quiet ((first | (go_at_call 81; (first | (with_reducible exact qAdd (hm _)) | exact qOne (hm _))) | (go_at_call 84; (first | (with_reducible refine qAdd (hal _ ?_)) | (refine qOne (hal _ ?_))); exact below_drewN hB _)))
  go_wp2_with fail
  refine (hr _).mono ?_
  rintro e w' ⟨rfl, rfl⟩
  go_wp2_with fail
  rw [HST.out]
  refine bodyPost_ret (v := .agg (q4 (d, (b + rotl ((a + m + k + z) % 4294967296) sh) % 4294967296, b, c))) (by simp [results, Tryd.results66, go_sem]) rfl ⟨rfl, ?_⟩
  exact ((((below_drewN hB _).setCell (p := ⟨_, _, _⟩) (by simp; omega) _).setCell (p := ⟨_, _, _⟩) (by simp; omega) _).setCell (p := ⟨_, _, _⟩) (by simp; omega) _).setCell (p := ⟨_, _, _⟩) (by simp; omega) _
end Go.Proofs.YtlimkbnnjhjcgaaDoor
