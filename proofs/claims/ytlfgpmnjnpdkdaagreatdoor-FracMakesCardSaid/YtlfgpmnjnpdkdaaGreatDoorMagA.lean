/- Contracts of the small functions on magnitudes: word, trim, fromWord, IsZero, order. Contracts of sums, -/
import Derived.Test.YtlfgpmnjnpdkdaaGreatDoorProg
import Derived.Test.YtlfgpmnjnpdkdaaGreatDoorNum
import Derived.Test.YtlfgpmnjnpdkdaaGreatDoorMem
import Derived.WalkKit
import Derived.WalkSpells
import Derived.WalkLawsBesides
import Derived.Deep.LoopGhost
import Derived.Deep.QuietTactic
import Derived.BigQuiet
import Derived.Lib.Hide
import Derived.Shelf.Spec.BitsCarry
import Derived.Deep.OwnRows
import Derived.Test.YtlfgpmnjnpdkdaaGreatDoorShelf
namespace Go.Proofs.YtlfgpmnjnpdkdaaGreatDoor
open Go.RowKit Vd
def B64 : Nat := 18446744073709551616
theorem B64_eq : B64 = 18446744073709551616 := rfl
theorem two_le_B : 2 ≤ B64 := by decide
def U (x : Nat) : Value := .int .u64 (x : Int)
set_option maxHeartbeats 400000 in
theorem word_any (A : Option Addr) (n c : Nat) (xs : List Nat) (i : Nat) (w : World) (h : Sl w U A n xs) (hn : n ≤ 9223372036854775807) (hi : i ≤ 9223372036854775807) :
 Calls Tryz.prog 160 #[.slice A n c,.int .i64 (i : Int)] w fun e w' => e = .returned (.int .u64 ((nth xs i : Nat) : Int)) ∧ w = w' := by
 have hl := h.len
 by_cases hlt : i < n
 · obtain ⟨g,o,rfl,hg,hc⟩ := h.at_ (by omega)
   have hcell := hc i hlt
   have hlt' : (i : Int) < (n : Int) := by omega
   unfold U at hcell
   clear hc h
   go_enter Tryz.func160,Tryz.ntmps160
   go_wp2
   go_ret
   exact ⟨rfl,rfl⟩
 · have hge : ¬ (i : Int) < (n : Int) := by omega
   have hz : nth xs i = 0 := nth_ge (by omega)
   rw [hz]
   clear h hz hl
   go_enter Tryz.func160,Tryz.ntmps160
   go_wp2
   go_ret
   exact ⟨rfl,rfl⟩
set_option maxHeartbeats 400000 in
theorem order_any (b : Bool) (w : World) :
 Calls Tryz.prog 116 #[.bool b] w fun e w' => e = .returned (.int .i64 (if b then -1 else 1)) ∧ w = w' := by
 cases b
 all_goals
  go_enter Tryz.func116,Tryz.ntmps116
  go_wp2
  go_ret
  exact ⟨rfl,rfl⟩
theorem order_true (w : World) : Calls Tryz.prog 116 #[.bool true] w fun e w' => e = .returned (.int .i64 (-1)) ∧ w = w' := order_any true w
theorem order_false (w : World) : Calls Tryz.prog 116 #[.bool false] w fun e w' => e = .returned (.int .i64 1) ∧ w = w' := order_any false w
set_option maxHeartbeats 400000 in
theorem isZero_any (A : Option Addr) (n c : Nat) (w : World) :
 Calls Tryz.prog 59 #[.slice A n c] w fun e w' => e = .returned (.bool (decide (n = 0))) ∧ w = w' := by
 go_enter Tryz.func59,Tryz.ntmps59
 go_wp2
 go_ret
 refine ⟨?_,rfl⟩
 show Ending.returned (.bool ((n : Int) == 0)) = _
 rw [show ((n : Int) == 0) = decide (n = 0) from by rw [Bool.eq_iff_iff];simp]
def IsTrim (xs : List Nat) (k : Nat) : Prop := k ≤ xs.length ∧ (∀ j,k ≤ j → nth xs j = 0) ∧ (0 < k → nth xs (k - 1) ≠ 0)
set_option maxHeartbeats 400000 in
theorem trim_any (A : Option Addr) (n c : Nat) (xs : List Nat) (w : World) (h : Sl w U A n xs) (hc : n ≤ c) (hn : c ≤ 9223372036854775807) :
 Calls Tryz.prog 140 #[.slice A n c] w fun e w' => ∃ k,e = .returned (.slice A k c) ∧ IsTrim xs k ∧ w = w' := by
 go_enter Tryz.func140,Tryz.ntmps140
 go_wp2
 go_loop [3] (fun i => ∃ k : Nat,k ≤ n ∧ i = .int .i64 k ∧ (∀ j,k ≤ j → nth xs j = 0)) (fun i => (intOf i).toNat)
 case atStart => exact ⟨n,Nat.le_refl _,rfl,fun j hj => nth_ge (by have := h.len;omega)⟩
 case round =>
  obtain ⟨k,hk,rfl,hz⟩ := hrel
  cases k with
  | zero =>
    go_wp2
    go_ret
    exact ⟨0,rfl,⟨Nat.zero_le _,hz,fun h => absurd h (by omega)⟩,rfl⟩
  | succ j =>
    obtain ⟨g,o,rfl,hg,hcell⟩ := h.at_ (by omega)
    have h1 := hcell j (by omega)
    unfold U at h1
    clear hcell
    by_cases h0 : nth xs j = 0
    · rw [h0] at h1
      go_wp2
      refine ⟨⟨j,by omega,rfl,fun i hi => ?_⟩,by simp [intOf]⟩
      rcases Nat.eq_or_lt_of_le hi with e | e
      · rw [← e];exact h0
      · exact hz i (by omega)
    · have h2 : ((nth xs j : Int) == 0) = false := by rw [beq_eq_false_iff_ne];omega
      go_wp2
      go_ret
      exact ⟨j + 1,rfl,⟨by have := h.len;omega,hz,fun _ => by simpa using h0⟩,rfl⟩
def MagV (w : World) (v : Value) (n : Nat) : Prop := ∃ A c,v = .slice A (wlen B64 n) c ∧ wlen B64 n ≤ c ∧ c ≤ 9223372036854775807 ∧ Sl w U A (wlen B64 n) (ws B64 n)
theorem IsTrim.take {xs : List Nat} {k : Nat} (h : IsTrim xs k) (ho : Ok B64 xs) : xs.take k = ws B64 (val B64 xs) :=
 ws_of_pad two_le_B ho rfl h.1 h.2.1 (fun x hk hx => by
  have := h.2.2 hk
  unfold nth at this
  rw [hx] at this
  exact this)
theorem IsTrim.len {xs : List Nat} {k : Nat} (h : IsTrim xs k) (ho : Ok B64 xs) : k = wlen B64 (val B64 xs) := by
 have := congrArg List.length (h.take ho)
 rw [List.length_take,Nat.min_eq_left h.1] at this
 exact this
theorem MagV.of_trim {w : World} {A : Option Addr} {n c k : Nat} {xs : List Nat} (h : Sl w U A n xs) (ho : Ok B64 xs) (ht : IsTrim xs k) (hc : n ≤ c) (hn : c ≤ 9223372036854775807) : MagV w (.slice A k c) (val B64 xs) := by
 have hk := ht.len ho
 have hkn : k ≤ n := by have := ht.1;have := h.len;omega
 have hs := h.take hkn
 rw [ht.take ho] at hs
 subst hk
 exact ⟨A,c,rfl,by omega,hn,hs⟩
theorem MagV.below {w w' : World} {v : Value} {n : Nat} (h : MagV w v n) (hb : Below w.heap.size w w') : MagV w' v n := by
 obtain ⟨A,c,e,h1,h2,h3⟩ := h
 exact ⟨A,c,e,h1,h2,h3.below hb⟩
theorem MagV.drewN {w : World} {v : Value} {n : Nat} (h : MagV w v n) (k : Nat) : MagV (w.drewN k) v n := h
theorem trim_mag (A : Option Addr) (n c : Nat) (xs : List Nat) (w : World) (h : Sl w U A n xs) (ho : Ok B64 xs) (hc : n ≤ c) (hn : c ≤ 9223372036854775807) :
 Calls Tryz.prog 140 #[.slice A n c] w fun e w' => ∃ v,e = .returned v ∧ MagV w' v (val B64 xs) ∧ w = w' := by
 refine (trim_any A n c xs w h hc hn).mono ?_
 rintro e w' ⟨k,he,ht,rfl⟩
 exact ⟨_,he,MagV.of_trim h ho ht hc hn,rfl⟩
set_option maxHeartbeats 400000 in
theorem fromWord_any (x : Nat) (hx : x < B64) (w : World) :
 Calls Tryz.prog 109 #[.int .u64 (x : Int)] w fun e w' => ∃ v,e = .returned v ∧ MagV w' v x ∧ Below w.heap.size w w' := by
 go_enter Tryz.func109,Tryz.ntmps109
 have hw := Row.new w U 139 [x]
 have ht := fun W (h : Row W U w.heap.size 139 [x]) => trim_mag (some ⟨w.heap.size,0,none⟩) 1 1 [x] W h.sl0 (Ok.cons hx Ok.nil) (by omega) (by omega)
 clear hx
 go_wp2_with (refine (ht _ hw).mono ?_;rintro e w' ⟨v,rfl,hm,rfl⟩)
 go_ret
 refine ⟨v,rfl,?_,(Below.refl _ _).alloc (Nat.le_refl _) _⟩
 simpa [val_cons] using hm
def addLo (x y c : Nat) : Nat := (x + y + c) % B64
def addHi (x y c : Nat) : Nat := (x + y + c) / B64
def subLo (x y b : Nat) : Nat := (x + B64 - y - b) % B64
def subHi (x y b : Nat) : Nat := if x < y + b then 1 else 0
def mulLo (x y : Nat) : Nat := x * y % B64
def mulHi (x y : Nat) : Nat := x * y / B64
theorem add_eq (x y c : Nat) : addLo x y c + B64 * addHi x y c = x + y + c := Nat.mod_add_div _ _
theorem addLo_lt (x y c : Nat) : addLo x y c < B64 := Nat.mod_lt _ (by decide)
theorem addHi_le {x y c : Nat} (hx : x < B64) (hy : y < B64) (hc : c ≤ 1) : addHi x y c ≤ 1 := by unfold addHi;rw [B64_eq] at *;omega
theorem sub_eq {x y b : Nat} (hx : x < B64) (hy : y < B64) (hb : b ≤ 1) : subLo x y b + y + b = x + B64 * subHi x y b := by
 unfold subLo subHi;rw [B64_eq] at *;split <;> omega
theorem subLo_lt (x y b : Nat) : subLo x y b < B64 := Nat.mod_lt _ (by decide)
theorem subHi_le (x y b : Nat) : subHi x y b ≤ 1 := by unfold subHi;split <;> omega
theorem mul_eq (x y : Nat) : mulLo x y + B64 * mulHi x y = x * y := Nat.mod_add_div _ _
theorem add64_run (x y c : Nat) (hc : c ≤ 1) (w : World) :
 (callFunc 177 #[.int .u64 (x : Int),.int .u64 (y : Int),.int .u64 (c : Int)]).run Tryz.prog w =
  .ok (.value (.tuple #[.int .u64 ((addLo x y c : Nat) : Int),.int .u64 ((addHi x y c : Nat) : Int)])) w := by
 rw [run_callFunc_extern (fn := Tryz.f177) (by kernel_rfl) (by kernel_rfl) (by kernel_rfl) (by kernel_rfl) (e := add64Entry) (by kernel_rfl),run_add64 x y c (by omega) (by omega) (by omega) (by omega)]
 simp only [Result.andThen,addLo,addHi,B64_eq]
 congr 5 <;> omega
theorem add64_run0 (x y : Nat) (w : World) :
 (callFunc 177 #[.int .u64 (x : Int),.int .u64 (y : Int),.int .u64 0]).run Tryz.prog w =
  .ok (.value (.tuple #[.int .u64 ((addLo x y 0 : Nat) : Int),.int .u64 ((addHi x y 0 : Nat) : Int)])) w := add64_run x y 0 (by omega) w
theorem sub64_run (x y b : Nat) (hb : b ≤ 1) (w : World) :
 (callFunc 178 #[.int .u64 (x : Int),.int .u64 (y : Int),.int .u64 (b : Int)]).run Tryz.prog w =
  .ok (.value (.tuple #[.int .u64 ((subLo x y b : Nat) : Int),.int .u64 ((subHi x y b : Nat) : Int)])) w := by
 rw [run_callFunc_extern (fn := Tryz.f178) (by kernel_rfl) (by kernel_rfl) (by kernel_rfl) (by kernel_rfl) (e := sub64Entry) (by kernel_rfl),run_sub64 x y b hb]
 rfl
end Go.Proofs.YtlfgpmnjnpdkdaaGreatDoor
namespace Go.Proofs.YtlfgpmnjnpdkdaaGreatDoor
open Go.RowKit Vd
def maxW : Nat := 1099511627776
theorem infoU : (Tryz.prog.info? 139).map (fun i => (i.zero,i.size,i.bytes)) = some (some (.int .u64 0),1,8) := by kernel_rfl
theorem mkU (n : Nat) (hn : n ≤ 3 * maxW) (w : World) : (Instr.makeSlice 78 (.int .i64 (n : Int)) (.int .i64 (n : Int))).run Tryz.prog w = .ok (.slice (some ⟨w.heap.size,0,none⟩) n n) (w.alloc (.cells ((List.replicate n 0).map U).toArray 139)) := by
 have h := run_make_row' (P := Tryz.prog) 78 139 (.int .u64 0) 8 Tryz.underlying78 infoU rfl .i64 .i64 n (by unfold maxW at hn;omega) (by unfold maxW at hn;omega) w
 rw [← madeCells_eq]
 exact h
set_option maxRecDepth 100000 in
set_option maxHeartbeats 1000000 in
theorem sum_core (A1 A2 : Option Addr) (n1 n2 c1 c2 : Nat) (xs ys : List Nat) (w : World) (hx : Sl w U A1 n1 xs) (hy : Sl w U A2 n2 ys) (ox : Ok B64 xs) (oy : Ok B64 ys) (hn : n1 ≤ maxW) (hle : n2 ≤ n1) :
 Calls Tryz.prog 149 #[.slice A1 n1 c1,.slice A2 n2 c2] w fun e w' => ∃ v,e = .returned v ∧ MagV w' v (val B64 xs + val B64 ys) ∧ Below w.heap.size w w' := by
 have hn' := hn
 unfold maxW at hn'
 have hmk := fun W => mkU (n1 + 1) (by unfold maxW;omega) W
 rw [show (((n1 + 1 : Nat)) : Int) = (n1 : Int) + 1 from rfl] at hmk
 have HX := Lib.hid hx.len
 have HY := Lib.hid hy.len
 have hnl : ¬ (n1 : Int) < (n2 : Int) := by omega
 go_enter Tryz.func149,Tryz.ntmps149
 go_wp2
 go_loopw [6,22] (fun c i wr => ∃ (k cc : Nat) (ss : List Nat),k ≤ n1 ∧ i = .int .i64 k ∧ c = .int .u64 cc ∧ cc ≤ 1 ∧ ss.length = n1 + 1 ∧ Ok B64 ss ∧ Row wr U w.heap.size 139 ss ∧
  val B64 (ss.take k) + cc * B64 ^ k = val B64 (xs.take k) + val B64 (ys.take k) ∧ Below w.heap.size w wr) (fun _ i _ => n1 - (intOf i).toNat)
 case atStart => exact ⟨0,0,List.replicate (n1 + 1) 0,Nat.zero_le _,rfl,rfl,Nat.zero_le _,by simp,Ok.rep two_le_B _,Row.newRep w U _ _,by simp,(Below.refl _ _).alloc (Nat.le_refl _) _⟩
 case round =>
  obtain ⟨k,cc,ss,hk,rfl,rfl,hcc,hls,oss,hrow,hval,hbel⟩ := hrel
  by_cases hlt : k < n1
  · obtain ⟨g,o,rfl,hg,hcell⟩ := hx.at_ (by omega)
    have hcx := (hbel.cell (p := ⟨g,o + k,none⟩) hg).trans (hcell k hlt)
    have hcs := hrow.cell (i := k) (by omega)
    have hfs := hrow.frozen k
    have hyr := hy.below hbel
    have hlt' : (k : Int) < (n1 : Int) := by omega
    unfold U at hcx hcs
    clear hcell
    have Hv := Lib.hid hval
    have Hl := Lib.hid hls
    clear hval hls
    clear hx hy hmk
    go_wp2_with fail
    refine (word_any A2 n2 c2 ys k _ hyr (by omega) (by omega)).mono ?_
    rintro e w1 ⟨rfl,rfl⟩
    go_wp2_with (simp only [add64_run _ _ _ hcc])
    have hx1 := ox.get two_le_B k
    have hy1 := oy.get two_le_B k
    have ea := add_eq (nth xs k) (nth ys k) cc
    have eb := addHi_le hx1 hy1 hcc
    have ec := addLo_lt (nth xs k) (nth ys k) cc
    refine ⟨⟨k + 1,addHi (nth xs k) (nth ys k) cc,ss.set k (addLo (nth xs k) (nth ys k) cc),by omega,by go_num,rfl,eb,by rw [List.length_set];exact Hl.out,oss.set ec,hrow.set k _,?_,hbel.setCell (Nat.le_refl _) _⟩,by simp [intOf];omega⟩
    rw [val_take_set _ _ _ (by rw [Hl.out];omega),val_take_succ,val_take_succ,Nat.pow_succ]
    exact carry_step _ _ _ _ _ _ _ _ _ _ Hv.out ea
  · obtain rfl : k = n1 := by omega
    have hcs := hrow.cell (i := k) (by omega)
    have hfs := hrow.frozen k
    unfold U at hcs
    have hr2 := hrow.set k cc
    have hcc2 : cc < B64 := by rw [B64_eq];omega
    have o2 := oss.set (i := k) hcc2
    have hl2 : (ss.set k cc).length = k + 1 := by rw [List.length_set];exact hls
    have ht := trim_mag (some ⟨w.heap.size,0,none⟩) (k + 1) (k + 1) (ss.set k cc) _ (by have := hr2.sl0;rw [hl2] at this;exact this) o2 (by omega) (by omega)
    unfold U at ht
    have Hl := Lib.hid hls
    have Hl2 := Lib.hid hl2
    have Hv := Lib.hid hval
    clear hls hl2 hval
    clear hx hy hrow hr2
    go_wp2_with (refine ht.mono ?_;rintro e w1 ⟨v,rfl,hm,rfl⟩)
    go_ret
    refine ⟨v,rfl,?_,hbel.setCell (Nat.le_refl _) _⟩
    have e : val B64 (ss.set k cc) = val B64 xs + val B64 ys := by
     have h1 := val_take_set (b := B64) ss k cc (by rw [Hl.out];omega)
     rw [List.take_of_length_le (by rw [Hl2.out];omega)] at h1
     rw [h1,Hv.out]
     rw [List.take_of_length_le (by rw [HX.out];omega),List.take_of_length_le (by rw [HY.out];omega)]
    rw [← e]
    exact hm
set_option maxRecDepth 100000 in
set_option maxHeartbeats 1000000 in
theorem sum_swap (A1 A2 : Option Addr) (n1 n2 c1 c2 : Nat) (xs ys : List Nat) (w : World) (hx : Sl w U A1 n1 xs) (hy : Sl w U A2 n2 ys) (ox : Ok B64 xs) (oy : Ok B64 ys) (hn : n1 ≤ maxW) (hle : n2 < n1) :
 Calls Tryz.prog 149 #[.slice A2 n2 c2,.slice A1 n1 c1] w fun e w' => ∃ v,e = .returned v ∧ MagV w' v (val B64 xs + val B64 ys) ∧ Below w.heap.size w w' := by
 have hn' := hn
 unfold maxW at hn'
 have hmk := fun W => mkU (n1 + 1) (by unfold maxW;omega) W
 rw [show (((n1 + 1 : Nat)) : Int) = (n1 : Int) + 1 from rfl] at hmk
 have HX := Lib.hid hx.len
 have HY := Lib.hid hy.len
 have hnl : (n2 : Int) < (n1 : Int) := by omega
 go_enter Tryz.func149,Tryz.ntmps149
 go_wp2
 go_loopw [6,22] (fun c i wr => ∃ (k cc : Nat) (ss : List Nat),k ≤ n1 ∧ i = .int .i64 k ∧ c = .int .u64 cc ∧ cc ≤ 1 ∧ ss.length = n1 + 1 ∧ Ok B64 ss ∧ Row wr U w.heap.size 139 ss ∧
  val B64 (ss.take k) + cc * B64 ^ k = val B64 (xs.take k) + val B64 (ys.take k) ∧ Below w.heap.size w wr) (fun _ i _ => n1 - (intOf i).toNat)
 case atStart => exact ⟨0,0,List.replicate (n1 + 1) 0,Nat.zero_le _,rfl,rfl,Nat.zero_le _,by simp,Ok.rep two_le_B _,Row.newRep w U _ _,by simp,(Below.refl _ _).alloc (Nat.le_refl _) _⟩
 case round =>
  obtain ⟨k,cc,ss,hk,rfl,rfl,hcc,hls,oss,hrow,hval,hbel⟩ := hrel
  by_cases hlt : k < n1
  · obtain ⟨g,o,rfl,hg,hcell⟩ := hx.at_ (by omega)
    have hcx := (hbel.cell (p := ⟨g,o + k,none⟩) hg).trans (hcell k hlt)
    have hcs := hrow.cell (i := k) (by omega)
    have hfs := hrow.frozen k
    have hyr := hy.below hbel
    have hlt' : (k : Int) < (n1 : Int) := by omega
    unfold U at hcx hcs
    clear hcell
    have Hv := Lib.hid hval
    have Hl := Lib.hid hls
    clear hval hls
    clear hx hy hmk
    go_wp2_with fail
    refine (word_any A2 n2 c2 ys k _ hyr (by omega) (by omega)).mono ?_
    rintro e w1 ⟨rfl,rfl⟩
    go_wp2_with (simp only [add64_run _ _ _ hcc])
    have hx1 := ox.get two_le_B k
    have hy1 := oy.get two_le_B k
    have ea := add_eq (nth xs k) (nth ys k) cc
    have eb := addHi_le hx1 hy1 hcc
    have ec := addLo_lt (nth xs k) (nth ys k) cc
    refine ⟨⟨k + 1,addHi (nth xs k) (nth ys k) cc,ss.set k (addLo (nth xs k) (nth ys k) cc),by omega,by go_num,rfl,eb,by rw [List.length_set];exact Hl.out,oss.set ec,hrow.set k _,?_,hbel.setCell (Nat.le_refl _) _⟩,by simp [intOf];omega⟩
    rw [val_take_set _ _ _ (by rw [Hl.out];omega),val_take_succ,val_take_succ,Nat.pow_succ]
    exact carry_step _ _ _ _ _ _ _ _ _ _ Hv.out ea
  · obtain rfl : k = n1 := by omega
    have hcs := hrow.cell (i := k) (by omega)
    have hfs := hrow.frozen k
    unfold U at hcs
    have hr2 := hrow.set k cc
    have hcc2 : cc < B64 := by rw [B64_eq];omega
    have o2 := oss.set (i := k) hcc2
    have hl2 : (ss.set k cc).length = k + 1 := by rw [List.length_set];exact hls
    have ht := trim_mag (some ⟨w.heap.size,0,none⟩) (k + 1) (k + 1) (ss.set k cc) _ (by have := hr2.sl0;rw [hl2] at this;exact this) o2 (by omega) (by omega)
    unfold U at ht
    have Hl := Lib.hid hls
    have Hl2 := Lib.hid hl2
    have Hv := Lib.hid hval
    clear hls hl2 hval
    clear hx hy hrow hr2
    go_wp2_with (refine ht.mono ?_;rintro e w1 ⟨v,rfl,hm,rfl⟩)
    go_ret
    refine ⟨v,rfl,?_,hbel.setCell (Nat.le_refl _) _⟩
    have e : val B64 (ss.set k cc) = val B64 xs + val B64 ys := by
     have h1 := val_take_set (b := B64) ss k cc (by rw [Hl.out];omega)
     rw [List.take_of_length_le (by rw [Hl2.out];omega)] at h1
     rw [h1,Hv.out]
     rw [List.take_of_length_le (by rw [HX.out];omega),List.take_of_length_le (by rw [HY.out];omega)]
    rw [← e]
    exact hm
theorem MagV.ok_len {w : World} {v : Value} {n : Nat} (h : MagV w v n) : ∃ A c,v = .slice A (wlen B64 n) c ∧ wlen B64 n ≤ c ∧ Sl w U A (wlen B64 n) (ws B64 n) := by
 obtain ⟨A,c,e,h1,_,h3⟩ := h
 exact ⟨A,c,e,h1,h3⟩
theorem sum_any (v1 v2 : Value) (m o : Nat) (w : World) (h1 : MagV w v1 m) (h2 : MagV w v2 o) (b1 : wlen B64 m ≤ maxW) (b2 : wlen B64 o ≤ maxW) :
 Calls Tryz.prog 149 #[v1,v2] w fun e w' => ∃ v,e = .returned v ∧ MagV w' v (m + o) ∧ Below w.heap.size w w' := by
 obtain ⟨A1,c1,rfl,_,s1⟩ := h1.ok_len
 obtain ⟨A2,c2,rfl,_,s2⟩ := h2.ok_len
 rcases Nat.lt_or_ge (wlen B64 m) (wlen B64 o) with h | h
 · refine (sum_swap A2 A1 _ _ c2 c1 _ _ w s2 s1 (ok_ws _) (ok_ws _) b2 h).mono ?_
   rintro e w' ⟨v,he,hm,hb⟩
   rw [val_ws two_le_B,val_ws two_le_B,Nat.add_comm] at hm
   exact ⟨v,he,hm,hb⟩
 · refine (sum_core A1 A2 _ _ c1 c2 _ _ w s1 s2 (ok_ws _) (ok_ws _) b1 h).mono ?_
   rintro e w' ⟨v,he,hm,hb⟩
   rw [val_ws two_le_B,val_ws two_le_B] at hm
   exact ⟨v,he,hm,hb⟩
end Go.Proofs.YtlfgpmnjnpdkdaaGreatDoor
namespace Go.Proofs.YtlfgpmnjnpdkdaaGreatDoor
open Go.RowKit Vd
set_option maxRecDepth 100000 in
set_option maxHeartbeats 1000000 in
theorem diff_core (A1 A2 : Option Addr) (n1 n2 c1 c2 : Nat) (xs ys : List Nat) (w : World) (hx : Sl w U A1 n1 xs) (hy : Sl w U A2 n2 ys) (ox : Ok B64 xs) (oy : Ok B64 ys) (hn : n1 ≤ maxW) (hle : n2 ≤ n1) (hv : val B64 ys ≤ val B64 xs) :
 Calls Tryz.prog 150 #[.slice A1 n1 c1,.slice A2 n2 c2] w fun e w' => ∃ v,e = .returned v ∧ MagV w' v (val B64 xs - val B64 ys) ∧ Below w.heap.size w w' := by
 have hn' := hn
 unfold maxW at hn'
 have hmk := fun W => mkU n1 (by unfold maxW;omega) W
 have HX := Lib.hid hx.len
 have HY := Lib.hid hy.len
 go_enter Tryz.func150,Tryz.ntmps150
 go_wp2
 go_loopw [6,14] (fun c i wr => ∃ (k cc : Nat) (ss : List Nat),k ≤ n1 ∧ i = .int .i64 k ∧ c = .int .u64 cc ∧ cc ≤ 1 ∧ ss.length = n1 ∧ Ok B64 ss ∧ Row wr U w.heap.size 139 ss ∧
  val B64 (ss.take k) + val B64 (ys.take k) = val B64 (xs.take k) + cc * B64 ^ k ∧ Below w.heap.size w wr) (fun _ i _ => n1 - (intOf i).toNat)
 case atStart => exact ⟨0,0,List.replicate n1 0,Nat.zero_le _,rfl,rfl,Nat.zero_le _,by simp,Ok.rep two_le_B _,Row.newRep w U _ _,by simp,(Below.refl _ _).alloc (Nat.le_refl _) _⟩
 case round =>
  obtain ⟨k,cc,ss,hk,rfl,rfl,hcc,hls,oss,hrow,hval,hbel⟩ := hrel
  by_cases hlt : k < n1
  · obtain ⟨g,o,rfl,hg,hcell⟩ := hx.at_ (by omega)
    have hcx := (hbel.cell (p := ⟨g,o + k,none⟩) hg).trans (hcell k hlt)
    have hcs := hrow.cell (i := k) (by omega)
    have hfs := hrow.frozen k
    have hyr := hy.below hbel
    have hlt' : (k : Int) < (n1 : Int) := by omega
    unfold U at hcx hcs
    clear hcell
    have Hv := Lib.hid hval
    have Hl := Lib.hid hls
    clear hval hls
    clear hx hy hmk
    go_wp2_with fail
    refine (word_any A2 n2 c2 ys k _ hyr (by omega) (by omega)).mono ?_
    rintro e w1 ⟨rfl,rfl⟩
    go_wp2_with (simp only [sub64_run _ _ _ hcc])
    have hx1 := ox.get two_le_B k
    have hy1 := oy.get two_le_B k
    have ea := sub_eq hx1 hy1 hcc
    have eb := subHi_le (nth xs k) (nth ys k) cc
    have ec := subLo_lt (nth xs k) (nth ys k) cc
    refine ⟨⟨k + 1,subHi (nth xs k) (nth ys k) cc,ss.set k (subLo (nth xs k) (nth ys k) cc),by omega,by go_num,rfl,eb,by rw [List.length_set];exact Hl.out,oss.set ec,hrow.set k _,?_,hbel.setCell (Nat.le_refl _) _⟩,by simp [intOf];omega⟩
    rw [val_take_set _ _ _ (by rw [Hl.out];omega),val_take_succ,val_take_succ,Nat.pow_succ]
    exact borrow_step _ _ _ _ _ _ _ _ _ _ Hv.out ea
  · obtain rfl : k = n1 := by omega
    have ht := trim_mag (some ⟨w.heap.size,0,none⟩) k k ss _ (by have := hrow.sl0;rw [hls] at this;exact this) oss (by omega) (by omega)
    have e : val B64 ss = val B64 xs - val B64 ys := by
     have hb := val_lt oss
     rw [hls] at hb
     rw [List.take_of_length_le (by rw [hls];omega),List.take_of_length_le (by rw [HY.out];omega),List.take_of_length_le (by rw [HX.out];omega)] at hval
     have : cc = 0 ∨ cc = 1 := by omega
     rcases this with rfl | rfl <;> omega
    rw [e] at ht
    clear hls hval e hx hy
    go_wp2_with (refine ht.mono ?_;rintro e w1 ⟨v,rfl,hm,rfl⟩)
    go_ret
    exact ⟨v,rfl,hm,hbel⟩
theorem diff_any (v1 v2 : Value) (m o : Nat) (w : World) (h1 : MagV w v1 m) (h2 : MagV w v2 o) (b1 : wlen B64 m ≤ maxW) (hle : o ≤ m) :
 Calls Tryz.prog 150 #[v1,v2] w fun e w' => ∃ v,e = .returned v ∧ MagV w' v (m - o) ∧ Below w.heap.size w w' := by
 obtain ⟨A1,c1,rfl,_,s1⟩ := h1.ok_len
 obtain ⟨A2,c2,rfl,_,s2⟩ := h2.ok_len
 refine (diff_core A1 A2 _ _ c1 c2 _ _ w s1 s2 (ok_ws _) (ok_ws _) b1 (wlen_mono two_le_B hle) (by rw [val_ws two_le_B,val_ws two_le_B];exact hle)).mono ?_
 rintro e w' ⟨v,he,hm,hb⟩
 rw [val_ws two_le_B,val_ws two_le_B] at hm
 exact ⟨v,he,hm,hb⟩
def cmpN (m o : Nat) : Int := if m < o then -1 else if o < m then 1 else 0
set_option maxRecDepth 100000 in
set_option maxHeartbeats 1000000 in
theorem compare_same (A1 A2 : Option Addr) (n c1 c2 : Nat) (xs ys : List Nat) (w : World) (hx : Sl w U A1 n xs) (hy : Sl w U A2 n ys) (ox : Ok B64 xs) (oy : Ok B64 ys) (hn : n ≤ maxW) :
 Calls Tryz.prog 148 #[.slice A1 n c1,.slice A2 n c2] w fun e w' => e = .returned (.int .i64 (cmpN (val B64 xs) (val B64 ys))) ∧ ∃ d,w' = w.drewN d := by
 have hn' := hn
 unfold maxW at hn'
 have HX := Lib.hid hx.len
 have HY := Lib.hid hy.len
 have hne : (!((n : Int) == (n : Int))) = false := by simp
 go_enter Tryz.func148,Tryz.ntmps148
 go_wp2
 go_loopw [5] (fun i wr => ∃ k : Nat,k ≤ n ∧ i = .int .i64 ((k : Int) - 1) ∧ xs.drop k = ys.drop k ∧ ∃ d,wr = w.drewN d) (fun i _ => ((intOf i) + 1).toNat)
 case atStart => exact ⟨n,Nat.le_refl _,rfl,by rw [List.drop_eq_nil_of_le (by rw [HX.out];omega),List.drop_eq_nil_of_le (by rw [HY.out];omega)],0,rfl⟩
 case round =>
  obtain ⟨k,hk,rfl,hdr,d,rfl⟩ := hrel
  cases k with
  | zero =>
    rw [show (((0 : Nat) : Int) - 1) = -1 from rfl]
    have e : xs = ys := by simpa using hdr
    clear hdr hx hy
    go_wp2
    go_ret
    subst e
    exact ⟨by unfold cmpN;simp,d,rfl⟩
  | succ j =>
    rw [show (((j + 1 : Nat) : Int) - 1) = (j : Int) from by omega]
    have Hd := Lib.hid hdr
    clear hdr
    obtain ⟨g,o,rfl,hg,hcx⟩ := hx.at_ (by omega)
    obtain ⟨g2,o2,rfl,hg2,hcy⟩ := hy.at_ (by omega)
    have h1 := hcx j (by omega)
    have h2 := hcy j (by omega)
    unfold U at h1 h2
    have hj : (j : Int) < (n : Int) := by omega
    have hj0 : (0 : Int) ≤ (j : Int) := by omega
    clear hcx hcy hx hy
    by_cases he : nth xs j = nth ys j
    · have hb : ((nth xs j : Int) != (nth ys j : Int)) = false := by rw [he];simp
      have He := Lib.hid he
      clear he
      go_wp2
      go_quiet (fail)
      go_wp2
      refine ⟨⟨j,by omega,rfl,drop_eq_step (by rw [HX.out,HY.out]) (by rw [HX.out];omega) Hd.out He.out,_,rfl⟩,by simp [intOf]⟩
    · have hb : ((nth xs j : Int) != (nth ys j : Int)) = true := by rw [bne_iff_ne];omega
      by_cases hlt : nth xs j < nth ys j
      · have hb2 : decide ((nth xs j : Int) < (nth ys j : Int)) = true := by simp;omega
        go_wp2
        go_quiet (fail)
        go_wp2
        go_quiet ((go_at_call 116;exact qAdd (order_true _)))
        go_wp2
        go_ret
        refine ⟨?_,?_⟩
        rotate_left
        · simp only [World.drewN_drewN];exact ⟨_,rfl⟩
        have := val_lt_of_top (by rw [HX.out,HY.out]) ox (by rw [HX.out];omega) Hd.out hlt
        show _ = Ending.returned (.int .i64 (cmpN _ _))
        unfold cmpN;rw [if_pos this];rfl
      · have hgt : nth ys j < nth xs j := by omega
        have hb2 : decide ((nth xs j : Int) < (nth ys j : Int)) = false := by simp;omega
        go_wp2
        go_quiet (fail)
        go_wp2
        go_quiet ((go_at_call 116;exact qAdd (order_false _)))
        go_wp2
        go_ret
        refine ⟨?_,?_⟩
        rotate_left
        · simp only [World.drewN_drewN];exact ⟨_,rfl⟩
        have := val_lt_of_top (by rw [HX.out,HY.out]) oy (by rw [HY.out];omega) Hd.out.symm hgt
        show _ = Ending.returned (.int .i64 (cmpN _ _))
        unfold cmpN;rw [if_neg (by omega),if_pos this];rfl
set_option maxRecDepth 100000 in
set_option maxHeartbeats 1000000 in
theorem compare_len (A1 A2 : Option Addr) (n1 n2 c1 c2 : Nat) (w : World) (hne : n1 ≠ n2) :
 Calls Tryz.prog 148 #[.slice A1 n1 c1,.slice A2 n2 c2] w fun e w' => e = .returned (.int .i64 (if n1 < n2 then -1 else 1)) ∧ ∃ d,w' = w.drewN d := by
 have hb : ((n1 : Int) != (n2 : Int)) = true := by rw [bne_iff_ne];omega
 by_cases hlt : n1 < n2
 · have hb2 : decide ((n1 : Int) < (n2 : Int)) = true := by simp;omega
   go_enter Tryz.func148,Tryz.ntmps148
   go_wp2_with (refine (order_true _).mono ?_;rintro e w1 ⟨rfl,rfl⟩)
   go_ret
   exact ⟨rfl,0,rfl⟩
 · have hb2 : decide ((n1 : Int) < (n2 : Int)) = false := by simp;omega
   go_enter Tryz.func148,Tryz.ntmps148
   go_wp2_with (refine (order_false _).mono ?_;rintro e w1 ⟨rfl,rfl⟩)
   go_ret
   exact ⟨rfl,0,rfl⟩
theorem compare_any (v1 v2 : Value) (m o : Nat) (w : World) (h1 : MagV w v1 m) (h2 : MagV w v2 o) (b2 : wlen B64 o ≤ maxW) :
 Calls Tryz.prog 148 #[v1,v2] w fun e w' => e = .returned (.int .i64 (cmpN m o)) ∧ ∃ d,w' = w.drewN d := by
 obtain ⟨A1,c1,rfl,_,s1⟩ := h1.ok_len
 obtain ⟨A2,c2,rfl,_,s2⟩ := h2.ok_len
 by_cases he : wlen B64 m = wlen B64 o
 · rw [he] at s1 ⊢
   refine (compare_same A1 A2 _ c1 c2 _ _ w s1 s2 (ok_ws _) (ok_ws _) b2).mono ?_
   rintro e w' ⟨h,hd⟩
   rw [val_ws two_le_B,val_ws two_le_B] at h
   exact ⟨h,hd⟩
 · refine (compare_len A1 A2 _ _ c1 c2 w he).mono ?_
   rintro e w' ⟨h,hd⟩
   refine ⟨h.trans ?_,hd⟩
   unfold cmpN
   by_cases hl : wlen B64 m < wlen B64 o
   · rw [if_pos hl,if_pos (lt_of_wlen_lt two_le_B hl)]
   · have := lt_of_wlen_lt two_le_B (show wlen B64 o < wlen B64 m by omega)
     rw [if_neg hl,if_neg (by omega),if_pos this]
end Go.Proofs.YtlfgpmnjnpdkdaaGreatDoor
namespace Go.Proofs.YtlfgpmnjnpdkdaaGreatDoor
open Go.RowKit Vd
theorem mul64_any (x y : Nat) (hx : x < B64) (hy : y < B64) (w : World) :
 Calls Tryz.prog 190 #[.int .u64 (x : Int),.int .u64 (y : Int)] w fun e w' => e = .returned (.tuple #[.int .u64 ((mulHi x y : Nat) : Int),.int .u64 ((mulLo x y : Nat) : Int)]) ∧ w = w' := by
 refine (Tryz.bits_Mul64 x y hx hy w).mono ?_
 rintro e w' ⟨he,hw⟩
 exact ⟨he,hw.symm⟩
theorem wrapU {x : Nat} (h : x < B64) : IntKind.u64.wrap (x : Int) = x := by
 rw [IntKind.wrap_u64];rw [B64_eq] at h;omega
theorem wrapU2 {x y : Nat} (h : x + y < B64) : IntKind.u64.wrap ((x : Int) + (y : Int)) = ((x + y : Nat) : Int) := wrapU h
theorem wrapU3 {x y z : Nat} (h : x + y < B64) (h2 : x + y + z < B64) : IntKind.u64.wrap (IntKind.u64.wrap ((x : Int) + (y : Int)) + (z : Int)) = ((x + y + z : Nat) : Int) := by
 rw [wrapU2 h];exact wrapU2 h2
def amLow (s v t c : Nat) : Nat := addLo (addLo (mulLo v t) s 0) c 0
def amHigh (s v t c : Nat) : Nat := mulHi v t + addHi (mulLo v t) s 0 + addHi (addLo (mulLo v t) s 0) c 0
theorem am_eq (s v t c : Nat) : amLow s v t c + B64 * amHigh s v t c = s + t * v + c := by
 unfold amLow amHigh
 have h1 := mul_eq v t
 have h2 := add_eq (mulLo v t) s 0
 have h3 := add_eq (addLo (mulLo v t) s 0) c 0
 rw [Nat.mul_comm t v,Nat.mul_add,Nat.mul_add]
 omega
theorem amHigh_lt {s v t c : Nat} (hs : s < B64) (hv : v < B64) (ht : t < B64) (hc : c < B64) : amHigh s v t c < B64 ∧ mulHi v t + addHi (mulLo v t) s 0 < B64 := by
 have h := am_eq s v t c
 have h1 := mul_eq v t
 have h2 := add_eq (mulLo v t) s 0
 have hp : v * t ≤ (B64 - 1) * (B64 - 1) := Nat.mul_le_mul (by omega) (by omega)
 have he : (B64 - 1) * (B64 - 1) + (B64 - 1) + (B64 - 1) < B64 * B64 := by decide
 rw [Nat.mul_comm t v] at h
 constructor
 · refine Nat.lt_of_mul_lt_mul_left (a := B64) ?_
   omega
 · refine Nat.lt_of_mul_lt_mul_left (a := B64) ?_
   rw [Nat.mul_add]
   omega
set_option maxRecDepth 100000 in
set_option maxHeartbeats 1000000 in
theorem addMultiple_any (g c : Nat) (A2 : Option Addr) (c2 : Nat) (pre mid post ys : List Nat) (t : Nat) (w : World) (hr : Row w U g 139 (pre ++ (mid ++ post))) (hy : Sl w U A2 mid.length ys) (hfar : ∀ g2 o2,A2 = some ⟨g2,o2,none⟩ → 0 < mid.length → g2 ≠ g) (ox : Ok B64 mid) (oy : Ok B64 ys) (ht : t < B64) (hb : mid.length ≤ maxW) :
 Calls Tryz.prog 176 #[.slice (some ⟨g,pre.length,none⟩) mid.length c,.slice A2 mid.length c2,.int .u64 (t : Int)] w fun e w' =>
  ∃ (zs : List Nat) (cc : Nat),e = .returned (.int .u64 (cc : Int)) ∧ cc < B64 ∧ zs.length = mid.length ∧ Ok B64 zs ∧ Row w' U g 139 (pre ++ (zs ++ post)) ∧ w.grownBy w' (some g) ∧
    val B64 zs + cc * B64 ^ mid.length = val B64 mid + t * val B64 ys := by
 unfold maxW at hb
 have HY := Lib.hid hy.len
 obtain ⟨n,hn⟩ : ∃ n,n = mid.length := ⟨_,rfl⟩
 obtain ⟨p,hp⟩ : ∃ p,p = pre.length := ⟨_,rfl⟩
 rw [← hn] at hy hfar hb ⊢
 rw [← hp]
 have HN := Lib.hid hn
 have HP := Lib.hid hp
 clear hn hp
 go_enter Tryz.func176,Tryz.ntmps176
 go_wp2
 go_loopw [7,15] (fun c i wr => ∃ (k cc : Nat) (zs : List Nat),k ≤ n ∧ i = .int .i64 k ∧ c = .int .u64 cc ∧ cc < B64 ∧ zs.length = n ∧ Ok B64 zs ∧ Row wr U g 139 (pre ++ (zs ++ post)) ∧ w.grownBy wr (some g) ∧ zs.drop k = mid.drop k ∧
  val B64 (zs.take k) + cc * B64 ^ k = val B64 (mid.take k) + t * val B64 (ys.take k)) (fun _ i _ => n - (intOf i).toNat)
 case atStart => exact ⟨0,0,mid,Nat.zero_le _,rfl,rfl,by decide,HN.out.symm,ox,hr,World.grownBy.refl _ _,rfl,by simp⟩
 case round =>
  obtain ⟨k,cc,zs,hk,rfl,rfl,hcc,hls,oz,hrow,hg,hdr,hval⟩ := hrel
  by_cases hlt : k < n
  · obtain ⟨g2,o2,rfl,hg2,hcell⟩ := hy.at_ (by omega)
    have hne : g2 ≠ g := hfar _ _ rfl (by omega)
    have hcy := (hy.grown hg (fun _ _ e _ => by injection e with e;injection e with e1 _ _;rw [← e1];simpa using hne)).at_ (by omega)
    obtain ⟨g3,o3,e3,hg3,hcell3⟩ := hcy
    injection e3 with e3
    injection e3 with e4 e5 _
    subst e4 e5
    have hcy := hcell3 k hlt
    have hcs := hrow.cell (i := p + k) (by rw [HP.out];simp;omega)
    have hfs := hrow.frozen (p + k)
    rw [HP.out,nth_mid _ _ _ _ (by omega),← HP.out,nth_of_drop hdr] at hcs
    unfold U at hcy hcs
    have hlt' : (k : Int) < (n : Int) := by omega
    have Hv := Lib.hid hval
    have Hl := Lib.hid hls
    have Hd := Lib.hid hdr
    have hx1 := ox.get two_le_B k
    have hy1 := oy.get two_le_B k
    clear hcell hcell3 hval hls hdr hy hfar hr
    go_wp2_with fail
    refine (mul64_any _ _ hy1 ht wr).mono ?_
    rintro e w1 ⟨rfl,rfl⟩
    go_wp2_with (simp only [add64_run0])
    have hs1 := amHigh_lt hx1 hy1 ht hcc
    have he := am_eq (nth mid k) (nth ys k) t cc
    have hset := hrow.set (p + k) (amLow (nth mid k) (nth ys k) t cc)
    rw [HP.out,set_mid _ _ _ _ _ (by rw [Hl.out];exact hlt),← HP.out] at hset
    rw [wrapU3 hs1.2 hs1.1]
    refine ⟨⟨k + 1,amHigh (nth mid k) (nth ys k) t cc,zs.set k (amLow (nth mid k) (nth ys k) t cc),by omega,by go_num,rfl,hs1.1,by rw [List.length_set];exact Hl.out,oz.set (addLo_lt _ _ _),hset,og_setCell hg _ _,?_,?_⟩,by simp [intOf];omega⟩
    · rw [drop_set_succ];exact drop_succ_of Hd.out
    · rw [val_take_set _ _ _ (by rw [Hl.out];exact hlt),val_take_succ,val_take_succ,Nat.pow_succ]
      exact addmul_step _ _ _ _ _ _ _ _ _ _ _ Hv.out he
  · obtain rfl : k = n := by omega
    rw [List.take_of_length_le (by rw [hls];omega),List.take_of_length_le (by rw [← HN.out];omega),List.take_of_length_le (by rw [HY.out,← HN.out];omega)] at hval
    have Hv := Lib.hid hval
    have Hl := Lib.hid hls
    clear hval hls hdr hr hy hfar
    go_wp2
    go_ret
    exact ⟨zs,cc,rfl,hcc,Hl.out,oz,hrow,hg,Hv.out⟩
end Go.Proofs.YtlfgpmnjnpdkdaaGreatDoor
namespace Go.Proofs.YtlfgpmnjnpdkdaaGreatDoor
open Go.RowKit Vd
theorem below_grown_tr {w w1 w2 : World} {g : Nat} (h : Below w.heap.size w w1) (k : w1.grownBy w2 (some g)) (hg : w.heap.size ≤ g) : Below w.heap.size w w2 :=
 h.grown k h.size (fun j hj => by injection hj with hj;omega)
set_option maxRecDepth 100000 in
set_option maxHeartbeats 1000000 in
theorem product_core (A1 A2 : Option Addr) (n1 n2 c1 c2 : Nat) (xs ys : List Nat) (w : World) (hx : Sl w U A1 n1 xs) (hy : Sl w U A2 n2 ys) (ox : Ok B64 xs) (oy : Ok B64 ys) (hn1 : n1 ≤ maxW) (hn2 : n2 ≤ maxW) :
 Calls Tryz.prog 147 #[.slice A1 n1 c1,.slice A2 n2 c2] w fun e w' => ∃ v,e = .returned v ∧ MagV w' v (val B64 xs * val B64 ys) ∧ Below w.heap.size w w' := by
 have hn1' := hn1
 have hn2' := hn2
 unfold maxW at hn1' hn2'
 have hmk := fun W => mkU (n1 + n2) (by unfold maxW;omega) W
 rw [show (((n1 + n2 : Nat)) : Int) = (n1 : Int) + (n2 : Int) from rfl] at hmk
 have HX := Lib.hid hx.len
 have HY := Lib.hid hy.len
 go_enter Tryz.func147,Tryz.ntmps147
 go_wp2
 go_loopw [16] (fun i wr => ∃ (k : Nat) (ss : List Nat),k ≤ n1 ∧ i = .int .i64 k ∧ ss.length = k + n2 ∧ Ok B64 ss ∧ Row wr U w.heap.size 139 (ss ++ List.replicate (n1 - k) 0) ∧
  val B64 ss = val B64 (xs.take k) * val B64 ys ∧ Below w.heap.size w wr) (fun i _ => n1 - (intOf i).toNat)
 case atStart =>
  refine ⟨0,List.replicate n2 0,Nat.zero_le _,rfl,by simp,Ok.rep two_le_B _,?_,by simp [val_replicate],(Below.refl _ _).alloc (Nat.le_refl _) _⟩
  have := Row.newRep w U 139 (n1 + n2)
  rw [List.replicate_append_replicate,Nat.sub_zero,Nat.add_comm n2]
  exact this
 case round =>
  obtain ⟨k,ss,hk,rfl,hls,oss,hrow,hval,hbel⟩ := hrel
  by_cases hlt : k < n1
  · obtain ⟨g,o,rfl,hg,hcell⟩ := hx.at_ (by omega)
    have hcx := (hbel.cell (p := ⟨g,o + k,none⟩) hg).trans (hcell k hlt)
    obtain ⟨pre,mid,rfl,hp,hm⟩ : ∃ pre mid,ss = pre ++ mid ∧ pre.length = k ∧ mid.length = n2 :=
     ⟨ss.take k,ss.drop k,(List.take_append_drop _ _).symm,by rw [List.length_take];omega,by rw [List.length_drop];omega⟩
    have om : Ok B64 mid := fun x hx => oss x (List.mem_append_right _ hx)
    have op : Ok B64 pre := fun x hx => oss x (List.mem_append_left _ hx)
    have hx1 := ox.get two_le_B k
    have hyr := hy.below hbel
    rw [List.append_assoc] at hrow
    have hcall := addMultiple_any w.heap.size (n1 + n2 - k) A2 c2 pre mid (List.replicate (n1 - k) 0) ys (nth xs k) wr hrow (by rw [hm];exact hyr) (fun g2 o2 e hpos => by
     obtain ⟨g3,o3,e3,h3,_⟩ := hy.at_ (by omega)
     rw [e3] at e;injection e with e;injection e with e;omega) om oy hx1 (by omega)
    rw [hp,hm] at hcall
    have hlt' : (k : Int) < (n1 : Int) := by omega
    unfold U at hcx
    have Hv := Lib.hid hval
    have Hl := Lib.hid hls
    have Hp := Lib.hid hp
    have Hm := Lib.hid hm
    clear hcell hval hls hp hm hx hy hmk
    go_wp2_with fail
    refine hcall.mono ?_
    rintro e w1 ⟨zs,cc,rfl,hcc,hlz,oz,hrow1,hg1,hval1⟩
    have hcs := hrow1.cell (i := k + n2) (by simp;rw [Hp.out,hlz];omega)
    have hfs := hrow1.frozen (k + n2)
    unfold U at hcs
    have hset := hrow1.set (k + n2) cc
    have Hz := Lib.hid hlz
    have Hw := Lib.hid hval1
    clear hlz hval1 hcall
    go_wp2_with fail
    have e1 : (pre ++ (zs ++ List.replicate (n1 - k) 0)).set (k + n2) cc = (pre ++ zs ++ [cc]) ++ List.replicate (n1 - (k + 1)) 0 := by
     rw [show n1 - k = (n1 - (k + 1)) + 1 by omega,List.replicate_succ,← List.append_assoc]
     rw [List.set_append_right _ _ (by rw [List.length_append,Hp.out,Hz.out];omega),List.length_append,Hp.out,Hz.out,Nat.sub_self]
     simp
    rw [e1] at hset
    refine ⟨⟨k + 1,pre ++ zs ++ [cc],by omega,by go_num,by simp;rw [Hp.out,Hz.out];omega,(op.app oz).app (Ok.cons hcc Ok.nil),hset,?_,(below_grown_tr hbel (og_setCell hg1 _ _) (Nat.le_refl _))⟩,by simp [intOf];omega⟩
    rw [List.append_assoc,val_append,val_append,Hp.out,Hz.out,val_take_succ,Nat.add_mul,← Hv.out,val_append,Hp.out,val_cons,val_nil]
    have h2 := Hw.out
    clear Hw Hv
    grind
  · obtain rfl : k = n1 := by omega
    rw [Nat.sub_self,List.replicate_zero,List.append_nil] at hrow
    have ht := trim_mag (some ⟨w.heap.size,0,none⟩) (k + n2) (k + n2) ss _ (by have := hrow.sl0;rw [hls] at this;exact this) oss (by omega) (by omega)
    rw [hval,List.take_of_length_le (by rw [HX.out];omega)] at ht
    clear hls hval hx hy hrow
    go_wp2_with (refine ht.mono ?_;rintro e w1 ⟨v,rfl,hm,rfl⟩)
    go_ret
    exact ⟨v,rfl,hm,hbel⟩
theorem product_any (v1 v2 : Value) (m o : Nat) (w : World) (h1 : MagV w v1 m) (h2 : MagV w v2 o) (b1 : wlen B64 m ≤ maxW) (b2 : wlen B64 o ≤ maxW) :
 Calls Tryz.prog 147 #[v1,v2] w fun e w' => ∃ v,e = .returned v ∧ MagV w' v (m * o) ∧ Below w.heap.size w w' := by
 obtain ⟨A1,c1,rfl,_,s1⟩ := h1.ok_len
 obtain ⟨A2,c2,rfl,_,s2⟩ := h2.ok_len
 refine (product_core A1 A2 _ _ c1 c2 _ _ w s1 s2 (ok_ws _) (ok_ws _) b1 b2).mono ?_
 rintro e w' ⟨v,he,hm,hb⟩
 rw [val_ws two_le_B,val_ws two_le_B] at hm
 exact ⟨v,he,hm,hb⟩
end Go.Proofs.YtlfgpmnjnpdkdaaGreatDoor
