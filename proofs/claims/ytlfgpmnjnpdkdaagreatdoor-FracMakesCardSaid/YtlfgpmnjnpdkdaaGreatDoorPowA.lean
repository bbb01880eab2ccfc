/- Contracts: Power, length, aboveRoot, nextRoot, Root. Contracts: length, aboveRoot, nextRoot. -/
import Derived.Test.YtlfgpmnjnpdkdaaGreatDoorDivF
namespace Go.Proofs.YtlfgpmnjnpdkdaaGreatDoor
open Go.RowKit Vd
set_option maxRecDepth 100000 in
set_option maxHeartbeats 1000000 in
theorem power_any (v : Value) (m n : Nat) (w : World) (h : MagV w v m) (hm : wlen B64 m ≤ maxW) (hb : n * wlen B64 m + 1 ≤ maxW) (hn : n ≤ 1000000) :
 Calls Tryz.prog 167 #[v,.int .i64 (n : Int)] w fun e w' => ∃ r,e = .returned r ∧ MagV w' r (m ^ n) ∧ Below w.heap.size w w' := by
 have hfw := fromWord_any 1 (by decide) w
 rw [show ((1 : Nat) : Int) = 1 from rfl] at hfw
 have hn' : (n : Int) ≤ 1000000 := by omega
 have hlen : ∀ k,k < n → wlen B64 (m ^ k) ≤ maxW := fun k hk => by
  have h1 := wlen_pow (b := B64) two_le_B m k
  have h2 := Nat.mul_le_mul_right (wlen B64 m) (Nat.le_of_lt hk)
  omega
 have HB := Lib.hid (And.intro hm hlen)
 clear hm hlen hb
 go_enter Tryz.func167,Tryz.ntmps167
 go_wp2_with fail
 refine hfw.mono ?_
 rintro e w1 ⟨p,rfl,hp,hb1⟩
 go_wp2_with fail
 go_loopg [6,11] n (fun j a i wr => ∃ k : Nat,k ≤ n ∧ j = n - k ∧ i = .int .i64 k ∧ MagV wr a (m ^ k) ∧ Below w.heap.size w wr)
 case atStart => exact ⟨0,Nat.zero_le _,rfl,rfl,by simpa using hp,hb1⟩
 case round =>
  clear hp
  obtain ⟨k,hk,rfl,rfl,hp,hbel⟩ := hrel
  by_cases hlt : k < n
  · have hlt' : (k : Int) < (n : Int) := by omega
    have hpr := product_any v _ m (m ^ k) wr (h.below hbel) hp HB.out.1 (HB.out.2 k hlt)
    go_wp2_with fail
    refine hpr.mono ?_
    rintro e w2 ⟨r,rfl,hr,hb2⟩
    go_wp2_with fail
    go_roundg (n - (k + 1))
    case measure => omega
    case rel => exact ⟨k + 1,by omega,rfl,by go_num,by rw [Nat.pow_succ,Nat.mul_comm];exact hr,hbel.trans (hb2.mono hbel.size)⟩
  · obtain rfl : k = n := by omega
    go_wp2_with fail
    go_ret
    exact ⟨_,rfl,hp,hbel⟩
end Go.Proofs.YtlfgpmnjnpdkdaaGreatDoor
namespace Go.Proofs.YtlfgpmnjnpdkdaaGreatDoor
open Go.RowKit Vd
def pw (t : Nat) : Nat := 2 ^ t
end Go.Proofs.YtlfgpmnjnpdkdaaGreatDoor
