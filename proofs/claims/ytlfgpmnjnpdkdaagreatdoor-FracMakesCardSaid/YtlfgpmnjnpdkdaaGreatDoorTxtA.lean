/- Contracts: reading texts. Contract: readDigits. Contract: Read. Contract: the closure of Decimal. Contract: Decimal. -/
import Derived.Test.YtlfgpmnjnpdkdaaGreatDoorGcdA
import Derived.Test.YtlfgpmnjnpdkdaaGreatDoorText
import Derived.ArgAppend
import Derived.Lib.JoinLaws
import Derived.WalkMore
import Derived.Test.YtlfgpmnjnpdkdaaGreatDoorShelf
import Derived.Lib.SlBytesRow
namespace Go.Proofs.YtlfgpmnjnpdkdaaGreatDoor
open Go.RowKit Vd
theorem wpList_append_in {P : Program} (w : World) {ops : Array Oper} {rest : List Oper} {o : Oper} {a : Act} {Q : Exit → Act → World → Prop}
 (hg : o.guard = none) (s x : Operand) (t : TypeId) (hop : o.op = Op.call { callee := Callee.builtin Builtin.append,args := #[s,x],argTypes := #[t,t] })
 (e : TypeId) (z : Value) (bytes : Nat) (h1 : P.underlying t = some (.slice e)) (hinfo : (P.info? e).map (fun i => (i.zero,i.size,i.bytes)) = some (some z,1,bytes))
 (g k cap : Nat) (hs : a.eval s = .slice (some ⟨g,0,none⟩) k cap) (ad : Addr) (c : Nat) (u : Value) (hx : a.eval x = .slice (some ad) 1 c)
 (hc : w.cell? ad = some u) (h1c : u.oneCell' = true) (hroom : k + 1 ≤ cap) (hcell : (w.cell? ⟨g,k,none⟩).isSome = true) (hfr : w.frozen? ⟨g,k,none⟩ = false)
 (hK : wpList P ops Q rest (a.put o.dst (.slice (some ⟨g,0,none⟩) (k + 1) cap)) (w.setCell ⟨g,k,none⟩ u)) :
 wpList P ops Q (o :: rest) a w := by
 obtain ⟨i,hi,hzz⟩ := Option.map_eq_some_iff.1 hinfo
 simp only [Prod.mk.injEq] at hzz
 obtain ⟨_,hs1,_⟩ := hzz
 refine wpList_plain hg fun K hK' => ?_
 have hrun := run_append_room_cells (P := P) w t o.type e i h1 hi g 0 k cap ad 1 c [u] (by rw [hs1];rfl)
  (by intro j v hj;cases j with
   | zero => simp at hj;subst hj;simpa [Addr.add] using hc
   | succ j => simp at hj)
  (by intro v hv;simp at hv;subst hv;exact h1c) hroom
  (by intro j hj;simp at hj;subst hj;simpa [hs1] using hcell)
  (by intro j hj;simp at hj;subst hj;simpa [hs1] using hfr)
 unfold Oper.wp
 simp [execOp,hop,resolve,invoke,builtin,hs,hx,hrun,Result.andThen,World.setCells,hs1]
 exact hK' _ _ hK
theorem group_ws {M n c G c0 : Nat} {zs : List Nat} (hl : zs.length = n) (hz : Ok B64 zs) (hn : wlen B64 M = n) (hc : c < B64) (hv : val B64 zs + B64 ^ n * c = M * G + c0) (hG : 1 ≤ G) :
 (c = 0 → zs = ws B64 (M * G + c0) ∧ wlen B64 (M * G + c0) = n) ∧ (c ≠ 0 → zs ++ [c] = ws B64 (M * G + c0) ∧ wlen B64 (M * G + c0) = n + 1) := by
 have hzl := val_lt hz
 rw [hl] at hzl
 constructor
 · intro h
   subst h
   rw [Nat.mul_zero,Nat.add_zero] at hv
   have hlen : wlen B64 (M * G + c0) = n := by
    apply Nat.le_antisymm
    · rw [wlen_le_iff two_le_B,← hv];exact hzl
    · rw [← hn]
      apply wlen_mono two_le_B
      have := Nat.mul_le_mul_left M hG
      omega
   have hw := ws_of_pad two_le_B hz hv (k := n) (by omega) (fun j hj => nth_ge (by omega)) (fun x hp hx => by
    intro hx0
    subst hx0
    have h1 : B64 ^ (n - 1) ≤ val B64 zs := by
     rw [hv];exact pow_le_of_lt_wlen two_le_B (by omega)
    have h2 := val_take_succ (b := B64) zs (n - 1)
    rw [show n - 1 + 1 = n by omega,List.take_of_length_le (by omega)] at h2
    have h3 : nth zs (n - 1) = 0 := by unfold nth;rw [hx];rfl
    rw [h3,Nat.zero_mul,Nat.add_zero] at h2
    have h4 := val_lt (hz.take (n - 1))
    rw [List.length_take,Nat.min_eq_left (by omega)] at h4
    omega)
   rw [List.take_of_length_le (by omega)] at hw
   exact ⟨hw,hlen⟩
 · intro h
   have hval : val B64 (zs ++ [c]) = M * G + c0 := by
    rw [val_append,hl,val_cons,val_nil,Nat.mul_zero,Nat.add_zero,hv]
   have hw : ws B64 (val B64 (zs ++ [c])) = zs ++ [c] := ws_val two_le_B (hz.app (Ok.cons hc Ok.nil)) (by
    intro x hx
    rw [List.getLast?_append] at hx
    simp at hx
    omega)
   rw [hval] at hw
   exact ⟨hw.symm,by unfold wlen;rw [hw,List.length_append,hl];rfl⟩
theorem grownBy_alloc' (w : World) (o : Obj) (r : Option Nat) : w.grownBy (w.alloc o) r :=
 ⟨rfl,rfl,rfl,by simp,fun k hk _ => Below.heap_alloc w o k hk⟩
theorem group_step (P B S V G c0 x c lo hi : Nat) (h : S + P * c = V * G + c0) (e : lo + B * hi = x * G + c) : S + lo * P + P * B * hi = (V + x * P) * G + c0 := by grind
def G19 : Nat := 10000000000000000000
theorem G19_eq : G19 = 10 ^ 19 := by decide
set_option maxRecDepth 100000 in
set_option maxHeartbeats 1000000 in
theorem appendGroup_any (g n c M grp : Nat) (xs : List Nat) (w : World) (hrow : Row w U g 139 xs) (hxl : xs.length = c) (hn : wlen B64 M = n) (hx : xs.take n = ws B64 M) (hroom : n + 1 ≤ c) (hcm : c ≤ maxW) (hgrp : grp < B64) (ox : Ok B64 xs) :
 Calls Tryz.prog 174 #[.slice (some ⟨g,0,none⟩) n c,.int .u64 (grp : Int)] w fun e w' => e = .returned (.slice (some ⟨g,0,none⟩) (wlen B64 (M * G19 + grp)) c) ∧ ∃ ys : List Nat,ys.length = c ∧ Ok B64 ys ∧ Row w' U g 139 ys ∧ ys.take (wlen B64 (M * G19 + grp)) = ws B64 (M * G19 + grp) ∧ w.grownBy w' (some g) := by
 have hcm' := hcm
 unfold maxW at hcm'
 have hV : val B64 (xs.take n) = M := by rw [hx,val_ws two_le_B]
 have HX := Lib.hid (And.intro hxl (And.intro hn (And.intro hx hV)))
 clear hxl hn hx hV hcm
 go_enter Tryz.func174,Tryz.ntmps174
 go_wp2
 go_loopg [5,11] n (fun r cv iv wr => ∃ (k carry : Nat) (zs : List Nat),k ≤ n ∧ r = n - k ∧ iv = .int .i64 (k : Int) ∧ cv = .int .u64 (carry : Int) ∧ carry < B64 ∧ zs.length = c ∧ Ok B64 zs ∧ zs.drop k = xs.drop k ∧ Row wr U g 139 zs ∧
  val B64 (zs.take k) + B64 ^ k * carry = val B64 (xs.take k) * G19 + grp ∧ w.grownBy wr (some g))
 case atStart => exact ⟨0,grp,xs,Nat.zero_le _,rfl,rfl,rfl,hgrp,HX.out.1,ox,rfl,hrow,by simp,World.grownBy.refl _ _⟩
 case round =>
  obtain ⟨k,carry,zs,hk,rfl,rfl,rfl,hcl,hls,oz,hdr,hzr,hval,hgb⟩ := hrel
  by_cases hkn : k < n
  · have hm := multiply_any (nth zs k) G19 carry (oz.get two_le_B k) (by decide) hcl wr
    have hhi := muHi_lt (f := G19) (oz.get two_le_B k) (by decide) hcl
    rw [show ((G19 : Nat) : Int) = 10000000000000000000 from rfl] at hm
    have hcs := hzr.cell (i := k) (by omega)
    have hfs := hzr.frozen k
    unfold U at hcs
    have hkn' : (k : Int) < (n : Int) := by omega
    have Hv := Lib.hid (And.intro hval (And.intro hls (And.intro hdr hkn)))
    clear hval hls hdr hkn
    go_wp2_with fail
    refine hm.mono ?_
    rintro e w1 ⟨rfl,rfl⟩
    go_wp2_with fail
    obtain ⟨hval,hls,hdr,hkn⟩ := Hv.out
    go_roundg (n - (k + 1))
    case measure => omega
    case rel =>
     refine ⟨k + 1,muHi (nth zs k) G19 carry,zs.set k (muLo (nth zs k) G19 carry),by omega,rfl,by go_num,rfl,hhi,by rw [List.length_set];exact hls,oz.set (muLo_lt _ _ _),?_,hzr.set k _,?_,og_setCell hgb _ _⟩
     · rw [drop_set_succ];exact drop_succ_of hdr
     · rw [val_take_set _ _ _ (by omega),val_take_succ,Nat.pow_succ,← nth_of_drop hdr]
       exact group_step _ _ _ _ _ _ _ _ _ _ hval (mu_eq _ _ _)
  · obtain rfl : k = n := by omega
    obtain ⟨hxl,hn,hx,hV⟩ := HX.out
    rw [hV] at hval
    obtain ⟨f1,f2⟩ := group_ws (zs := zs.take k) (by rw [List.length_take];omega) (oz.take k) hn hcl hval (by decide)
    have hkn' : ¬ (k : Int) < (k : Int) := by omega
    have hfs := hzr.frozen k
    have hcs := hzr.cell (i := k) (by omega)
    obtain ⟨L,hL⟩ : ∃ l,l = wlen B64 (M * G19 + grp) := ⟨_,rfl⟩
    have HL := Lib.hid hL
    by_cases h0 : carry = 0
    · have k0 : ((carry : Int) == 0) = true := by rw [beq_iff_eq];omega
      obtain ⟨g1,g2⟩ := f1 h0
      have HF := Lib.hid (And.intro g1 (And.intro g2 hls))
      clear f1 f2 g1 g2 hval hls hdr hx hV hn hxl hL h0 hkn hk
      go_wp2_with fail
      obtain ⟨g1,g2,hls⟩ := HF.out
      exact bodyPost_ret (v := .slice (some ⟨g,0,none⟩) k c) (by simp [results,Tryz.results174,go_sem]) rfl ⟨by rw [g2],zs,hls,oz,hzr,by rw [g2];exact g1,hgb⟩
    · have k0 : ((carry : Int) == 0) = false := by rw [beq_eq_false_iff_ne];omega
      obtain ⟨g1,g2⟩ := f2 h0
      have HF := Lib.hid (And.intro g1 (And.intro g2 hls))
      clear f1 f2 g1 g2 hval hls hdr hx hV hn hxl hL h0 hkn hk
      have hnc := cell_one_new wr (.int .u64 (carry : Int)) 139 0 _ rfl
      have hz2 := hzr.alloc (.cells #[.int .u64 (carry : Int)] 139)
      have hk2 : (World.cell? (wr.alloc (.cells #[.int .u64 (carry : Int)] 139)) ⟨g,k,none⟩).isSome = true := by rw [hz2.cell (by have := HF.out.2.2;omega)];rfl
      have hk3 := hz2.frozen k
      have hroom' : k + 1 ≤ c := hroom
      clear hcs hfs
      go_wp2_with (at_builtin;refine wpList_append_in _ rfl (.tmp 29) (.tmp 31) 78 rfl 139 (.int .u64 0) 8 Tryz.underlying78 infoU g k c rfl ⟨wr.heap.size,0,none⟩ 1 (.int .u64 (carry : Int)) rfl hnc rfl hroom' hk2 hk3 ?_)
      obtain ⟨g1,g2,hls⟩ := HF.out
      refine bodyPost_ret (v := .slice (some ⟨g,0,none⟩) (k + 1) c) (by simp [results,Tryz.results174,go_sem]) rfl ⟨by rw [g2],zs.set k carry,by rw [List.length_set];exact hls,oz.set hcl,hz2.set k _,?_,og_setCell (hgb.trans (grownBy_alloc' wr _ _)) _ _⟩
      rw [g2,← g1,List.take_add_one,take_set_of_le _ _ _ _ (Nat.le_refl _),List.getElem?_set_self (by omega)]
      rfl
end Go.Proofs.YtlfgpmnjnpdkdaaGreatDoor
namespace Go.Proofs.YtlfgpmnjnpdkdaaGreatDoor
open Go.RowKit Vd
theorem mkRoom (c : Nat) (hc : c ≤ maxW) (w : World) : (Instr.makeSlice 78 (.int .i64 0) (.int .i64 (c : Int))).run Tryz.prog w = .ok (.slice (some ⟨w.heap.size,0,none⟩) 0 c) (w.alloc (.cells ((List.replicate c 0).map U).toArray 139)) := by
 have h := run_make_room (P := Tryz.prog) 78 139 (.int .u64 0) 8 Tryz.underlying78 infoU rfl .i64 .i64 c (by unfold maxW at hc;omega) (by unfold maxW at hc;omega) w
 rw [← madeCells_eq]
 exact h
structure RdR (l : List UInt8) (w : World) (c : Nat) (p rest : List UInt8) (v : Value) (W : World) (zs : List Nat) : Prop where
 app : l = p ++ rest
 all : p.all isDig = true
 cut : p = [] ∨ rest.length % 19 = 0
 val : v = .slice (some ⟨w.heap.size,0,none⟩) (wlen B64 (dval p)) c
 len : zs.length = c
 ok : Ok B64 zs
 row : Row W U w.heap.size 139 zs
 tk : zs.take (wlen B64 (dval p)) = ws B64 (dval p)
 bel : Below w.heap.size w W
theorem RdR.at0 (l : List UInt8) (w : World) (c : Nat) : RdR l w c [] l (.slice (some ⟨w.heap.size,0,none⟩) 0 c) (w.alloc (.cells (Array.replicate c (U 0)) 139)) (List.replicate c 0) :=
 ⟨rfl,rfl,Or.inl rfl,by rw [dval_nil,wlen_zero],by simp,Ok.rep two_le_B _,Row.newRep w U _ _,by rw [dval_nil,wlen_zero,ws_zero];rfl,(Below.refl _ _).alloc (Nat.le_refl _) _⟩
theorem room19 {p rest l : List UInt8} {c : Nat} (app : l = p ++ rest) (all : p.all isDig = true) (cut : p = [] ∨ rest.length % 19 = 0) (h0 : 0 < rest.length) (hc : c = l.length / 19 + 1) : wlen B64 (dval p) + 1 ≤ c := by
 rcases cut with rfl | hcut
 · rw [dval_nil,wlen_zero];omega
 · have hl : l.length = p.length + rest.length := by rw [app,List.length_append]
   obtain ⟨k,hk⟩ : ∃ k,k = l.length / 19 := ⟨_,rfl⟩
   have h1 : p.length ≤ 19 * k := by omega
   have h2 : dval p < B64 ^ k := by
    refine Nat.lt_of_lt_of_le (dval_lt all) (Nat.le_trans (Nat.pow_le_pow_right (by omega) h1) ?_)
    rw [Nat.pow_mul]
    exact Nat.pow_le_pow_left (by decide) k
   have := (wlen_le_iff two_le_B _ _).2 h2
   omega
theorem group_dval {p rest : List UInt8} {q sz : Nat} (cut : p = [] ∨ rest.length % 19 = 0) (hq : rest.length = q + 1) (hsz : sz = q % 19 + 1) : dval (p ++ rest.take sz) = dval p * G19 + dval (rest.take sz) := by
 rw [dval_append,List.length_take,Nat.min_eq_left (by omega)]
 rcases cut with rfl | hcut
 · rw [dval_nil,Nat.zero_mul,Nat.zero_mul]
 · rw [show sz = 19 by omega,G19_eq]
theorem extB (l : List UInt8) (i : Nat) : (⟨l.toArray⟩ : ByteArray).extract i l.length = ⟨(l.drop i).toArray⟩ := by
 apply ByteArray.ext
 rw [ByteArray.data_extract]
 apply Array.ext'
 simp
 rw [List.take_of_length_le (by rw [List.length_drop];omega)]
theorem getB {l : List UInt8} {i : Nat} (h : i < l.length) (x : UInt8) (hx : l[i]? = some x) (hb : i < (⟨l.toArray⟩ : ByteArray).size) : (⟨l.toArray⟩ : ByteArray)[i]'hb = x := by
 rw [List.getElem?_eq_getElem h] at hx
 injection hx
theorem take_snoc {l : List UInt8} {i : Nat} {x : UInt8} (hx : l[i]? = some x) : l.take (i + 1) = l.take i ++ [x] := by
 rw [List.take_add_one,hx];rfl
theorem digit_of {x : UInt8} (h : isDig x = true) : ∃ d : Nat,d ≤ 9 ∧ x.toNat - 48 = d ∧ (((x.toNat : Int) - 48) % 256 = (d : Int)) := by
 rw [isDig_iff] at h
 exact ⟨x.toNat - 48,by omega,rfl,by omega⟩
theorem nodigit_of {x : UInt8} (h : ¬ isDig x = true) : ∃ d : Nat,9 < d ∧ (((x.toNat : Int) - 48) % 256 = (d : Int)) := by
 rw [isDig_iff] at h
 have := x.toNat_lt
 rcases Nat.lt_or_ge x.toNat 48 with h1 | h1
 · exact ⟨x.toNat + 208,by omega,by omega⟩
 · exact ⟨x.toNat - 48,by omega,by omega⟩
set_option maxRecDepth 100000 in
set_option maxHeartbeats 1000000 in
theorem readDigits_any (l : List UInt8) (w : World) (hl : l.length ≤ 1000000) :
 Calls Tryz.prog 141 #[.string ⟨l.toArray⟩] w fun e w' => ∃ v,e = .returned (.tuple #[v,.bool (l.all isDig)]) ∧ (l.all isDig = true → MagV w' v (dval l) ∧ ∃ n c,v = .slice (some ⟨w.heap.size,0,none⟩) n c) ∧ Below w.heap.size w w' := by
 obtain ⟨c,hc⟩ : ∃ c,c = l.length / 19 + 1 := ⟨_,rfl⟩
 have hmk := fun W => mkRoom c (by unfold maxW;omega) W
 have e1 : ((l.length : Int) / 19 + 1) = (c : Int) := by rw [hc];simp
 have e1b : IntKind.i64.wrap ((l.length : Int) / 19 + 1) = (c : Int) := by rw [e1];rw [IntKind.wrap_i64];omega
 have HC := Lib.hid (And.intro hc hl)
 clear hc
 go_enter Tryz.func141,Tryz.ntmps141
 go_wp2
 go_step3
 go_wp2
 go_step3
 go_wp2
 go_loopg [0,2] l.length (fun r s v W => ∃ (p rest : List UInt8) (zs : List Nat),r = rest.length ∧ s = .string ⟨rest.toArray⟩ ∧ RdR l w c p rest v W zs)
 case atStart => exact ⟨[],l,_,rfl,rfl,RdR.at0 l w c⟩
 case round =>
  obtain ⟨p,rest,zs,rfl,rfl,hR⟩ := hrel
  have hv := hR.val
  subst hv
  have HR := Lib.hid hR
  by_cases h0 : 0 < rest.length
  · obtain ⟨q,hq⟩ : ∃ q,rest.length = q + 1 := ⟨rest.length - 1,by omega⟩
    obtain ⟨sz,hsz⟩ : ∃ s,s = q % 19 + 1 := ⟨_,rfl⟩
    have hle : rest.length ≤ 1000000 := by
     have := congrArg List.length hR.app
     rw [List.length_append] at this
     have := HC.out.2
     omega
    have E0 : rest.isEmpty = false := by cases rest with
     | nil => simp at h0
     | cons => rfl
    have E1 : IntKind.i64.wrap ((rest.length : Int) - 1) = (q : Int) := by rw [IntKind.wrap_i64];omega
    have E2 : IntKind.i64.wrap ((q : Int) % 19 + 1) = (sz : Int) := by rw [IntKind.wrap_i64];omega
    have HQ := Lib.hid (And.intro hq (And.intro hsz hle))
    clear hR hq hsz hle h0
    go_wp2
    go_loopg [5,21] sz (fun r s iv W => ∃ i : Nat,i ≤ sz ∧ r = sz - i ∧ iv = .int .i64 (i : Int) ∧ s = .int .u64 ((dval (rest.take i) : Nat) : Int) ∧ (rest.take i).all isDig = true ∧ W = wr)
    case atStart => exact ⟨0,by omega,rfl,rfl,rfl,rfl,rfl⟩
    case round =>
     obtain ⟨i,hi,rfl,rfl,rfl,hall,rfl⟩ := hrel
     by_cases hlt : i < sz
     · have hlt' : (i : Int) < (sz : Int) := by omega
       have hi1 : i < rest.length := by have := HQ.out;omega
       have hi2 : (i : Int) < (rest.length : Int) := by omega
       have hb : i < (⟨rest.toArray⟩ : ByteArray).size := hi1
       obtain ⟨x,hx⟩ : ∃ x,rest[i]? = some x := ⟨rest[i],List.getElem?_eq_getElem hi1⟩
       have hgx := getB hi1 x hx hb
       have hsn := take_snoc hx
       have hdl := dval_lt hall
       rw [List.length_take,Nat.min_eq_left (by omega)] at hdl
       have h18 : i ≤ 18 := by have := HQ.out;omega
       have hpw : (10 : Nat) ^ i ≤ 10 ^ 18 := Nat.pow_le_pow_right (by omega) h18
       obtain ⟨G,hG⟩ : ∃ G,G = dval (rest.take i) := ⟨_,rfl⟩
       rw [← hG] at hdl ⊢
       by_cases hd : isDig x = true
       · obtain ⟨d,hd9,hxd,hD⟩ := digit_of hd
         obtain ⟨G1,hG1⟩ : ∃ g,g = G * 10 := ⟨_,rfl⟩
         obtain ⟨G2,hG2⟩ : ∃ g,g = G1 + d := ⟨_,rfl⟩
         have F1 : IntKind.u64.wrap ((G : Int) * 10) = (G1 : Int) := by
          rw [show (G : Int) * 10 = ((G1 : Nat) : Int) by omega]
          exact wrapU (by rw [B64_eq];omega)
         have F2 : IntKind.u64.wrap ((G1 : Int) + (d : Int)) = (G2 : Int) := by
          rw [show (G1 : Int) + (d : Int) = ((G2 : Nat) : Int) by omega]
          exact wrapU (by rw [B64_eq];omega)
         have F3 : decide ((9 : Int) < (d : Int)) = false := by simp;omega
         have F4 : ¬ (9 : Int) < (d : Int) := by omega
         have hE : dval (rest.take (i + 1)) = G2 := by rw [hsn,dval_snoc,← hG,hxd,hG2,hG1]
         have hA : (rest.take (i + 1)).all isDig = true := by rw [hsn,List.all_append,hall];simp [hd]
         have HE := Lib.hid (And.intro hE hA)
         clear hsn hdl hpw hG hG1 hG2 hd hx hE hA hxd hd9 hall
         go_wp2
         go_roundg (sz - (i + 1))
         case measure => omega
         case rel => exact ⟨i + 1,by omega,rfl,by go_num,by rw [HE.out.1],HE.out.2,rfl⟩
       · obtain ⟨d,hd9,hD⟩ := nodigit_of hd
         have F3 : decide ((9 : Int) < (d : Int)) = true := by simp;omega
         have F4 : (9 : Int) < (d : Int) := by omega
         have hnd : l.all isDig = false := by
          rw [HR.out.app,List.all_append]
          have : rest.all isDig = false := by
           rw [List.all_eq_false]
           exact ⟨x,List.mem_of_getElem? hx,by simpa using hd⟩
          rw [this,Bool.and_false]
         have HE := Lib.hid hnd
         clear hsn hdl hpw hG hd hx hall hnd
         go_wp2
         rw [Exit.noGoto_ret]
         exact bodyPost_ret (v := .tuple #[_,.bool false]) (by simp [results,Tryz.results141,go_sem];rfl) rfl ⟨_,by rw [HE.out],fun h => absurd (h.symm.trans HE.out) (by decide),HR.out.bel⟩
     · obtain rfl : i = sz := by omega
       have hlt' : ¬ (i : Int) < (i : Int) := by omega
       obtain ⟨hq,hsz,hle⟩ := HQ.out
       have hdl := dval_lt hall
       rw [List.length_take,Nat.min_eq_left (by omega)] at hdl
       have hpw : (10 : Nat) ^ i ≤ 10 ^ 19 := Nat.pow_le_pow_right (by omega) (by omega)
       obtain ⟨r1,r2,r3,r4,r5,r6,r7,r8,r9⟩ := HR.out
       have hroom := room19 r1 r2 r3 (by omega) HC.out.1
       have hcm : c ≤ maxW := by have := HC.out;unfold maxW;omega
       have hag := appendGroup_any w.heap.size _ c (dval p) (dval (rest.take i)) zs wr r7 r5 rfl r8 hroom hcm (by rw [B64_eq];omega) r6
       rw [← group_dval r3 hq hsz] at hag
       have hi3 : (i : Int) ≤ (rest.length : Int) := by omega
       have HF := Lib.hid (And.intro r1 (And.intro r2 (And.intro r3 (And.intro r9 (And.intro hq (And.intro hsz hall))))))
       clear hq hsz hle hdl hpw r1 r2 r3 r4 r5 r6 r7 r8 r9 hroom hcm hall hi
       go_wp2_with fail
       refine hag.mono ?_
       rintro e w1 ⟨rfl,ys,y1,y2,y3,y4,y5⟩
       go_wp2_with fail
       obtain ⟨r1,r2,r3,r9,hq,hsz,hall⟩ := HF.out
       go_roundg (rest.drop i).length
       case measure => rw [List.length_drop];omega
       case rel =>
        refine ⟨p ++ rest.take i,rest.drop i,ys,rfl,by rw [extB],⟨?_,?_,Or.inr ?_,rfl,y1,y2,y3,y4,?_⟩⟩
        · rw [List.append_assoc,List.take_append_drop];exact r1
        · rw [List.all_append,r2,hall];rfl
        · rw [List.length_drop];omega
        · exact r9.trans ⟨y5.os,y5.tape,y5.output,y5.size,fun k hk => y5.block k (Nat.lt_of_lt_of_le hk r9.size) (fun e => by injection e with e;omega)⟩
  · obtain rfl : rest = [] := by cases rest with
     | nil => rfl
     | cons => exact absurd (Nat.succ_pos _) h0
    clear hR
    obtain ⟨r1,r2,r3,r4,r5,r6,r7,r8,r9⟩ := HR.out
    rw [List.append_nil] at r1
    have hkc : wlen B64 (dval p) ≤ c := by
     have := congrArg List.length r8
     rw [List.length_take,length_ws,r5] at this
     omega
    have hm : MagV wr (.slice (some ⟨w.heap.size,0,none⟩) (wlen B64 (dval p)) c) (dval l) := by
     have h := r7.slk (k := wlen B64 (dval p)) (by rw [r5];exact hkc)
     rw [r8] at h
     rw [r1]
     exact ⟨_,c,rfl,hkc,by have := HC.out;omega,h⟩
    have hall : l.all isDig = true := by rw [r1];exact r2
    have HM := Lib.hid (And.intro hm (And.intro hall r9))
    clear r1 r2 r3 r4 r5 r6 r7 r8 r9 hkc hm hall
    go_wp2
    rw [Exit.noGoto_ret]
    exact bodyPost_ret (v := .tuple #[_,.bool true]) (by simp [results,Tryz.results141,go_sem];rfl) rfl ⟨_,by rw [HM.out.2.1],fun _ => ⟨HM.out.1,_,_,rfl⟩,HM.out.2.2⟩
end Go.Proofs.YtlfgpmnjnpdkdaaGreatDoor
namespace Go.Proofs.YtlfgpmnjnpdkdaaGreatDoor
open Go.RowKit Vd
theorem cut_eq (l : List UInt8) : Lib.trimPrefix l [45] = (cutm l).1 ∧ Lib.hasPrefix l [45] = (cutm l).2 := by
 cases l with
 | nil => simp [Lib.trimPrefix,Lib.hasPrefix,cutm]
 | cons c t =>
   by_cases h : c = 45
   · subst h;simp [Lib.trimPrefix,Lib.hasPrefix,cutm]
   · have h' : ¬ 45 = c := fun e => h e.symm
     simp [Lib.trimPrefix,Lib.hasPrefix,cutm,h,h',List.isPrefixOf]
theorem cut_any (l : List UInt8) (w : World) : Calls Tryz.prog 133 #[.string ⟨l.toArray⟩,.string ⟨#[45]⟩] w fun e w' => e = .returned (.tuple #[.string ⟨(cutm l).1.toArray⟩,.bool (cutm l).2]) ∧ w = w' := by
 refine (Tryz.strings_CutPrefix ⟨l.toArray⟩ ⟨#[45]⟩ w).mono ?_
 rintro e w' ⟨he,rfl⟩
 refine ⟨?_,rfl⟩
 rw [he]
 have h := cut_eq l
 rw [← h.1,← h.2]
def SgV (w : World) (v : Value) (z : Int) : Prop := ∃ m,v = .agg #[m,.bool (decide (z < 0))] ∧ MagV w m z.natAbs
theorem SgV.below {w w' : World} {v : Value} {z : Int} (h : SgV w v z) (hb : Below w.heap.size w w') : SgV w' v z := by
 obtain ⟨m,e,hm⟩ := h
 exact ⟨m,e,hm.below hb⟩
theorem SgV.drewN {w : World} {v : Value} {z : Int} (h : SgV w v z) (k : Nat) : SgV (w.drewN k) v z := h
theorem MagV.far {w : World} {g o m c n : Nat} {p : Addr} (h : MagV w (.slice (some ⟨g,o,none⟩) m c) n) (hp : g ≠ p.block) (u : Value) : MagV (w.setCell p u) (.slice (some ⟨g,o,none⟩) m c) n := by
 obtain ⟨A,c',e,h1,h2,h3⟩ := h
 refine ⟨A,c',e,h1,h2,h3.far (fun g' o' e' _ => ?_) u⟩
 injection e with e1 e2 e3
 rw [← e1] at e'
 injection e' with e'
 injection e' with e' e''
 rw [← e'];exact hp
theorem dval_pos {l : List UInt8} (h : l.all isDig = true) (hne : l ≠ []) (hh : l.head? ≠ some 48) : 0 < dval l := by
 rcases Nat.eq_zero_or_pos (dval l) with h0 | h0
 · have := digs_dval h hne (fun e => absurd e hh)
   rw [h0,digs_zero] at this
   rw [← this] at hh
   exact absurd rfl hh
 · exact h0
def rdMost (most : Nat) (s : List UInt8) : Option Int := if (cutm s).1.length ≤ most then rdAny s else none
theorem rdMost_maxDigits (s : List UInt8) : rdMost 600 s = rd s := rfl
def ReadP (most : Nat) (l : List UInt8) (ok : Bool) (z : Int) : Prop := (ok = true ∧ rdMost most l = some z) ∨ (ok = false ∧ rdMost most l = none ∧ z = 0)
theorem rdMost_none {most : Nat} {l : List UInt8} (h : rdAny l = none) : rdMost most l = none := by unfold rdMost;rw [h];split <;> rfl
theorem rdMost_some {most : Nat} {l : List UInt8} {z : Int} (hm : (cutm l).1.length ≤ most) (h : rdAny l = some z) : rdMost most l = some z := by unfold rdMost;rw [if_pos hm,h]
theorem rdMost_long {most : Nat} {l : List UInt8} (hm : ¬ (cutm l).1.length ≤ most) : rdMost most l = none := by unfold rdMost;rw [if_neg hm]
theorem rdAny_none_head {l : List UInt8} (h : (cutm l).1 = [] ∨ ((cutm l).1.head? = some 48 ∧ l ≠ [48]) ∨ (cutm l).1.all isDig = false) : rdAny l = none := by
 unfold rdAny
 rw [if_neg]
 rintro ⟨h1,h2,h3⟩
 rcases h with h | ⟨h,h'⟩ | h
 · exact h1 h
 · exact h' (h3 h)
 · rw [h] at h2;cases h2
theorem rdAny_good {l : List UInt8} (h1 : (cutm l).1 ≠ []) (h2 : (cutm l).1.all isDig = true) (h3 : (cutm l).1.head? = some 48 → l = [48]) :
 ∃ z,rdAny l = some z ∧ z.natAbs = dval (cutm l).1 ∧ decide (z < 0) = (cutm l).2 := by
 refine ⟨_,by unfold rdAny;rw [if_pos ⟨h1,h2,h3⟩],?_,?_⟩
 · split <;> simp
 · by_cases hc : (cutm l).2 = true
   · rw [if_pos hc,hc]
     have hp := dval_pos h2 h1 (by
      intro hh
      rw [h3 hh] at hc
      exact absurd hc (by decide))
     simp;omega
   · rw [if_neg hc]
     simp at hc
     rw [hc]
     simp
theorem rdMost_good {most : Nat} {l : List UInt8} {n : Nat} {b : Bool} (hm : (cutm l).1.length ≤ most) (h : ∃ z,rdAny l = some z ∧ z.natAbs = n ∧ decide (z < 0) = b) :
 ∃ z,rdMost most l = some z ∧ z.natAbs = n ∧ decide (z < 0) = b := by
 obtain ⟨z,h1,h2,h3⟩ := h
 exact ⟨z,rdMost_some hm h1,h2,h3⟩
set_option maxRecDepth 100000 in
set_option maxHeartbeats 1000000 in
theorem read_any (l : List UInt8) (most : Nat) (w : World) (hmost : most ≤ 1000000) :
 Calls Tryz.prog 111 #[.string ⟨l.toArray⟩,.int .i64 (most : Int)] w fun e w' => ∃ (x : Value) (ok : Bool) (z : Int),e = .returned (.tuple #[x,.bool ok]) ∧ SgV w' x z ∧ ReadP most l ok z ∧ Below w.heap.size w w' := by
 obtain ⟨dg,hdg⟩ : ∃ d,d = (cutm l).1 := ⟨_,rfl⟩
 obtain ⟨ng,hng⟩ : ∃ d,d = (cutm l).2 := ⟨_,rfl⟩
 have hcut := fun W => cut_any l W
 rw [← hdg,← hng] at hcut
 have hrd := fun (hle : dg.length ≤ most) W => readDigits_any dg W (Nat.le_trans hle hmost)
 have HD := Lib.hid (And.intro hdg hng)
 clear hdg hng hmost
 have z0 : ∀ W : World,SgV W (.agg #[.slice none 0 0,.bool false]) 0 := fun W => ⟨_,rfl,MagV.zero W⟩
 have HZ := Lib.hid z0
 clear z0
 by_cases h0 : dg = []
 · have E0 : dg.isEmpty = true := by rw [h0];rfl
   have HP := Lib.hid (show ReadP most l false 0 from Or.inr ⟨rfl,rdMost_none <| rdAny_none_head (Or.inl (by rw [← HD.out.1];exact h0)),rfl⟩)
   clear h0
   go_enter Tryz.func111,Tryz.ntmps111
   go_wp2_with (go_at_call 133;refine (hcut _).mono ?_;rintro e w1 ⟨rfl,rfl⟩)
   refine bodyPost_ret (v := .tuple #[.agg #[.slice none 0 0,.bool false],.bool false]) (by simp [results,Tryz.results111,go_sem]) rfl ⟨_,false,0,rfl,HZ.out _,HP.out,(Below.refl _ _).alloc (Nat.le_refl _) _⟩
 · have E0 : dg.isEmpty = false := by cases dg with
    | nil => exact absurd rfl h0
    | cons => rfl
   have hlen : 0 < dg.length := by cases dg with
    | nil => exact absurd rfl h0
    | cons => exact Nat.succ_pos _
   obtain ⟨x,hx⟩ : ∃ x,dg[0]? = some x := ⟨dg[0],List.getElem?_eq_getElem hlen⟩
   have hhd : dg.head? = some x := by rw [List.head?_eq_getElem?];exact hx
   have hgx := getB hlen x hx hlen
   have hlen' : (0 : Int) < (dg.length : Int) := by omega
   by_cases hlong : most < dg.length
   · have KL : decide (most < dg.length) = true := by simpa using hlong
     have HP := Lib.hid (show ReadP most l false 0 from Or.inr ⟨rfl,rdMost_long (by rw [← HD.out.1];omega),rfl⟩)
     clear h0 hx hhd hlong hrd hgx
     go_enter Tryz.func111,Tryz.ntmps111
     go_wp2_with (go_at_call 133;refine (hcut _).mono ?_;rintro e w1 ⟨rfl,rfl⟩)
     exact bodyPost_ret (v := .tuple #[.agg #[.slice none 0 0,.bool false],.bool false]) (by simp [results,Tryz.results111,go_sem]) rfl ⟨_,false,0,rfl,HZ.out _,HP.out,(Below.refl _ _).alloc (Nat.le_refl _) _⟩
   have hrd := hrd (Nat.le_of_not_lt hlong)
   have KL : decide (most < dg.length) = false := by simpa using hlong
   have HLE := Lib.hid (Nat.le_of_not_lt hlong)
   clear hlong
   by_cases hbad : x = 48 ∧ l ≠ [48]
   · have K1 : ((x.toNat : Int) == 48) = true := by rw [hbad.1];decide
     have K2 : (l == [48]) = false := by rw [beq_eq_false_iff_ne];exact hbad.2
     have HP := Lib.hid (show ReadP most l false 0 from Or.inr ⟨rfl,rdMost_none <| rdAny_none_head (Or.inr (Or.inl ⟨by rw [← HD.out.1,hhd,hbad.1],hbad.2⟩)),rfl⟩)
     clear h0 hx hhd hbad
     go_enter Tryz.func111,Tryz.ntmps111
     go_wp2_with (go_at_call 133;refine (hcut _).mono ?_;rintro e w1 ⟨rfl,rfl⟩)
     refine bodyPost_ret (v := .tuple #[.agg #[.slice none 0 0,.bool false],.bool false]) (by simp [results,Tryz.results111,go_sem]) rfl ⟨_,false,0,rfl,HZ.out _,HP.out,(Below.refl _ _).alloc (Nat.le_refl _) _⟩
   · have hgood : ((x.toNat : Int) == 48) = false ∨ (((x.toNat : Int) == 48) = true ∧ (l == [48]) = true) := by
      by_cases h1 : x = 48
      · by_cases h2 : l = [48]
        · exact Or.inr ⟨by rw [h1];decide,by rw [h2];decide⟩
        · exact absurd ⟨h1,h2⟩ hbad
      · refine Or.inl ?_
        rw [beq_eq_false_iff_ne]
        intro e
        exact h1 (UInt8.toNat_inj.1 (by have : x.toNat = 48 := by omega
                                        rw [this];rfl))
     have HG : Hid (dg.all isDig = true → ∃ z,rdMost most l = some z ∧ z.natAbs = dval dg ∧ decide (z < 0) = ng) := Lib.hid (fun ha => by
      have hle := HLE.out
      rw [HD.out.1] at hle
      rw [HD.out.1,HD.out.2]
      refine rdMost_good hle (rdAny_good (by rw [← HD.out.1];exact h0) (by rw [← HD.out.1];exact ha) (fun hh => ?_))
      rw [← HD.out.1,hhd] at hh
      injection hh with hh
      exact Classical.byContradiction fun hl => hbad ⟨hh,hl⟩)
     have HN : Hid (dg.all isDig = false → ReadP most l false 0) := Lib.hid (fun ha => Or.inr ⟨rfl,rdMost_none <| rdAny_none_head (Or.inr (Or.inr (by rw [← HD.out.1];exact ha))),rfl⟩)
     clear h0 hx hhd hbad
     rcases hgood with K1 | ⟨K1,K2⟩
     · go_enter Tryz.func111,Tryz.ntmps111
       go_wp2_with (go_at_call 133;refine (hcut _).mono ?_;rintro e w1 ⟨rfl,rfl⟩)
       refine (hrd _).mono ?_
       rintro e w2 ⟨v,rfl,hm,hb⟩
       have hc0 : w2.cell? ⟨w.heap.size,0,none⟩ = some (.slice none 0 0) := by rw [hb.cell (by simp)];simp [go_sem]
       have hc1 : w2.cell? ⟨w.heap.size,1,none⟩ = some (.bool false) := by rw [hb.cell (by simp)];simp [go_sem]
       have hf0 : w2.frozen? ⟨w.heap.size,0,none⟩ = false := by rw [hb.frozen (by simp)];simp [go_sem]
       have hf1 : w2.frozen? ⟨w.heap.size,1,none⟩ = false := by rw [hb.frozen (by simp)];simp [go_sem]
       have hb' : Below w.heap.size w w2 := ((Below.refl _ _).alloc (Nat.le_refl _) _).trans (hb.mono (by simp))
       by_cases hall : dg.all isDig = true
       · have ⟨hm1,nn,cc,hv⟩ := hm hall
         have HM := Lib.hid hm1
         subst hv
         clear hm hm1
         go_wp2_with fail
         obtain ⟨z,hz,hn,hd⟩ := HG.out hall
         refine bodyPost_ret (v := .tuple #[.agg #[.slice (some ⟨w.heap.size + 1,0,none⟩) nn cc,.bool ng],.bool true]) (by simp [results,Tryz.results111,go_sem,hc0,hc1]) rfl ⟨_,true,z,rfl,⟨_,by rw [hd],?_⟩,Or.inl ⟨rfl,hz⟩,(hb'.setCell (Nat.le_refl _) _).setCell (Nat.le_refl _) _⟩
         have := HM.out
         rw [← hn,World.size_alloc] at this
         exact (this.far (by simp) _).far (by simp) _
       · have hall' : dg.all isDig = false := by simpa using hall
         clear hm hall
         go_wp2_with fail
         exact bodyPost_ret (v := .tuple #[.agg #[.slice none 0 0,.bool false],.bool false]) (by simp [results,Tryz.results111,go_sem,hc0,hc1]) rfl ⟨_,false,0,rfl,HZ.out _,HN.out hall',(hb'.setCell (Nat.le_refl _) _).setCell (Nat.le_refl _) _⟩
     · go_enter Tryz.func111,Tryz.ntmps111
       go_wp2_with (go_at_call 133;refine (hcut _).mono ?_;rintro e w1 ⟨rfl,rfl⟩)
       refine (hrd _).mono ?_
       rintro e w2 ⟨v,rfl,hm,hb⟩
       have hc0 : w2.cell? ⟨w.heap.size,0,none⟩ = some (.slice none 0 0) := by rw [hb.cell (by simp)];simp [go_sem]
       have hc1 : w2.cell? ⟨w.heap.size,1,none⟩ = some (.bool false) := by rw [hb.cell (by simp)];simp [go_sem]
       have hf0 : w2.frozen? ⟨w.heap.size,0,none⟩ = false := by rw [hb.frozen (by simp)];simp [go_sem]
       have hf1 : w2.frozen? ⟨w.heap.size,1,none⟩ = false := by rw [hb.frozen (by simp)];simp [go_sem]
       have hb' : Below w.heap.size w w2 := ((Below.refl _ _).alloc (Nat.le_refl _) _).trans (hb.mono (by simp))
       by_cases hall : dg.all isDig = true
       · have ⟨hm1,nn,cc,hv⟩ := hm hall
         have HM := Lib.hid hm1
         subst hv
         clear hm hm1
         go_wp2_with fail
         obtain ⟨z,hz,hn,hd⟩ := HG.out hall
         refine bodyPost_ret (v := .tuple #[.agg #[.slice (some ⟨w.heap.size + 1,0,none⟩) nn cc,.bool ng],.bool true]) (by simp [results,Tryz.results111,go_sem,hc0,hc1]) rfl ⟨_,true,z,rfl,⟨_,by rw [hd],?_⟩,Or.inl ⟨rfl,hz⟩,(hb'.setCell (Nat.le_refl _) _).setCell (Nat.le_refl _) _⟩
         have := HM.out
         rw [← hn,World.size_alloc] at this
         exact (this.far (by simp) _).far (by simp) _
       · have hall' : dg.all isDig = false := by simpa using hall
         clear hm hall
         go_wp2_with fail
         exact bodyPost_ret (v := .tuple #[.agg #[.slice none 0 0,.bool false],.bool false]) (by simp [results,Tryz.results111,go_sem,hc0,hc1]) rfl ⟨_,false,0,rfl,HZ.out _,HN.out hall',(hb'.setCell (Nat.le_refl _) _).setCell (Nat.le_refl _) _⟩
end Go.Proofs.YtlfgpmnjnpdkdaaGreatDoor
namespace Go.Proofs.YtlfgpmnjnpdkdaaGreatDoor
open Go.RowKit Vd
def B8 (x : Nat) : Value := .int .u8 (x : Int)
def I8 (x : Nat) : Value := .int .i64 (x : Int)
structure Two (gs gx : Nat) (w w' : World) : Prop where
 os : w'.os = w.os
 tape : w'.tape = w.tape
 output : w'.output = w.output
 size : w'.heap.size = w.heap.size
 block : ∀ b,b ≠ gs → b ≠ gx → w'.heap[b]? = w.heap[b]?
theorem Two.refl (gs gx : Nat) (w : World) : Two gs gx w w := ⟨rfl,rfl,rfl,rfl,fun _ _ _ => rfl⟩
theorem Two.step {gs gx : Nat} {a w : World} (h : Two gs gx a w) (i j : Nat) (u v : Value) : Two gs gx a ((w.setCell ⟨gs,i,none⟩ u).setCell ⟨gx,j,none⟩ v) :=
 ⟨h.os,h.tape,h.output,by simpa using h.size,fun b h1 h2 => (Below.heap_setCell _ ⟨gx,j,none⟩ v b h2).trans ((Below.heap_setCell _ ⟨gs,i,none⟩ u b h1).trans (h.block b h1 h2))⟩
theorem Two.below {gs gx B : Nat} {a w : World} (h : Two gs gx a w) (h1 : B ≤ gs) (h2 : B ≤ gx) : Below B a w :=
 ⟨h.os,h.tape,h.output,by rw [h.size];exact Nat.le_refl _,fun k hk => h.block k (by omega) (by omega)⟩
theorem row_kind {w : World} {f : Nat → Value} {g : Nat} {t : TypeId} {xs : List Nat} (h : Row w f g t xs) {i : Nat} {u : Value} (hc : w.cell? ⟨g,i,none⟩ = some u) : ∃ x,u = f x := by
 rw [cell_of_row w g i _ t (0,0) h] at hc
 simp at hc
 obtain ⟨x,_,hx⟩ := hc
 exact ⟨x,hx.symm⟩
structure PutS (gs gt gx c : Nat) (W : World) (s : Nat) (zs : List Nat) : Prop where
 srow : Row W I8 gs 3 [s]
 tx : W.cell? ⟨gt,0,none⟩ = some (.slice (some ⟨gx,0,none⟩) c c)
 row : Row W B8 gx 5 zs
 len : zs.length = c
 n1 : gs ≠ gt
 n2 : gs ≠ gx
 n3 : gt ≠ gx
 cl : c ≤ 1099511627776
theorem PutS.st {gs gt gx c : Nat} {W : World} {s : Nat} {zs : List Nat} (h : PutS gs gt gx c W s zs) : W.cell? ⟨gs,0,none⟩ = some (.int .i64 (s : Int)) := h.srow.cell (i := 0) (by simp)
theorem PutS.sf {gs gt gx c : Nat} {W : World} {s : Nat} {zs : List Nat} (h : PutS gs gt gx c W s zs) : W.frozen? ⟨gs,0,none⟩ = false := h.srow.frozen 0
theorem PutS.mag {gs gt gx c : Nat} {W W' : World} {s : Nat} {zs : List Nat} (h : PutS gs gt gx c W s zs) (ht : Two gs gx W W') {v : Value} {n : Nat} (hm : MagV W v n) : MagV W' v n := by
 obtain ⟨A,c',e,h1,h2,h3⟩ := hm
 refine ⟨A,c',e,h1,h2,h3.1,fun hn => ?_⟩
 obtain ⟨g,o,e,hlt,hc⟩ := h3.2 hn
 have hc0 := hc 0 hn
 refine ⟨g,o,e,by rw [ht.size];exact hlt,fun i hi => ?_⟩
 have hg1 : g ≠ gs := by
  intro eg
  subst eg
  obtain ⟨x,hx⟩ := row_kind h.srow hc0
  unfold U I8 at hx
  injection hx with hx
  cases hx
 have hg2 : g ≠ gx := by
  intro eg
  subst eg
  obtain ⟨x,hx⟩ := row_kind h.row hc0
  unfold U B8 at hx
  injection hx with hx
  cases hx
 exact (World.cell?_of_block (w := W) (ht.block g hg1 hg2)).trans (hc i hi)
theorem PutS.step {gs gt gx c : Nat} {W : World} {s : Nat} {zs : List Nat} (h : PutS gs gt gx c W (s + 1) zs) (x : Nat) :
 PutS gs gt gx c ((W.setCell ⟨gs,0,none⟩ (.int .i64 (s : Int))).setCell ⟨gx,s,none⟩ (B8 x)) s (zs.set s x) where
 srow := (h.srow.set 0 s).far (fun e => h.n2 e) _
 tx := by
  rw [World.cell?_setCell_other _ _ _ _ (by intro e;injection e with e;exact h.n3 e.symm),World.cell?_setCell_other _ _ _ _ (by intro e;injection e with e;exact h.n1 e)]
  exact h.tx
 row := (h.row.far (fun e => h.n2 e.symm) _).set s x
 len := by rw [List.length_set];exact h.len
 n1 := h.n1
 n2 := h.n2
 n3 := h.n3
 cl := h.cl
theorem padd_front (j n : Nat) : padd (j + 1) n = dig (n / 10 ^ j % 10) :: padd j n := by
 rw [Nat.add_comm,padd_add]
 rfl
theorem drop_set_front {zs : List Nat} {s x : Nat} (h : s < zs.length) : (zs.set s x).drop s = x :: zs.drop (s + 1) := drop_set_self h
structure PutK (grp width k : Nat) : Prop where
 wk : width ≤ k
 lt : grp < 10 ^ k
 mn : k = width ∨ (1 ≤ k ∧ 10 ^ (k - 1) ≤ grp)
theorem PutK.more {grp width k j : Nat} (h : PutK grp width k) : j < k ↔ (0 < grp / 10 ^ j ∨ j < width) := by
 have hp : 0 < 10 ^ j := Nat.pow_pos (by omega)
 constructor
 · intro hj
   rcases h.mn with e | ⟨h1,h2⟩
   · right;omega
   · left
     rw [Nat.div_pos_iff]
     exact ⟨hp,Nat.le_trans (Nat.pow_le_pow_right (by omega) (by omega)) h2⟩
 · intro hj
   rcases hj with h1 | h1
   · rw [Nat.div_pos_iff] at h1
     refine (Nat.pow_lt_pow_iff_right (a := 10) (by omega)).1 (Nat.lt_of_le_of_lt h1.2 h.lt)
   · have := h.wk;omega
set_option maxRecDepth 100000 in
set_option maxHeartbeats 1000000 in
theorem put_any (gs gt gx c grp width k s : Nat) (zs : List Nat) (w : World) (hP : PutS gs gt gx c w s zs) (hK : PutK grp width k) (hks : k ≤ s) (hsc : s ≤ c) (hg : grp < B64) :
 Calls Tryz.prog 158 #[.int .u64 (grp : Int),.int .i64 (width : Int),.pointer (some ⟨gs,0,none⟩),.pointer (some ⟨gt,0,none⟩)] w fun e w' => e = .returned (.tuple #[]) ∧ ∃ zs' : List Nat,PutS gs gt gx c w' (s - k) zs' ∧ zs'.drop (s - k) = (padd k grp).map (·.toNat) ++ zs.drop s ∧ Two gs gx w w' := by
 have hcl := hP.cl
 have ist := hP.st
 have hw := hK.wk
 have e1 : IntKind.i64.wrap ((s : Int) - (width : Int)) = (s : Int) - (width : Int) := by rw [IntKind.wrap_i64];omega
 have HA := Lib.hid (And.intro hP (And.intro hK (And.intro hks hsc)))
 clear hP hK hks hsc hcl hw
 go_enter Tryz.func158,Tryz.ntmps158
 go_wp2
 go_loopg [0] k (fun r a W => ∃ (j : Nat) (ys : List Nat),j ≤ k ∧ r = k - j ∧ a = .int .u64 ((grp / 10 ^ j : Nat) : Int) ∧ PutS gs gt gx c W (s - j) ys ∧ ys.drop (s - j) = (padd j grp).map (·.toNat) ++ zs.drop s ∧ Two gs gx w W)
 case atStart => exact ⟨0,zs,Nat.zero_le _,rfl,by rw [Nat.pow_zero,Nat.div_one],HA.out.1,rfl,Two.refl _ _ _⟩
 case round =>
  obtain ⟨j,ys,hj,rfl,rfl,hP,hdr,hbel⟩ := hrel
  by_cases hlt : j < k
  · obtain ⟨q,hq⟩ : ∃ q,q = grp / 10 ^ j := ⟨_,rfl⟩
    obtain ⟨S,hS⟩ : ∃ S,S = s - j := ⟨_,rfl⟩
    obtain ⟨t,ht⟩ : ∃ t,S = t + 1 := ⟨S - 1,by have := HA.out;omega⟩
    obtain ⟨d,hd⟩ : ∃ d,d = q % 10 := ⟨_,rfl⟩
    obtain ⟨x,hx⟩ : ∃ x,x = 48 + d := ⟨_,rfl⟩
    obtain ⟨q2,hq2⟩ : ∃ x,x = q / 10 := ⟨_,rfl⟩
    have hmore := (HA.out.2.1.more (j := j)).1 hlt
    have hcl := hP.cl
    have htc : t < c := by have := HA.out;omega
    rw [← hS] at hP hdr
    rw [← hq] at hmore ⊢
    have hst := hP.st
    have hsf := hP.sf
    have htx := hP.tx
    have hn1 := hP.n1
    have hn1' : ¬ gt = gs := fun e => hP.n1 e.symm
    have hn2 := hP.n2
    have hn2' : ¬ gx = gs := fun e => hP.n2 e.symm
    have hn3 := hP.n3
    have hn3' : ¬ gx = gt := fun e => hP.n3 e.symm
    have hcs := hP.row.cell (i := t) (by rw [hP.len];exact htc)
    have hfs := hP.row.frozen t
    unfold B8 at hcs
    have D1 : (q : Int) % 10 = (d : Int) := by omega
    have D2 : (d : Int) % 256 = (d : Int) := by omega
    have D3 : (48 + (d : Int)) % 256 = (x : Int) := by omega
    have D4 : IntKind.u8.wrap (d : Int) = (d : Int) := by rw [IntKind.wrap_u8];omega
    have D5 : IntKind.u8.wrap (48 + (d : Int)) = (x : Int) := by rw [IntKind.wrap_u8];omega
    have Q1 : (q : Int) / 10 = (q2 : Int) := by omega
    have Q2 : IntKind.u64.wrap (q2 : Int) = (q2 : Int) := wrapU (by have := Nat.div_le_self grp (10 ^ j);omega)
    have S1 : IntKind.i64.wrap ((S : Int) - 1) = (t : Int) := by rw [IntKind.wrap_i64];omega
    have T1 : (t : Int) < (c : Int) := by omega
    have T0 : (0 : Int) ≤ (t : Int) := by omega
    have HV := Lib.hid (And.intro hq (And.intro hS (And.intro ht (And.intro hd (And.intro hx (And.intro hq2 (And.intro hP hdr)))))))
    by_cases hq0 : 0 < q
    · have k1 : (0 : Int) < (q : Int) := by omega
      clear hq hS ht hd hx hq2 hP hdr hmore hcl htc ist
      go_wp2
      go_roundg (k - (j + 1))
      case measure => omega
      case rel =>
       obtain ⟨hq,hS,ht,hd,hx,hq2,hP,hdr⟩ := HV.out
       refine ⟨j + 1,ys.set t x,by omega,rfl,?_,?_,?_,hbel.step _ _ _ _⟩
       · rw [hq2,hq,Nat.div_div_eq_div_mul,Nat.pow_succ]
       · rw [show s - (j + 1) = t by omega]
         rw [ht] at hP
         exact hP.step x
       · rw [show s - (j + 1) = t by omega,drop_set_front (by rw [hP.len];have := HA.out;omega),← ht,hdr,padd_front,List.map_cons,List.cons_append,dig_toNat (Nat.mod_lt _ (by omega)),← hq,← hd,← hx]
    · have k1 : ¬ (0 : Int) < (q : Int) := by omega
      have k2 : (s : Int) - (width : Int) < (S : Int) := by omega
      clear hq hS ht hd hx hq2 hP hdr hmore hcl htc ist
      go_wp2
      go_roundg (k - (j + 1))
      case measure => omega
      case rel =>
       obtain ⟨hq,hS,ht,hd,hx,hq2,hP,hdr⟩ := HV.out
       refine ⟨j + 1,ys.set t x,by omega,rfl,?_,?_,?_,hbel.step _ _ _ _⟩
       · rw [hq2,hq,Nat.div_div_eq_div_mul,Nat.pow_succ]
       · rw [show s - (j + 1) = t by omega]
         rw [ht] at hP
         exact hP.step x
       · rw [show s - (j + 1) = t by omega,drop_set_front (by rw [hP.len];have := HA.out;omega),← ht,hdr,padd_front,List.map_cons,List.cons_append,dig_toNat (Nat.mod_lt _ (by omega)),← hq,← hd,← hx]
  · obtain rfl : j = k := by omega
    obtain ⟨q,hq⟩ : ∃ q,q = grp / 10 ^ j := ⟨_,rfl⟩
    obtain ⟨S,hS⟩ : ∃ S,S = s - j := ⟨_,rfl⟩
    have hmore := fun h => hlt ((HA.out.2.1.more (j := j)).2 h)
    have hw := HA.out.2.1.wk
    have hks := HA.out.2.2.1
    have k1 : ¬ (0 : Int) < ((grp / 10 ^ j : Nat) : Int) := fun h => hmore (Or.inl (by omega))
    rw [← hS] at hP hdr
    rw [← hq] at k1 ⊢
    have hst := hP.st
    have k2 : ¬ ((s : Int) - (width : Int) < (S : Int)) := by omega
    have HV := Lib.hid (And.intro hS (And.intro hP hdr))
    clear hq hS hP hdr hmore ist hlt hj hw hks
    go_wp2
    refine ⟨rfl,.tuple #[],by simp [results,Tryz.results158,go_sem],?_⟩
    exact ⟨rfl,ys,by rw [← HV.out.1];exact HV.out.2.1,by rw [← HV.out.1];exact HV.out.2.2,hbel⟩
end Go.Proofs.YtlfgpmnjnpdkdaaGreatDoor
namespace Go.Proofs.YtlfgpmnjnpdkdaaGreatDoor
open Go.RowKit Vd
theorem infoB8 : (Tryz.prog.info? 5).map (fun i => (i.zero,i.size,i.bytes)) = some (some (.int .u8 0),1,1) := by kernel_rfl
theorem mkB8 (n : Nat) (hn : n ≤ 1099511627776) (w : World) : (Instr.makeSlice 184 (.int .i64 (n : Int)) (.int .i64 (n : Int))).run Tryz.prog w = .ok (.slice (some ⟨w.heap.size,0,none⟩) n n) (w.alloc (.cells ((List.replicate n 0).map B8).toArray 5)) := by
 have h := run_make_row' (P := Tryz.prog) 184 5 (.int .u8 0) 1 Tryz.underlying184 infoB8 rfl .i64 .i64 n (by omega) (by omega) w
 rw [← madeCells_eq]
 exact h
theorem dlen_gt {n L most : Nat} (hL : wlen B64 n = L) (h1 : 1 ≤ L) (hm : 1 ≤ most) (h : most ≤ (L - 1) * 19) : ¬ dlen n ≤ most := by
 rw [dlen_le_iff _ _ hm]
 intro hlt
 have h2 : B64 ^ (L - 1) ≤ n := pow_le_of_lt_wlen two_le_B (by omega)
 have h3 : 10 ^ most ≤ B64 ^ (L - 1) := by
  refine Nat.le_trans (Nat.pow_le_pow_right (by omega) h) ?_
  rw [Nat.mul_comm,Nat.pow_mul]
  exact Nat.pow_le_pow_left (by decide) _
 omega
theorem lt_digits {n L : Nat} (hL : wlen B64 n = L) : n < 10 ^ (20 * L) := by
 refine Nat.lt_of_lt_of_le (lt_pow_wlen two_le_B n) ?_
 rw [hL,Nat.pow_mul]
 exact Nat.pow_le_pow_left (by decide) _
theorem room_more {n L j : Nat} (hL : wlen B64 n = L) (h : 1 < wlen B64 (n / 10 ^ (19 * j))) : 19 * j + 19 < 20 * L := by
 have h1 : B64 ^ 1 ≤ n / 10 ^ (19 * j) := pow_le_of_lt_wlen two_le_B h
 have h2 : 10 ^ 19 ≤ n / 10 ^ (19 * j) := Nat.le_trans (by decide) h1
 have hp : 0 < 10 ^ (19 * j) := Nat.pow_pos (by omega)
 rw [Nat.le_div_iff_mul_le hp,← Nat.pow_add] at h2
 have h3 := Nat.lt_of_le_of_lt h2 (lt_digits hL)
 have := (Nat.pow_lt_pow_iff_right (a := 10) (by omega)).1 h3
 omega
theorem conv_suffix {W : World} {gx s k cap : Nat} {zs : List Nat} {D : List UInt8} (hr : Row W B8 gx 5 zs) (hd : zs.drop s = D.map (·.toNat)) (hk : D.length = k) :
 (convert 184 9 (.slice (some ⟨gx,s,none⟩) k cap)).run Tryz.prog W = .ok (.string ⟨D.toArray⟩) W := by
 have hB : Lib.Bytes W gx s ⟨D.toArray⟩ := by
  intro i hi
  have hi' : i < D.length := hi
  have h1 : nth zs (s + i) = (D[i]).toNat := by
   rw [← nth_drop,hd]
   unfold nth
   rw [List.getElem?_map,List.getElem?_eq_getElem hi']
   rfl
  have hlen : s + i < zs.length := by
   have := congrArg List.length hd
   rw [List.length_drop,List.length_map] at this
   omega
  rw [hr.cell hlen,h1]
  rfl
 subst hk
 exact Lib.run_convert_whole W 184 5 9 Tryz.underlying184 Tryz.underlying5 Tryz.underlying9 gx s ⟨D.toArray⟩ hB cap
theorem put_last {n L j : Nat} (hL : wlen B64 n = L) (hpos : j = 0 ∨ 0 < n / 10 ^ (19 * j)) :
 PutK (n / 10 ^ (19 * j)) 1 (dlen n - 19 * j) ∧ 19 * j + 1 ≤ dlen n ∧ dlen n ≤ 20 * L + 1 := by
 obtain ⟨M,hM⟩ : ∃ M,M = n / 10 ^ (19 * j) := ⟨_,rfl⟩
 rw [← hM] at hpos ⊢
 have hp : 0 < 10 ^ (19 * j) := Nat.pow_pos (by omega)
 have hdM : dlen n = dlen M + 19 * j := by
  rcases Nat.eq_zero_or_pos M with h0 | h0
  · rcases hpos with rfl | h1
    · rw [Nat.mul_zero,Nat.pow_zero,Nat.div_one] at hM;rw [hM,Nat.mul_zero,Nat.add_zero]
    · omega
  · have := dlen_mul_pow (v := M) (k := 19 * j) (w := n % 10 ^ (19 * j)) h0 (Nat.mod_lt _ hp)
    rw [hM,Nat.mul_comm,Nat.div_add_mod] at this
    rw [hM];exact this
 have hd1 := dlen_pos M
 have hd2 : dlen n ≤ 20 * L + 1 := by
  rw [dlen_le_iff _ _ (by omega),Nat.pow_succ]
  have := lt_digits hL
  omega
 refine ⟨⟨by omega,?_,?_⟩,by omega,hd2⟩
 · rw [hdM,Nat.add_sub_cancel];exact lt_pow_dlen M
 · rw [hdM,Nat.add_sub_cancel]
   by_cases h1 : dlen M = 1
   · left;exact h1
   · right;exact ⟨hd1,pow_le_of_lt_dlen (by omega) (by omega)⟩
def decV (n most : Nat) : Value := if dlen n ≤ most then .tuple #[.string ⟨(digs n).toArray⟩,.bool true] else .tuple #[.string ⟨#[]⟩,.bool false]
structure DecR (w : World) (n c M : Nat) (v : Value) (W : World) (j : Nat) (zs : List Nat) : Prop where
 m : M = n / 10 ^ (19 * j)
 mag : MagV W v M
 put : PutS (w.heap.size + 1 + 1) (w.heap.size + 1) w.heap.size c W (c - 19 * j) zs
 drop : zs.drop (c - 19 * j) = (padd (19 * j) n).map (·.toNat)
 le : 19 * j + 1 ≤ c
 pos : j = 0 ∨ 0 < M
 bel : Below w.heap.size w W
theorem putS_below {gs gt gx c : Nat} {W W' : World} {s : Nat} {zs : List Nat} (h : PutS gs gt gx c W s zs) (hb : Below W.heap.size W W') : PutS gs gt gx c W' s zs := by
 have hlt : gt < W.heap.size := by
  rcases Nat.lt_or_ge gt W.heap.size with h1 | h1
  · exact h1
  · have h2 := h.tx
    simp [World.cell?,Array.getElem?_eq_none h1] at h2
 exact ⟨h.srow.below hb h.srow.lt,(hb.cell (p := ⟨gt,0,none⟩) hlt).trans h.tx,h.row.below hb h.row.lt,h.len,h.n1,h.n2,h.n3,h.cl⟩
theorem decR_step {w : World} {n c M L : Nat} {v v2 : Value} {W W2 W3 : World} {j : Nat} {zs zs' : List Nat} (h : DecR w n c M v W j zs) (hc : c = 20 * L + 1) (hroom : 19 * j + 19 < 20 * L) (hb : Below W.heap.size W W2) (hM : 1 < wlen B64 M)
 (hq : MagV W2 v2 (M / G19)) (ht : Two (w.heap.size + 1 + 1) w.heap.size W2 W3) (hp : PutS (w.heap.size + 1 + 1) (w.heap.size + 1) w.heap.size c W3 (c - 19 * j - 19) zs')
 (hd : zs'.drop (c - 19 * j - 19) = (padd 19 (M % G19)).map (·.toNat) ++ zs.drop (c - 19 * j)) : DecR w n c (M / G19) v2 W3 (j + 1) zs' := by
 have e : c - 19 * j - 19 = c - 19 * (j + 1) := by omega
 have hb2 : Below w.heap.size w W2 := h.bel.trans (hb.mono h.bel.size)
 refine ⟨?_,(putS_below h.put hb).mag ht hq,by rw [← e];exact hp,?_,by omega,Or.inr ?_,hb2.trans (ht.below (by omega) (Nat.le_refl _))⟩
 · rw [h.m,G19_eq,Nat.div_div_eq_div_mul,← Nat.pow_add];rfl
 · rw [← e,hd,h.drop,G19_eq,padd_mod,h.m,← List.map_append,← padd_add]
   rw [show 19 * (j + 1) = 19 + 19 * j by omega]
 · have h1 : B64 ^ 1 ≤ M := pow_le_of_lt_wlen two_le_B hM
   rw [Nat.div_pos_iff]
   exact ⟨by decide,Nat.le_trans (by decide) h1⟩
theorem decR_start {w : World} {n c : Nat} {v : Value} (hv : MagV w v n) (hc : 1 ≤ c) (hcl : c ≤ 1099511627776) :
 DecR w n c n v (((w.alloc (.cells (Array.replicate c (B8 0)) 5)).alloc (.cells #[.slice (some ⟨w.heap.size,0,none⟩) c c] 184)).alloc (.cells #[.int .i64 (c : Int)] 3)) 0 (List.replicate c 0) := by
 have hbel : Below w.heap.size w (((w.alloc (.cells (Array.replicate c (B8 0)) 5)).alloc (.cells #[.slice (some ⟨w.heap.size,0,none⟩) c c] 184)).alloc (.cells #[.int .i64 (c : Int)] 3)) :=
  (((Below.refl _ _).alloc (Nat.le_refl _) _).alloc (by simp) _).alloc (by simp;omega) _
 have hr := ((Row.newRep w B8 5 c).alloc (.cells #[.slice (some ⟨w.heap.size,0,none⟩) c c] 184)).alloc (.cells #[.int .i64 (c : Int)] 3)
 have hs := Row.new ((w.alloc (.cells (Array.replicate c (B8 0)) 5)).alloc (.cells #[.slice (some ⟨w.heap.size,0,none⟩) c c] 184)) I8 3 [c]
 rw [World.size_alloc,World.size_alloc] at hs
 refine ⟨by simp,hv.below hbel,⟨hs,?_,hr,by simp,by omega,by omega,by omega,hcl⟩,?_,by omega,Or.inl rfl,hbel⟩
 · simp [go_sem]
 · rw [Nat.mul_zero,Nat.sub_zero,padd_zero,List.drop_eq_nil_of_le (by simp)];rfl
set_option maxRecDepth 100000 in
set_option maxHeartbeats 2000000 in
theorem decimal_any (v : Value) (n most : Nat) (w : World) (hv : MagV w v n) (hb : wlen B64 n ≤ 1000000) (hm : 1 ≤ most) (hm2 : most ≤ 1000000000) :
 Calls Tryz.prog 130 #[v,.int .i64 (most : Int)] w fun e w' => e = .returned (decV n most) ∧ Below w.heap.size w w' := by
 have hv' := hv
 obtain ⟨A1,c1,rfl,_,s1⟩ := hv.ok_len
 obtain ⟨L,hL⟩ : ∃ L,wlen B64 n = L := ⟨_,rfl⟩
 rw [hL] at s1 hv' hb ⊢
 have e1 : IntKind.i64.wrap ((L : Int) - 1) = (L : Int) - 1 := by rw [IntKind.wrap_i64];omega
 have e2 : IntKind.i64.wrap (((L : Int) - 1) * 19) = ((L : Int) - 1) * 19 := by rw [IntKind.wrap_i64];omega
 have HL := Lib.hid (And.intro hL hb)
 by_cases hlong : (most : Int) ≤ ((L : Int) - 1) * 19
 · have hk : decide ((most : Int) ≤ ((L : Int) - 1) * 19) = true := by simp;omega
   have hg := dlen_gt hL (by omega) hm (by omega)
   have HG : Hid (decV n most = .tuple #[.string ⟨#[]⟩,.bool false]) := Lib.hid (by unfold decV;rw [if_neg hg])
   clear hg hL hb hv hv' s1
   go_enter Tryz.func130,Tryz.ntmps130
   go_wp2
   refine bodyPost_ret (v := .tuple #[.string ⟨#[]⟩,.bool false]) (by simp [results,Tryz.results130,go_sem]) rfl ⟨by rw [HG.out],Below.refl _ _⟩
 · obtain ⟨c,hc⟩ : ∃ c,c = 20 * L + 1 := ⟨_,rfl⟩
   have hmk := fun W => mkB8 c (by omega) W
   have hk : ¬ (most : Int) ≤ ((L : Int) - 1) * 19 := hlong
   have e3 : IntKind.i64.wrap ((L : Int) * 20) = (L : Int) * 20 := by rw [IntKind.wrap_i64];omega
   have e4 : IntKind.i64.wrap ((L : Int) * 20 + 1) = (c : Int) := by rw [IntKind.wrap_i64];omega
   have HC := Lib.hid hc
   clear hc hlong hL hb
   go_enter Tryz.func130,Tryz.ntmps130
   go_wp2
   go_loopg [0] n (fun M v W => ∃ (j : Nat) (zs : List Nat),DecR w n c M v W j zs)
   case atStart =>
    exact ⟨0,List.replicate c 0,decR_start hv' (by have := HC.out;omega) (by have := HC.out;have := HL.out;omega)⟩
   case round =>
    clear hv hv' s1 hmk
    obtain ⟨j,zs,hR⟩ := hrel
    obtain ⟨A2,c2,rfl,_,s2⟩ := hR.mag.ok_len
    have HR := Lib.hid hR
    by_cases hlen : 1 < wlen B64 gk
    · have k1 : (1 : Int) < ((wlen B64 gk : Nat) : Int) := by omega
      have hroom := room_more (j := j) HL.out.1 (by rw [← hR.m];exact hlen)
      have hle : wlen B64 gk ≤ maxW := by
       have h1 : gk ≤ n := by rw [hR.m];exact Nat.div_le_self _ _
       have := wlen_mono (b := B64) two_le_B h1
       have := HL.out
       unfold maxW;omega
      have hdw := divWord_any _ gk G19 _ hR.mag hle (by decide) (by decide)
      rw [show ((G19 : Nat) : Int) = 10000000000000000000 from rfl] at hdw
      have hgl : gk % G19 < B64 := Nat.lt_trans (Nat.mod_lt _ (by decide)) (by decide)
      have hpk : PutK (gk % G19) 19 19 := ⟨Nat.le_refl _,Nat.mod_lt _ (by decide),Or.inl rfl⟩
      obtain ⟨grp,hgrp⟩ : ∃ g,g = gk % G19 := ⟨_,rfl⟩
      rw [← hgrp] at hdw hgl hpk
      have HV := Lib.hid (And.intro hroom (And.intro hgrp (And.intro hgl hpk)))
      clear hR hroom hgrp hle hgl hpk hlen
      go_wp2_with fail
      refine hdw.mono ?_
      rintro e w2 ⟨qv,rfl,hq,hb2⟩
      have hps := putS_below HR.out.put hb2
      have hput := put_any _ _ _ _ grp 19 19 _ zs w2 hps HV.out.2.2.2 (by have := HV.out.1;have := HC.out;omega) (Nat.sub_le _ _) HV.out.2.2.1
      have hput' : Calls Tryz.prog 158 #[.int .u64 (grp : Int),.int .i64 19,.pointer (some ⟨w.heap.size + 1 + 1,0,none⟩),.pointer (some ⟨w.heap.size + 1,0,none⟩)] w2 _ := hput
      clear hput
      have HB := Lib.hid (And.intro hb2 hq)
      clear hb2 hq hps hdw
      go_wp2_with fail
      refine hput'.mono ?_
      rintro e w3 ⟨rfl,zs',p1,p2,p3⟩
      have HP := Lib.hid (And.intro p1 (And.intro p2 p3))
      clear p1 p2 p3 hput'
      go_wp2_with fail
      go_roundg (gk / G19)
      case measure => exact Nat.div_lt_self (by rcases Nat.eq_zero_or_pos gk with h0 | h0
                                                · rw [h0,wlen_zero] at k1;omega
                                                · exact h0) (by decide)
      case rel => exact ⟨j + 1,zs',decR_step HR.out HC.out HV.out.1 HB.out.1 (by omega) HB.out.2 HP.out.2.2 HP.out.1 (by rw [← HV.out.2.1];exact HP.out.2.1)⟩
    · have k1 : ¬ (1 : Int) < ((wlen B64 gk : Nat) : Int) := by omega
      have hlast := put_last (j := j) HL.out.1 (by rw [← hR.m];exact hR.pos)
      rw [← hR.m] at hlast
      have hwd := word_any A2 _ c2 _ 0 _ s2 (by have := HR.out.mag;have : wlen B64 gk ≤ 1 := by omega
                                                omega) (by omega)
      have hgl : gk < B64 := by have := (wlen_le_iff two_le_B gk 1).1 (by omega);simpa using this
      have hw0 : nth (ws B64 gk) 0 = gk := by
       by_cases h0 : gk = 0
       · rw [h0,ws_zero];rfl
       · rw [ws_one two_le_B hgl h0];rfl
      rw [hw0] at hwd
      have hput' := put_any _ _ _ _ gk 1 _ _ zs _ hR.put hlast.1 (by have := HC.out;omega) (Nat.sub_le _ _) hgl
      obtain ⟨S,hS⟩ : ∃ S,S = c - 19 * j - (dlen n - 19 * j) := ⟨_,rfl⟩
      have hS2 : S + dlen n = c := by have := HC.out;omega
      have hdp := dlen_pos n
      rw [← hS] at hput'
      have i1 : IntKind.i64.wrap ((c : Int) - (S : Int)) = (dlen n : Int) := by have := HC.out;have := HL.out;rw [IntKind.wrap_i64];omega
      have i2 : (S : Int) ≤ (c : Int) := by omega
      have i3 : ¬ (c = S) := by omega
      have i4 : c - S = dlen n := by omega
      have i5 : (S : Int) < (c : Int) := by omega
      have HV := Lib.hid (And.intro hlast (And.intro hS (And.intro hgl hw0)))
      clear hR hlast hS hgl hw0 hlen s2
      go_wp2_with fail
      refine hwd.mono ?_
      rintro e w2 ⟨rfl,rfl⟩
      go_wp2_with fail
      refine hput'.mono ?_
      rintro e w3 ⟨rfl,zs',p1,p2,p3⟩
      have hcs := p1.st
      have hct := p1.tx
      have hdrop : zs'.drop S = (digs n).map (·.toNat) := by
       rw [p2,HR.out.drop,HR.out.m,← List.map_append,← padd_add]
       unfold digs
       rw [Nat.sub_add_cancel (by have := HV.out.1.2.1;omega)]
      have hconv := fun cap => conv_suffix (cap := cap) p1.row hdrop (digs_length n)
      have hbel : Below w.heap.size w w3 := HR.out.bel.trans (p3.below (by have := HR.out.bel.size;omega) (Nat.le_refl _))
      have HF := Lib.hid hbel
      clear p1 p2 p3 hdrop hbel hput' hwd hS2 hdp
      by_cases hfit : dlen n ≤ most
      · have k2 : ¬ (most : Int) < ((dlen n : Nat) : Int) := by omega
        have HG : Hid (decV n most = .tuple #[.string ⟨(digs n).toArray⟩,.bool true]) := Lib.hid (by unfold decV;rw [if_pos hfit])
        clear hfit
        go_wp2_with fail
        exact bodyPost_ret (v := .tuple #[.string ⟨(digs n).toArray⟩,.bool true]) (by simp [results,Tryz.results130,go_sem]) rfl ⟨by rw [HG.out],HF.out⟩
      · have k2 : (most : Int) < ((dlen n : Nat) : Int) := by omega
        have HG : Hid (decV n most = .tuple #[.string ⟨#[]⟩,.bool false]) := Lib.hid (by unfold decV;rw [if_neg hfit])
        clear hfit hconv
        go_wp2_with fail
        exact bodyPost_ret (v := .tuple #[.string ⟨#[]⟩,.bool false]) (by simp [results,Tryz.results130,go_sem]) rfl ⟨by rw [HG.out],HF.out⟩
end Go.Proofs.YtlfgpmnjnpdkdaaGreatDoor
