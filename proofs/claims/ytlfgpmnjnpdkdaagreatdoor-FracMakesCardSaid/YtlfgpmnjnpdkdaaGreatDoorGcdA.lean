/- Contracts: multiply, multiples, commonOfWords. Contract: leading. Contract: stepsOf. Contract: apply. Contract: Common. -/
import Derived.Test.YtlfgpmnjnpdkdaaGreatDoorPowA
import Derived.Deep.WholeRow
import Derived.Deep.RegionHeld3
namespace Go.Proofs.YtlfgpmnjnpdkdaaGreatDoor
open Go.RowKit Vd
def muLo (x f c : Nat) : Nat := addLo (mulLo x f) c 0
def muHi (x f c : Nat) : Nat := mulHi x f + addHi (mulLo x f) c 0
theorem mu_eq (x f c : Nat) : muLo x f c + B64 * muHi x f c = x * f + c := am2_eq x f c
theorem muLo_lt (x f c : Nat) : muLo x f c < B64 := addLo_lt _ _ _
theorem muHi_lt {x f c : Nat} (hx : x < B64) (hf : f < B64) (hc : c < B64) : muHi x f c < B64 := (amHigh_lt (s := c) (c := 0) hc hx hf (by decide)).2
set_option maxRecDepth 100000 in
set_option maxHeartbeats 1000000 in
theorem multiply_any (x f c : Nat) (hx : x < B64) (hf : f < B64) (hc : c < B64) (w : World) :
 Calls Tryz.prog 199 #[.int .u64 (x : Int),.int .u64 (f : Int),.int .u64 (c : Int)] w fun e w' => e = .returned (.tuple #[.int .u64 (muLo x f c : Int),.int .u64 (muHi x f c : Int)]) ∧ w = w' := by
 have e1 : IntKind.u64.wrap ((mulHi x f : Int) + (addHi (mulLo x f) c 0 : Int)) = (muHi x f c : Int) := wrapU2 (muHi_lt hx hf hc)
 go_enter Tryz.func199,Tryz.ntmps199
 go_wp2_with fail
 refine (mul64_any x f hx hf w).mono ?_
 rintro e w1 ⟨rfl,rfl⟩
 go_wp2_with (simp only [add64_run0])
 go_ret2
 exact ⟨rfl,rfl⟩
theorem mult_step (B P Z A C x y p q up down z plus minus bb plus' minus' bb' : Nat) (h : Z + q * C + plus * P = p * A + (bb + minus) * P)
 (e1 : up + B * plus' = x * p + plus) (e2 : down + B * minus' = y * q + minus) (e3 : z + down + bb = up + B * bb') :
 (Z + z * P) + q * (C + y * P) + plus' * (P * B) = p * (A + x * P) + (bb' + minus') * (P * B) := by grind
theorem mult_end {Z R P plus s : Nat} (hZ : Z < P) (hR : R < P) (h : Z + plus * P = R + s * P) : Z = R := by
 have h1 := congrArg (· % P) h
 simp only [Nat.add_mul_mod_self_right] at h1
 rwa [Nat.mod_eq_of_lt hZ,Nat.mod_eq_of_lt hR] at h1
set_option maxRecDepth 100000 in
set_option maxHeartbeats 1000000 in
theorem multiples_core (A1 A2 : Option Addr) (n1 n2 c1 c2 n : Nat) (xs ys : List Nat) (p q : Nat) (w : World) (hx : Sl w U A1 n1 xs) (hy : Sl w U A2 n2 ys) (ox : Ok B64 xs) (oy : Ok B64 ys) (hn : n = max n1 n2) (hnb : n ≤ maxW) (hp : p < B64) (hq : q < B64)
 (hle : q * val B64 ys ≤ p * val B64 xs) (hR : p * val B64 xs - q * val B64 ys < B64 ^ n) :
 Calls Tryz.prog 198 #[.slice A1 n1 c1,.slice A2 n2 c2,.int .u64 (p : Int),.int .u64 (q : Int)] w fun e w' => ∃ v,e = .returned v ∧ MagV w' v (p * val B64 xs - q * val B64 ys) ∧ Below w.heap.size w w' := by
 have hn' := hnb
 unfold maxW at hn'
 have hmk := fun W => mkU n (by unfold maxW;omega) W
 have HX := Lib.hid hx.len
 have HY := Lib.hid hy.len
 have hn1 : n1 ≤ n := by omega
 have hn2 : n2 ≤ n := by omega
 have hmx : max (n1 : Int) (n2 : Int) = (n : Int) := by omega
 clear hn
 go_enter Tryz.func198,Tryz.ntmps198
 go_wp2
 clear hmx
 go_loopg [10,11,12,24] n (fun j a b c i wr => ∃ (k plus minus bb : Nat) (zs : List Nat),k ≤ n ∧ j = n - k ∧ i = .int .i64 k ∧ a = .int .u64 plus ∧ b = .int .u64 minus ∧ c = .int .u64 bb ∧ plus < B64 ∧ minus < B64 ∧ bb ≤ 1 ∧ zs.length = n ∧ Ok B64 zs ∧ Row wr U w.heap.size 139 zs ∧
  val B64 (zs.take k) + q * val B64 (ys.take k) + plus * B64 ^ k = p * val B64 (xs.take k) + (bb + minus) * B64 ^ k ∧ Below w.heap.size w wr)
 case atStart => exact ⟨0,0,0,0,List.replicate n 0,Nat.zero_le _,rfl,rfl,rfl,rfl,rfl,by decide,by decide,by omega,by simp,Ok.rep two_le_B _,Row.newRep w U _ _,by simp,(Below.refl _ _).alloc (Nat.le_refl _) _⟩
 case round =>
  obtain ⟨k,plus,minus,bb,zs,hk,rfl,rfl,rfl,rfl,rfl,hpl,hmi,hbb,hls,oz,hrow,hval,hbel⟩ := hrel
  by_cases hlt : k < n
  · have hx1 := ox.get two_le_B k
    have hy1 := oy.get two_le_B k
    have hwx := word_any A1 n1 c1 xs k wr (hx.below hbel) (by omega) (by omega)
    have hwy := word_any A2 n2 c2 ys k wr (hy.below hbel) (by omega) (by omega)
    have hm1 := multiply_any (nth xs k) p plus hx1 hp hpl wr
    have hm2 := multiply_any (nth ys k) q minus hy1 hq hmi wr
    have hcs := hrow.cell (i := k) (by omega)
    have hfs := hrow.frozen k
    unfold U at hcs
    have hlt' : (k : Int) < (n : Int) := by omega
    have Hv := Lib.hid (And.intro hval (And.intro hls (And.intro hle hR)))
    clear hval hls hx hy hmk hle hR
    go_wp2_with fail
    refine hwx.mono ?_
    rintro e w1 ⟨rfl,rfl⟩
    go_wp2_with fail
    refine hm1.mono ?_
    rintro e w1 ⟨rfl,rfl⟩
    go_wp2_with fail
    refine hwy.mono ?_
    rintro e w1 ⟨rfl,rfl⟩
    go_wp2_with fail
    refine hm2.mono ?_
    rintro e w1 ⟨rfl,rfl⟩
    go_wp2_with (simp only [sub64_run _ _ _ hbb])
    obtain ⟨hval,hls,hle,hR⟩ := Hv.out
    go_roundg (n - (k + 1))
    case measure => omega
    case rel =>
     refine ⟨k + 1,_,_,_,zs.set k (subLo (muLo (nth xs k) p plus) (muLo (nth ys k) q minus) bb),by omega,rfl,by go_num,rfl,rfl,rfl,muHi_lt hx1 hp hpl,muHi_lt hy1 hq hmi,subHi_le _ _ _,by rw [List.length_set];exact hls,oz.set (subLo_lt _ _ _),hrow.set k _,?_,hbel.setCell (Nat.le_refl _) _⟩
     rw [val_take_set _ _ _ (by omega),val_take_succ,val_take_succ,Nat.pow_succ]
     exact mult_step _ _ _ _ _ _ _ _ _ _ _ _ _ _ _ _ _ _ hval (mu_eq _ _ _) (mu_eq _ _ _) (sub_eq (muLo_lt _ _ _) (muLo_lt _ _ _) hbb)
  · obtain rfl : k = n := by omega
    have ht := trim_mag (some ⟨w.heap.size,0,none⟩) k k zs _ (by have := hrow.sl0;rw [hls] at this;exact this) oz (by omega) (by omega)
    have hzlt := val_lt oz
    rw [hls] at hzlt
    rw [List.take_of_length_le (by omega),List.take_of_length_le (by rw [HY.out];omega),List.take_of_length_le (by rw [HX.out];omega)] at hval
    have e : val B64 zs = p * val B64 xs - q * val B64 ys := mult_end hzlt hR (plus := plus) (s := bb + minus) (by omega)
    rw [e] at ht
    clear hval hls hzlt e hx hy hmk hle hR
    go_wp2_with (refine ht.mono ?_;rintro e w1 ⟨v,rfl,hm,rfl⟩)
    go_ret
    exact ⟨v,rfl,hm,hbel⟩
theorem multiples_any (v1 v2 : Value) (m o p q : Nat) (w : World) (h1 : MagV w v1 m) (h2 : MagV w v2 o) (b1 : wlen B64 m ≤ maxW) (b2 : wlen B64 o ≤ maxW) (hp : p < B64) (hq : q < B64) (hle : q * o ≤ p * m) (hR : p * m - q * o ≤ max m o) :
 Calls Tryz.prog 198 #[v1,v2,.int .u64 (p : Int),.int .u64 (q : Int)] w fun e w' => ∃ v,e = .returned v ∧ MagV w' v (p * m - q * o) ∧ Below w.heap.size w w' := by
 obtain ⟨A1,c1,rfl,_,s1⟩ := h1.ok_len
 obtain ⟨A2,c2,rfl,_,s2⟩ := h2.ok_len
 have e1 := val_ws two_le_B m
 have e2 := val_ws two_le_B o
 have hmax : max m o < B64 ^ max (wlen B64 m) (wlen B64 o) := by
  rw [← wlen_le_iff two_le_B]
  rcases Nat.le_total m o with h | h
  · rw [Nat.max_eq_right h];omega
  · rw [Nat.max_eq_left h];omega
 refine (multiples_core A1 A2 _ _ c1 c2 _ _ _ p q w s1 s2 (ok_ws _) (ok_ws _) rfl (by omega) hp hq (by rw [e1,e2];exact hle) (by rw [e1,e2];omega)).mono ?_
 rintro e w' ⟨v,he,hm,hb⟩
 rw [e1,e2] at hm
 exact ⟨v,he,hm,hb⟩
set_option maxRecDepth 100000 in
set_option maxHeartbeats 1000000 in
theorem commonOfWords_any (a b : Nat) (w : World) (ha : a < B64) (hb : b < B64) :
 Calls Tryz.prog 173 #[.int .u64 (a : Int),.int .u64 (b : Int)] w fun e w' => e = .returned (.int .u64 ((Nat.gcd a b : Nat) : Int)) ∧ ∃ d,w' = w.drewN d := by
 obtain ⟨G,hG⟩ : ∃ G,G = Nat.gcd a b := ⟨_,rfl⟩
 rw [← hG]
 have HG := Lib.hid hG.symm
 clear hG
 go_enter Tryz.func173,Tryz.ntmps173
 go_wp2
 go_loopg [0,1] b (fun g s t wr => ∃ x d : Nat,s = .int .u64 (x : Int) ∧ t = .int .u64 (g : Int) ∧ x < B64 ∧ g < B64 ∧ Nat.gcd x g = G ∧ wr = w.drewN d)
 case atStart => exact ⟨a,0,rfl,rfl,ha,hb,HG.out,rfl⟩
 case round =>
  obtain ⟨x,d,rfl,rfl,hx,hg,hgcd,rfl⟩ := hrel
  cases gk with
  | zero =>
    rw [Nat.gcd_zero_right] at hgcd
    subst hgcd
    have k0 : ((0 : Int) != 0) = false := by decide
    go_wp2_with fail
    go_ret
    exact ⟨rfl,_,rfl⟩
  | succ j =>
    have k1 : (((j : Int) + 1) != 0) = true := by rw [bne_iff_ne];omega
    have k2 : ¬ ((j : Int) + 1 = 0) := by omega
    have Hg := Lib.hid hgcd
    clear hgcd
    go_wp2
    go_quiet (fail)
    go_wp2
    have hml := Nat.mod_lt x (show 0 < j + 1 by omega)
    go_roundg (x % (j + 1))
    case measure => omega
    case rel =>
     refine ⟨j + 1,_,by go_num,?_,hg,by omega,?_,by rw [World.drewN_drewN]⟩
     · congr 1
     · rw [← Hg.out,Nat.gcd_comm,← Nat.gcd_rec,Nat.gcd_comm]
end Go.Proofs.YtlfgpmnjnpdkdaaGreatDoor
namespace Go.Proofs.YtlfgpmnjnpdkdaaGreatDoor
open Go.RowKit Vd
def leadW (hi lo s : Nat) : Nat := hi * 2 ^ s + lo / 2 ^ (64 - s)
theorem lead_or {hi lo s : Nat} (hs : s ≤ 63) (hlo : lo < B64) (hhi : hi * 2 ^ s < B64) : bits .or .u64 (IntKind.u64.wrap ((hi : Int) * 2 ^ s)) ((lo : Int) / 2 ^ (64 - s)) = (leadW hi lo s : Int) ∧ leadW hi lo s < B64 := by
 have hc := shr_lt (s := s) hlo (by omega)
 have e : B64 = 2 ^ (64 - s) * 2 ^ s := by rw [← Nat.pow_add,show 64 - s + s = 64 by omega];rfl
 have h4 : hi + 1 ≤ 2 ^ (64 - s) := by
  have : hi * 2 ^ s < 2 ^ (64 - s) * 2 ^ s := by rw [← e];exact hhi
  exact Nat.lt_of_mul_lt_mul_right this
 have h5 := Nat.mul_le_mul_right (2 ^ s) h4
 rw [← e,Nat.add_mul,Nat.one_mul] at h5
 have h6 : hi * 2 ^ s + lo / 2 ^ (64 - s) < B64 := by omega
 refine ⟨?_,h6⟩
 rw [wrap_shl,Nat.mod_eq_of_lt (by rw [B64_eq] at hhi;exact hhi),div_nat,or_words hc h6]
 rfl
theorem lead_eq {a t s : Nat} (hs : s ≤ 63) (ha : a < B64 ^ (t + 2)) : ∃ α,α < 2 ^ (64 - s) * B64 ^ t ∧ a = leadW (wd B64 a (t + 1)) (wd B64 a t) s * (2 ^ (64 - s) * B64 ^ t) + α := by
 have e : B64 = 2 ^ s * 2 ^ (64 - s) := by rw [← Nat.pow_add,show s + (64 - s) = 64 by omega];rfl
 have hp : 0 < B64 ^ t := Nat.pow_pos (by decide)
 have h1 := wd_eq (b := B64) two_le_B a (t + 1)
 have h0 := wd_eq (b := B64) two_le_B a t
 have h2 : a / B64 ^ (t + 1) < B64 := by
  rw [Nat.div_lt_iff_lt_mul (Nat.pow_pos (by decide)),← Nat.pow_succ'];exact ha
 rw [Nat.mod_eq_of_lt h2,Nat.pow_succ,← Nat.div_div_eq_div_mul] at h1
 -- the two leading words
 have h3 := Nat.div_add_mod (a / B64 ^ t) B64
 rw [← h1,← h0] at h3
 have h4 := Nat.div_add_mod a (B64 ^ t)
 have h5 := Nat.mod_lt a hp
 have h6 : a / B64 ^ t = leadW (wd B64 a (t + 1)) (wd B64 a t) s * 2 ^ (64 - s) + wd B64 a t % 2 ^ (64 - s) := by
  rw [← h3]
  have h7 := Nat.div_add_mod (wd B64 a t) (2 ^ (64 - s))
  unfold leadW
  rw [Nat.add_mul,Nat.mul_assoc,← e,Nat.mul_comm (wd B64 a t / 2 ^ (64 - s)),Nat.mul_comm B64]
  omega
 refine ⟨wd B64 a t % 2 ^ (64 - s) * B64 ^ t + a % B64 ^ t,?_,?_⟩
 · have h8 := Nat.mod_lt (wd B64 a t) (Nat.pow_pos (n := 64 - s) (show 0 < 2 by omega))
   have h9 := Nat.mul_le_mul_right (B64 ^ t) (show wd B64 a t % 2 ^ (64 - s) + 1 ≤ 2 ^ (64 - s) from h8)
   rw [Nat.add_mul,Nat.one_mul] at h9
   omega
 · rw [h6] at h4
   generalize B64 ^ t = P at *
   generalize 2 ^ (64 - s) = Q at *
   rw [← h4]
   grind
theorem wd_top_le {a o t : Nat} (hle : o ≤ a) (ha : a < B64 ^ (t + 2)) : wd B64 o (t + 1) ≤ wd B64 a (t + 1) := by
 have hd : ∀ x,x < B64 ^ (t + 2) → wd B64 x (t + 1) = x / B64 ^ (t + 1) := fun x hx => by
  rw [wd_eq two_le_B]
  refine Nat.mod_eq_of_lt ?_
  rw [Nat.div_lt_iff_lt_mul (Nat.pow_pos (by decide)),← Nat.pow_succ'];exact hx
 rw [hd a ha,hd o (by omega)]
 exact Nat.div_le_div_right hle
set_option maxRecDepth 100000 in
set_option maxHeartbeats 1000000 in
theorem leading_any (v1 v2 : Value) (a o t : Nat) (w : World) (h1 : MagV w v1 a) (h2 : MagV w v2 o) (hl : wlen B64 a = t + 2) (hle : o ≤ a) (b1 : t + 2 ≤ maxW) :
 Calls Tryz.prog 171 #[v1,v2] w fun e w' => ∃ x y H α β : Nat,e = .returned (.tuple #[.int .u64 (x : Int),.int .u64 (y : Int)]) ∧ x < B64 ∧ y < B64 ∧ 0 < H ∧ α < H ∧ β < H ∧ a = x * H + α ∧ o = y * H + β ∧ ∃ d,w' = w.drewN d := by
 have hb := b1
 unfold maxW at hb
 have halt : a < B64 ^ (t + 2) := by rw [← hl];exact lt_pow_wlen two_le_B a
 have holt : o < B64 ^ (t + 2) := by omega
 have hol : wlen B64 o ≤ t + 2 := (wlen_le_iff two_le_B o _).2 holt
 obtain ⟨A2,c2,rfl,hc2,s2⟩ := h2.ok_len
 obtain ⟨A1,c1,rfl,hc1,s1⟩ := h1.ok_len
 rw [hl] at s1 ⊢
 obtain ⟨g,o1,rfl,hg,hc⟩ := s1.at_ (by omega)
 have hct := hc (t + 1) (by omega)
 have hc0 := hc t (by omega)
 rw [show nth (ws B64 a) (t + 1) = wd B64 a (t + 1) from rfl] at hct
 rw [show nth (ws B64 a) t = wd B64 a t from rfl] at hc0
 unfold U at hct hc0
 have htop := wd_lt (b := B64) two_le_B a (t + 1)
 have hlo := wd_lt (b := B64) two_le_B a t
 have hlo2 := wd_lt (b := B64) two_le_B o t
 obtain ⟨s,hs⟩ : ∃ s,s = 64 - Lib.bitLen (wd B64 a (t + 1)) := ⟨_,rfl⟩
 obtain ⟨s63,htop0,-,-⟩ := dv_words (n := t + 1) hl hs
 obtain ⟨-,hx2,-⟩ := norm_spec htop (by omega) hs
 have hy2 : wd B64 o (t + 1) * 2 ^ s < B64 := Nat.lt_of_le_of_lt (Nat.mul_le_mul_right _ (wd_top_le hle halt)) hx2
 obtain ⟨E1,hx3⟩ := lead_or s63 hlo hx2
 obtain ⟨E2,hy3⟩ := lead_or s63 hlo2 hy2
 obtain ⟨α,hα,ea⟩ := lead_eq s63 halt
 obtain ⟨β,hβ,eo⟩ := lead_eq s63 holt
 have hH : 0 < 2 ^ (64 - s) * B64 ^ t := Nat.mul_pos (Nat.pow_pos (by omega)) (Nat.pow_pos (by decide))
 have hlz := lz_any (wd B64 a (t + 1)) htop w
 rw [← hs] at hlz
 have hw1 := fun d => word_any A2 (wlen B64 o) c2 (ws B64 o) (t + 1) (w.drewN d) (s2.drewN d) (by omega) (by omega)
 have hw0 := fun d => word_any A2 (wlen B64 o) c2 (ws B64 o) t (w.drewN d) (s2.drewN d) (by omega) (by omega)
 rw [show nth (ws B64 o) (t + 1) = wd B64 o (t + 1) from rfl,show (((t + 1 : Nat)) : Int) = (t : Int) + 1 from rfl] at hw1
 rw [show nth (ws B64 o) t = wd B64 o t from rfl] at hw0
 have hw1' := fun a n => hw1 (a + n)
 have hw0' := fun a n => hw0 (a + n)
 simp only [← World.drewN_drewN] at hw1' hw0'
 obtain ⟨x,hx⟩ : ∃ x,x = leadW (wd B64 a (t + 1)) (wd B64 a t) s := ⟨_,rfl⟩
 obtain ⟨y,hy⟩ : ∃ y,y = leadW (wd B64 o (t + 1)) (wd B64 o t) s := ⟨_,rfl⟩
 rw [← hx] at E1 hx3 ea
 rw [← hy] at E2 hy3 eo
 have HE := Lib.hid (And.intro ea eo)
 have i1 : (0 : Int) ≤ (t : Int) + 1 := by omega
 have i2 : (t : Int) + 1 < (t : Int) + 2 := by omega
 have i3 : ((t : Int) + 1).toNat = t + 1 := by omega
 have i4 : IntKind.i64.wrap (t : Int) = (t : Int) := by rw [IntKind.wrap_i64];omega
 have i5 : (t : Int) < (t : Int) + 2 := by omega
 have i6 : (0 : Int) ≤ 64 - (s : Int) := by omega
 have i7 : IntKind.i64.wrap (64 - (s : Int)) = 64 - (s : Int) := by rw [IntKind.wrap_i64];omega
 have i8 : (s : Int) ≤ 63 := by omega
 have i9 : (64 - (s : Int)).toNat = 64 - s := by omega
 have hct2 := hct
 rw [← Nat.add_assoc] at hct2
 clear ea eo hx hy hs hc hl
 go_enter Tryz.func171,Tryz.ntmps171
 go_upto_region 2 with fail
 rw [show (t : Int) + 2 - 1 = (t : Int) + 1 by omega]
 go_wp2_with fail
 refine hlz.mono ?_
 rintro e w1 ⟨rfl,rfl⟩
 go_wp2_with fail
 go_quiet (fail)
 go_wp2_with fail
 go_quiet ((go_at_call 160;(first | (with_reducible exact qAdd (hw1 _)) | (with_reducible exact qAdd (hw0 _)) | (with_reducible exact qOne (hw1' _ _)) | (with_reducible exact qOne (hw0' _ _)))))
 go_wp2_with fail
 go_ret2
 exact ⟨x,y,_,α,β,rfl,hx3,hy3,hH,hα,hβ,HE.out.1,HE.out.2,by simp only [World.drewN_drewN];exact ⟨_,rfl⟩⟩
end Go.Proofs.YtlfgpmnjnpdkdaaGreatDoor
namespace Go.Proofs.YtlfgpmnjnpdkdaaGreatDoor
open Go.RowKit Vd
def stepCells (fA fB nA nB cnt : Nat) : Array Value := #[.int .u64 (fA : Int),.int .u64 (fB : Int),.int .u64 (nA : Int),.int .u64 (nB : Int),.int .i64 (cnt : Int)]
structure StepsW (X Y p q fA fB nA nB cnt : Nat) : Prop where
 st : Vd.Steps X Y p q fA fB nA nB cnt
 fAl : fA < B64
 fBl : fB < B64
 nAl : nA < B64
 nBl : nB < B64
 cl : cnt ≤ nB
 fB1 : 0 < cnt → 1 ≤ fB
theorem stepsW_zero {X Y : Nat} (h : Y ≤ X) : StepsW X Y X Y 1 0 0 1 0 :=
 ⟨steps_zero X Y h,by decide,by decide,by decide,by decide,by omega,by omega⟩
def nxA (p q fA nA : Nat) : Nat := fA + p / q * nA
theorem stepsW_bounds {X Y p q fA fB nA nB cnt : Nat} (h : StepsW X Y p q fA fB nA nB cnt) (hX : X < B64) (hY : Y ≤ X) (hq : 0 < q) :
 p < B64 ∧ q < B64 ∧ p / q < B64 ∧ p / q * nA < B64 ∧ p / q * nB < B64 ∧ nxA p q fA nA < B64 ∧ nxA p q fB nB < B64 ∧ p / q * q ≤ p ∧ p - p / q * q = p % q ∧
 (nxA p q fB nB ≤ p % q → nB + nxA p q fB nB < B64) := by
 obtain ⟨b1,b2⟩ := steps_bound h.st
 have hp := h.st.le
 have sX := h.st.sX
 have n1 := h.st.one
 have hpX : p ≤ X := by
  have : p * 1 ≤ p * nB := Nat.mul_le_mul_left _ n1
  omega
 have e := Nat.div_add_mod p q
 have hr := Nat.mod_lt p hq
 have c1 : (fB + p / q * nB) * 1 ≤ (fB + p / q * nB) * q := Nat.mul_le_mul_left _ hq
 have c2 : (fA + p / q * nA) * 1 ≤ (fA + p / q * nA) * q := Nat.mul_le_mul_left _ hq
 have d1 := Nat.div_le_self p q
 unfold nxA
 refine ⟨by omega,by omega,by omega,by omega,by omega,by omega,by omega,by rw [Nat.mul_comm];omega,by rw [Nat.mul_comm (p / q)];omega,fun h1 => ?_⟩
 rcases Nat.eq_zero_or_pos (p % q) with h0 | h0
 · have : 1 ≤ p / q * nB := Nat.mul_le_mul (Nat.div_pos hp hq) n1
   omega
 · have c3 : nB * 1 ≤ nB * (p % q) := Nat.mul_le_mul_left _ h0
   omega
theorem stepsW_succ {X Y p q fA fB nA nB cnt : Nat} (h : StepsW X Y p q fA fB nA nB cnt) (hX : X < B64) (hY : Y ≤ X) (hq : 0 < q) (h1 : nxA p q fB nB ≤ p % q) (h2 : nB + nxA p q fB nB ≤ q - p % q) :
 StepsW X Y q (p % q) nA nB (nxA p q fA nA) (nxA p q fB nB) (cnt + 1) ∧ cnt ≤ 9000000000000000000 := by
 obtain ⟨-,-,-,-,-,bA,bB,-,-,-⟩ := stepsW_bounds h hX hY hq
 have n1 := h.st.one
 have k1 : 1 ≤ p / q * nB := Nat.mul_le_mul (Nat.div_pos h.st.le hq) n1
 have hr := Nat.mod_lt p hq
 have hcl := h.cl
 refine ⟨⟨steps_succ h.st hq h1 h2 rfl rfl,h.nAl,h.nBl,bA,bB,?_,fun _ => n1⟩,?_⟩
 · unfold nxA
   by_cases hc : cnt = 0
   · omega
   · have f1 := h.fB1 (by omega)
     have k2 : 1 * nB ≤ p / q * nB := Nat.mul_le_mul_right _ (Nat.div_pos h.st.le hq)
     omega
 · by_cases hc : cnt = 0
   · omega
   · have m := h.st.more (by omega)
     have sX := h.st.sX
     have q2 : 2 ≤ q := by unfold nxA at h1 h2;omega
     have c3 : 3 * nB ≤ p * nB := Nat.mul_le_mul_right _ (by omega)
     rw [B64_eq] at hX
     omega
theorem wrapMulAdd {a k b : Nat} (h1 : k * b < B64) (h2 : a + k * b < B64) : IntKind.u64.wrap ((a : Int) + IntKind.u64.wrap ((k : Int) * (b : Int))) = ((a + k * b : Nat) : Int) := by
 rw [← Int.natCast_mul,wrapU h1];exact wrapU2 h2
theorem setCell_drewN (w : World) (n : Nat) (a : Addr) (v : Value) : (w.drewN n).setCell a v = (w.setCell a v).drewN n := rfl
theorem steps_world (w0 : World) (b d : Nat) (t : TypeId) (c0 c1 c2 c3 c4 a0 a1 a2 a3 a4 : Value) (hb : b = w0.heap.size) :
 (((((((w0.alloc (.cells #[c0,c1,c2,c3,c4] t)).drewN d).setCell ⟨b,0,none⟩ a0).setCell ⟨b,1,none⟩ a1).setCell ⟨b,2,none⟩ a2).setCell ⟨b,3,none⟩ a3).setCell ⟨b,4,none⟩ a4) =
  (w0.alloc (.cells #[a0,a1,a2,a3,a4] t)).drewN d := by
 subst hb
 rw [setCell_drewN,setCell_drewN,setCell_drewN,setCell_drewN,setCell_drewN,World.setCell_alloc_new,World.setCell_alloc_new,World.setCell_alloc_new,World.setCell_alloc_new,World.setCell_alloc_new]
 simp
set_option maxRecDepth 100000 in
set_option maxHeartbeats 2000000 in
theorem stepsOf_any (X Y : Nat) (w : World) (hX : X < B64) (hY : Y ≤ X) :
 Calls Tryz.prog 170 #[.int .u64 (X : Int),.int .u64 (Y : Int)] w fun e w' => ∃ p q fA fB nA nB cnt : Nat,e = .returned (.agg (stepCells fA fB nA nB cnt)) ∧ StepsW X Y p q fA fB nA nB cnt ∧ Below w.heap.size w w' := by
 have h0 := stepsW_zero hY
 have HB := Lib.hid (And.intro hX (And.intro hY h0))
 clear hX hY h0
 go_enter Tryz.func170,Tryz.ntmps170
 go_wp2
 go_loopg [0,1] Y (fun g a b wr => ∃ p fA fB nA nB cnt d : Nat,a = .int .u64 (p : Int) ∧ b = .int .u64 (g : Int) ∧ StepsW X Y p g fA fB nA nB cnt ∧
  wr = ((w.alloc (.cells #[.int .u64 0,.int .u64 0,.int .u64 0,.int .u64 0,.int .i64 0] 199)).alloc (.cells #[.int .u64 (fA : Int),.int .u64 (fB : Int),.int .u64 (nA : Int),.int .u64 (nB : Int),.int .i64 (cnt : Int)] 199)).drewN d)
 case atStart => exact ⟨X,1,0,0,1,0,0,rfl,rfl,HB.out.2.2,rfl⟩
 case round =>
  obtain ⟨p,fA,fB,nA,nB,cnt,d,rfl,rfl,hst,rfl⟩ := hrel
  by_cases hq : 0 < gk
  · have k1 : ((gk : Int) != 0) = true := by rw [bne_iff_ne];omega
    have k2 : ¬ ((gk : Int) = 0) := by omega
    obtain ⟨z1,z2,z3,z4,z5,z6,z7,z8,z9,z10⟩ := stepsW_bounds hst HB.out.1 HB.out.2.1 hq
    have hrq := Nat.mod_lt p hq
    have hss := stepsW_succ hst HB.out.1 HB.out.2.1 hq
    obtain ⟨k,hk⟩ : ∃ k,k = p / gk := ⟨_,rfl⟩
    obtain ⟨r,hr⟩ : ∃ r,r = p % gk := ⟨_,rfl⟩
    obtain ⟨a1,ha1⟩ : ∃ x,x = nxA p gk fA nA := ⟨_,rfl⟩
    obtain ⟨b1,hb1⟩ : ∃ x,x = nxA p gk fB nB := ⟨_,rfl⟩
    have E0 : IntKind.u64.wrap ((p : Int) / (gk : Int)) = (k : Int) := by rw [← Int.natCast_ediv,← hk];exact wrapU (by rw [hk];exact z3)
    have E1 : IntKind.u64.wrap ((fA : Int) + IntKind.u64.wrap ((k : Int) * (nA : Int))) = (a1 : Int) := by
     rw [wrapMulAdd (by rw [hk];exact z4) (by rw [hk];exact z6),ha1,hk];rfl
    have E2 : IntKind.u64.wrap ((fB : Int) + IntKind.u64.wrap ((k : Int) * (nB : Int))) = (b1 : Int) := by
     rw [wrapMulAdd (by rw [hk];exact z5) (by rw [hk];exact z7),hb1,hk];rfl
    have E3 : IntKind.u64.wrap ((p : Int) - IntKind.u64.wrap ((k : Int) * (gk : Int))) = (r : Int) := by
     rw [← Int.natCast_mul,wrapU (x := k * gk) (by rw [hk];omega),hk,show (p : Int) - ((p / gk * gk : Nat) : Int) = (r : Int) by omega]
     exact wrapU (by omega)
    rw [← hr,← hb1] at z10
    rw [← hr] at hrq hss
    rw [← ha1,← hb1] at hss
    rw [B64_eq] at z1 z2
    have q1 : (gk : Int) ≤ 18446744073709551615 := by omega
    have r1 : (r : Int) ≤ (gk : Int) := by omega
    have r0 : (0 : Int) ≤ (gk : Int) - (r : Int) := by omega
    have Hs := Lib.hid (And.intro hst hss)
    clear hk hr ha1 hb1 z1 z2 z3 z4 z5 z6 z7 z8 z9 hst hss
    by_cases c1 : r < b1
    · have c1' : decide (r < b1) = true := by simp;omega
      clear c1 z10
      go_wp2
      go_quiet (fail)
      go_wp2
      refine bodyPost_ret (v := .agg (stepCells fA fB nA nB cnt)) (by simp [results,Tryz.results170,go_sem,stepCells]) rfl ⟨p,gk,fA,fB,nA,nB,cnt,rfl,Hs.out.1,?_⟩
      repeat (first | (with_reducible refine Below.setCell ?_ (by simp) _) | (with_reducible refine below_drewN ?_ _) | (with_reducible refine Below.alloc ?_ (by simp) _) | (with_reducible exact Below.refl _ _))
    · have c1' : decide (r < b1) = false := by simp;omega
      have z := z10 (by omega)
      rw [B64_eq] at z
      have z' : (nB : Int) + (b1 : Int) ≤ 18446744073709551615 := by omega
      clear z z10
      by_cases c2 : gk - r < nB + b1
      · have c2' : decide ((gk : Int) - (r : Int) < (nB : Int) + (b1 : Int)) = true := by simp;omega
        clear c1 c2
        go_wp2
        go_quiet (fail)
        go_wp2
        refine bodyPost_ret (v := .agg (stepCells fA fB nA nB cnt)) (by simp [results,Tryz.results170,go_sem,stepCells]) rfl ⟨p,gk,fA,fB,nA,nB,cnt,rfl,Hs.out.1,?_⟩
        repeat (first | (with_reducible refine Below.setCell ?_ (by simp) _) | (with_reducible refine below_drewN ?_ _) | (with_reducible refine Below.alloc ?_ (by simp) _) | (with_reducible exact Below.refl _ _))
      · have c2' : decide ((gk : Int) - (r : Int) < (nB : Int) + (b1 : Int)) = false := by simp;omega
        obtain ⟨hst2,hcb⟩ := Hs.out.2 (by omega) (by omega)
        have hcb' : (cnt : Int) ≤ 9000000000000000000 := by omega
        clear c1 c2 hcb
        go_wp2
        go_quiet (fail)
        go_wp2
        go_roundg r
        case measure => exact hrq
        case rel =>
         refine ⟨gk,nA,nB,a1,b1,cnt + 1,?_,rfl,rfl,hst2,?_⟩
         rotate_left
         · exact steps_world _ _ _ _ _ _ _ _ _ _ _ _ _ _ (World.size_alloc _ _).symm
  · obtain rfl : gk = 0 := by omega
    have k1 : ((0 : Int) != 0) = false := by decide
    have Hs := Lib.hid hst
    clear hst hq
    go_wp2
    refine bodyPost_ret (v := .agg (stepCells fA fB nA nB cnt)) (by simp [results,Tryz.results170,go_sem,stepCells]) rfl ⟨p,0,fA,fB,nA,nB,cnt,rfl,Hs.out,?_⟩
    repeat (first | (with_reducible refine Below.setCell ?_ (by simp) _) | (with_reducible refine below_drewN ?_ _) | (with_reducible refine Below.alloc ?_ (by simp) _) | (with_reducible exact Below.refl _ _))
end Go.Proofs.YtlfgpmnjnpdkdaaGreatDoor
namespace Go.Proofs.YtlfgpmnjnpdkdaaGreatDoor
open Go.RowKit Vd
theorem steps_apply {X Y p q fA fB nA nB cnt H α β a b : Nat} (h : Vd.Steps X Y p q fA fB nA nB cnt) (hα : α < H) (hβ : β < H) (ha : a = X * H + α) (hb : b = Y * H + β) (hle : b ≤ a) :
 ∃ a' b' : Nat,a' ≤ a ∧ b' ≤ a' ∧ Nat.gcd a' b' = Nat.gcd a b ∧ (0 < cnt → b' < b) ∧
   (cnt % 2 = 0 → fB * b ≤ fA * a ∧ a' = fA * a - fB * b ∧ nA * a ≤ nB * b ∧ b' = nB * b - nA * a) ∧
   (cnt % 2 = 1 → fA * a ≤ fB * b ∧ a' = fB * b - fA * a ∧ nB * b ≤ nA * a ∧ b' = nA * a - nB * b) := by
 obtain ⟨a',b',h1,h2,h3,h4,h5,-,h7⟩ := h.good H α β hα hβ (by omega)
 have eX : ((X : Int) * H + α) = (a : Int) := by rw [ha];simp
 have eY : ((Y : Int) * H + β) = (b : Int) := by rw [hb];simp
 rw [eX,eY] at h1 h2
 rw [← ha,← hb] at h4
 rw [← hb] at h5
 rw [← ha] at h7
 have hev : ∀ n : Nat,n % 2 = 0 → (-1 : Int) ^ n = 1 := fun n hn => by
  obtain ⟨k,rfl⟩ : ∃ k,n = 2 * k := ⟨n / 2,by omega⟩
  rw [Int.pow_mul];simp [Int.one_pow]
 refine ⟨a',b',h7,h3,h4,h5,fun hc => ?_,fun hc => ?_⟩
 · rw [hev cnt hc] at h1 h2
   have z1 : (a' : Int) = ((fA * a : Nat) : Int) - ((fB * b : Nat) : Int) := by rw [h1];simp
   have z2 : (b' : Int) = ((nB * b : Nat) : Int) - ((nA * a : Nat) : Int) := by rw [h2];simp
   omega
 · obtain ⟨k,rfl⟩ : ∃ k,cnt = k + 1 := ⟨cnt - 1,by omega⟩
   rw [Int.pow_succ,hev k (by omega)] at h1 h2
   have z1 : (a' : Int) = ((fB * b : Nat) : Int) - ((fA * a : Nat) : Int) := by rw [h1];simp;omega
   have z2 : (b' : Int) = ((nA * a : Nat) : Int) - ((nB * b : Nat) : Int) := by rw [h2];simp;omega
   omega
abbrev HdS (w : World) (fA fB nA nB : Nat) (W : World) : Prop :=
 (w.heap.size < W.heap.size ∧ Below w.heap.size w W) ∧ W.cell? ⟨w.heap.size,0,none⟩ = some (Value.int IntKind.u64 ↑fA) ∧ W.cell? ⟨w.heap.size,1,none⟩ = some (Value.int IntKind.u64 ↑fB) ∧ W.cell? ⟨w.heap.size,2,none⟩ = some (Value.int IntKind.u64 ↑nA) ∧ W.cell? ⟨w.heap.size,3,none⟩ = some (Value.int IntKind.u64 ↑nB)
theorem hds_step {w W w1 : World} {fA fB nA nB : Nat} (h : HdS w fA fB nA nB W) (hb : Below W.heap.size W w1) : HdS w fA fB nA nB w1 := by
 have hc : ∀ o,w1.cell? ⟨w.heap.size,o,none⟩ = W.cell? ⟨w.heap.size,o,none⟩ := fun o => hb.cell (p := ⟨w.heap.size,o,none⟩) h.1.1
 refine ⟨⟨Nat.lt_of_lt_of_le h.1.1 hb.size,h.1.2.trans (hb.mono (Nat.le_of_lt h.1.1))⟩,?_,?_,?_,?_⟩
 · rw [hc];exact h.2.1
 · rw [hc];exact h.2.2.1
 · rw [hc];exact h.2.2.2.1
 · rw [hc];exact h.2.2.2.2
theorem multiples_held (v1 v2 : Value) (a b p q fA fB nA nB : Nat) (w W : World) (hS : HdS w fA fB nA nB W) (h1 : MagV w v1 a) (h2 : MagV w v2 b) (b1 : wlen B64 a ≤ maxW) (b2 : wlen B64 b ≤ maxW) (hp : p < B64) (hq : q < B64) (hle : q * b ≤ p * a) (hr : p * a - q * b ≤ max a b) :
 Calls Tryz.prog 198 #[v1,v2,.int .u64 (p : Int),.int .u64 (q : Int)] W fun e w' => ∃ v,e = .returned v ∧ MagV w' v (p * a - q * b) ∧ Below W.heap.size W w' ∧ HdS w fA fB nA nB w' :=
 (multiples_any v1 v2 a b p q W (h1.below hS.1.2) (h2.below hS.1.2) b1 b2 hp hq hle hr).mono fun _ _ ⟨v,he,hm,hb⟩ => ⟨v,he,hm,hb,hds_step hS hb⟩
set_option maxRecDepth 100000 in
set_option maxHeartbeats 400000 in
theorem apply_even (v1 v2 : Value) (a b fA fB nA nB cnt : Nat) (w : World) (h1 : MagV w v1 a) (h2 : MagV w v2 b) (b1 : wlen B64 a ≤ maxW) (b2 : wlen B64 b ≤ maxW) (l1 : fA < B64) (l2 : fB < B64) (l3 : nA < B64) (l4 : nB < B64)
 (hc : cnt % 2 = 0) (e1 : fB * b ≤ fA * a) (r1 : fA * a - fB * b ≤ max a b) (e2 : nA * a ≤ nB * b) (r2 : nB * b - nA * a ≤ max b a) :
 Calls Tryz.prog 172 #[.agg (stepCells fA fB nA nB cnt),v1,v2] w fun e w' => ∃ x y,e = .returned (.tuple #[x,y]) ∧ MagV w' x (fA * a - fB * b) ∧ MagV w' y (nB * b - nA * a) ∧ Below w.heap.size w w' := by
 have hc' : (((cnt : Int)) % 2 == 1) = false := by rw [beq_eq_false_iff_ne];omega
 have hm1 := Lib.hid (fun W (hS : HdS w fA fB nA nB W) => multiples_held v1 v2 a b fA fB fA fB nA nB w W hS h1 h2 b1 b2 l1 l2 e1 r1)
 have hm2 := Lib.hid (fun W (hS : HdS w fA fB nA nB W) => multiples_held v2 v1 b a nB nA fA fB nA nB w W hS h2 h1 b2 b1 l4 l3 e2 r2)
 unfold stepCells
 have HR := Lib.hid (And.intro e1 (And.intro e2 (And.intro r1 r2)))
 clear e1 e2 r1 r2 hc
 go_enter Tryz.func172,Tryz.ntmps172
 go_wp2
 have hS0 : HdS w fA fB nA nB (w.alloc (.cells #[Value.int IntKind.u64 ↑fA,Value.int IntKind.u64 ↑fB,Value.int IntKind.u64 ↑nA,Value.int IntKind.u64 ↑nB,Value.int IntKind.i64 ↑cnt] 199)).drew := by
  refine ⟨⟨?_,?_⟩,?_,?_,?_,?_⟩
  · go_keep
  · exact ((Below.refl _ _).alloc (Nat.le_refl _) _).drew
  · go_keep
  · go_keep
  · go_keep
  · go_keep
 go_region_held3 (fun W => (w.heap.size < W.heap.size ∧ Below w.heap.size w W) ∧ W.cell? ⟨w.heap.size,0,none⟩ = some (Value.int IntKind.u64 ↑fA) ∧ W.cell? ⟨w.heap.size,1,none⟩ = some (Value.int IntKind.u64 ↑fB) ∧ W.cell? ⟨w.heap.size,2,none⟩ = some (Value.int IntKind.u64 ↑nA) ∧ W.cell? ⟨w.heap.size,3,none⟩ = some (Value.int IntKind.u64 ↑nB)) (with_reducible assumption)
  (first
   | (go_at_call_of 198 (Value.int IntKind.u64 (fA : Int));refine (hm1.out _ ?_).mono ?_;with_reducible assumption;rintro e w1 ⟨x1,rfl,hx1,hb1,hS1⟩)
   | (go_at_call_of 198 (Value.int IntKind.u64 (nB : Int));refine (hm2.out _ ?_).mono ?_;with_reducible assumption;rintro e w2 ⟨x2,rfl,hx2,hb2,hS2⟩))
 go_wp2
 exact bodyPost_ret (v := .tuple #[x1,x2]) (by simp [results,Tryz.results172,go_sem]) rfl ⟨_,_,rfl,hx1.below hb2,hx2,hS2.1.2⟩
set_option maxRecDepth 100000 in
set_option maxHeartbeats 400000 in
theorem apply_odd (v1 v2 : Value) (a b fA fB nA nB cnt : Nat) (w : World) (h1 : MagV w v1 a) (h2 : MagV w v2 b) (b1 : wlen B64 a ≤ maxW) (b2 : wlen B64 b ≤ maxW) (l1 : fA < B64) (l2 : fB < B64) (l3 : nA < B64) (l4 : nB < B64)
 (hc : cnt % 2 = 1) (e1 : fA * a ≤ fB * b) (r1 : fB * b - fA * a ≤ max b a) (e2 : nB * b ≤ nA * a) (r2 : nA * a - nB * b ≤ max a b) :
 Calls Tryz.prog 172 #[.agg (stepCells fA fB nA nB cnt),v1,v2] w fun e w' => ∃ x y,e = .returned (.tuple #[x,y]) ∧ MagV w' x (fB * b - fA * a) ∧ MagV w' y (nA * a - nB * b) ∧ Below w.heap.size w w' := by
 have hc' : (((cnt : Int)) % 2 == 1) = true := by rw [beq_iff_eq];omega
 have hm1 := Lib.hid (fun W (hS : HdS w fA fB nA nB W) => multiples_held v2 v1 b a fB fA fA fB nA nB w W hS h2 h1 b2 b1 l2 l1 e1 r1)
 have hm2 := Lib.hid (fun W (hS : HdS w fA fB nA nB W) => multiples_held v1 v2 a b nA nB fA fB nA nB w W hS h1 h2 b1 b2 l3 l4 e2 r2)
 unfold stepCells
 have HR := Lib.hid (And.intro e1 (And.intro e2 (And.intro r1 r2)))
 clear e1 e2 r1 r2 hc
 go_enter Tryz.func172,Tryz.ntmps172
 go_wp2
 have hS0 : HdS w fA fB nA nB (w.alloc (.cells #[Value.int IntKind.u64 ↑fA,Value.int IntKind.u64 ↑fB,Value.int IntKind.u64 ↑nA,Value.int IntKind.u64 ↑nB,Value.int IntKind.i64 ↑cnt] 199)).drew := by
  refine ⟨⟨?_,?_⟩,?_,?_,?_,?_⟩
  · go_keep
  · exact ((Below.refl _ _).alloc (Nat.le_refl _) _).drew
  · go_keep
  · go_keep
  · go_keep
  · go_keep
 go_region_held3 (fun W => (w.heap.size < W.heap.size ∧ Below w.heap.size w W) ∧ W.cell? ⟨w.heap.size,0,none⟩ = some (Value.int IntKind.u64 ↑fA) ∧ W.cell? ⟨w.heap.size,1,none⟩ = some (Value.int IntKind.u64 ↑fB) ∧ W.cell? ⟨w.heap.size,2,none⟩ = some (Value.int IntKind.u64 ↑nA) ∧ W.cell? ⟨w.heap.size,3,none⟩ = some (Value.int IntKind.u64 ↑nB)) (with_reducible assumption)
  (first
   | (go_at_call_of 198 (Value.int IntKind.u64 (fA : Int));refine (hm1.out _ ?_).mono ?_;with_reducible assumption;rintro e w1 ⟨x1,rfl,hx1,hb1,hS1⟩)
   | (go_at_call_of 198 (Value.int IntKind.u64 (nB : Int));refine (hm2.out _ ?_).mono ?_;with_reducible assumption;rintro e w2 ⟨x2,rfl,hx2,hb2,hS2⟩))
 go_wp2
 exact bodyPost_ret (v := .tuple #[x1,x2]) (by simp [results,Tryz.results172,go_sem]) rfl ⟨_,_,rfl,hx1.below hb2,hx2,hS2.1.2⟩
end Go.Proofs.YtlfgpmnjnpdkdaaGreatDoor
namespace Go.Proofs.YtlfgpmnjnpdkdaaGreatDoor
open Go.RowKit Vd
theorem apply_any (v1 v2 : Value) (X Y p q fA fB nA nB cnt H α β a b : Nat) (w : World) (h1 : MagV w v1 a) (h2 : MagV w v2 b) (b1 : wlen B64 a ≤ maxW) (b2 : wlen B64 b ≤ maxW)
 (hS : StepsW X Y p q fA fB nA nB cnt) (hα : α < H) (hβ : β < H) (ha : a = X * H + α) (hb : b = Y * H + β) (hle : b ≤ a) :
 Calls Tryz.prog 172 #[.agg (stepCells fA fB nA nB cnt),v1,v2] w fun e w' => ∃ x y a' b',e = .returned (.tuple #[x,y]) ∧ MagV w' x a' ∧ MagV w' y b' ∧ a' ≤ a ∧ b' ≤ a' ∧ Nat.gcd a' b' = Nat.gcd a b ∧ (0 < cnt → b' < b) ∧ Below w.heap.size w w' := by
 obtain ⟨a',b',g1,g2,g3,g4,g5,g6⟩ := steps_apply hS.st hα hβ ha hb hle
 rcases Nat.mod_two_eq_zero_or_one cnt with hc | hc
 · obtain ⟨e1,e2,e3,e4⟩ := g5 hc
   refine (apply_even v1 v2 a b fA fB nA nB cnt w h1 h2 b1 b2 hS.fAl hS.fBl hS.nAl hS.nBl hc e1 (by omega) e3 (by omega)).mono ?_
   rintro e w' ⟨x,y,he,hx,hy,hw⟩
   exact ⟨x,y,a',b',he,by rw [e2];exact hx,by rw [e4];exact hy,g1,g2,g3,g4,hw⟩
 · obtain ⟨e1,e2,e3,e4⟩ := g6 hc
   refine (apply_odd v1 v2 a b fA fB nA nB cnt w h1 h2 b1 b2 hS.fAl hS.fBl hS.nAl hS.nBl hc e1 (by omega) e3 (by omega)).mono ?_
   rintro e w' ⟨x,y,he,hx,hy,hw⟩
   exact ⟨x,y,a',b',he,by rw [e2];exact hx,by rw [e4];exact hy,g1,g2,g3,g4,hw⟩
theorem lead_le {x y H α β a b : Nat} (hα : α < H) (ha : a = x * H + α) (hb : b = y * H + β) (hle : b ≤ a) : y ≤ x := by
 rcases Nat.lt_or_ge x y with h | h
 · have h2 : (x + 1) * H ≤ y * H := Nat.mul_le_mul_right _ h
   rw [Nat.add_mul,Nat.one_mul] at h2
   omega
 · exact h
structure ComR (w : World) (m o : Nat) (g : Nat) (x y : Value) (W : World) (a : Nat) : Prop where
 hx : MagV W x a
 hy : MagV W y g
 le : g ≤ a
 la : wlen B64 a + 1 ≤ maxW
 gc : Nat.gcd a g = Nat.gcd m o
 hb : Below w.heap.size w W
set_option maxRecDepth 100000 in
set_option maxHeartbeats 2000000 in
theorem common_any (v1 v2 : Value) (m o : Nat) (w : World) (h1 : MagV w v1 m) (h2 : MagV w v2 o) (b1 : wlen B64 m + 1 ≤ maxW) (b2 : wlen B64 o + 1 ≤ maxW) :
 Calls Tryz.prog 139 #[v1,v2] w fun e w' => ∃ v,e = .returned v ∧ MagV w' v (Nat.gcd m o) ∧ Below w.heap.size w w' := by
 have hcmp := compare_any v1 v2 m o w h1 h2 (by omega)
 obtain ⟨cv,hcv⟩ : ∃ z,z = cmpN m o := ⟨_,rfl⟩
 rw [← hcv] at hcmp
 have Hc := Lib.hid hcv
 clear hcv
 go_enter Tryz.func139,Tryz.ntmps139
 go_upto_if 17 with (go_at_call 148;refine hcmp.mono ?_;rintro e w1 ⟨rfl,d,rfl⟩)
 go_cut [5,6] (fun x y wx => ∃ a g : Nat,ComR w m o g x y wx a)
 case first =>
  by_cases hlt : m < o
  · have k1 : cv = -1 := by rw [Hc.out];unfold cmpN;rw [if_pos hlt]
    have k2 : cv < 0 := by omega
    have k3 : decide (cv < 0) = true := by simp;omega
    have R : ComR w m o m v2 v1 (w.drewN d) o := ⟨h2.drewN d,h1.drewN d,by omega,b2,Nat.gcd_comm _ _,below_drewN (Below.refl _ _) d⟩
    clear k1
    go_wp2_with fail
    go_meet
    exact ⟨o,m,R⟩
  · have k1 : ¬ cv < 0 := by rw [Hc.out];unfold cmpN;rw [if_neg (by omega)];split <;> omega
    have k2 : decide (cv < 0) = false := by simp;omega
    have R : ComR w m o o v1 v2 (w.drewN d) m := ⟨h1.drewN d,h2.drewN d,by omega,b1,rfl,below_drewN (Below.refl _ _) d⟩
    go_wp2_with fail
    go_meet
    exact ⟨m,o,R⟩
 case rest =>
  clear hcmp Hc
  obtain ⟨a0,g0,hR⟩ := hcut
  go_wp2_with fail
  go_loopg [5,6] g0 (fun g x y W => ∃ a,ComR w m o g x y W a)
  case atStart => exact ⟨a0,hR⟩
  case round =>
   clear hR
   obtain ⟨a,hR⟩ := hrel
   obtain ⟨gx,gy,gle,gla,ggc,gbel⟩ := hR
   have gl2 : wlen B64 gk ≤ wlen B64 a := wlen_mono (b := B64) two_le_B gle
   obtain ⟨A2,c2,rfl,_,s2⟩ := gy.ok_len
   by_cases hlen : 1 < wlen B64 gk
   · obtain ⟨t,ht⟩ : ∃ t,wlen B64 a = t + 2 := ⟨wlen B64 a - 2,by omega⟩
     have hl := leading_any _ _ a gk t _ gx gy ht gle (by omega)
     have k1 : (1 : Int) < ((wlen B64 gk : Nat) : Int) := by omega
     have HH := Lib.hid (And.intro gle (And.intro gla (And.intro ggc (And.intro ht gl2))))
     clear gle gla ggc ht gl2 hlen
     go_wp2_with (go_at_call 171;refine hl.mono ?_;rintro e w1 ⟨x,y,H,α,β,rfl,hx,hy,hH,hα,hβ,ea,eb,d,rfl⟩;have He := Lib.hid (And.intro ea (And.intro eb (And.intro hα (And.intro hβ hH))));clear ea eb hα hβ hH)
     have hyx := lead_le He.out.2.2.1 He.out.1 He.out.2.1 HH.out.1
     refine (stepsOf_any x y (wr.drewN d) hx hyx).mono ?_
     rintro e w1 ⟨p,q,fA,fB,nA,nB,cnt,rfl,hst,hb1⟩
     have hb1' : Below wr.heap.size wr w1 := below_of_drewN hb1
     have gx1 := gx.below hb1'
     have gy1 := gy.below hb1'
     have Hs := Lib.hid hst
     clear hst hyx hx hy hl
     have gpos : 0 < gk := by
      rcases Nat.eq_zero_or_pos gk with h0 | h0
      · rw [h0,wlen_zero] at k1;omega
      · exact h0
     have hwB : ∀ o : Obj,Below w1.heap.size w1 (w1.alloc o) := fun o => (Below.refl _ _).alloc (Nat.le_refl _) o
     have hall : Below w.heap.size w w1 := gbel.trans (hb1'.mono gbel.size)
     by_cases hc : cnt = 0
     · have k2 : ((cnt : Int) == 0) = true := by rw [beq_iff_eq];omega
       unfold stepCells
       have hdv := fun W (hb : Below w1.heap.size w1 W) => divide_any _ _ a gk W (gx1.below hb) (gy1.below hb) HH.out.2.1 (Nat.le_trans HH.out.2.2.2.2 (Nat.le_of_succ_le HH.out.2.1)) gpos
       clear hc
       go_wp2_with fail
       refine (hdv _ (hwB _)).mono ?_
       rintro e w2 ⟨qq,rr,rfl,hqq,hrr,hb2⟩
       have hb2' : Below w1.heap.size w1 w2 := (hwB _).trans (hb2.mono (hwB _).size)
       have gy2 := gy1.below hb2'
       go_wp2_with fail
       go_roundg (a % gk)
       case measure => exact Nat.mod_lt _ gpos
       case rel =>
        refine ⟨gk,gy2,hrr,Nat.le_of_lt (Nat.mod_lt _ gpos),?_,?_,hall.trans (hb2'.mono hall.size)⟩
        · have := HH.out;omega
        · rw [← HH.out.2.2.1,Nat.gcd_comm gk,← Nat.gcd_rec,Nat.gcd_comm]
     · have k2 : ((cnt : Int) == 0) = false := by rw [beq_eq_false_iff_ne];omega
       have hap := fun W (hb : Below w1.heap.size w1 W) => apply_any _ _ x y p q fA fB nA nB cnt H α β a gk W (gx1.below hb) (gy1.below hb) (Nat.le_of_succ_le HH.out.2.1) (Nat.le_trans HH.out.2.2.2.2 (Nat.le_of_succ_le HH.out.2.1)) Hs.out He.out.2.2.1 He.out.2.2.2.1 He.out.1 He.out.2.1 HH.out.1
       unfold stepCells at hap ⊢
       have Hcp := Lib.hid (show 0 < cnt by omega)
       clear hc
       go_wp2_with fail
       refine (hap _ (hwB _)).mono ?_
       rintro e w2 ⟨xx,yy,a',b',rfl,hxx,hyy,c1,c2',c3,c4,hb2⟩
       have hb2' : Below w1.heap.size w1 w2 := (hwB _).trans (hb2.mono (hwB _).size)
       have HC := Lib.hid (And.intro c1 (And.intro c2' (And.intro c3 c4)))
       clear c1 c2' c3 c4
       go_wp2_with fail
       go_roundg b'
       case measure => exact HC.out.2.2.2 Hcp.out
       case rel =>
        refine ⟨a',hxx,hyy,HC.out.2.1,?_,?_,hall.trans (hb2'.mono hall.size)⟩
        · exact Nat.le_trans (Nat.succ_le_succ (wlen_mono (b := B64) two_le_B HC.out.1)) HH.out.2.1
        · rw [HC.out.2.2.1,HH.out.2.2.1]
   · have hgl : gk < B64 := by have := (wlen_le_iff two_le_B gk 1).1 (by omega);simpa using this
     have k1 : ¬ (1 : Int) < ((wlen B64 gk : Nat) : Int) := by omega
     by_cases h0 : gk = 0
     · subst h0
       rw [wlen_zero] at s2 gy ⊢
       rw [Nat.gcd_zero_right] at ggc
       have hz := isZero_any A2 0 c2
       clear k1 hlen gl2
       go_wp2_with (go_at_call 59;refine (hz _).mono ?_;rintro e w1 ⟨rfl,rfl⟩)
       go_ret
       exact ⟨_,rfl,by rw [← ggc];exact gx,gbel⟩
     · have hw1 : wlen B64 gk = 1 := by
        rcases Nat.eq_zero_or_pos (wlen B64 gk) with hz | hz
        · rw [wlen_eq_zero two_le_B] at hz;exact absurd hz h0
        · omega
       have hgp : 0 < gk := Nat.pos_of_ne_zero h0
       have hdw := divWord_any _ a gk wr gx (Nat.le_of_succ_le gla) hgp hgl
       have hrl : a % gk < B64 := Nat.lt_trans (Nat.mod_lt _ hgp) hgl
       have hcw := fun W => commonOfWords_any gk (a % gk) W hgl hrl
       rw [show Nat.gcd gk (a % gk) = Nat.gcd m o by rw [← ggc,Nat.gcd_comm gk,← Nat.gcd_rec,Nat.gcd_comm]] at hcw
       have hgm : Nat.gcd m o < B64 := by
        rw [← ggc];exact Nat.lt_of_le_of_lt (Nat.gcd_le_right _ hgp) hgl
       have hfw := fun W => fromWord_any (Nat.gcd m o) hgm W
       obtain ⟨G,hG⟩ : ∃ G,G = Nat.gcd m o := ⟨_,rfl⟩
       simp only [← hG] at hfw
       have HG := Lib.hid hG
       simp only [← hG] at hcw
       obtain ⟨rr,hrr⟩ : ∃ r,r = a % gk := ⟨_,rfl⟩
       rw [← hrr] at hdw
       simp only [← hrr] at hcw
       rw [hw1] at s2 gy ⊢
       obtain ⟨g2,o2,rfl,hg2,hcy⟩ := s2.at_ (by omega)
       have hc0 := hcy 0 (by omega)
       rw [ws_one two_le_B hgl h0,show nth [gk] 0 = gk from rfl] at hc0
       unfold U at hc0
       rw [Nat.add_zero] at hc0
       have hz := isZero_any (some ⟨g2,o2,none⟩) 1 c2
       have hcS := hc0
       clear k1 hlen gl2 hrr hG hrl hgm ggc h0 hw1 hcy
       go_wp2_with (go_at_call 59;refine (hz _).mono ?_;rintro e w1 ⟨rfl,rfl⟩)
       refine hdw.mono ?_
       rintro e w2 ⟨qq,rfl,hqq,hb2⟩
       have hc2 : w2.cell? ⟨g2,o2,none⟩ = some (.int .u64 (gk : Int)) := by rw [hb2.cell (p := ⟨g2,o2,none⟩) hg2];exact hc0
       go_wp2_with fail
       refine (hcw w2).mono ?_
       rintro e w3 ⟨rfl,d,rfl⟩
       go_wp2_with fail
       refine (hfw _).mono ?_
       rintro e w4 ⟨vv,rfl,hvv,hb4⟩
       have hb4' : Below w2.heap.size w2 w4 := below_of_drewN hb4
       go_wp2_with fail
       go_ret
       exact ⟨_,rfl,by rw [← HG.out];exact hvv,gbel.trans ((hb2.trans (hb4'.mono hb2.size)).mono gbel.size)⟩
end Go.Proofs.YtlfgpmnjnpdkdaaGreatDoor
