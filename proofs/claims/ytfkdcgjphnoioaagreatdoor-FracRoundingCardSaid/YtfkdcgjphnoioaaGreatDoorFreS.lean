/- FracRounding: what the library answers along it; boxes of a walk. -/
import Derived.Test.YtfkdcgjphnoioaaGreatDoorFrcG
import Derived.Test.YtfkdcgjphnoioaaGreatDoorFrdA
namespace Go.Proofs.YtfkdcgjphnoioaaGreatDoor
open Go.RowKit Vd

theorem kept4 {V V' : World} (h : Below V.heap.size V V') (g : Nat) (hg : g < V.heap.size) : V'.cell? ⟨g, 0, none⟩ = V.cell? ⟨g, 0, none⟩ ∧ V'.frozen? ⟨g, 0, none⟩ = V.frozen? ⟨g, 0, none⟩ ∧ V'.cell? ⟨g, 1, none⟩ = V.cell? ⟨g, 1, none⟩ ∧ V'.frozen? ⟨g, 1, none⟩ = V.frozen? ⟨g, 1, none⟩ ∧ g < V'.heap.size ∧ g ≠ V'.heap.size :=
  ⟨(kept2 h).1 g 0 hg, (kept2 h).2 g 0 hg, (kept2 h).1 g 1 hg, (kept2 h).2 g 1 hg, Nat.lt_of_lt_of_le hg h.size, Nat.ne_of_lt (Nat.lt_of_lt_of_le hg h.size)⟩
/-- a variable is made -/
theorem boxed {w W : World} (hS : Wk w W) (cs : Array Value) (t : TypeId) : ∃ (V : World) (g : Nat), V = W.alloc (.cells cs t) ∧ g = W.heap.size ∧ Fr V g cs t ∧ Below W.heap.size W V ∧ Wk w V :=
  ⟨_, _, rfl, rfl, Fr.new rfl, (Below.refl _ _).alloc (Nat.le_refl _) _, hS.step ((Below.refl _ _).alloc (Nat.le_refl _) _)⟩

theorem gNegS {x : Rat} (hx : smallF x) (h : smallF (-x)) : Gives 38 #[qV (tN x) (tD x)] (okV (tN (-x)) (tD (-x))) := fun W _ => by
  have := fneg_some _ _ x W (rdF_t hx)
  rwa [outF_t h] at this
theorem near_boundsS (x : Rat) (s : Int) : (nearZ x s : Rat) - x * (s : Rat) ≤ Rat.divInt 1 2 ∧ Rat.divInt (-1) 2 < (nearZ x s : Rat) - x * (s : Rat) := by
  obtain ⟨z, hz⟩ : ∃ z, z = nearZ x s := ⟨_, rfl⟩
  have hd : 0 < (x.den : Int) := by have := x.den_pos; omega
  have h1 : ((x.den : Int) + (x.den : Int)) * z ≤ x.num * s + x.num * s + (x.den : Int) := by rw [hz]; unfold nearZ; exact Int.mul_ediv_self_le (by omega)
  have h2 : x.num * s + x.num * s + (x.den : Int) < ((x.den : Int) + (x.den : Int)) * z + ((x.den : Int) + (x.den : Int)) := by rw [hz]; unfold nearZ; exact Int.lt_mul_ediv_self_add (by omega)
  rw [← hz]
  have hm : x * ((x.den : Int) : Rat) = (x.num : Rat) := by
    have h0 : ((x.den : Int) : Rat) ≠ 0 := fun h => by have := Rat.intCast_eq_zero_iff.1 h; omega
    have h3 := Rat.num_divInt_den x
    rw [Rat.divInt_eq_div] at h3
    grind
  have H1 := Rat.intCast_le_intCast.2 h1
  have H2 := Rat.intCast_lt_intCast.2 h2
  have Hd : (0 : Rat) < ((x.den : Int) : Rat) := Rat.intCast_pos.2 hd
  simp only [Rat.intCast_add, Rat.intCast_mul] at H1 H2
  rw [← hm] at H1 H2
  clear hm hz h1 h2 hd
  generalize ((x.den : Int) : Rat) = d at *
  generalize (z : Rat) = y at *
  generalize (s : Rat) = t at *
  have e1 : Rat.divInt 1 2 = 1 / 2 := by decide +kernel
  have e2 : Rat.divInt (-1) 2 = -(1 / 2) := by decide +kernel
  rw [e1, e2]
  clear e1 e2
  constructor
  · rw [← Rat.not_lt]
    intro h
    have := Rat.mul_lt_mul_of_pos_left h Hd
    grind
  · rw [← Rat.not_le]
    intro h
    have := Rat.mul_le_mul_of_nonneg_left h (Rat.le_of_lt Hd)
    grind
theorem cmpQ_le0S {x y : Rat} (h : x ≤ y) : cmpQ x y ≤ 0 := by
  have := cmpQ_gt x y
  rcases (show 0 < cmpQ x y ∨ cmpQ x y ≤ 0 by omega) with h' | h'
  · exact absurd (this.1 h') (Rat.not_lt.2 h)
  · exact h'
theorem cmpQ_posS {x y : Rat} (h : y < x) : 0 < cmpQ x y := (cmpQ_gt x y).2 h
theorem nearZ_absS (x : Rat) (s : Int) : (nearZ x s).natAbs ≤ 2 * (x.num.natAbs * s.natAbs) + x.den := by
  unfold nearZ
  refine Nat.le_trans (Int.natAbs_ediv_le_natAbs _ _) ?_
  have h1 := Int.natAbs_add_le (x.num * s + x.num * s) (x.den : Int)
  have h2 := Int.natAbs_add_le (x.num * s) (x.num * s)
  rw [Int.natAbs_mul] at h2
  rw [Int.natAbs_natCast] at h1
  omega
theorem nearZ_boundS {x : Rat} {s : Int} {a b : Nat} (hx : Bq x a) (hs : s.natAbs ≤ 10 ^ b) : (nearZ x s).natAbs ≤ 10 ^ (a + b + 1) := by
  refine Nat.le_trans (nearZ_absS x s) ?_
  have h1 : x.num.natAbs * s.natAbs ≤ 10 ^ (a + b) := by rw [Nat.pow_add]; exact Nat.mul_le_mul hx.1 hs
  have h2 : x.den ≤ 10 ^ (a + b) := Nat.le_trans hx.2 (ten_mono (by omega))
  rw [Nat.pow_succ]
  omega
theorem gFloorS {x : Rat} {a : Nat} (hx : Bq x a) (h : a ≤ 599) : Gives 46 #[qV (tN x) (tD x)] (.tuple #[.string ⟨(wr x.floor).toArray⟩, .int .i64 0]) ∧ small x.floor ∧ x.floor.natAbs ≤ 10 ^ a := by
  have hb : x.floor.natAbs ≤ 10 ^ a := by rw [Rat.floor_def]; exact Nat.le_trans (Int.natAbs_ediv_le_natAbs _ _) hx.1
  have hs : small x.floor := Nat.lt_of_le_of_lt hb (Nat.pow_lt_pow_right (by omega) (by rw [maxDigits_eq]; omega))
  refine ⟨fun W _ => ?_, hs, hb⟩
  have := ffloor_some _ _ x W (rdF_t (hx.small h))
  unfold outV at this
  rwa [if_pos hs] at this

/-- what the library answers along FracRounding -/
theorem rounding_saidS (x : Rat) (hx : Bq x 39) (K P : Nat) (hK0 : 1 ≤ K) (hK : K ≤ 4294967296) (hP : P ≤ 20) :
    ∃ (u v cc bb : Int) (f l1 l2 o1 o2 g1 g2 h1 h2 t b1 b2 d1 d2 t1 t2 e1 e2 w1 w2 n1 n2 : List UInt8),
      Gives 46 #[qV (tN x) (tD x)] (.tuple #[.string ⟨f.toArray⟩, .int .i64 0]) ∧
      Gives 15 #[.string ⟨f.toArray⟩, .string ⟨#[49]⟩] (okV l1 l2) ∧
      Gives 45 #[.int .i64 1, .int .i64 1] (qV o1 o2) ∧
      Gives 30 #[qV l1 l2, qV o1 o2] (okV g1 g2) ∧
      Gives 21 #[qV l1 l2, qV (tN x) (tD x)] (.tuple #[.int .i64 u, .int .i64 0]) ∧
      Gives 21 #[qV g1 g2, qV (tN x) (tD x)] (.tuple #[.int .i64 v, .int .i64 0]) ∧
      u ≤ 0 ∧ 0 < v ∧
      Gives 45 #[.int .i64 1, .int .i64 2] (qV h1 h2) ∧
      (Gives 47 #[qV (tN x) (tD x), .int .i64 (K : Int)] (.tuple #[.int .i64 0, .int .i64 6]) ∨
        ∃ (n c b : Int) (a1 a2 p1 p2 r1 r2 s1 s2 m1 m2 : List UInt8),
          Gives 47 #[qV (tN x) (tD x), .int .i64 (K : Int)] (.tuple #[.int .i64 n, .int .i64 0]) ∧
          Gives 45 #[.int .i64 (K : Int), .int .i64 1] (qV a1 a2) ∧
          Gives 32 #[qV (tN x) (tD x), qV a1 a2] (okV p1 p2) ∧
          Gives 45 #[.int .i64 n, .int .i64 1] (qV r1 r2) ∧
          Gives 31 #[qV r1 r2, qV p1 p2] (okV s1 s2) ∧
          Gives 21 #[qV s1 s2, qV h1 h2] (.tuple #[.int .i64 c, .int .i64 0]) ∧
          Gives 38 #[qV h1 h2] (okV m1 m2) ∧
          Gives 21 #[qV s1 s2, qV m1 m2] (.tuple #[.int .i64 b, .int .i64 0]) ∧
          c ≤ 0 ∧ 0 < b) ∧
      Gives 48 #[qV (tN x) (tD x), .int .i64 (P : Int)] (.tuple #[.string ⟨t.toArray⟩, .int .i64 0]) ∧
      Gives 49 #[.string ⟨t.toArray⟩] (okV b1 b2) ∧
      Gives 31 #[qV b1 b2, qV (tN x) (tD x)] (okV d1 d2) ∧
      Gives 45 #[.int .i64 10, .int .i64 1] (qV t1 t2) ∧
      Gives 50 #[qV t1 t2, .int .i64 (P : Int)] (okV e1 e2) ∧
      Gives 32 #[qV d1 d2, qV e1 e2] (okV w1 w2) ∧
      Gives 21 #[qV w1 w2, qV h1 h2] (.tuple #[.int .i64 cc, .int .i64 0]) ∧
      Gives 45 #[.int .i64 (-1), .int .i64 2] (qV n1 n2) ∧
      Gives 21 #[qV w1 w2, qV n1 n2] (.tuple #[.int .i64 bb, .int .i64 0]) ∧
      cc ≤ 0 ∧ 0 < bb := by
  have sx := hx.small (by omega)
  obtain ⟨gf, sf, bf⟩ := gFloorS hx (by omega)
  have b1 : Bq (Rat.divInt 1 1) 1 := Bq.int 1 (by decide)
  have bh : Bq (Rat.divInt 1 2) 1 := Bq.divInt (by decide) (by decide) (by decide)
  have bn : Bq (Rat.divInt (-1) 2) 1 := Bq.divInt (by decide) (by decide) (by decide)
  have bl : Bq (Rat.divInt x.floor 1) 39 := Bq.int _ bf
  have b10 : Bq (Rat.divInt 10 1) 2 := Bq.int 10 (by decide)
  have bT : Bq ((Rat.divInt 10 1) ^ P) 40 := (b10.pow P).mono (by omega)
  have sl := bl.small (by omega)
  have s1 := b1.small (by omega)
  have sh := bh.small (by omega)
  have sn := bn.small (by omega)
  have s10 := b10.small (by omega)
  have sT := bT.small (by omega)
  have ng : Rat.divInt (-1) 2 = -Rat.divInt 1 2 := by decide +kernel
  have hmk : Gives 15 #[.string ⟨(wr x.floor).toArray⟩, .string ⟨#[49]⟩] (okV (tN (Rat.divInt x.floor 1)) (tD (Rat.divInt x.floor 1))) := fun W _ => by
    have := fmake_some (wr x.floor) [49] x.floor 1 W (rd_wr sf) (by decide) (by omega)
    rwa [outF_t sl] at this
  -- the text
  obtain ⟨z, hz⟩ : ∃ z, z = nearZ x (10 ^ P) := ⟨_, rfl⟩
  have hzb : z.natAbs ≤ 10 ^ 60 := by
    rw [hz]
    refine Nat.le_trans (nearZ_boundS (b := 20) hx (by rw [Int.natAbs_pow]; exact ten_mono hP)) (ten_mono (by omega))
  have bz : Bq (Rat.divInt z (10 ^ P)) 60 := Bq.divInt (ten_ne _) hzb (by rw [Int.natAbs_pow]; exact ten_mono (by omega))
  have sz := bz.small (by omega)
  have sd := (bz.sub hx).small (by omega)
  have sw := ((bz.sub hx).mul bT).small (by omega)
  obtain ⟨q1, q2, q3, q4⟩ := dtx_ok z P hP
  have htx : Gives 48 #[qV (tN x) (tD x), .int .i64 (P : Int)] (.tuple #[.string ⟨(dtx z P).toArray⟩, .int .i64 0]) := fun W _ => by
    have := ftext_some _ _ x P W (rdF_t sx) hP
    rwa [← hz] at this
  have hps : Gives 49 #[.string ⟨(dtx z P).toArray⟩] (okV (tN (Rat.divInt z (10 ^ P))) (tD (Rat.divInt z (10 ^ P)))) := fun W _ => by
    have hd : dlen (z.natAbs / 10 ^ P) ≤ 620 := dlen_fit (k := 61) (Nat.lt_of_le_of_lt (Nat.div_le_self _ _) (Nat.lt_of_le_of_lt hzb (by decide))) (by omega) (by omega)
    have hl : (dtx z P).length ≤ 1000000 := by
      unfold dtx
      rw [List.length_append, List.length_append, digs_length]
      have e1 : (if z < 0 then ([45] : List UInt8) else []).length ≤ 1 := by split <;> simp
      have e2 : (if P = 0 then ([] : List UInt8) else 46 :: padd P z.natAbs).length ≤ 21 := by
        split
        · simp
        · rw [List.length_cons, padd_length]; omega
      omega
    have h6 : (bef (cutm (dtx z P)).1).length ≤ 600 := by
      rw [q4, digs_length]
      exact dlen_fit (k := 61) (Nat.lt_of_le_of_lt (Nat.div_le_self _ _) (Nat.lt_of_le_of_lt hzb (by decide))) (by omega) (by omega)
    have h := fparse_some (dtx z P) W hl q1 h6
    rw [q2, q3, outF_t sz] at h
    exact h
  have hwz : (Rat.divInt z (10 ^ P) - x) * (Rat.divInt 10 1) ^ P = (z : Rat) - x * ((10 ^ P : Int) : Rat) := by
    have h1 := divInt_ten z P
    have h2 := tenQ_ne P
    have h3 : ((10 ^ P : Int) : Rat) = (Rat.divInt 10 1) ^ P := by rw [Rat.intCast_pow, divInt_int]
    rw [← h1, divInt_int z, h3]
    generalize (Rat.divInt 10 1) ^ P = T at *
    grind
  have hnb := near_boundsS x (10 ^ P)
  rw [← hz, ← hwz] at hnb
  refine ⟨_, _, _, _, _, _, _, _, _, _, _, tN (Rat.divInt 1 2), tD (Rat.divInt 1 2), _, _, _, _, _, _, _, _, _, _, _, _, _, gf, hmk, gq 1 1 (by omega) (by omega) (by omega) (by omega) (by omega), gAdd sl s1 ((bl.add b1).small (by omega)), gCmp sl sx, gCmp ((bl.add b1).small (by omega)) sx, ?_, ?_, gq 1 2 (by omega) (by omega) (by omega) (by omega) (by omega), ?_, htx, hps, gSub sz sx sd, gq 10 1 (by omega) (by omega) (by omega) (by omega) (by omega), gPow s10 P (by omega) sT, gMul sd sT sw, gCmp sw sh, gq (-1) 2 (by omega) (by omega) (by omega) (by omega) (by omega), gCmp sw sn, cmpQ_le0S hnb.1, cmpQ_posS hnb.2⟩
  · refine cmpQ_le0S ?_
    rw [divInt_int]
    exact Rat.floor_le x
  · refine cmpQ_posS ?_
    have := Rat.lt_floor_add_one x
    rw [divInt_int, divInt_int]
    rw [Rat.intCast_add] at this
    exact this
  · have hKb : ((K : Int)).natAbs ≤ 10 ^ 10 := by rw [Int.natAbs_natCast]; exact Nat.le_trans hK (by decide)
    have hnz := nearZ_boundS hx hKb
    obtain ⟨n, hn⟩ : ∃ n, n = nearZ x (K : Int) := ⟨_, rfl⟩
    by_cases hr : -9223372036854775808 ≤ n ∧ n ≤ 9223372036854775807
    · right
      have bK : Bq (Rat.divInt (K : Int) 1) 10 := Bq.int _ hKb
      have bN : Bq (Rat.divInt n 1) 50 := Bq.int _ (by rw [hn]; exact hnz)
      have bp := hx.mul bK
      have bs := bN.sub bp
      have hb2 := near_boundsS x (K : Int)
      rw [← hn] at hb2
      have e1 : (n : Rat) - x * ((K : Int) : Rat) = Rat.divInt n 1 - x * Rat.divInt (K : Int) 1 := by rw [divInt_int, divInt_int]
      rw [e1] at hb2
      refine ⟨n, _, _, _, _, _, _, _, _, _, _, _, _, ?_, gq (K : Int) 1 (by omega) (by omega) (by omega) (by omega) (by omega), gMul sx (bK.small (by omega)) (bp.small (by omega)), gq n 1 hr.1 hr.2 (by omega) (by omega) (by omega), gSub (bN.small (by omega)) (bp.small (by omega)) (bs.small (by omega)), gCmp (bs.small (by omega)) sh, gNegS sh (bh.neg.small (by omega)), gCmp (bs.small (by omega)) (bh.neg.small (by omega)), cmpQ_le0S hb2.1, ?_⟩
      · intro W hg
        have := fnear_some _ _ x K W hg (rdF_t sx) hK0 (by omega) (by rw [← hn]; exact hr.1) (by rw [← hn]; exact hr.2)
        rwa [← hn] at this
      · rw [← ng]
        exact cmpQ_posS hb2.2
    · left
      intro W hg
      refine fnear_big _ _ x K W hg (rdF_t sx) hK0 (by omega) ?_ (by rw [← hn]; exact hr)
      exact Nat.lt_of_le_of_lt hnz (Nat.pow_lt_pow_right (by omega) (by rw [maxDigits_eq]; omega))
end Go.Proofs.YtfkdcgjphnoioaaGreatDoor
