/- Octets: numbers, fields and texts, as lists. Plain mathematics, over no program. -/
namespace Vo

/-- a list of octets as a string -/
abbrev B (l : List UInt8) : ByteArray := ⟨l.toArray⟩
theorem B_size (l : List UInt8) : (B l).size = l.length := by simp [ByteArray.size]
theorem B_data (l : List UInt8) : (B l).data.toList = l := rfl
theorem B_of (s : ByteArray) : ∃ l : List UInt8, s = B l := ⟨s.data.toList, rfl⟩
theorem B_inj {l m : List UInt8} (h : B l = B m) : l = m := by
  have := congrArg (fun s : ByteArray => s.data.toList) h
  simpa using this
theorem B_ne {l m : List UInt8} (h : l ≠ m) : B l ≠ B m := fun e => h (B_inj e)
theorem B_extract (l : List UInt8) (a b : Nat) : (B l).extract a b = B ((l.drop a).take (b - a)) := by
  apply ByteArray.ext
  simp [List.take_drop]
theorem B_append (l m : List UInt8) : B l ++ B m = B (l ++ m) := by
  apply ByteArray.ext
  simp

/-- the part of n octets from a position on -/
def cut (l : List UInt8) (a n : Nat) : List UInt8 := (l.drop a).take n
theorem cut_length {l : List UInt8} {a n : Nat} (h : a + n ≤ l.length) : (cut l a n).length = n := by
  unfold cut; rw [List.length_take, List.length_drop]; omega

/-- what Part answers -/
def partR (l : List UInt8) (a n : Int) : List UInt8 × Int :=
  if 65536 < l.length then ([], 3) else if a < 0 ∨ n < 0 then ([], 2) else if (l.length : Int) < a ∨ (l.length : Int) - a < n then ([], 70) else (cut l a.toNat n.toNat, 0)

/-- the number of octets -/
def num (l : List UInt8) : Nat := l.foldl (fun n b => n * 256 + b.toNat) 0

/-- a signed number of four octets -/
def sgn (signed : Bool) (x : Int) : Int := if signed ∧ 2147483648 ≤ x then x - 4294967296 else x

/-- what U8, U16, U32 and S32 answer -/
def numR (l : List UInt8) (a : Int) (size : Nat) (signed : Bool) : Int × Int :=
  if (partR l a size).2 = 0 then (sgn signed (num (partR l a size).1), 0) else (0, (partR l a size).2)

/-- a text octet -/
def vis (c : UInt8) : Bool := decide (32 ≤ c.toNat ∧ c.toNat ≤ 126)
/-- how many text octets stand in front -/
def lead : List UInt8 → Nat
  | [] => 0
  | c :: l => if vis c then lead l + 1 else 0
theorem lead_le (l : List UInt8) : lead l ≤ l.length := by
  induction l with
  | nil => simp [lead]
  | cons c l ih => unfold lead; split <;> simp <;> omega

/-- what Text answers -/
def textR (l : List UInt8) (a n : Int) : List UInt8 × Int :=
  if (partR l a n).2 = 0 then
    (if ((partR l a n).1.drop (lead (partR l a n).1)).all (fun c => c == 0) then ((partR l a n).1.take (lead (partR l a n).1), 0) else ([], 5))
  else ([], (partR l a n).2)

/-- the k lowest octets of a number, the most significant one first -/
def octs (x : Int) : Nat → List UInt8
  | 0 => []
  | k + 1 => octs (x / 256) k ++ [UInt8.ofNat (x % 256).toNat]
theorem octs_length (x : Int) (k : Nat) : (octs x k).length = k := by
  induction k generalizing x with
  | zero => rfl
  | succ k ih => simp [octs, ih]

/-- what PutU8, PutU16, PutU32 and PutS32 answer -/
def putR (lo hi : Int) (k : Nat) (n : Int) : List UInt8 × Int := if lo ≤ n ∧ n ≤ hi then (octs n k, 0) else ([], 2)

/-- what PutText answers -/
def putTextR (t : List UInt8) (n : Int) : List UInt8 × Int :=
  if n < 0 ∨ 65536 < n then ([], 2) else if lead t < t.length then ([], 5) else if n < t.length then ([], 3) else (t ++ List.replicate (n.toNat - t.length) 0, 0)

/-- what Pad answers -/
def padR (s : List UInt8) (n : Int) : List UInt8 × Int :=
  if 65536 < s.length then ([], 3) else if n < 1 ∨ 64 < n then ([], 2)
  else if 65536 < ((s.length : Int) + n - 1) / n * n then ([], 3)
  else (s ++ List.replicate ((((s.length : Int) + n - 1) / n * n).toNat - s.length) 0, 0)

theorem num_append (l : List UInt8) (c : UInt8) : num (l ++ [c]) = num l * 256 + c.toNat := by
  unfold num; rw [List.foldl_append]; rfl
theorem u8_of (x : Int) : (UInt8.ofNat (x % 256).toNat).toNat = (x % 256).toNat := by
  rw [UInt8.toNat_ofNat']; omega
theorem num_octs (x : Int) (k : Nat) : (num (octs x k) : Int) = x % 256 ^ k := by
  induction k generalizing x with
  | zero => show (0 : Int) = x % 1; rw [Int.emod_one]
  | succ k ih =>
    have h := ih (x / 256)
    rw [octs, num_append, u8_of]
    rw [Int.natCast_add, Int.natCast_mul, h, Int.toNat_of_nonneg (by omega)]
    have e : (256 : Int) ^ (k + 1) = 256 * 256 ^ k := by rw [Int.pow_succ, Int.mul_comm]
    rw [e, Int.emod_def x (256 * 256 ^ k), Int.emod_def (x / 256), Int.ediv_ediv_of_nonneg (by omega)]
    have h1 : 256 * 256 ^ k * (x / (256 * 256 ^ k)) = 256 * (256 ^ k * (x / (256 * 256 ^ k))) := by rw [Int.mul_assoc]
    rw [h1]
    generalize (256 : Int) ^ k * (x / (256 * 256 ^ k)) = q
    show (x / 256 - q) * 256 + _ = _
    omega

end Vo
