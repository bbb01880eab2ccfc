/- Digests: the numbers, the blocks, what stands behind, hexadecimal digits. Plain mathematics, over no program. -/
namespace Vo

/-- a list of octets as a string -/
abbrev B (l : List UInt8) : ByteArray := ⟨l.toArray⟩
theorem B_size (l : List UInt8) : (B l).size = l.length := by simp [ByteArray.size]
theorem B_data (l : List UInt8) : (B l).data.toList = l := rfl
theorem B_of (s : ByteArray) : ∃ l : List UInt8, s = B l := ⟨s.data.toList, rfl⟩
theorem B_inj {l m : List UInt8} (h : B l = B m) : l = m := by
  have := congrArg (fun s : ByteArray => s.data.toList) h
  simpa using this
theorem B_ne {l m : List UInt8} (h : l ≠ m) : B l ≠ B m := fun e => h (B_inj e)
theorem B_extract (l : List UInt8) (a b : Nat) : (B l).extract a b = B ((l.drop a).take (b - a)) := by
  apply ByteArray.ext
  simp [List.take_drop]
theorem B_append (l m : List UInt8) : B l ++ B m = B (l ++ m) := by
  apply ByteArray.ext
  simp

/-- a number that is reckoned ahead of what uses it -/
def force {α : Type} (x : Nat) (f : Nat → α) : α := Nat.rec (f 0) (fun k _ => f (k + 1)) x
theorem force_eq {α : Type} (x : Nat) (f : Nat → α) : force x f = f x := by cases x <;> rfl

/-- the four numbers -/
abbrev Q := Nat × Nat × Nat × Nat

/-- the constants of the steps -/
def kL : List Nat := [
  0xd76aa478, 0xe8c7b756, 0x242070db, 0xc1bdceee, 0xf57c0faf, 0x4787c62a, 0xa8304613, 0xfd469501,
  0x698098d8, 0x8b44f7af, 0xffff5bb1, 0x895cd7be, 0x6b901122, 0xfd987193, 0xa679438e, 0x49b40821,
  0xf61e2562, 0xc040b340, 0x265e5a51, 0xe9b6c7aa, 0xd62f105d, 0x02441453, 0xd8a1e681, 0xe7d3fbc8,
  0x21e1cde6, 0xc33707d6, 0xf4d50d87, 0x455a14ed, 0xa9e3e905, 0xfcefa3f8, 0x676f02d9, 0x8d2a4c8a,
  0xfffa3942, 0x8771f681, 0x6d9d6122, 0xfde5380c, 0xa4beea44, 0x4bdecfa9, 0xf6bb4b60, 0xbebfbc70,
  0x289b7ec6, 0xeaa127fa, 0xd4ef3085, 0x04881d05, 0xd9d4d039, 0xe6db99e5, 0x1fa27cf8, 0xc4ac5665,
  0xf4292244, 0x432aff97, 0xab9423a7, 0xfc93a039, 0x655b59c3, 0x8f0ccc92, 0xffeff47d, 0x85845dd1,
  0x6fa87e4f, 0xfe2ce6e0, 0xa3014314, 0x4e0811a1, 0xf7537e82, 0xbd3af235, 0x2ad7d2bb, 0xeb86d391]
def kN (i : Nat) : Nat := kL.getD i 0
theorem kN_lt (i : Nat) : kN i < 4294967296 := by
  unfold kN
  by_cases h : i < 64
  · have : ∀ j : Fin 64, kL.getD j.1 0 < 4294967296 := by decide
    exact this ⟨i, h⟩
  · rw [List.getD_eq_getElem?_getD, List.getElem?_eq_none (by have : kL.length = 64 := rfl; omega)]; decide

/-- how three numbers are mixed in the round r -/
def mixN (r b c d : Nat) : Nat :=
  match r with
  | 0 => (b &&& c) ||| ((4294967295 - b) &&& d)
  | 1 => (d &&& b) ||| ((4294967295 - d) &&& c)
  | 2 => (b ^^^ c) ^^^ d
  | _ => c ^^^ (b ||| (4294967295 - d))
/-- the number of the word -/
def idxN (r i : Nat) : Nat :=
  match r with
  | 0 => (1 * i + 0) % 16
  | 1 => (5 * i + 1) % 16
  | 2 => (3 * i + 5) % 16
  | _ => (7 * i + 0) % 16
def rotL : List (List Nat) := [[7, 12, 17, 22], [5, 9, 14, 20], [4, 11, 16, 23], [6, 10, 15, 21]]
/-- the rotation -/
def shN (r i : Nat) : Nat := (rotL.getD r []).getD (i % 4) 0
def rotl (x s : Nat) : Nat := x * 2 ^ s % 4294967296 + x / 2 ^ (32 - s)

/-- a step -/
def stepN (ws : List Nat) (i : Nat) (q : Q) : Q :=
  match q with
  | (a, b, c, d) => force ((b + rotl ((a + mixN (i / 16) b c d + kN i + ws.getD (idxN (i / 16) i) 0) % 4294967296) (shN (i / 16) i)) % 4294967296) fun x => (d, x, b, c)
/-- the first n steps -/
def stepsN (ws : List Nat) (q : Q) : Nat → Q
  | 0 => q
  | n + 1 => stepN ws n (stepsN ws q n)
/-- four octets as a number, the least one first -/
def le4 (l : List UInt8) (j : Nat) : Nat := (l.getD j 0).toNat + (l.getD (j + 1) 0).toNat * 256 + (l.getD (j + 2) 0).toNat * 65536 + (l.getD (j + 3) 0).toNat * 16777216
/-- the words of a block -/
def wordsN (l : List UInt8) : List Nat := (List.range 16).map fun j => le4 l (4 * j)
def addQ (x y : Q) : Q :=
  match x, y with
  | (a, b, c, d), (p, q, r, s) => force ((p + a) % 4294967296) fun a' => force ((q + b) % 4294967296) fun b' => force ((r + c) % 4294967296) fun c' => force ((s + d) % 4294967296) fun d' => (a', b', c', d')
/-- four numbers, changed by a block -/
def blockN (q : Q) (l : List UInt8) : Q := addQ (stepsN (wordsN l) q 64) q
/-- four numbers, changed by n blocks -/
def chgN : Nat → Q → List UInt8 → Q
  | 0, q, _ => q
  | n + 1, q, l => chgN n (blockN q (l.take 64)) (l.drop 64)
/-- four numbers, changed by all full blocks -/
def chg (q : Q) (l : List UInt8) : Q := chgN (l.length / 64) q l
/-- the octets behind the full blocks -/
def restL (l : List UInt8) : List UInt8 := l.drop (l.length - l.length % 64)
def q0 : Q := (0x67452301, 0xefcdab89, 0x98badcfe, 0x10325476)

/-- the k lowest octets of a number, the least one first -/
def les (x : Nat) : Nat → List UInt8
  | 0 => []
  | k + 1 => UInt8.ofNat (x % 256) :: les (x / 256) k
theorem les_length (x k : Nat) : (les x k).length = k := by
  induction k generalizing x with
  | zero => rfl
  | succ k ih => simp [les, ih]
/-- the digest's octets -/
def told (q : Q) : List UInt8 := les q.1 4 ++ les q.2.1 4 ++ les q.2.2.1 4 ++ les q.2.2.2 4
theorem told_length (q : Q) : (told q).length = 16 := by simp [told, les_length]
/-- what stands behind n octets, of which r lie behind the full blocks -/
def endL (r n : Nat) : List UInt8 := 128 :: (List.replicate ((119 - r) % 64) 0 ++ les (8 * n) 8)
theorem endL_length (r n : Nat) : (endL r n).length = (119 - r) % 64 + 9 := by simp [endL, les_length]

def zero16 : List UInt8 := List.replicate 16 0
/-- what Sum answers -/
def sumR (l : List UInt8) : List UInt8 × Int := if 65536 < l.length then (zero16, 3) else (told (chg q0 (l ++ endL (l.length % 64) l.length)), 0)

/-- a digit -/
def dig (n : Nat) : UInt8 := if n < 10 then UInt8.ofNat (48 + n) else UInt8.ofNat (87 + n)
/-- what Hex answers -/
def hexL : List UInt8 → List UInt8
  | [] => []
  | c :: l => dig (c.toNat / 16) :: dig (c.toNat % 16) :: hexL l
/-- what a digit stands for -/
def und (c : UInt8) : Option Nat := if 48 ≤ c.toNat ∧ c.toNat ≤ 57 then some (c.toNat - 48) else if 97 ≤ c.toNat ∧ c.toNat ≤ 102 then some (c.toNat - 87) else none
/-- pairs of digits as octets -/
def unL : List UInt8 → Option (List UInt8)
  | [] => some []
  | [_] => none
  | a :: b :: l => match und a, und b, unL l with
    | some x, some y, some m => some (UInt8.ofNat (16 * x + y) :: m)
    | _, _, _ => none
/-- what Unhex answers -/
def unhexR (t : List UInt8) : List UInt8 × Int :=
  if t.length = 32 then (match unL t with | some m => (m, 0) | none => (zero16, 5)) else (zero16, 5)

/-- a digest in progress -/
structure Dg where
  w0 : Int
  w1 : Int
  w2 : Int
  w3 : Int
  len : Int
  rest : List UInt8
def inW (x : Int) : Prop := 0 ≤ x ∧ x < 4294967296
def Dg.ok (d : Dg) : Prop := inW d.w0 ∧ inW d.w1 ∧ inW d.w2 ∧ inW d.w3 ∧ 0 ≤ d.len ∧ d.len ≤ 65536 ∧ (d.rest.length : Int) = d.len % 64
instance (d : Dg) : Decidable d.ok := by unfold Dg.ok inW; exact inferInstance
def Dg.q (d : Dg) : Q := (d.w0.toNat, d.w1.toNat, d.w2.toNat, d.w3.toNat)
def Dg.none : Dg := ⟨0, 0, 0, 0, 0, []⟩
def mkD (q : Q) (n : Nat) (r : List UInt8) : Dg := ⟨q.1, q.2.1, q.2.2.1, q.2.2.2, n, r⟩
def newD : Dg := mkD q0 0 []
/-- what More answers -/
def moreR (d : Dg) (s : List UInt8) : Dg × Int :=
  if d.ok then (if 65536 < d.len + s.length then (Dg.none, 3) else (mkD (chg d.q (d.rest ++ s)) (d.len.toNat + s.length) (restL (d.rest ++ s)), 0)) else (Dg.none, 80)
/-- what Done answers -/
def doneR (d : Dg) : List UInt8 × Int :=
  if d.ok then (told (chg d.q (d.rest ++ endL d.rest.length d.len.toNat)), 0) else (zero16, 80)

def OkQ (q : Q) : Prop := q.1 < 4294967296 ∧ q.2.1 < 4294967296 ∧ q.2.2.1 < 4294967296 ∧ q.2.2.2 < 4294967296

theorem stepN_eq (ws : List Nat) (i a b c d : Nat) : stepN ws i (a, b, c, d) = (d, (b + rotl ((a + mixN (i / 16) b c d + kN i + ws.getD (idxN (i / 16) i) 0) % 4294967296) (shN (i / 16) i)) % 4294967296, b, c) := by
  unfold stepN; simp only [force_eq]
theorem addQ_eq (a b c d p q r s : Nat) : addQ (a, b, c, d) (p, q, r, s) = ((p + a) % 4294967296, (q + b) % 4294967296, (r + c) % 4294967296, (s + d) % 4294967296) := by
  unfold addQ; simp only [force_eq]
theorem stepN_ok {ws : List Nat} {i : Nat} {q : Q} (h : OkQ q) : OkQ (stepN ws i q) := by
  obtain ⟨a, b, c, d⟩ := q
  obtain ⟨h1, h2, h3, h4⟩ := h
  rw [stepN_eq]
  exact ⟨h4, Nat.mod_lt _ (by decide), h2, h3⟩
theorem stepsN_ok {ws : List Nat} {q : Q} (h : OkQ q) (n : Nat) : OkQ (stepsN ws q n) := by
  induction n with
  | zero => exact h
  | succ n ih => exact stepN_ok ih
theorem blockN_ok (q : Q) (l : List UInt8) : OkQ (blockN q l) := by
  unfold blockN
  obtain ⟨a, b, c, d⟩ := stepsN (wordsN l) q 64
  obtain ⟨p, q, r, s⟩ := q
  rw [addQ_eq]
  exact ⟨Nat.mod_lt _ (by decide), Nat.mod_lt _ (by decide), Nat.mod_lt _ (by decide), Nat.mod_lt _ (by decide)⟩
theorem chgN_ok {n : Nat} {q : Q} {l : List UInt8} (h : OkQ q) : OkQ (chgN n q l) := by
  induction n generalizing q l with
  | zero => exact h
  | succ n ih => exact ih (blockN_ok _ _)
theorem chg_ok {q : Q} {l : List UInt8} (h : OkQ q) : OkQ (chg q l) := chgN_ok h
theorem q0_ok : OkQ q0 := by unfold OkQ q0; decide

theorem chgN_append (n : Nat) (q : Q) (s t : List UInt8) (h : 64 * n ≤ s.length) : chgN n q (s ++ t) = chgN n q s := by
  induction n generalizing q s with
  | zero => rfl
  | succ n ih =>
    unfold chgN
    rw [List.take_append_of_le_length (by omega), List.drop_append_of_le_length (by omega)]
    exact ih _ _ (by rw [List.length_drop]; omega)
theorem chgN_add (n m : Nat) (q : Q) (s : List UInt8) : chgN (n + m) q s = chgN m (chgN n q s) (s.drop (64 * n)) := by
  induction n generalizing q s with
  | zero => simp [chgN]
  | succ n ih =>
    rw [show n + 1 + m = (n + m) + 1 by omega]
    show chgN (n + m) _ _ = _
    rw [ih, List.drop_drop]
    show _ = chgN m (chgN n _ _) _
    rw [show 64 + 64 * n = 64 * (n + 1) by omega]
theorem restL_length (l : List UInt8) : (restL l).length = l.length % 64 := by
  unfold restL; rw [List.length_drop]; omega
/-- blocks are changed in order, in pieces or all together -/
theorem chg_append (q : Q) (s t : List UInt8) : chg q (s ++ t) = chg (chg q s) (restL s ++ t) := by
  have e1 : (s ++ t).length / 64 = s.length / 64 + (restL s ++ t).length / 64 := by
    rw [List.length_append, List.length_append, restL_length]; omega
  have e2 : (s ++ t).drop (64 * (s.length / 64)) = restL s ++ t := by
    rw [List.drop_append_of_le_length (by omega)]
    unfold restL
    rw [show 64 * (s.length / 64) = s.length - s.length % 64 by omega]
  show chgN _ _ _ = chgN _ _ _
  rw [e1, chgN_add, e2, chgN_append (s.length / 64) q s t (by omega)]
  rfl
theorem restL_append (s t : List UInt8) : restL (s ++ t) = restL (restL s ++ t) := by
  unfold restL
  rw [List.length_append, List.length_append, List.length_drop]
  by_cases h : s.length - s.length % 64 ≤ s.length + t.length - (s.length + t.length) % 64
  · have e : s.drop (s.length - s.length % 64) ++ t = (s ++ t).drop (s.length - s.length % 64) := by rw [List.drop_append_of_le_length (by omega)]
    rw [e, List.drop_drop]
    congr 1
    omega
  · omega
theorem restL_full {s : List UInt8} (h : s.length % 64 = 0) : restL s = [] := by
  unfold restL; rw [List.drop_eq_nil_of_le (by omega)]
theorem end_full (l : List UInt8) (n : Nat) : (l ++ endL (l.length % 64) n).length % 64 = 0 := by
  rw [List.length_append, endL_length]; omega

theorem dq_mkD {q : Q} {n : Nat} {r : List UInt8} : (mkD q n r).q = q := by
  obtain ⟨a, b, c, d⟩ := q
  simp [mkD, Dg.q]
theorem mkD_ok {q : Q} {n : Nat} {r : List UInt8} (h : OkQ q) (hn : n ≤ 65536) (hr : r.length = n % 64) : (mkD q n r).ok := by
  obtain ⟨a, b, c, d⟩ := q
  obtain ⟨h1, h2, h3, h4⟩ := h
  simp only at h1 h2 h3 h4
  unfold Dg.ok mkD inW
  simp only
  omega
theorem newD_ok : newD.ok := mkD_ok q0_ok (by decide) rfl
/-- the one in progress of octets -/
def ofL (s : List UInt8) : Dg := mkD (chg q0 s) s.length (restL s)
theorem ofL_nil : ofL [] = newD := rfl
theorem ofL_ok {s : List UInt8} (h : s.length ≤ 65536) : (ofL s).ok := mkD_ok (chg_ok q0_ok) h (restL_length s)
theorem more_ofL {s t : List UInt8} (h : s.length + t.length ≤ 65536) : moreR (ofL s) t = (ofL (s ++ t), 0) := by
  unfold moreR
  rw [if_pos (ofL_ok (by omega)), if_neg (by simp only [ofL, mkD]; omega)]
  unfold ofL
  rw [dq_mkD]
  simp only [mkD, List.length_append, Int.toNat_natCast]
  rw [← chg_append, ← restL_append]
theorem done_ofL {s : List UInt8} (h : s.length ≤ 65536) : doneR (ofL s) = sumR s := by
  unfold doneR sumR
  rw [if_pos (ofL_ok h), if_neg (by omega)]
  unfold ofL
  rw [dq_mkD]
  simp only [mkD, Int.toNat_natCast]
  rw [← chg_append, restL_length]
end Vo
