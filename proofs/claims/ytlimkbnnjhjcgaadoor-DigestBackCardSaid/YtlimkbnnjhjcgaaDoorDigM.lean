/- Arrays of integers, compared. -/
import Derived.Test.YtlimkbnnjhjcgaaDoorDigJ
import Derived.Laws.StructEq
namespace Go.Proofs.YtlimkbnnjhjcgaaDoor
open Go.RowKit Vo

theorem eqArr {P : Program} (w : World) (d : Nat) (t e : TypeId) (len : Nat) (k : IntKind) (ht : P.underlying t = some (.array len e)) (he : P.underlying e = some (.int k)) (hs : (P.info? e).map (·.size) = some 1) (xs ys : List Int) (hx : xs.length = len) (hy : ys.length = len) :
    (Op.equalIn (d + 2) t (.agg (xs.map (Value.int k)).toArray) (.agg (ys.map (Value.int k)).toArray)).run P w = .ok (xs == ys) w := by
  have hse : (sizeOf e).run P w = .ok 1 w := by
    cases hq : P.info? e with
    | none => simp [hq] at hs
    | some i =>
      have : i.size = 1 := by simpa [hq] using hs
      simp [sizeOf, typeInfo, hq, this]
  have hag : (isAgg e).run P w = .ok false w := by
    unfold isAgg
    rw [Sem.run_bind, run_underlying he]
    rfl
  have hpart : ∀ (zs : List Int) (i : Nat) (z : Int), zs[i]? = some z → (part e (zs.map (Value.int k)).toArray (i * 1)).run P w = .ok (.int k z) w := fun zs i z hz => by
    unfold part
    rw [Sem.run_bind, hag]
    simp [hz]
  rw [Op.equalIn]
  simp only [Sem.run_bind, run_underlying ht, Result.andThen_ok, hse]
  rw [Std.Legacy.Range.forIn_eq_forIn_range']
  have key : ∀ (m i : Nat), i + m = len → (Sem.run P (forIn (List.range' i m) ((none : Option Bool), ()) fun i s => do
      let a ← part e (xs.map (Value.int k)).toArray (i * 1)
      let b ← part e (ys.map (Value.int k)).toArray (i * 1)
      let r ← Op.equalIn (d + 1) e a b
      if (!r) = true then pure (ForInStep.done (some false, ())) else pure (ForInStep.yield (none, ()))) w) = .ok (if xs.drop i == ys.drop i then (none, ()) else (some false, ())) w := by
    intro m
    induction m with
    | zero =>
      intro i hi
      rw [List.drop_eq_nil_of_le (by omega), List.drop_eq_nil_of_le (by omega)]
      simp
    | succ m ih =>
      intro i hi
      have h1 : i < xs.length := by omega
      have h2 : i < ys.length := by omega
      rw [List.range'_succ, List.forIn_cons]
      simp only [Sem.run_bind, hpart xs i _ (List.getElem?_eq_getElem h1), hpart ys i _ (List.getElem?_eq_getElem h2), Result.andThen_ok, run_equalIn_int w d e k k _ _ he]
      rw [List.drop_eq_getElem_cons h1, List.drop_eq_getElem_cons h2]
      cases hq : (xs[i] == ys[i])
      · have : (xs[i] :: xs.drop (i + 1) == ys[i] :: ys.drop (i + 1)) = false := by
          show (xs[i] == ys[i] && _) = false
          rw [hq]; rfl
        rw [this]
        simp only [Bool.not_false, if_true, Sem.run_pure, Result.andThen_ok, Bool.false_eq_true, if_false]
      · have : (xs[i] :: xs.drop (i + 1) == ys[i] :: ys.drop (i + 1)) = (xs.drop (i + 1) == ys.drop (i + 1)) := by
          show (xs[i] == ys[i] && _) = _
          rw [hq]; rfl
        rw [this]
        simp only [Bool.not_true, Bool.false_eq_true, if_false, Sem.run_pure, Result.andThen_ok]
        exact ih (i + 1) (by omega)
  have h0 := key len 0 (by omega)
  have hsz : ([:len] : Std.Legacy.Range).size = len := by simp [Std.Legacy.Range.size]
  rw [hsz]
  change ((Sem.run P (forIn (List.range' 0 len) ((none : Option Bool), ()) _) w).andThen _) = _
  rw [h0]
  simp only [Result.andThen_ok, List.drop_zero]
  cases (xs == ys) <;> rfl
theorem eq_i4 (d : Nat) (a b c e a' b' c' e' : Int) (w : World) : (Op.equalIn (d + 2) 39 (.agg (i4 a b c e)) (.agg (i4 a' b' c' e'))).run Tryd.prog w = .ok ([a, b, c, e] == [a', b', c', e']) w :=
  eqArr w d 39 3 4 .i64 Tryd.underlying39 Tryd.underlying3 (by kernel_rfl) [a, b, c, e] [a', b', c', e'] rfl rfl
set_option maxRecDepth 20000 in
theorem eq_o16 (d : Nat) (l m : List UInt8) (hl : l.length = 16) (hm : m.length = 16) (w : World) : (Op.equalIn (d + 2) 28 (.agg (bcA l)) (.agg (bcA m))).run Tryd.prog w = .ok (l == m) w := by
  have h := eqArr (P := Tryd.prog) w d 28 5 16 .u8 Tryd.underlying28 Tryd.underlying5 (by kernel_rfl) (l.map fun b => (b.toNat : Int)) (m.map fun b => (b.toNat : Int)) (by simp [hl]) (by simp [hm])
  have e : ∀ z : List UInt8, ((z.map fun b => (b.toNat : Int)).map (Value.int .u8)).toArray = bcA z := fun z => by simp [bcA, Lib.byteCells]
  rw [e, e] at h
  have e2 : ((l.map fun b => (b.toNat : Int)) == (m.map fun b => (b.toNat : Int))) = (l == m) := by
    rw [Bool.eq_iff_iff, beq_iff_eq, beq_iff_eq]
    constructor
    · exact fun h => (List.map_inj_right (f := fun b : UInt8 => (b.toNat : Int)) (fun x y hxy => UInt8.toNat_inj.1 (Int.ofNat.inj hxy))).1 h
    · rintro rfl
      rfl
  rw [h, e2]
theorem neq_i4 (a b c e a' b' c' e' : Int) (w : World) : (binOp .neq 39 (.agg (i4 a b c e)) (.agg (i4 a' b' c' e'))).run Tryd.prog w = .ok (.bool (!([a, b, c, e] == [a', b', c', e']))) w := by
  rw [run_neq_struct, show (10000 : Nat) = 9998 + 2 from rfl, eq_i4]; rfl
theorem neq_o16 (l m : List UInt8) (hl : l.length = 16) (hm : m.length = 16) (w : World) : (binOp .neq 28 (.agg (bcA l)) (.agg (bcA m))).run Tryd.prog w = .ok (.bool (!(l == m))) w := by
  rw [run_neq_struct, show (10000 : Nat) = 9998 + 2 from rfl, eq_o16 _ _ _ hl hm]; rfl
theorem eql_o16 (l m : List UInt8) (hl : l.length = 16) (hm : m.length = 16) (w : World) : (binOp .eql 28 (.agg (bcA l)) (.agg (bcA m))).run Tryd.prog w = .ok (.bool (l == m)) w := by
  rw [run_eql_struct, show (10000 : Nat) = 9998 + 2 from rfl, eq_o16 _ _ _ hl hm]; rfl
end Go.Proofs.YtlimkbnnjhjcgaaDoor
