/- Slices of numbers in memory, over any program: a slice that reads as a list of numbers; a block that is such a list. -/
import Derived.Test.YtlfgpmnjnpdkdaaGreatDoorNum
import Derived.Below
import Derived.Laws.OwnMore
import Derived.Deep.Draws
import Derived.Laws.Rows
import Derived.Laws.MakeOwn
import Derived.Deep.QuietTactic
namespace Vd
open Go Go.RowKit
def Sl (w : World) (f : Nat → Value) (A : Option Addr) (n : Nat) (xs : List Nat) : Prop :=
 xs.length = n ∧ (0 < n → ∃ g o,A = some ⟨g,o,none⟩ ∧ g < w.heap.size ∧ ∀ i,i < n → w.cell? ⟨g,o + i,none⟩ = some (f (nth xs i)))
def Row (w : World) (f : Nat → Value) (g : Nat) (t : TypeId) (xs : List Nat) : Prop := w.heap[g]? = some (.cells (xs.map f).toArray t (0,0))
section
variable {w w' : World} {f : Nat → Value} {A : Option Addr} {n : Nat} {xs : List Nat}
theorem Sl.nil : Sl w f A 0 [] := ⟨rfl,fun h => absurd h (by omega)⟩
theorem Sl.len (h : Sl w f A n xs) : xs.length = n := h.1
theorem Sl.at_ (h : Sl w f A n xs) (hn : 0 < n) : ∃ g o,A = some ⟨g,o,none⟩ ∧ g < w.heap.size ∧ ∀ i,i < n → w.cell? ⟨g,o + i,none⟩ = some (f (nth xs i)) := h.2 hn
theorem Sl.keep (h : Sl w f A n xs) (hs : w.heap.size ≤ w'.heap.size) (hk : ∀ p : Addr,p.block < w.heap.size → w'.cell? p = w.cell? p) : Sl w' f A n xs :=
 ⟨h.1,fun hn => by
  obtain ⟨g,o,e,hg,hc⟩ := h.2 hn
  exact ⟨g,o,e,by omega,fun i hi => (hk _ hg).trans (hc i hi)⟩⟩
theorem Sl.below (h : Sl w f A n xs) (hb : Below w.heap.size w w') : Sl w' f A n xs := h.keep hb.size fun _ hp => hb.cell hp
theorem Sl.drew (h : Sl w f A n xs) : Sl w.drew f A n xs := h
theorem Sl.drewN (h : Sl w f A n xs) (k : Nat) : Sl (w.drewN k) f A n xs := h
theorem Sl.alloc (h : Sl w f A n xs) (o : Obj) : Sl (w.alloc o) f A n xs := h.keep (by simp) fun p hp => World.cell?_alloc_lt w o p hp
theorem Sl.far (h : Sl w f A n xs) {p : Addr} (hp : ∀ g o,A = some ⟨g,o,none⟩ → 0 < n → g ≠ p.block) (u : Value) : Sl (w.setCell p u) f A n xs :=
 ⟨h.1,fun hn => by
  obtain ⟨g,o,e,hg,hc⟩ := h.2 hn
  exact ⟨g,o,e,by simpa using hg,fun i hi => by
   rw [World.cell?_setCell_other w p _ u (fun e2 => hp g o e hn (by rw [e2]))]
   exact hc i hi⟩⟩
theorem Sl.grown (h : Sl w f A n xs) {r : Option Nat} (hg : w.grownBy w' r) (hr : ∀ g o,A = some ⟨g,o,none⟩ → 0 < n → some g ≠ r) : Sl w' f A n xs :=
 ⟨h.1,fun hn => by
  obtain ⟨g,o,e,hlt,hc⟩ := h.2 hn
  refine ⟨g,o,e,by have := hg.size;omega,fun i hi => ?_⟩
  exact (World.cell?_of_block (w := w) (hg.block g hlt (hr g o e hn))).trans (hc i hi)⟩
theorem Sl.take (h : Sl w f A n xs) {k : Nat} (hk : k ≤ n) : Sl w f A k (xs.take k) :=
 ⟨by rw [List.length_take,h.1];omega,fun hn => by
  obtain ⟨g,o,e,hlt,hc⟩ := h.2 (by omega)
  refine ⟨g,o,e,hlt,fun i hi => ?_⟩
  rw [hc i (by omega),nth_take hi]⟩
variable {g : Nat} {t : TypeId}
theorem Row.lt (h : Row w f g t xs) : g < w.heap.size := by
 rcases Nat.lt_or_ge g w.heap.size with hlt | hge
 · exact hlt
 · unfold Row at h;rw [Array.getElem?_eq_none hge] at h;cases h
theorem Row.cell (h : Row w f g t xs) {i : Nat} (hi : i < xs.length) : w.cell? ⟨g,i,none⟩ = some (f (nth xs i)) := by
 rw [cell_of_row w g i _ t (0,0) h]
 rw [nth_lt hi]
 simp [List.getElem?_eq_getElem hi]
theorem Row.frozen (h : Row w f g t xs) (i : Nat) : w.frozen? ⟨g,i,none⟩ = false := by
 unfold Row at h
 simp [World.frozen?,h]
theorem Row.new (w : World) (f : Nat → Value) (t : TypeId) (xs : List Nat) : Row (w.alloc (.cells (xs.map f).toArray t)) f w.heap.size t xs := by
 unfold Row
 show (w.heap.push _)[w.heap.size]? = _
 simp
theorem Row.newRep (w : World) (f : Nat → Value) (t : TypeId) (n : Nat) : Row (w.alloc (.cells (Array.replicate n (f 0)) t)) f w.heap.size t (List.replicate n 0) := by
 have := Row.new w f t (List.replicate n 0)
 simpa using this
theorem Row.drew (h : Row w f g t xs) : Row w.drew f g t xs := h
theorem Row.drewN (h : Row w f g t xs) (k : Nat) : Row (w.drewN k) f g t xs := h
theorem Row.alloc (h : Row w f g t xs) (o : Obj) : Row (w.alloc o) f g t xs := (Below.heap_alloc w o g h.lt).trans h
theorem Row.set (h : Row w f g t xs) (i : Nat) (x : Nat) : Row (w.setCell ⟨g,i,none⟩ (f x)) f g t (xs.set i x) := by
 unfold Row at h ⊢
 simp [World.setCell,Array.getElem?_modify,h]
theorem Row.far (h : Row w f g t xs) {p : Addr} (hp : g ≠ p.block) (u : Value) : Row (w.setCell p u) f g t xs := (Below.heap_setCell w p u g hp).trans h
theorem Row.below {B : Nat} (h : Row w f g t xs) (hb : Below B w w') (hg : g < B) : Row w' f g t xs := (hb.block g hg).trans h
theorem Row.grown {r : Option Nat} (h : Row w f g t xs) (hb : w.grownBy w' r) (hg : some g ≠ r) : Row w' f g t xs := (hb.block g h.lt hg).trans h
theorem Row.sl (h : Row w f g t xs) {o k : Nat} (hk : o + k ≤ xs.length) : Sl w f (some ⟨g,o,none⟩) k ((xs.drop o).take k) :=
 ⟨by simp;omega,fun _ => ⟨g,o,rfl,h.lt,fun i hi => by
  rw [h.cell (by omega),nth_take hi,nth_drop]⟩⟩
theorem Row.sl0 (h : Row w f g t xs) : Sl w f (some ⟨g,0,none⟩) xs.length xs := by
 have := h.sl (o := 0) (k := xs.length) (by omega)
 simpa using this
theorem Row.slk (h : Row w f g t xs) {k : Nat} (hk : k ≤ xs.length) : Sl w f (some ⟨g,0,none⟩) k (xs.take k) := by
 have := h.sl (o := 0) (k := k) (by omega)
 simpa using this
end
theorem madeCells_eq (f : Nat → Value) (n : Nat) : madeCells #[f 0] n = ((List.replicate n 0).map f).toArray := by
 unfold madeCells
 apply Array.ext_getElem?
 intro i
 simp
 by_cases h : i < n <;> simp [h,Nat.mod_one]
theorem below_drewN {B : Nat} {a w : World} (h : Below B a w) (n : Nat) : Below B a (w.drewN n) := ⟨h.os,h.tape,h.output,h.size,h.block⟩
theorem qOne {P : Program} {f : FuncId} {args : Array Value} {w : World} {n : Nat} {v : Value} (h : Calls P f args (w.drewN n) fun e w' => e = .returned v ∧ w.drewN n = w') :
 Calls P f args (w.drewN n) fun e w'' => e = .returned v ∧ ∃ m,w'' = w.drewN m :=
 h.mono fun _ _ ⟨he,hm⟩ => ⟨he,n,hm.symm⟩
theorem qAdd {P : Program} {f : FuncId} {args : Array Value} {w : World} {a n : Nat} {v : Value} (h : Calls P f args (w.drewN (a + n)) fun e w' => e = .returned v ∧ w.drewN (a + n) = w') :
 Calls P f args (w.drewN (a + n)) fun e w'' => e = .returned v ∧ ∃ m,w'' = w.drewN (a + m) :=
 h.mono fun _ _ ⟨he,hm⟩ => ⟨he,n,hm.symm⟩
theorem og_setCell {a w : World} {g : Nat} (h : a.grownBy w (some g)) (i : Nat) (u : Value) : a.grownBy (w.setCell ⟨g,i,none⟩ u) (some g) :=
 ⟨h.os,h.tape,h.output,by simpa [World.setCell] using h.size,fun k hk hne => (Below.heap_setCell w ⟨g,i,none⟩ u k (fun e => hne (by rw [e]))).trans (h.block k hk hne)⟩
theorem set_mid (pre mid post : List Nat) (k x : Nat) (h : k < mid.length) : (pre ++ (mid ++ post)).set (pre.length + k) x = pre ++ (mid.set k x ++ post) := by
 rw [List.set_append_right _ _ (by omega),Nat.add_sub_cancel_left,List.set_append_left _ _ h]
theorem nth_mid (pre mid post : List Nat) (k : Nat) (h : k < mid.length) : nth (pre ++ (mid ++ post)) (pre.length + k) = nth mid k := by
 unfold nth
 rw [List.getElem?_append_right (by omega),Nat.add_sub_cancel_left,List.getElem?_append_left h]
theorem drop_set_succ (xs : List Nat) (k x : Nat) : (xs.set k x).drop (k + 1) = xs.drop (k + 1) := by
 rw [List.drop_set_of_lt (by omega)]
theorem nth_of_drop {xs ys : List Nat} {k : Nat} (h : xs.drop k = ys.drop k) : nth xs k = nth ys k := by
 have a := nth_drop xs 0 k
 have b := nth_drop ys 0 k
 rw [h] at a
 simpa using a.symm.trans b
theorem drop_succ_of {xs ys : List Nat} {k : Nat} (h : xs.drop k = ys.drop k) : xs.drop (k + 1) = ys.drop (k + 1) := by
 have := congrArg (List.drop 1) h
 simpa [List.drop_drop,Nat.add_comm] using this
end Vd
