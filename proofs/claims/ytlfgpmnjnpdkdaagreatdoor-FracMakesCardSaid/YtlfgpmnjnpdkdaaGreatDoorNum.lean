/- Digits to a base, and numbers: plain mathematics, no program. b is the base, at least 2; the lowest digit stands first. -/
namespace Vd
def nth (xs : List Nat) (i : Nat) : Nat := xs[i]?.getD 0
theorem nth_lt {xs : List Nat} {i : Nat} (h : i < xs.length) : nth xs i = xs[i] := by unfold nth;rw [List.getElem?_eq_getElem h];rfl
theorem nth_ge {xs : List Nat} {i : Nat} (h : xs.length ≤ i) : nth xs i = 0 := by unfold nth;rw [List.getElem?_eq_none h];rfl
theorem nth_take {xs : List Nat} {i k : Nat} (h : i < k) : nth (xs.take k) i = nth xs i := by unfold nth;rw [List.getElem?_take_of_lt h]
theorem nth_drop (xs : List Nat) (i k : Nat) : nth (xs.drop k) i = nth xs (k + i) := by unfold nth;rw [List.getElem?_drop]
theorem nth_replicate (n i : Nat) : nth (List.replicate n 0) i = 0 := by
 unfold nth;rw [List.getElem?_replicate];split <;> rfl
def val (b : Nat) : List Nat → Nat
 | [] => 0
 | x :: xs => x + b * val b xs
def Ok (b : Nat) (xs : List Nat) : Prop := ∀ x ∈ xs,x < b
def ws (b n : Nat) : List Nat := if _h : n = 0 ∨ b < 2 then [] else (n % b) :: ws b (n / b)
termination_by n
decreasing_by exact Nat.div_lt_self (by omega) (by omega)
def wlen (b n : Nat) : Nat := (ws b n).length
variable {b : Nat}
theorem ws_zero : ws b 0 = [] := by rw [ws];simp
theorem ws_pos (hb : 2 ≤ b) {n : Nat} (h : n ≠ 0) : ws b n = (n % b) :: ws b (n / b) := by rw [ws];rw [dif_neg (by omega)]
@[simp] theorem val_nil : val b [] = 0 := rfl
theorem val_cons (x : Nat) (xs : List Nat) : val b (x :: xs) = x + b * val b xs := rfl
theorem Ok.nil : Ok b [] := by intro x hx;cases hx
theorem Ok.cons {x : Nat} {xs : List Nat} (h : x < b) (hs : Ok b xs) : Ok b (x :: xs) := by
 intro y hy
 rcases List.mem_cons.1 hy with rfl | hy
 · exact h
 · exact hs y hy
theorem Ok.tail {x : Nat} {xs : List Nat} (h : Ok b (x :: xs)) : Ok b xs := fun y hy => h y (List.mem_cons_of_mem _ hy)
theorem Ok.head {x : Nat} {xs : List Nat} (h : Ok b (x :: xs)) : x < b := h x List.mem_cons_self
theorem Ok.get (hb : 2 ≤ b) {xs : List Nat} (h : Ok b xs) (i : Nat) : nth xs i < b := by
 unfold nth
 cases e : xs[i]? with
 | none => exact (by omega : 0 < b)
 | some y => exact h y (List.mem_of_getElem? e)
theorem Ok.app {xs ys : List Nat} (h : Ok b xs) (k : Ok b ys) : Ok b (xs ++ ys) := by
 intro x hx
 rcases List.mem_append.1 hx with hx | hx
 · exact h x hx
 · exact k x hx
theorem Ok.take {xs : List Nat} (h : Ok b xs) (k : Nat) : Ok b (xs.take k) := fun x hx => h x (List.mem_of_mem_take hx)
theorem Ok.drop {xs : List Nat} (h : Ok b xs) (k : Nat) : Ok b (xs.drop k) := fun x hx => h x (List.mem_of_mem_drop hx)
theorem Ok.set {xs : List Nat} (h : Ok b xs) {i x : Nat} (hx : x < b) : Ok b (xs.set i x) := by
 intro y hy
 rcases List.mem_or_eq_of_mem_set hy with hy | rfl
 · exact h y hy
 · exact hx
theorem Ok.rep (hb : 2 ≤ b) (n : Nat) : Ok b (List.replicate n 0) := by
 intro x hx
 rw [List.mem_replicate] at hx
 rw [hx.2];omega
theorem ok_ws (n : Nat) : Ok b (ws b n) := by
 induction n using Nat.strongRecOn with
 | _ n ih =>
   rw [ws]
   split
   · exact Ok.nil
   · exact Ok.cons (Nat.mod_lt _ (by omega)) (ih _ (Nat.div_lt_self (by omega) (by omega)))
theorem val_ws (hb : 2 ≤ b) (n : Nat) : val b (ws b n) = n := by
 induction n using Nat.strongRecOn with
 | _ n ih =>
   by_cases h : n = 0
   · subst h;rw [ws_zero];rfl
   · rw [ws_pos hb h,val_cons,ih _ (Nat.div_lt_self (Nat.pos_of_ne_zero h) (by omega))]
     exact Nat.mod_add_div n b
theorem val_lt {xs : List Nat} (h : Ok b xs) : val b xs < b ^ xs.length := by
 induction xs with
 | nil => simp
 | cons x xs ih =>
   rw [val_cons,List.length_cons,Nat.pow_succ]
   have h1 := h.head
   have h2 := ih h.tail
   calc x + b * val b xs < b + b * val b xs := by omega
    _ = b * (val b xs + 1) := by rw [Nat.mul_add];omega
    _ ≤ b * b ^ xs.length := Nat.mul_le_mul_left _ h2
    _ = b ^ xs.length * b := Nat.mul_comm _ _
theorem val_append (xs ys : List Nat) : val b (xs ++ ys) = val b xs + b ^ xs.length * val b ys := by
 induction xs with
 | nil => simp
 | cons x xs ih => rw [List.cons_append,val_cons,val_cons,ih,List.length_cons,Nat.pow_succ];grind
theorem val_replicate (n : Nat) : val b (List.replicate n 0) = 0 := by
 induction n with
 | zero => rfl
 | succ n ih => rw [List.replicate_succ,val_cons,ih];simp
theorem val_take_succ (xs : List Nat) (k : Nat) : val b (xs.take (k + 1)) = val b (xs.take k) + nth xs k * b ^ k := by
 unfold nth
 by_cases h : k < xs.length
 · rw [List.take_succ_eq_append_getElem h,val_append,List.length_take,Nat.min_eq_left (by omega),val_cons,val_nil,List.getElem?_eq_getElem h]
   simp [Nat.mul_comm]
 · rw [List.take_of_length_le (by omega),List.take_of_length_le (by omega),List.getElem?_eq_none (by omega)];simp
theorem val_take_drop (xs : List Nat) (k : Nat) (h : k ≤ xs.length) : val b xs = val b (xs.take k) + b ^ k * val b (xs.drop k) := by
 have := val_append (b := b) (xs.take k) (xs.drop k)
 rw [List.take_append_drop,List.length_take,Nat.min_eq_left h] at this
 exact this
theorem getD_set (xs : List Nat) (i j x : Nat) (h : i < xs.length) : nth (xs.set i x) j = if i = j then x else nth xs j := by
 unfold nth
 rw [List.getElem?_set]
 by_cases e : i = j
 · subst e;simp [h]
 · simp [e]
theorem take_set_of_le (xs : List Nat) (i k x : Nat) (h : k ≤ i) : (xs.set i x).take k = xs.take k := by
 rw [List.take_set_of_le (by omega)]
theorem val_take_set (xs : List Nat) (k x : Nat) (h : k < xs.length) : val b ((xs.set k x).take (k + 1)) = val b (xs.take k) + x * b ^ k := by
 rw [val_take_succ,take_set_of_le _ _ _ _ (Nat.le_refl _),getD_set _ _ _ _ h];simp
def Tight (xs : List Nat) : Prop := ∀ x,xs.getLast? = some x → x ≠ 0
theorem tight_ws (n : Nat) : Tight (ws b n) := by
 induction n using Nat.strongRecOn with
 | _ n ih =>
   by_cases h : n = 0 ∨ b < 2
   · rw [ws,dif_pos h];intro x hx;simp at hx
   · rw [ws,dif_neg h]
     intro x hx
     by_cases h2 : n / b = 0
     · rw [h2,ws_zero] at hx
       simp at hx
       subst hx
       have := Nat.mod_add_div n b
       rw [h2] at this
       omega
     · rw [ws_pos (by omega) h2,List.getLast?_cons_cons,← ws_pos (by omega) h2] at hx
       exact ih _ (Nat.div_lt_self (by omega) (by omega)) x hx
theorem val_pos_of_tight (hb : 2 ≤ b) {xs : List Nat} (h : Tight xs) (hne : xs ≠ []) : 0 < val b xs := by
 induction xs with
 | nil => exact absurd rfl hne
 | cons x xs ih =>
   rw [val_cons]
   cases xs with
   | nil =>
     have := h x (by simp)
     simp;omega
   | cons y ys =>
     have := ih (fun z hz => h z (by rw [List.getLast?_cons_cons];exact hz)) (by simp)
     have : 0 < b * val b (y :: ys) := Nat.mul_pos (by omega) this
     omega
theorem ws_val (hb : 2 ≤ b) {xs : List Nat} (h : Ok b xs) (ht : Tight xs) : ws b (val b xs) = xs := by
 induction xs with
 | nil => rw [val_nil,ws_zero]
 | cons x xs ih =>
   have hx := h.head
   have hpos := val_pos_of_tight hb ht (by simp)
   rw [ws_pos hb (by omega),val_cons]
   have e1 : (x + b * val b xs) % b = x := by rw [Nat.add_mul_mod_self_left];exact Nat.mod_eq_of_lt hx
   have e2 : (x + b * val b xs) / b = val b xs := by rw [Nat.add_mul_div_left _ _ (by omega),Nat.div_eq_of_lt hx];omega
   rw [e1,e2,ih h.tail]
   intro z hz
   cases xs with
   | nil => simp at hz
   | cons y ys => exact ht z (by rw [List.getLast?_cons_cons];exact hz)
theorem val_zeros (ys : List Nat) (h : ∀ j : Nat,nth ys j = 0) : val b ys = 0 := by
 induction ys with
 | nil => rfl
 | cons y ys ih =>
   rw [val_cons,ih (fun j => by have := h (j+1);unfold nth at this ⊢;simpa using this)]
   have := h 0
   unfold nth at this
   simp at this
   omega
theorem ws_of_pad (hb : 2 ≤ b) {xs : List Nat} {n k : Nat} (h : Ok b xs) (hv : val b xs = n) (hk : k ≤ xs.length) (hz : ∀ j,k ≤ j → nth xs j = 0) (ht : ∀ x,0 < k → xs[k-1]? = some x → x ≠ 0) : xs.take k = ws b n := by
 have e : val b (xs.take k) = n := by
  have := val_take_drop (b := b) xs k hk
  rw [val_zeros (xs.drop k) (fun j => by rw [nth_drop];exact hz _ (by omega))] at this
  omega
 rw [← e]
 refine (ws_val hb (h.take k) ?_).symm
 intro x hx
 rw [List.getLast?_eq_getElem?,List.length_take,Nat.min_eq_left hk] at hx
 by_cases hk0 : k = 0
 · subst hk0;simp at hx
 · refine ht x (by omega) ?_
   rw [List.getElem?_take_of_lt (by omega)] at hx
   exact hx
theorem wlen_zero : wlen b 0 = 0 := by unfold wlen;rw [ws_zero];rfl
theorem length_ws (n : Nat) : (ws b n).length = wlen b n := rfl
theorem wlen_le_iff (hb : 2 ≤ b) (n k : Nat) : wlen b n ≤ k ↔ n < b ^ k := by
 induction k generalizing n with
 | zero =>
   by_cases h : n = 0
   · subst h;simp [wlen_zero]
   · unfold wlen;rw [ws_pos hb h];simp;omega
 | succ k ih =>
   by_cases h : n = 0
   · subst h;simp [wlen_zero,Nat.pow_pos (show 0 < b by omega)]
   · have := ih (n / b)
     unfold wlen at this ⊢
     rw [ws_pos hb h,List.length_cons,Nat.pow_succ,← Nat.div_lt_iff_lt_mul (by omega),← this]
     omega
theorem lt_pow_wlen (hb : 2 ≤ b) (n : Nat) : n < b ^ wlen b n := (wlen_le_iff hb n _).1 (Nat.le_refl _)
theorem wlen_mono (hb : 2 ≤ b) {m n : Nat} (h : m ≤ n) : wlen b m ≤ wlen b n := (wlen_le_iff hb _ _).2 (Nat.lt_of_le_of_lt h (lt_pow_wlen hb n))
theorem pow_le_of_lt_wlen (hb : 2 ≤ b) {n k : Nat} (h : k < wlen b n) : b ^ k ≤ n := by
 rcases Nat.lt_or_ge n (b ^ k) with h1 | h1
 · have := (wlen_le_iff hb n k).2 h1;omega
 · exact h1
theorem lt_of_wlen_lt (hb : 2 ≤ b) {m n : Nat} (h : wlen b m < wlen b n) : m < n := Nat.lt_of_lt_of_le (lt_pow_wlen hb m) (pow_le_of_lt_wlen hb h)
theorem wlen_add (hb : 2 ≤ b) (m n : Nat) : wlen b (m + n) ≤ max (wlen b m) (wlen b n) + 1 := by
 rw [wlen_le_iff hb,Nat.pow_succ]
 have h1 : b ^ wlen b m ≤ b ^ max (wlen b m) (wlen b n) := Nat.pow_le_pow_right (by omega) (Nat.le_max_left _ _)
 have h2 : b ^ wlen b n ≤ b ^ max (wlen b m) (wlen b n) := Nat.pow_le_pow_right (by omega) (Nat.le_max_right _ _)
 have h3 := lt_pow_wlen hb m
 have h4 := lt_pow_wlen hb n
 have h5 : b ^ max (wlen b m) (wlen b n) * 2 ≤ b ^ max (wlen b m) (wlen b n) * b := Nat.mul_le_mul_left _ hb
 omega
theorem wlen_mul (hb : 2 ≤ b) (m n : Nat) : wlen b (m * n) ≤ wlen b m + wlen b n := by
 rw [wlen_le_iff hb,Nat.pow_add]
 exact Nat.mul_lt_mul'' (lt_pow_wlen hb m) (lt_pow_wlen hb n)
theorem wlen_pow (hb : 2 ≤ b) (m k : Nat) : wlen b (m ^ k) ≤ k * wlen b m + 1 := by
 induction k with
 | zero => rw [Nat.pow_zero,wlen_le_iff hb];simp;omega
 | succ k ih =>
   have := wlen_mul hb (m ^ k) m
   rw [Nat.pow_succ,Nat.add_mul];omega
theorem wlen_eq_zero (hb : 2 ≤ b) {n : Nat} : wlen b n = 0 ↔ n = 0 := by
 constructor
 · intro h;have := (wlen_le_iff hb n 0).1 (by omega);simpa using this
 · rintro rfl;exact wlen_zero
theorem wlen_le_one (hb : 2 ≤ b) {n : Nat} (h : n < b) : wlen b n ≤ 1 := (wlen_le_iff hb n 1).2 (by simpa using h)
theorem ws_one (hb : 2 ≤ b) {n : Nat} (h : n < b) (h0 : n ≠ 0) : ws b n = [n] := by
 rw [ws_pos hb h0,Nat.mod_eq_of_lt h,Nat.div_eq_of_lt h,ws_zero]
theorem val_lt_of_top {xs ys : List Nat} (hl : xs.length = ys.length) (hx : Ok b xs) {k : Nat} (hk : k < xs.length) (he : xs.drop (k+1) = ys.drop (k+1)) (hlt : nth xs k < nth ys k) : val b xs < val b ys := by
 have a := val_take_drop (b := b) xs (k+1) (by omega)
 have c' := val_take_drop (b := b) ys (k+1) (by omega)
 rw [val_take_succ] at a c'
 have c := val_lt (hx.take k)
 rw [List.length_take,Nat.min_eq_left (by omega)] at c
 rw [he] at a
 have d : (nth xs k + 1) * b ^ k ≤ nth ys k * b ^ k := Nat.mul_le_mul_right _ hlt
 rw [Nat.add_mul,Nat.one_mul] at d
 omega
theorem drop_eq_step {xs ys : List Nat} (hl : xs.length = ys.length) {k : Nat} (hk : k < xs.length) (he : xs.drop (k+1) = ys.drop (k+1)) (hd : nth xs k = nth ys k) : xs.drop k = ys.drop k := by
 rw [List.drop_eq_getElem_cons hk,List.drop_eq_getElem_cons (by omega : k < ys.length),he]
 rw [nth_lt hk,nth_lt (by omega)] at hd
 rw [hd]
def wd (b n i : Nat) : Nat := nth (ws b n) i
theorem wd_lt (hb : 2 ≤ b) (n i : Nat) : wd b n i < b := (ok_ws n).get hb i
theorem wd_eq (hb : 2 ≤ b) (n i : Nat) : wd b n i = n / b ^ i % b := by
 induction i generalizing n with
 | zero =>
   unfold wd nth
   by_cases h : n = 0
   · subst h;rw [ws_zero];simp
   · rw [ws_pos hb h];simp
 | succ i ih =>
   have := ih (n / b)
   unfold wd nth at this ⊢
   by_cases h : n = 0
   · subst h;rw [ws_zero];simp
   · rw [ws_pos hb h]
     simp only [List.getElem?_cons_succ]
     rw [this,Nat.div_div_eq_div_mul,Nat.pow_succ,Nat.mul_comm b]
theorem val_take_ws (hb : 2 ≤ b) (n k : Nat) : val b ((ws b n).take k) = n % b ^ k := by
 induction k with
 | zero => simp [Nat.mod_one]
 | succ k ih =>
   rw [val_take_succ,ih]
   have := wd_eq hb n k
   unfold wd at this
   rw [this,Nat.pow_succ,Nat.mod_mul,Nat.mul_comm (b ^ k)]
theorem val_drop_step {xs : List Nat} {k : Nat} (h : k < xs.length) : val b (xs.drop k) = nth xs k + b * val b (xs.drop (k + 1)) := by
 rw [List.drop_eq_getElem_cons h,val_cons,nth_lt h]
theorem drop_set_self {xs : List Nat} {k x : Nat} (h : k < xs.length) : (xs.set k x).drop k = x :: xs.drop (k + 1) := by
 rw [List.drop_eq_getElem_cons (by simpa using h),List.getElem_set_self,List.drop_set_of_lt (by omega)]
-- steps of the loops
theorem carry_step (B P S M O x m o c c' : Nat) (h : S + c*P = M + O) (e : x + B*c' = m + o + c) : (S + x*P) + c'*(P*B) = (M + m*P) + (O + o*P) := by grind
theorem borrow_step (B P S M O x m o b b' : Nat) (h : S + O = M + b*P) (e : x + o + b = m + B*b') : (S + x*P) + (O + o*P) = (M + m*P) + b'*(P*B) := by grind
theorem addmul_step (B P S A O x a v w c c' : Nat) (h : S + c*P = A + w*O) (e : x + B*c' = a + w*v + c) : (S + x*P) + c'*(P*B) = (A + a*P) + w*(O + v*P) := by grind
theorem submul_step (B P S A O x a v t c c' q q' : Nat) (h : S + t*O = A + (q + c)*P) (low : Nat) (e : low + B*c' = v*t + c) (f : x + low + q = a + B*q') : (S + x*P) + t*(O + v*P) = (A + a*P) + (q' + c')*(P*B) := by grind
theorem divw_step (B x X Z q r rest o : Nat) (h : X = Z * o + rest) (e : rest * B + x = q * o + r) : x + B * X = (q + B * Z) * o + r := by grind
end Vd
namespace Vd
theorem qhat_ge {P l o t top : Nat} (hl : l < (t + 1) * P) (ho : top * P ≤ o) (htop : 0 < top) : l / o ≤ t / top := by
 rw [Nat.le_div_iff_mul_le htop]
 have h1 : l / o * o ≤ l := Nat.div_mul_le_self l o
 have h2 : l / o * (top * P) ≤ l / o * o := Nat.mul_le_mul_left _ ho
 have h3 : l / o * top * P < (t + 1) * P := by rw [Nat.mul_assoc];omega
 have := Nat.lt_of_mul_lt_mul_right h3
 omega
-- Euclid's algorithm on leading words (Lehmer,with Collins's condition)
structure Steps (X Y p q fA fB nA nB cnt : Nat) : Prop where
 hp : (p : Int) = (-1)^cnt * (fA * X - fB * Y)
 hq : (q : Int) = (-1)^cnt * (nB * Y - nA * X)
 sX : p * nB + q * fB = X
 sY : p * nA + q * fA = Y
 le : q ≤ p
 init : cnt = 0 → fA = 1 ∧ fB = 0 ∧ nA = 0 ∧ nB = 1
 more : 0 < cnt → fA ≤ fB ∧ nA ≤ nB ∧ q < p
 one : 1 ≤ nB
 good : ∀ H α β : Nat,α < H → β < H → Y * H + β ≤ X * H + α → ∃ a' b' : Nat,
  (a' : Int) = (-1)^cnt * (fA * (X * H + α) - fB * (Y * H + β)) ∧ (b' : Int) = (-1)^cnt * (nB * (Y * H + β) - nA * (X * H + α)) ∧
  b' ≤ a' ∧ Nat.gcd a' b' = Nat.gcd (X * H + α) (Y * H + β) ∧ (0 < cnt → b' < Y * H + β) ∧ (cnt = 0 → b' = Y * H + β) ∧ a' ≤ X * H + α
theorem steps_zero (X Y : Nat) (h : Y ≤ X) : Steps X Y X Y 1 0 0 1 0 where
 hp := by simp
 hq := by simp
 sX := by simp
 sY := by simp
 le := h
 init := by simp
 more := by simp
 one := by simp
 good := fun H α β _ _ hle => ⟨X * H + α,Y * H + β,by simp,by simp,hle,rfl,by simp,by simp,Nat.le_refl _⟩
theorem neg_one_cases (cnt : Nat) : ((-1 : Int)^cnt = 1 ∧ (-1 : Int)^(cnt+1) = -1) ∨ ((-1 : Int)^cnt = -1 ∧ (-1 : Int)^(cnt+1) = 1) := by
 induction cnt with
 | zero => simp
 | succ n ih =>
   rcases ih with ⟨h1,h2⟩ | ⟨h1,h2⟩
   · right;rw [Int.pow_succ _ (n+1),h2];simp
   · left;rw [Int.pow_succ _ (n+1),h2];simp
theorem steps_bound {X Y p q fA fB nA nB cnt : Nat} (h : Steps X Y p q fA fB nA nB cnt) :
 (fB + p / q * nB) * q + nB * (p % q) = X ∧ (fA + p / q * nA) * q + nA * (p % q) = Y := by
 have e := Nat.div_add_mod p q
 have h1 := h.sX
 have h2 := h.sY
 generalize p / q = k at *
 generalize p % q = r at *
 subst e
 constructor
 · rw [← h1];grind
 · rw [← h2];grind
theorem mul_lt_aux {m H x k : Nat} (h : x < H) (hm : k ≤ m) (h0 : 0 < m) : k * x < m * H := by
 have a : k * x ≤ m * x := Nat.mul_le_mul_right _ hm
 have c : m * x < m * H := Nat.mul_lt_mul_of_pos_left h h0
 omega
theorem steps_succ {X Y p q fA fB nA nB cnt nextA nextB : Nat} (h : Steps X Y p q fA fB nA nB cnt) (hq : 0 < q)
 (h1 : nextB ≤ p % q) (h2 : nB + nextB ≤ q - p % q) (eA : nextA = fA + p / q * nA) (eB : nextB = fB + p / q * nB) :
 Steps X Y q (p % q) nA nB nextA nextB (cnt + 1) := by
 have hr : p % q < q := Nat.mod_lt _ hq
 have hk : 0 < p / q := Nat.div_pos h.le hq
 have hAB : nextA ≤ nextB := by
  by_cases hc : cnt = 0
  · obtain ⟨a,b,c,d⟩ := h.init hc
    subst a b c d
    omega
  · obtain ⟨a,b,_⟩ := h.more (by omega)
    have := Nat.mul_le_mul_left (p / q) b
    omega
 have hnAB : nA ≤ nB := by
  by_cases hc : cnt = 0
  · obtain ⟨_,_,c,d⟩ := h.init hc
    omega
  · exact (h.more (by omega)).2.1
 have hB1 : 1 ≤ nextB := by
  have := Nat.mul_le_mul hk h.one
  omega
 have b := steps_bound h
 rw [← eA,← eB] at b
 have e := Nat.div_add_mod p q
 have eI : (p : Int) = q * (p / q : Nat) + (p % q : Nat) := by
  have := congrArg (fun x : Nat => (x : Int)) e
  simp only [Int.natCast_add,Int.natCast_mul] at this
  omega
 have eAI : (nextA : Int) = fA + (p / q : Nat) * nA := by rw [eA];simp
 have eBI : (nextB : Int) = fB + (p / q : Nat) * nB := by rw [eB];simp
 have hpI := h.hp
 have hqI := h.hq
 have hgood := h.good
 generalize hs0 : (-1 : Int)^cnt = s at *
 have hs1 : (-1 : Int)^(cnt+1) = -s := by rw [Int.pow_succ,hs0];omega
 have hss : s = 1 ∨ s = -1 := by
  rcases neg_one_cases cnt with ⟨a,_⟩ | ⟨a,_⟩ <;> rw [hs0] at a <;> simp [a]
 clear hs0
 generalize p / q = k at *
 generalize hrr : p % q = r at *
 have hrI : (r : Int) = -s * (nextB * Y - nextA * X) := by rw [eAI,eBI];grind
 refine ⟨?_,?_,?_,?_,by omega,by omega,fun _ => ⟨hnAB,hAB,hr⟩,hB1,?_⟩
 · rw [hs1];grind
 · rw [hs1];exact hrI
 · grind
 · grind
 · intro H α β hα hβ hle
   obtain ⟨a',b',ha',hb',hle',hg,hlt,h0,haa⟩ := hgood H α β hα hβ hle
   have ea : (a' : Int) = p * H + s * (fA * α - fB * β) := by rw [ha',hpI];grind
   have eb : (b' : Int) = q * H + s * (nB * β - nA * α) := by rw [hb',hqI];grind
   have ec : (a' : Int) - k * b' = r * H - s * (nextB * β - nextA * α) := by rw [ea,eb,eAI,eBI,eI];grind
   have m1 := mul_lt_aux (m := r) (k := nextB) hβ h1 (by omega)
   have m2 := mul_lt_aux (m := r) (k := nextA) hα (by omega) (by omega)
   have m3 := mul_lt_aux (m := q - r) (k := nA + nextA) hα (by omega) (by omega)
   have m4 := mul_lt_aux (m := q - r) (k := nB + nextB) hβ h2 (by omega)
   have z1 : (0 : Int) ≤ (nextA * α : Nat) := Int.natCast_nonneg _
   have z2 : (0 : Int) ≤ (nextB * β : Nat) := Int.natCast_nonneg _
   have z3 : (0 : Int) ≤ ((nA + nextA) * α : Nat) := Int.natCast_nonneg _
   have z4 : (0 : Int) ≤ ((nB + nextB) * β : Nat) := Int.natCast_nonneg _
   have n1 : ((nextB * β : Nat) : Int) < ((r * H : Nat) : Int) := by exact_mod_cast m1
   have n2 : ((nextA * α : Nat) : Int) < ((r * H : Nat) : Int) := by exact_mod_cast m2
   have n3 : (((nA + nextA) * α : Nat) : Int) < (((q - r) * H : Nat) : Int) := by exact_mod_cast m3
   have n4 : (((nB + nextB) * β : Nat) : Int) < (((q - r) * H : Nat) : Int) := by exact_mod_cast m4
   have eqr : ((q - r : Nat) : Int) = q - r := by omega
   simp only [Int.natCast_mul,Int.natCast_add,eqr] at n1 n2 n3 n4 z1 z2 z3 z4
   have c0 : (0 : Int) ≤ (a' : Int) - k * b' := by
    rw [ec]
    rcases hss with rfl | rfl
    · have : (1 : Int) * (nextB * β - nextA * α) = nextB * β - nextA * α := by grind
      rw [this];omega
    · have : -(1 : Int) * (nextB * β - nextA * α) = nextA * α - nextB * β := by grind
      rw [this];omega
   have c1 : (a' : Int) - k * b' < b' := by
    have e5 : (b' : Int) - (a' - k * b') = (q - r) * H + s * ((nB + nextB) * β - (nA + nextA) * α) := by rw [ec,eb];grind
    suffices 0 < (b' : Int) - (a' - k * b') by omega
    rw [e5]
    rcases hss with rfl | rfl
    · have : (1 : Int) * ((nB + nextB) * β - (nA + nextA) * α) = (nB + nextB) * β - (nA + nextA) * α := by grind
      rw [this];omega
    · have : -(1 : Int) * ((nB + nextB) * β - (nA + nextA) * α) = (nA + nextA) * α - (nB + nextB) * β := by grind
      rw [this];omega
   obtain ⟨d,hd⟩ := Int.eq_ofNat_of_zero_le c0
   have hd' : a' = k * b' + d := by
    have : (a' : Int) = ((k * b' + d : Nat) : Int) := by simp only [Int.natCast_add,Int.natCast_mul];omega
    exact_mod_cast this
   have hdb : d < b' := by omega
   refine ⟨b',d,?_,?_,by omega,?_,fun _ => ?_,by omega,by omega⟩
   · rw [hs1,hb'];grind
   · rw [hs1,← hd,ha',hb',eAI,eBI];grind
   · rw [← hg,hd',Nat.add_comm,Nat.gcd_comm b' d,Nat.gcd_comm _ b']
     simp [Nat.gcd_comm]
   · by_cases hc : cnt = 0
     · have := h0 hc;omega
     · have := hlt (by omega);omega
-- a digit of a quotient by a divisor of two digits (b: the base;N = u * b + u1;y = y1 * b + y0;the guess q leaves r of the first two digits)
theorem dig_le {b q r y1 y0 u u1 : Nat} (h : q * y1 + r = u) : q * (y1 * b + y0) ≤ u * b + u1 ↔ q * y0 ≤ r * b + u1 := by
 subst h
 have : q * (y1 * b + y0) = q * y1 * b + q * y0 := by grind
 rw [this,Nat.add_mul]
 omega
theorem dig_stop {q y n : Nat} (hy : 0 < y) (h : n / y ≤ q) (hle : q * y ≤ n) : q = n / y := by
 have := (Nat.le_div_iff_mul_le hy).2 hle
 omega
theorem dig_go {q y n : Nat} (hy : 0 < y) (h : n < q * y) : n / y < q := (Nat.div_lt_iff_lt_mul hy).2 h
theorem dig_lt {b y u u1 : Nat} (hy : 0 < y) (hu : u < y) (h1 : u1 < b) : (u * b + u1) / y < b := by
 rw [Nat.div_lt_iff_lt_mul hy]
 have := Nat.mul_le_mul_right b (show u + 1 ≤ y from hu)
 rw [Nat.add_mul,Nat.one_mul] at this
 rw [Nat.mul_comm b y]
 omega
theorem dl_break {b q r a1 a0 u v1 y1 : Nat} (hy : y1 = a1 * b + a0) (h : q * a1 + r = u) (hr : b ≤ r) (hq : q ≤ b) (ha : a0 < b) : q * y1 ≤ u * b + v1 := by
 rw [hy,dig_le h]
 have h1 : q * a0 ≤ b * a0 := Nat.mul_le_mul_right _ hq
 have h2 : b * a0 ≤ b * b := Nat.mul_le_mul_left _ (by omega)
 have h3 : b * b ≤ r * b := Nat.mul_le_mul_right _ hr
 omega
theorem dl_bound {b q a1 a0 u r : Nat} (h : q * a1 + r = u) (hu : u < a1 * b + a0) (ha0 : a0 < b) (ha1 : b ≤ 2 * a1) : q ≤ b + 1 := by
 rcases Nat.lt_or_ge (b + 1) q with hc | hc
 · have := Nat.mul_le_mul_right a1 (show b + 2 ≤ q from hc)
   rw [Nat.add_mul] at this
   have e : b * a1 = a1 * b := Nat.mul_comm _ _
   omega
 · exact hc
theorem two_digits {b y u u1 u0 : Nat} (hy : 0 < y) :
 (u * b + u1) / y * b + ((u * b + u1) % y * b + u0) / y = (u * (b * b) + (u1 * b + u0)) / y ∧ ((u * b + u1) % y * b + u0) % y = (u * (b * b) + (u1 * b + u0)) % y := by
 have e1 := Nat.div_add_mod (u * b + u1) y
 generalize (u * b + u1) / y = q at *
 generalize (u * b + u1) % y = r at *
 have e2 : u * (b * b) + (u1 * b + u0) = (r * b + u0) + y * (q * b) := by
  have : (y * q + r) * b = (u * b + u1) * b := by rw [e1]
  grind
 rw [e2]
 constructor
 · rw [Nat.add_mul_div_left _ _ hy,Nat.add_comm]
 · rw [Nat.add_mul_mod_self_left]
end Vd
