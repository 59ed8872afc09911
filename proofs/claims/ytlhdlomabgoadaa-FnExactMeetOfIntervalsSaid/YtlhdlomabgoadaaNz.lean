/- Numbers in limbs of 24 bits: plain mathematics. -/
namespace Go.Proofs.Ytlhdlomabgoadaa

/-- the base of limbs -/
def Bs : Nat := 16777216
theorem Bs_eq : Bs = 16777216 := rfl

/-- the value of limbs, the least one first -/
def V : List Nat → Nat
  | [] => 0
  | x :: xs => x + Bs * V xs

def Lim (xs : List Nat) : Prop := ∀ x ∈ xs, x < Bs

/-- the limbs of a number, none for 0 -/
def limbs (v : Nat) : List Nat := if _h : v = 0 then [] else v % Bs :: limbs (v / Bs)
termination_by v
decreasing_by rw [Bs_eq]; omega

theorem limbs_zero : limbs 0 = [] := by rw [limbs]; simp
theorem limbs_pos {v : Nat} (h : v ≠ 0) : limbs v = v % Bs :: limbs (v / Bs) := by rw [limbs]; simp [h]

theorem V_nil : V [] = 0 := rfl
theorem V_cons (x : Nat) (xs : List Nat) : V (x :: xs) = x + Bs * V xs := rfl

theorem V_limbs (v : Nat) : V (limbs v) = v := by
  induction v using Nat.strongRecOn with
  | ind v ih =>
    by_cases h : v = 0
    · subst h; rw [limbs_zero]; rfl
    · rw [limbs_pos h, V_cons, ih _ (by rw [Bs_eq]; omega)]
      exact Nat.mod_add_div v Bs

theorem Lim_limbs (v : Nat) : Lim (limbs v) := by
  induction v using Nat.strongRecOn with
  | ind v ih =>
    by_cases h : v = 0
    · subst h; rw [limbs_zero]; intro x hx; cases hx
    · rw [limbs_pos h]
      intro x hx
      rcases List.mem_cons.1 hx with rfl | hx
      · exact Nat.mod_lt _ (by rw [Bs_eq]; omega)
      · exact ih _ (by rw [Bs_eq]; omega) x hx

theorem limbs_eq_nil {v : Nat} : limbs v = [] ↔ v = 0 := by
  constructor
  · intro h; rcases Nat.eq_zero_or_pos v with h0 | h0
    · exact h0
    · rw [limbs_pos (by omega)] at h; cases h
  · rintro rfl; exact limbs_zero

theorem limbs_len_zero {v : Nat} : (limbs v).length = 0 ↔ v = 0 := by rw [List.length_eq_zero_iff, limbs_eq_nil]

/-- the last limb is not 0 -/
theorem limbs_last (v : Nat) : ∀ h : limbs v ≠ [], (limbs v).getLast h ≠ 0 := by
  induction v using Nat.strongRecOn with
  | ind v ih =>
    intro h
    have hv : v ≠ 0 := fun e => h (limbs_eq_nil.2 e)
    have key : ∀ (l : List Nat) (hl : l ≠ []), l = v % Bs :: limbs (v / Bs) → l.getLast hl ≠ 0 := by
      intro l hl e
      subst e
      by_cases h2 : v / Bs = 0
      · have h3 : limbs (v / Bs) = [] := limbs_eq_nil.2 h2
        simp only [h3, List.getLast_singleton]
        rw [Bs_eq] at *
        omega
      · have h3 : limbs (v / Bs) ≠ [] := fun e => h2 (limbs_eq_nil.1 e)
        rw [List.getLast_cons h3]
        exact ih _ (by rw [Bs_eq]; omega) h3
    exact key _ h (limbs_pos hv)

theorem V_append (xs ys : List Nat) : V (xs ++ ys) = V xs + Bs ^ xs.length * V ys := by
  induction xs with
  | nil => simp [V]
  | cons x xs ih => rw [List.cons_append, V_cons, V_cons, ih, List.length_cons, Nat.pow_succ, Nat.mul_add, Nat.mul_comm (Bs ^ xs.length) Bs, Nat.mul_assoc]; omega

theorem V_lt {xs : List Nat} (h : Lim xs) : V xs < Bs ^ xs.length := by
  induction xs with
  | nil => simp [V]
  | cons x xs ih =>
    have h1 := h x (by simp)
    have h2 := ih fun y hy => h y (by simp [hy])
    rw [V_cons, List.length_cons, Nat.pow_succ, Nat.mul_comm _ Bs]
    have h3 : Bs * (V xs + 1) ≤ Bs * Bs ^ xs.length := Nat.mul_le_mul_left _ h2
    rw [Nat.mul_add] at h3
    omega

theorem V_take_succ {xs : List Nat} {k : Nat} (hk : k < xs.length) : V (xs.take (k + 1)) = V (xs.take k) + Bs ^ k * xs[k] := by
  rw [List.take_succ_eq_append_getElem hk, V_append, List.length_take, Nat.min_eq_left (by omega)]
  simp [V]

theorem V_take_drop (xs : List Nat) (k : Nat) (hk : k ≤ xs.length) : V xs = V (xs.take k) + Bs ^ k * V (xs.drop k) := by
  conv => lhs; rw [← List.take_append_drop k xs]
  rw [V_append, List.length_take, Nat.min_eq_left hk]

theorem V_drop {xs : List Nat} {k : Nat} (hk : k < xs.length) : V (xs.drop k) = xs[k] + Bs * V (xs.drop (k + 1)) := by
  rw [List.drop_eq_getElem_cons hk, V_cons]

theorem V_zeros {xs : List Nat} (h : ∀ x ∈ xs, x = 0) : V xs = 0 := by
  induction xs with
  | nil => rfl
  | cons x xs ih =>
    rw [V_cons, h x (by simp), ih fun y hy => h y (by simp [hy])]; simp

theorem V_replicate (n : Nat) : V (List.replicate n 0) = 0 := V_zeros fun _ hx => (List.mem_replicate.1 hx).2

theorem Lim.take {xs : List Nat} (h : Lim xs) (k : Nat) : Lim (xs.take k) := fun x hx => h x (List.mem_of_mem_take hx)
theorem Lim.drop {xs : List Nat} (h : Lim xs) (k : Nat) : Lim (xs.drop k) := fun x hx => h x (List.mem_of_mem_drop hx)
theorem Lim.append {xs ys : List Nat} (h : Lim xs) (h' : Lim ys) : Lim (xs ++ ys) := fun x hx => (List.mem_append.1 hx).elim (h x) (h' x)
theorem Lim.getElem {xs : List Nat} (h : Lim xs) {k : Nat} (hk : k < xs.length) : xs[k] < Bs := h _ (List.getElem_mem hk)
theorem Lim_one {x : Nat} (h : x < Bs) : Lim [x] := fun y hy => by simp at hy; omega
theorem Lim_nil : Lim [] := fun y hy => by cases hy

theorem Bs_pow_pos (n : Nat) : 0 < Bs ^ n := Nat.pow_pos (by rw [Bs_eq]; omega)

/-- limbs without zeros at the end are those of their value -/
theorem can_eq {xs : List Nat} (h : Lim xs) (hl : ∀ h : xs ≠ [], xs.getLast h ≠ 0) : limbs (V xs) = xs := by
  induction xs with
  | nil => simp [V, limbs_zero]
  | cons x xs ih =>
    have h1 := h x (by simp)
    have hx := ih (fun y hy => h y (by simp [hy])) (fun h2 => by have := hl (by simp); rwa [List.getLast_cons h2] at this)
    have hne : V (x :: xs) ≠ 0 := by
      intro e
      rw [V_cons] at e
      have hx0 : x = 0 := by omega
      have hv0 : V xs = 0 := by
        rcases Nat.mul_eq_zero.1 (show Bs * V xs = 0 by omega) with h3 | h3
        · rw [Bs_eq] at h3; omega
        · exact h3
      rw [hv0, limbs_zero] at hx
      subst hx hx0
      exact hl (by simp) (by simp)
    rw [limbs_pos hne, V_cons, Nat.add_mul_mod_self_left, Nat.mod_eq_of_lt h1, Nat.add_mul_div_left _ _ (by rw [Bs_eq]; omega), Nat.div_eq_of_lt h1, Nat.zero_add, hx]

/-- what is left where zeros at the end are taken off -/
theorem trim_eq {xs : List Nat} {k : Nat} (h : Lim xs) (hk : k ≤ xs.length) (hz : ∀ i (h : i < xs.length), k ≤ i → xs[i] = 0) (hl : k = 0 ∨ ∃ h : k - 1 < xs.length, xs[k - 1] ≠ 0) : limbs (V xs) = xs.take k := by
  have h0 : V (xs.drop k) = 0 := V_zeros fun x hx => by
    obtain ⟨i, hi, rfl⟩ := List.getElem_of_mem hx
    rw [List.getElem_drop]
    exact hz _ _ (by omega)
  have h1 : V xs = V (xs.take k) := by rw [V_take_drop xs k hk, h0]; simp
  rw [h1]
  refine can_eq (h.take k) fun hne => ?_
  rcases hl with rfl | ⟨h2, h3⟩
  · simp at hne
  · rw [List.getLast_eq_getElem]
    have hlen : (xs.take k).length = k := by rw [List.length_take]; omega
    rw [List.getElem_take]
    have e : (xs.take k).length - 1 = k - 1 := by omega
    simpa only [e] using h3

theorem limbs_len_le {v n : Nat} : (limbs v).length ≤ n ↔ v < Bs ^ n := by
  constructor
  · intro h
    have h1 := V_lt (Lim_limbs v)
    rw [V_limbs] at h1
    exact Nat.lt_of_lt_of_le h1 (Nat.pow_le_pow_right (by rw [Bs_eq]; omega) h)
  · intro h
    rcases Nat.lt_or_ge n (limbs v).length with hlt | hge
    · exfalso
      have hne : limbs v ≠ [] := fun e => by rw [e] at hlt; simp at hlt
      have hl := limbs_last v hne
      have h2 : v = V ((limbs v).take ((limbs v).length - 1)) + Bs ^ ((limbs v).length - 1) * (limbs v).getLast hne := by
        have h3 := V_take_succ (xs := limbs v) (k := (limbs v).length - 1) (by omega)
        rw [List.getLast_eq_getElem, ← h3, Nat.sub_add_cancel (by omega), List.take_length, V_limbs]
      have h4 : Bs ^ n ≤ Bs ^ ((limbs v).length - 1) := Nat.pow_le_pow_right (by rw [Bs_eq]; omega) (by omega)
      have h5 : Bs ^ ((limbs v).length - 1) * 1 ≤ Bs ^ ((limbs v).length - 1) * (limbs v).getLast hne := Nat.mul_le_mul_left _ (by omega)
      omega
    · exact hge

/-- more limbs, greater number -/
theorem lt_of_len {a b : Nat} (h : (limbs a).length < (limbs b).length) : a < b := by
  rcases Nat.lt_or_ge a b with h1 | h1
  · exact h1
  · have h2 := limbs_len_le.1 (Nat.le_refl (limbs a).length)
    have := limbs_len_le.2 (Nat.lt_of_le_of_lt h1 h2)
    omega

theorem limbs_inj {a b : Nat} (h : limbs a = limbs b) : a = b := by rw [← V_limbs a, h, V_limbs]

/-- the first limb that differs, from the end -/
theorem cmp_at {xs ys : List Nat} {k : Nat} (hx : Lim xs) (hl : xs.length = ys.length) (hk : k < xs.length) (hk' : k < ys.length) (hs : xs.drop (k + 1) = ys.drop (k + 1)) (hlt : xs[k] < ys[k]) : V xs < V ys := by
  rw [V_take_drop xs (k + 1) (by omega), V_take_drop ys (k + 1) (by omega), hs, V_take_succ hk, V_take_succ hk']
  have h1 := V_lt (hx.take k)
  rw [List.length_take, Nat.min_eq_left (by omega)] at h1
  have h2 : Bs ^ k * (xs[k] + 1) ≤ Bs ^ k * ys[k] := Nat.mul_le_mul_left _ hlt
  rw [Nat.mul_add] at h2
  omega

/-- one step of a carry -/
theorem carry_step {P T c x : Nat} (k : Nat) (h : P + Bs ^ k * c = T) : (P + Bs ^ k * ((c + x) % Bs)) + Bs ^ (k + 1) * ((c + x) / Bs) = T + Bs ^ k * x := by
  have h1 : Bs ^ k * ((c + x) % Bs) + Bs ^ (k + 1) * ((c + x) / Bs) = Bs ^ k * (c + x) := by
    rw [Nat.pow_succ, Nat.mul_assoc, ← Nat.mul_add, Nat.mod_add_div]
  rw [Nat.mul_add] at h1
  omega
/-- the limbs of a value are the first limbs of any that have it -/
theorem limbs_prefix {xs : List Nat} (h : Lim xs) : limbs (V xs) = xs.take (limbs (V xs)).length := by
  have key : ∀ n (xs : List Nat), xs.length = n → Lim xs → ∃ k, limbs (V xs) = xs.take k := by
    intro n
    induction n with
    | zero => intro xs hx _; exact ⟨0, by rw [List.eq_nil_of_length_eq_zero hx]; simp [V, limbs_zero]⟩
    | succ n ih =>
      intro xs hx hl
      have hne : xs ≠ [] := fun e => by rw [e] at hx; simp at hx
      by_cases h0 : xs.getLast hne = 0
      · have e : xs = xs.take n ++ [0] := by
          conv => lhs; rw [← List.dropLast_concat_getLast hne, h0]
          rw [List.dropLast_eq_take, hx]; simp
        obtain ⟨k, hk⟩ := ih (xs.take n) (by rw [List.length_take]; omega) (hl.take n)
        have hv : V xs = V (xs.take n) := by conv => lhs; rw [e, V_append]
                                             simp [V]
        exact ⟨min k n, by rw [hv, hk, List.take_take]⟩
      · exact ⟨xs.length, by rw [List.take_length]; exact can_eq hl (fun _ => h0)⟩
  obtain ⟨k, hk⟩ := key _ xs rfl h
  conv => lhs; rw [hk]
  rw [hk, List.length_take]
  rcases Nat.le_total k xs.length with h1 | h1
  · rw [Nat.min_eq_left h1]
  · rw [Nat.min_eq_right h1, List.take_of_length_le h1, List.take_length]

theorem V_set_take {ys : List Nat} {k x : Nat} (hk : k < ys.length) : V ((ys.set k x).take (k + 1)) = V (ys.take k) + Bs ^ k * x := by
  rw [V_take_succ (by rw [List.length_set]; exact hk), List.getElem_set_self, List.take_set_of_le (Nat.le_refl k)]

theorem Lim.set {ys : List Nat} (h : Lim ys) {k x : Nat} (hx : x < Bs) : Lim (ys.set k x) := fun y hy => by
  rcases List.mem_or_eq_of_mem_set hy with h1 | h1
  · exact h y h1
  · rw [h1]; exact hx

theorem Lim_zeros (n : Nat) : Lim (List.replicate n 0) := fun x hx => by rw [(List.mem_replicate.1 hx).2, Bs_eq]; omega

/-- one step of a carry, which may be negative -/
theorem carry_stepI {P T c x : Int} (k : Nat) (h : P + (Bs : Int) ^ k * c = T) : (P + (Bs : Int) ^ k * ((c + x) % Bs)) + (Bs : Int) ^ (k + 1) * ((c + x) / Bs) = T + (Bs : Int) ^ k * x := by
  have h1 : (Bs : Int) ^ k * ((c + x) % Bs) + (Bs : Int) ^ (k + 1) * ((c + x) / Bs) = (Bs : Int) ^ k * (c + x) := by
    rw [Int.pow_succ, Int.mul_assoc, ← Int.mul_add, Int.emod_add_mul_ediv]
  rw [Int.mul_add] at h1
  omega
end Go.Proofs.Ytlhdlomabgoadaa
