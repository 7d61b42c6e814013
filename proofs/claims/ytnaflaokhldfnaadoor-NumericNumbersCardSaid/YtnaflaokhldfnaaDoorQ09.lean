/- Texts of the walks, merged. -/
import Derived.Test.YtnaflaokhldfnaaDoorQ01
import Derived.Test.YtnaflaokhldfnaaDoorQ03
import Derived.Test.YtnaflaokhldfnaaDoorQ02
namespace Go.Proofs.YtnaflaokhldfnaaDoor
set_option linter.unusedSimpArgs false
set_option linter.unusedVariables false


/-- The number that digits make, the lowest one first. -/
def vl : List Int → Int
  | [] => 0
  | d :: l => d + 10 * vl l
def Dg (l : List Int) : Prop := ∀ d, d ∈ l → 0 ≤ d ∧ d ≤ 9
/-- Digits without zeros at their end. -/
def Cn (l : List Int) : Prop := Dg l ∧ (l ≠ [] → 10 ^ (l.length - 1) ≤ vl l)

theorem ten_pos (n : Nat) : (0 : Int) < 10 ^ n := Int.pow_pos (by omega)
theorem le_mul_pos {a b : Int} (ha : 0 < a) (hb : 0 < b) : a ≤ a * b := by
  have : a * 1 ≤ a * b := Int.mul_le_mul_of_nonneg_left (by omega) (by omega)
  omega
theorem ten_mono {m n : Nat} (h : m ≤ n) : (10 : Int) ^ m ≤ 10 ^ n := by
  obtain ⟨k, rfl⟩ := Nat.exists_eq_add_of_le h
  rw [Int.pow_add]
  exact le_mul_pos (ten_pos m) (ten_pos k)

theorem vl_append (a b : List Int) : vl (a ++ b) = vl a + 10 ^ a.length * vl b := by
  induction a with
  | nil => simp [vl]
  | cons x a ih => simp only [List.cons_append, vl, ih, List.length_cons, Int.pow_succ]; grind
theorem vl_snoc (a : List Int) (x : Int) : vl (a ++ [x]) = vl a + 10 ^ a.length * x := by rw [vl_append]; simp [vl]
theorem Dg.nil : Dg [] := by intro d hd; simp at hd
theorem Dg.append {a b : List Int} (h : Dg a) (k : Dg b) : Dg (a ++ b) := by
  intro d hd; rcases List.mem_append.1 hd with e | e
  · exact h d e
  · exact k d e
theorem Dg.snoc {a : List Int} (h : Dg a) {x : Int} (h0 : 0 ≤ x) (h9 : x ≤ 9) : Dg (a ++ [x]) := h.append (by intro d hd; simp at hd; omega)
theorem Dg.cons {a : List Int} (h : Dg a) {x : Int} (h0 : 0 ≤ x) (h9 : x ≤ 9) : Dg (x :: a) := by
  intro d hd; rcases List.mem_cons.1 hd with e | e
  · omega
  · exact h d e
theorem Dg.take {a : List Int} (h : Dg a) (n : Nat) : Dg (a.take n) := fun d hd => h d (List.mem_of_mem_take hd)
theorem Dg.drop {a : List Int} (h : Dg a) (n : Nat) : Dg (a.drop n) := fun d hd => h d (List.mem_of_mem_drop hd)
theorem Dg.getD {a : List Int} (h : Dg a) (i : Nat) : 0 ≤ a.getD i 0 ∧ a.getD i 0 ≤ 9 := by
  by_cases hi : i < a.length
  · have e : a.getD i 0 = a[i] := by simp [hi]
    rw [e]; exact h _ (List.getElem_mem hi)
  · have e : a.getD i 0 = 0 := by rw [List.getD_eq_getElem?_getD, List.getElem?_eq_none (by omega)]; rfl
    omega
theorem Dg.bd {a : List Int} (h : Dg a) : 0 ≤ vl a ∧ vl a < 10 ^ a.length := by
  induction a with
  | nil => simp [vl]
  | cons x a ih =>
    have h1 := h x (by simp)
    have h2 := ih (fun d hd => h d (by simp [hd]))
    simp only [vl, List.length_cons, Int.pow_succ]; omega
theorem Dg.zeros (n : Nat) : Dg (List.replicate n 0) := by
  intro d hd; have := List.eq_of_mem_replicate hd; omega
theorem vl_zeros (n : Nat) : vl (List.replicate n 0) = 0 := by
  induction n with
  | zero => rfl
  | succ n ih => rw [List.replicate_succ, vl, ih]; rfl

/-- What the first digits make. -/
def vt (l : List Int) : Nat → Int
  | 0 => 0
  | i + 1 => vt l i + 10 ^ i * l.getD i 0
theorem vt_take (l : List Int) : ∀ i, vt l i = vl (l.take i)
  | 0 => by simp [vt, vl]
  | i + 1 => by
    rw [vt, vt_take l i]
    by_cases hi : i < l.length
    · rw [List.take_succ_eq_append_getElem hi, vl_snoc]
      simp [hi, Nat.min_eq_left (Nat.le_of_lt hi)]
    · rw [List.take_of_length_le (by omega), List.take_of_length_le (by omega)]
      have e : l.getD i 0 = 0 := by rw [List.getD_eq_getElem?_getD, List.getElem?_eq_none (by omega)]; rfl
      rw [e]; omega
theorem vt_all {l : List Int} {i : Nat} (h : l.length ≤ i) : vt l i = vl l := by rw [vt_take, List.take_of_length_le h]
theorem vl_split (l : List Int) {i : Nat} (h : i ≤ l.length) : vl l = vl (l.take i) + 10 ^ i * vl (l.drop i) := by
  have e := vl_append (l.take i) (l.drop i)
  rw [List.take_append_drop] at e
  rw [e, List.length_take, Nat.min_eq_left h]
theorem vl_drop (l : List Int) {i : Nat} (h : i < l.length) : vl (l.drop i) = l.getD i 0 + 10 * vl (l.drop (i + 1)) := by
  rw [List.drop_eq_getElem_cons h, vl]; simp [h]

theorem Cn.dg {l : List Int} (h : Cn l) : Dg l := h.1
theorem Cn.nil : Cn [] := ⟨Dg.nil, fun h => absurd rfl h⟩
theorem Cn.bd {l : List Int} (h : Cn l) : 0 ≤ vl l ∧ vl l < 10 ^ l.length := h.1.bd
theorem Cn.ge {l : List Int} (h : Cn l) {n : Nat} (hn : n < l.length) : 10 ^ n ≤ vl l := by
  have h1 := h.2 (by intro e; subst e; simp at hn)
  exact Int.le_trans (ten_mono (by omega)) h1
theorem Cn.len_le {l : List Int} (h : Cn l) (n : Nat) : l.length ≤ n ↔ vl l < 10 ^ n := by
  constructor
  · intro hn; exact Int.lt_of_lt_of_le h.bd.2 (ten_mono hn)
  · intro hv; rcases Nat.lt_or_ge n l.length with k | k
    · have := h.ge k; omega
    · exact k
theorem Cn.pos {l : List Int} (h : Cn l) (hl : 0 < l.length) : 0 < vl l := by
  have := h.ge hl; simp at this; omega
theorem Cn.zero {l : List Int} (h : Cn l) : vl l = 0 ↔ l.length = 0 := by
  constructor
  · intro hv; rcases Nat.eq_zero_or_pos l.length with k | k
    · exact k
    · have := h.pos k; omega
  · intro hl; rw [List.eq_nil_of_length_eq_zero hl]; rfl
theorem Cn.of_last {l : List Int} (h : Dg l) (hl : 0 < l.length → l.getD (l.length - 1) 0 ≠ 0) : Cn l := by
  refine ⟨h, fun hne => ?_⟩
  have hpos : 0 < l.length := by cases l with | nil => exact absurd rfl hne | cons _ _ => simp
  have hg := h.getD (l.length - 1)
  have hz := hl hpos
  have e := vl_split l (i := l.length - 1) (by omega)
  have e2 := vl_drop l (i := l.length - 1) (by omega)
  rw [List.drop_of_length_le (i := l.length - 1 + 1) (by omega)] at e2
  have b := (h.take (l.length - 1)).bd.1
  have hp := ten_pos (l.length - 1)
  rw [e, e2]
  simp only [vl]
  generalize (10 : Int) ^ (l.length - 1) = P at *
  generalize l.getD (l.length - 1) 0 = x at *
  have : P * 1 ≤ P * x := Int.mul_le_mul_of_nonneg_left (by omega) (by omega)
  simp only [Int.mul_zero, Int.add_zero]
  omega
theorem Cn.last {l : List Int} (h : Cn l) (hl : 0 < l.length) : l.getD (l.length - 1) 0 ≠ 0 := by
  intro hz
  have e := vl_split l (i := l.length - 1) (by omega)
  have e2 := vl_drop l (i := l.length - 1) (by omega)
  rw [List.drop_of_length_le (i := l.length - 1 + 1) (by omega), hz] at e2
  simp only [vl] at e2
  rw [e2] at e
  have b := (h.1.take (l.length - 1)).bd.2
  rw [List.length_take, Nat.min_eq_left (by omega)] at b
  have g := h.ge (n := l.length - 1) (by omega)
  simp at e
  omega
/-- The value of a list from a place on, where zeros stand at its end. -/
theorem trim_step {l : List Int} {n : Nat} (hz : l.getD n 0 = 0) : vl (l.take (n + 1)) = vl (l.take n) := by
  rw [← vt_take, ← vt_take, vt, hz]; omega
theorem lt_len {a b : List Int} (ha : Cn a) (hb : Cn b) (h : a.length < b.length) : vl a < vl b := by
  have := ha.bd.2; have := hb.ge h; omega
theorem drop_lt {a b : List Int} (ha : Dg a) (hb : Dg b) {n : Nat} (hn : a.length = b.length) {i : Nat} (hi : i < n) (hn2 : n = a.length) (he : vl (a.drop (i + 1)) = vl (b.drop (i + 1))) (h : a.getD i 0 < b.getD i 0) : vl a < vl b := by
  have e1 := vl_split a (i := i) (by omega)
  have e2 := vl_split b (i := i) (by omega)
  have d1 := vl_drop a (i := i) (by omega)
  have d2 := vl_drop b (i := i) (by omega)
  have b1 := (ha.take i).bd
  have b2 := (hb.take i).bd
  rw [List.length_take, Nat.min_eq_left (by omega)] at b1 b2
  rw [e1, e2, d1, d2, he]
  have hp := ten_pos i
  generalize vl (b.drop (i + 1)) = R at *
  generalize (10 : Int) ^ i = P at *
  generalize a.getD i 0 = x at *
  generalize b.getD i 0 = y at *
  have : P * (x + 10 * R + 1) ≤ P * (y + 10 * R) := Int.mul_le_mul_of_nonneg_left (by omega) (by omega)
  rw [Int.mul_add P (x + 10 * R) 1] at this
  omega
/-- One step of a sum: digit and carry. -/
theorem plus_step {P o c a b x y : Int} (h : o + P * c = a + b) : (o + P * ((c + x + y) % 10)) + (P * 10) * ((c + x + y) / 10) = (a + P * x) + (b + P * y) := by
  have e : P * (c + x + y) = P * ((c + x + y) % 10) + P * 10 * ((c + x + y) / 10) := by
    rw [Int.mul_assoc, ← Int.mul_add]; congr 1; omega
  rw [Int.mul_add, Int.mul_add] at e; omega
theorem minus_step {P o c a b x y c' : Int} (h : o - P * c = a - b) : (o + P * (x - c - y + 10 * c')) - (P * 10) * c' = (a + P * x) - (b + P * y) := by
  have e : P * (x - c - y + 10 * c') = P * x - P * c - P * y + P * 10 * c' := by
    rw [Int.mul_add, Int.mul_sub, Int.mul_sub, Int.mul_assoc]
  omega


/-- q times the divisor against the dividend, by the rest of the high digit. -/
theorem kn_le {u v y1 y0 q r b : Nat} (hu : u = q * y1 + r) (h : q * y0 ≤ b * r + v) : q * (y1 * b + y0) ≤ u * b + v := by
  subst hu
  have e1 : q * (y1 * b + y0) = q * y1 * b + q * y0 := by rw [Nat.mul_add, Nat.mul_assoc]
  have e2 : (q * y1 + r) * b + v = q * y1 * b + (b * r + v) := by rw [Nat.add_mul, Nat.mul_comm r b]; omega
  omega
theorem kn_gt {u v y1 y0 q r b : Nat} (hu : u = q * y1 + r) (h : b * r + v < q * y0) : u * b + v < q * (y1 * b + y0) := by
  subst hu
  have e1 : q * (y1 * b + y0) = q * y1 * b + q * y0 := by rw [Nat.mul_add, Nat.mul_assoc]
  have e2 : (q * y1 + r) * b + v = q * y1 * b + (b * r + v) := by rw [Nat.add_mul, Nat.mul_comm r b]; omega
  omega
/-- The digit is found: not too high, not too low. -/
theorem kn_eq {u v Y q b : Nat} (h1 : q * Y ≤ u * b + v) (h2 : (u * b + v) / Y ≤ q) (hY : 0 < Y) : q = (u * b + v) / Y := by
  have := (Nat.le_div_iff_mul_le hY).2 h1
  omega
theorem kn_lt {n q Y : Nat} (hY : 0 < Y) (h : n < q * Y) : n / Y ≤ q - 1 := by
  have := (Nat.div_lt_iff_lt_mul hY).2 h
  omega
/-- The two digits make the quotient. -/
theorem kn_two {u v z Y b : Nat} (hY : 0 < Y) : ((u * b + v) * b + z) / Y = (u * b + v) / Y * b + ((u * b + v) % Y * b + z) / Y ∧ ((u * b + v) * b + z) % Y = ((u * b + v) % Y * b + z) % Y := by
  generalize u * b + v = N
  have e : N * b + z = (N % Y * b + z) + Y * (N / Y * b) := by
    have := Nat.div_add_mod N Y
    have e2 : N * b = (Y * (N / Y) + N % Y) * b := by rw [this]
    rw [e2, Nat.add_mul, Nat.mul_assoc]; omega
  rw [e, Nat.add_mul_div_left _ _ hY, Nat.add_mul_mod_self_left]
  exact ⟨by omega, rfl⟩

/-- The division by one word, from the highest word on. -/
theorem word_div {a0 a1 a2 w b : Nat} (hw : 0 < w) : (a2 * b + a1) * b + a0 = ((a2 / w * b + (a2 % w * b + a1) / w) * b + ((a2 % w * b + a1) % w * b + a0) / w) * w + ((a2 % w * b + a1) % w * b + a0) % w := by
  have h2 := Nat.div_add_mod a2 w
  have h1 := Nat.div_add_mod (a2 % w * b + a1) w
  have h0 := Nat.div_add_mod ((a2 % w * b + a1) % w * b + a0) w
  generalize ((a2 % w * b + a1) % w * b + a0) / w = q0 at *
  generalize ((a2 % w * b + a1) % w * b + a0) % w = r0 at *
  generalize (a2 % w * b + a1) / w = q1 at *
  generalize (a2 % w * b + a1) % w = r1 at *
  generalize a2 / w = q2 at *
  generalize a2 % w = r2 at *
  subst h2
  grind
theorem word_div_q {a0 a1 a2 w b : Nat} (hw : 0 < w) : ((a2 * b + a1) * b + a0) / w = (a2 / w * b + (a2 % w * b + a1) / w) * b + ((a2 % w * b + a1) % w * b + a0) / w ∧ ((a2 * b + a1) * b + a0) % w = ((a2 % w * b + a1) % w * b + a0) % w := by
  have e := word_div (a0 := a0) (a1 := a1) (a2 := a2) (b := b) hw
  have h := Nat.mod_lt ((a2 % w * b + a1) % w * b + a0) hw
  have hm : ((a2 * b + a1) * b + a0) % w = ((a2 % w * b + a1) % w * b + a0) % w := by
    rw [e, Nat.mul_comm _ w, Nat.mul_add_mod, Nat.mod_eq_of_lt h]
  refine ⟨?_, hm⟩
  generalize ((a2 % w * b + a1) % w * b + a0) % w = r at *
  rw [e, Nat.mul_comm _ w, Nat.mul_add_div hw, Nat.div_eq_of_lt h]; omega

/-- One bit more of a division. -/
theorem bit_div {T N t : Nat} (hN : 0 < N) (ht : t < 2) : (2 * T + t) / N = 2 * (T / N) + (if N ≤ 2 * (T % N) + t then 1 else 0) ∧ (2 * T + t) % N = (if N ≤ 2 * (T % N) + t then 2 * (T % N) + t - N else 2 * (T % N) + t) := by
  have h1 := Nat.div_add_mod T N
  have h2 := Nat.mod_lt T hN
  generalize T / N = q at *
  generalize T % N = r at *
  subst h1
  have e : 2 * (N * q + r) + t = N * (2 * q) + (2 * r + t) := by grind
  rw [e, Nat.mul_add_div hN, Nat.mul_add_mod]
  split
  · next h =>
    have e2 : 2 * r + t = N * 1 + (2 * r + t - N) := by omega
    have hlt : 2 * r + t - N < N := by omega
    constructor
    · rw [e2, Nat.mul_add_div hN, Nat.div_eq_of_lt hlt]
    · rw [e2, Nat.mul_add_mod, Nat.mod_eq_of_lt hlt]; omega
  · next h =>
    have hlt : 2 * r + t < N := by omega
    exact ⟨by rw [Nat.div_eq_of_lt hlt], Nat.mod_eq_of_lt hlt⟩

/-- The rounded quotient. -/
def rq (n d : Nat) (half : Bool) : Nat := n / d + (if half ∧ d ≤ 2 * (n % d) then 1 else 0)
theorem rq_scale {n d c : Nat} (half : Bool) (hc : 0 < c) : rq (n * c) (d * c) half = rq n d half := by
  unfold rq
  rw [Nat.mul_div_mul_right _ _ hc, Nat.mul_mod_mul_right]
  have : d * c ≤ 2 * (n % d * c) ↔ d ≤ 2 * (n % d) := by
    rw [← Nat.mul_assoc]; exact Nat.mul_le_mul_right_iff hc
  simp only [this]

/-- The words of a whole number, the lowest one first. -/
def wd (N : Nat) : Nat → Nat
  | 0 => N % 18446744073709551616
  | 1 => N / 18446744073709551616 % 18446744073709551616
  | _ => N / 18446744073709551616 / 18446744073709551616
/-- Less than three words hold. -/
def Sm (N : Nat) : Prop := N / 18446744073709551616 / 18446744073709551616 < 18446744073709551616
theorem wd_lt {N : Nat} (h : Sm N) (i : Nat) : wd N i < 18446744073709551616 := by
  unfold Sm at h
  match i with
  | 0 => simp only [wd]; omega
  | 1 => simp only [wd]; omega
  | _ + 2 => simpa only [wd] using h
theorem wd_sum (N : Nat) : N = (wd N 2 * 18446744073709551616 + wd N 1) * 18446744073709551616 + wd N 0 := by
  simp only [wd]; omega
theorem wd_of {N a0 a1 a2 : Nat} (h : N = (a2 * 18446744073709551616 + a1) * 18446744073709551616 + a0) (h0 : a0 < 18446744073709551616) (h1 : a1 < 18446744073709551616) : wd N 0 = a0 ∧ wd N 1 = a1 ∧ wd N 2 = a2 := by
  subst h; simp only [wd]; omega
theorem sm_of {N a0 a1 a2 : Nat} (h : N = (a2 * 18446744073709551616 + a1) * 18446744073709551616 + a0) (h0 : a0 < 18446744073709551616) (h1 : a1 < 18446744073709551616) (h2 : a2 < 18446744073709551616) : Sm N := by
  subst h; unfold Sm; omega
theorem sm_le {M N : Nat} (h : Sm N) (hle : M ≤ N) : Sm M := by unfold Sm at *; omega
theorem sm_lt {N : Nat} : Sm N ↔ N < 6277101735386680763835789423207666416102355444464034512896 := by unfold Sm; omega

/-- The sum's words. -/
theorem plus_words {M N : Nat} (h : Sm (M + N)) :
    wd (M + N) 0 = (wd M 0 + wd N 0 + 0) % 18446744073709551616 ∧
    wd (M + N) 1 = (wd M 1 + wd N 1 + (wd M 0 + wd N 0 + 0) / 18446744073709551616) % 18446744073709551616 ∧
    wd (M + N) 2 = (wd M 2 + wd N 2 + (wd M 1 + wd N 1 + (wd M 0 + wd N 0 + 0) / 18446744073709551616) / 18446744073709551616) % 18446744073709551616 := by
  have hm := wd_sum M
  have hn := wd_sum N
  have m0 := wd_lt (sm_le h (Nat.le_add_right M N)) 0
  have m1 := wd_lt (sm_le h (Nat.le_add_right M N)) 1
  have n0 := wd_lt (sm_le h (Nat.le_add_left N M)) 0
  have n1 := wd_lt (sm_le h (Nat.le_add_left N M)) 1
  have h2 := h
  unfold Sm at h2
  generalize wd M 0 = a0 at *
  generalize wd M 1 = a1 at *
  generalize wd M 2 = a2 at *
  generalize wd N 0 = b0 at *
  generalize wd N 1 = b1 at *
  generalize wd N 2 = b2 at *
  have e := wd_of (N := M + N) (a0 := (a0 + b0) % 18446744073709551616) (a1 := (a1 + b1 + (a0 + b0) / 18446744073709551616) % 18446744073709551616) (a2 := a2 + b2 + (a1 + b1 + (a0 + b0) / 18446744073709551616) / 18446744073709551616) (by omega) (by omega) (by omega)
  refine ⟨by rw [e.1]; rfl, by rw [e.2.1]; rfl, ?_⟩
  have : wd (M + N) 2 < 18446744073709551616 := wd_lt h 2
  rw [e.2.2] at this ⊢
  exact (Nat.mod_eq_of_lt (by simpa using this)).symm
/-- The difference's words. -/
def bw (x y : Nat) : Nat := if x < y then 1 else 0
theorem minus_words {M N : Nat} (hm : Sm M) (h : N ≤ M) :
    wd (M - N) 0 = (wd M 0 + 18446744073709551616 - wd N 0 - 0) % 18446744073709551616 ∧
    wd (M - N) 1 = (wd M 1 + 18446744073709551616 - wd N 1 - bw (wd M 0) (wd N 0 + 0)) % 18446744073709551616 ∧
    wd (M - N) 2 = (wd M 2 + 18446744073709551616 - wd N 2 - bw (wd M 1) (wd N 1 + bw (wd M 0) (wd N 0 + 0))) % 18446744073709551616 := by
  have em := wd_sum M
  have en := wd_sum N
  have hn := sm_le hm h
  have m0 := wd_lt hm 0
  have m1 := wd_lt hm 1
  have m2 := wd_lt hm 2
  have n0 := wd_lt hn 0
  have n1 := wd_lt hn 1
  have n2 := wd_lt hn 2
  generalize wd M 0 = a0 at *
  generalize wd M 1 = a1 at *
  generalize wd M 2 = a2 at *
  generalize wd N 0 = b0 at *
  generalize wd N 1 = b1 at *
  generalize wd N 2 = b2 at *
  obtain ⟨c0, hc0⟩ : ∃ c, bw a0 (b0 + 0) = c := ⟨_, rfl⟩
  rw [hc0]
  obtain ⟨c1, hc1⟩ : ∃ c, bw a1 (b1 + c0) = c := ⟨_, rfl⟩
  rw [hc1]
  unfold bw at hc0 hc1
  have k0 : a0 + 18446744073709551616 * c0 - b0 = (a0 + 18446744073709551616 - b0 - 0) % 18446744073709551616 ∧ b0 ≤ a0 + 18446744073709551616 * c0 ∧ c0 ≤ 1 := by split at hc0 <;> omega
  have k1 : a1 + 18446744073709551616 * c1 - b1 - c0 = (a1 + 18446744073709551616 - b1 - c0) % 18446744073709551616 ∧ b1 + c0 ≤ a1 + 18446744073709551616 * c1 ∧ c1 ≤ 1 := by split at hc1 <;> omega
  have k2 : b2 + c1 ≤ a2 := by omega
  have e := wd_of (N := M - N) (a0 := (a0 + 18446744073709551616 - b0 - 0) % 18446744073709551616) (a1 := (a1 + 18446744073709551616 - b1 - c0) % 18446744073709551616) (a2 := a2 - b2 - c1) (by omega) (by omega) (by omega)
  exact ⟨e.1, e.2.1, by rw [e.2.2]; omega⟩
theorem times_sum {B p0 p1 p2 q0 q1 q2 s0 s1 s2 : Nat} (d0 : p0 = B * q0 + s0) (d1 : p1 = B * q1 + s1) (d2 : s1 + q0 = B * q2 + s2) : (p2 * B + p1) * B + p0 = ((p2 + (q1 + q2)) * B + s2) * B + s0 := by
  subst d0 d1
  have e : (p2 * B + (B * q1 + s1)) * B + (B * q0 + s0) = (p2 * B + B * q1) * B + B * (s1 + q0) + s0 := by grind
  rw [e, d2]; grind
/-- The product's words, by a word. -/
theorem times_words {M x : Nat} (h : Sm (M * x)) (p0 p1 p2 : Nat) (h0 : p0 = wd M 0 * x) (h1 : p1 = wd M 1 * x) (h2 : p2 = wd M 2 * x) :
    wd (M * x) 0 = p0 % 18446744073709551616 ∧
    wd (M * x) 1 = (p1 % 18446744073709551616 + p0 / 18446744073709551616) % 18446744073709551616 ∧
    wd (M * x) 2 = (p2 % 18446744073709551616 + (p1 / 18446744073709551616 + (p1 % 18446744073709551616 + p0 / 18446744073709551616) / 18446744073709551616)) % 18446744073709551616 := by
  have em := wd_sum M
  have hs : M * x = (p2 * 18446744073709551616 + p1) * 18446744073709551616 + p0 := by
    subst h0 h1 h2
    generalize wd M 0 = a0 at *
    generalize wd M 1 = a1 at *
    generalize wd M 2 = a2 at *
    subst em
    grind
  generalize M * x = N at *
  have d0 := Nat.div_add_mod p0 18446744073709551616
  have d1 := Nat.div_add_mod p1 18446744073709551616
  have r0 := Nat.mod_lt p0 (show 18446744073709551616 > 0 by omega)
  generalize p0 / 18446744073709551616 = q0 at *
  generalize p0 % 18446744073709551616 = s0 at *
  generalize p1 / 18446744073709551616 = q1 at *
  generalize p1 % 18446744073709551616 = s1 at *
  have d2 := Nat.div_add_mod (s1 + q0) 18446744073709551616
  have r1 := Nat.mod_lt (s1 + q0) (show 18446744073709551616 > 0 by omega)
  generalize (s1 + q0) / 18446744073709551616 = q2 at *
  generalize (s1 + q0) % 18446744073709551616 = s2 at *
  have e := wd_of (N := N) (a0 := s0) (a1 := s2) (a2 := p2 + (q1 + q2)) (by rw [hs]; exact times_sum d0.symm d1.symm d2.symm) r0 r1
  refine ⟨e.1, e.2.1, ?_⟩
  have k := wd_lt h 2
  rw [e.2.2] at k ⊢
  omega
theorem lex_lt {B a0 a1 a2 b0 b1 b2 : Nat} (h0 : a0 < B) (h1 : a1 < B) : (a2 < b2 → (a2 * B + a1) * B + a0 < (b2 * B + b1) * B + b0) ∧ (a2 = b2 → a1 < b1 → (a2 * B + a1) * B + a0 < (b2 * B + b1) * B + b0) := by
  constructor
  · intro h
    have e1 : a2 * B + a1 + 1 ≤ b2 * B + b1 := by
      have : (a2 + 1) * B ≤ b2 * B := Nat.mul_le_mul_right _ h
      rw [Nat.add_mul] at this; omega
    have e2 : (a2 * B + a1 + 1) * B ≤ (b2 * B + b1) * B := Nat.mul_le_mul_right _ e1
    rw [Nat.add_mul (a2 * B + a1) 1 B] at e2; omega
  · intro h k
    subst h
    have e2 : (a2 * B + a1 + 1) * B ≤ (a2 * B + b1) * B := Nat.mul_le_mul_right _ (by omega)
    rw [Nat.add_mul (a2 * B + a1) 1 B] at e2; omega
theorem cmp_words {M N : Nat} (hm : Sm M) (_hn : Sm N) : (wd M 2 < wd N 2 → M < N) ∧ (wd M 2 = wd N 2 → wd M 1 < wd N 1 → M < N) ∧ (wd M 2 = wd N 2 → wd M 1 = wd N 1 → wd M 0 < wd N 0 → M < N) ∧ (wd M 2 = wd N 2 → wd M 1 = wd N 1 → wd M 0 = wd N 0 → M = N) := by
  have em := wd_sum M
  have en := wd_sum N
  have k := lex_lt (B := 18446744073709551616) (a2 := wd M 2) (b2 := wd N 2) (b1 := wd N 1) (b0 := wd N 0) (wd_lt hm 0) (wd_lt hm 1)
  rw [← em, ← en] at k
  refine ⟨k.1, k.2, fun h2 h1 h0 => ?_, fun h2 h1 h0 => ?_⟩
  · rw [em, en, h2, h1]; omega
  · rw [em, en, h2, h1, h0]
set_option maxRecDepth 100000 in
/-- The shape of the longer one: two to the power of so many bits is above it. -/
theorem bits_words {M L : Nat} (hm : Sm M) : (wd M 2 ≠ 0 → wd M 2 < 2 ^ L → M < 2 ^ (128 + L)) ∧ (wd M 2 = 0 → wd M 1 < 2 ^ L → M < 2 ^ (64 + L)) ∧ (wd M 2 = 0 → wd M 1 = 0 → M = wd M 0) := by
  have em := wd_sum M
  have m0 := wd_lt hm 0
  have m1 := wd_lt hm 1
  generalize wd M 0 = a0 at *
  generalize wd M 1 = a1 at *
  generalize wd M 2 = a2 at *
  refine ⟨fun _ h => ?_, fun h0 h => ?_, fun h1 h2 => by subst h1 h2; omega⟩
  · rw [Nat.pow_add]
    generalize 2 ^ L = P at *
    omega
  · rw [Nat.pow_add]
    generalize 2 ^ L = P at *
    omega
end Go.Proofs.YtnaflaokhldfnaaDoor
namespace Go.Proofs.YtnaflaokhldfnaaDoor
set_option linter.unusedSimpArgs false
set_option linter.unusedVariables false

/-- The two halves of a divisor, and its bounds. -/
structure Dv (u v y1 y0 Y : Int) : Prop where
  y : Y = y1 * 4294967296 + y0
  y1l : 2147483648 ≤ y1
  y1h : y1 < 4294967296
  y0l : 0 ≤ y0
  y0h : y0 < 4294967296
  ul : 0 ≤ u
  uh : u < Y
  vl : 0 ≤ v
  vh : v < 4294967296
theorem Dv.pos {u v y1 y0 Y : Int} (h : Dv u v y1 y0 Y) : 0 < Y := by have := h.y; have := h.y1l; have := h.y0l; omega
theorem Dv.start {u v y1 y0 Y : Int} (h : Dv u v y1 y0 Y) : u = u / y1 * y1 + u % y1 ∧ 0 ≤ u % y1 ∧ u % y1 < 4294967296 ∧ 0 ≤ u / y1 ∧ u / y1 ≤ 4294967297 ∧ (u * 4294967296 + v) / Y ≤ u / y1 := by
  obtain ⟨hy, a1, a2, b1, b2, c1, c2, d1, d2⟩ := h
  have hy1 : 0 < y1 := by omega
  have e := Int.mul_ediv_add_emod u y1
  have r0 := Int.emod_nonneg u (show y1 ≠ 0 by omega)
  have r1 := Int.emod_lt_of_pos u hy1
  have q0 := Int.ediv_nonneg c1 (Int.le_of_lt hy1)
  have hq : u / y1 ≤ 4294967297 := by
    have : u / y1 < 4294967298 := (Int.ediv_lt_iff_lt_mul hy1).2 (by omega)
    omega
  refine ⟨by rw [Int.mul_comm]; omega, r0, by omega, q0, hq, ?_⟩
  have hY : 0 < Y := by omega
  have : (u * 4294967296 + v) / Y < u / y1 + 1 := by
    rw [Int.ediv_lt_iff_lt_mul hY]
    generalize u / y1 = q at *
    generalize u % y1 = r at *
    have e2 : (q + 1) * Y = (q + 1) * y1 * 4294967296 + (q + 1) * y0 := by rw [hy, Int.mul_add, Int.mul_assoc]
    have e3 : (q + 1) * y1 = y1 * q + y1 := by rw [Int.add_mul, Int.mul_comm]; omega
    have e4 : 0 ≤ (q + 1) * y0 := Int.mul_nonneg (by omega) b1
    rw [e2, e3]; omega
  omega
theorem Dv.high {u v y1 y0 Y q : Int} (h : Dv u v y1 y0 Y) (hq : 4294967296 ≤ q) : (u * 4294967296 + v) / Y ≤ q - 1 := by
  have hY := h.pos
  obtain ⟨hy, a1, a2, b1, b2, c1, c2, d1, d2⟩ := h
  have : (u * 4294967296 + v) / Y < 4294967296 := by
    rw [Int.ediv_lt_iff_lt_mul hY]; omega
  omega
theorem Dv.over {u v y1 y0 Y q r : Int} (h : Dv u v y1 y0 Y) (hu : u = q * y1 + r) (hq : 4294967296 * r + v < q * y0) : (u * 4294967296 + v) / Y ≤ q - 1 := by
  have hY := h.pos
  have hy := h.y
  have : (u * 4294967296 + v) / Y < q := by
    rw [Int.ediv_lt_iff_lt_mul hY]
    have e1 : q * Y = q * y1 * 4294967296 + q * y0 := by rw [hy, Int.mul_add, Int.mul_assoc]
    omega
  omega
theorem Dv.exit {u v y1 y0 Y q r : Int} (h : Dv u v y1 y0 Y) (hu : u = q * y1 + r) (hq : q * y0 ≤ 4294967296 * r + v) (hQ : (u * 4294967296 + v) / Y ≤ q) : q = (u * 4294967296 + v) / Y := by
  have hY := h.pos
  have hy := h.y
  have : q ≤ (u * 4294967296 + v) / Y := by
    rw [Int.le_ediv_iff_mul_le hY]
    have e1 : q * Y = q * y1 * 4294967296 + q * y0 := by rw [hy, Int.mul_add, Int.mul_assoc]
    omega
  omega
theorem Dv.brk {u v y1 y0 Y q r : Int} (h : Dv u v y1 y0 Y) (hu : u = q * y1 + r) (hr : 4294967296 ≤ r) (h0 : 0 ≤ q) (hq : q ≤ 4294967296) (hQ : (u * 4294967296 + v) / Y ≤ q) : q = (u * 4294967296 + v) / Y := by
  refine h.exit hu ?_ hQ
  have e1 : q * y0 ≤ 4294967296 * y0 := Int.mul_le_mul_of_nonneg_right hq h.y0l
  have := h.y0h; have := h.vl; omega
theorem Dv.one {u v y1 y0 Y q r : Int} (h : Dv u v y1 y0 Y) (hu : u = q * y1 + r) (h1 : 0 ≤ r) (h0 : 0 ≤ q) (hc : 4294967296 ≤ q ∨ 4294967296 * r + v < q * y0) : 1 ≤ q := by
  rcases hc with hc | hc
  · omega
  · rcases Int.lt_or_le 0 q with k | k
    · omega
    · have : q = 0 := by omega
      subst this
      have := h.vl; simp at hc; omega
theorem Dv.less {u y1 q r : Int} (hu : u = q * y1 + r) : u = (q - 1) * y1 + (r + y1) := by rw [hu, Int.sub_mul]; omega
theorem Dv.prod {u v y1 y0 Y q : Int} (h : Dv u v y1 y0 Y) (h0 : 0 ≤ q) (hq : q < 4294967296) : 0 ≤ q * y0 ∧ q * y0 ≤ 18446744073709551615 := by
  have e1 : q * y0 ≤ 4294967295 * y0 := Int.mul_le_mul_of_nonneg_right (by omega) h.y0l
  have := h.y0h
  exact ⟨Int.mul_nonneg h0 h.y0l, by omega⟩
/-- What is left of the number, in words that wrap. -/
theorem Dv.rest {u v y1 y0 Y q : Int} (h : Dv u v y1 y0 Y) (hY : Y ≤ 18446744073709551615) (hq : q = (u * 4294967296 + v) / Y) :
    ((u * 4294967296 % 18446744073709551616 + v) % 18446744073709551616 - q * Y % 18446744073709551616) % 18446744073709551616 = (u * 4294967296 + v) % Y ∧ 0 ≤ (u * 4294967296 + v) % Y ∧ (u * 4294967296 + v) % Y < Y ∧ 0 ≤ q ∧ q < 4294967296 := by
  have hp := h.pos
  have e := Int.mul_ediv_add_emod (u * 4294967296 + v) Y
  have r0 := Int.emod_nonneg (u * 4294967296 + v) (show Y ≠ 0 by omega)
  have r1 := Int.emod_lt_of_pos (u * 4294967296 + v) hp
  have hh := h.high (q := 4294967296) (by omega)
  have h0 := h.ul
  have h1 := h.vl
  have hn : 0 ≤ (u * 4294967296 + v) / Y := Int.ediv_nonneg (by omega) (by omega)
  rw [Int.mul_comm, ← hq] at e
  rw [← hq] at hh hn
  generalize (u * 4294967296 + v) % Y = r at *
  generalize q * Y = p at *
  refine ⟨by omega, r0, r1, hn, by omega⟩
theorem Dv.next {u v y1 y0 Y v0 : Int} (h : Dv u v y1 y0 Y) (h0 : 0 ≤ v0) (h1 : v0 < 4294967296) : Dv ((u * 4294967296 + v) % Y) v0 y1 y0 Y :=
  ⟨h.y, h.y1l, h.y1h, h.y0l, h.y0h, Int.emod_nonneg _ (by have := h.pos; omega), Int.emod_lt_of_pos _ h.pos, h0, h1⟩
theorem Dv.two {u v y1 y0 Y z : Int} (h : Dv u v y1 y0 Y) : ((u * 4294967296 + v) * 4294967296 + z) / Y = (u * 4294967296 + v) / Y * 4294967296 + ((u * 4294967296 + v) % Y * 4294967296 + z) / Y ∧ ((u * 4294967296 + v) * 4294967296 + z) % Y = ((u * 4294967296 + v) % Y * 4294967296 + z) % Y := by
  have hY := h.pos
  generalize u * 4294967296 + v = N
  have e : N * 4294967296 + z = (N % Y * 4294967296 + z) + Y * (N / Y * 4294967296) := by
    have := Int.mul_ediv_add_emod N Y
    have e2 : N * 4294967296 = (Y * (N / Y) + N % Y) * 4294967296 := by rw [this]
    rw [e2, Int.add_mul, Int.mul_assoc]; omega
  rw [e, Int.add_mul_ediv_left _ _ (by omega), Int.add_mul_emod_self_left]
  exact ⟨by omega, rfl⟩
/-- The shift: the divisor, the dividend. -/
theorem shift_parts {hi lo y P R : Int} (hPR : P * R = 18446744073709551616) (hP : 0 < P) (hR : 0 < R) (hlo : 0 ≤ lo) :
    (hi * 18446744073709551616 + lo) * P = (hi * P + lo / R) * 18446744073709551616 + lo * P % 18446744073709551616 ∧ 0 ≤ lo / R ∧ (lo ≤ 18446744073709551615 → lo / R < P) := by
  have e := Int.mul_ediv_add_emod lo R
  have r0 := Int.emod_nonneg lo (show R ≠ 0 by omega)
  have r1 := Int.emod_lt_of_pos lo hR
  have hm : lo * P % 18446744073709551616 = lo % R * P := by
    rw [← hPR, Int.mul_comm lo P, Int.mul_emod_mul_of_pos _ _ hP, Int.mul_comm]

  refine ⟨?_, Int.ediv_nonneg hlo (by omega), fun h => ?_⟩
  · rw [hm]
    generalize lo / R = q at *
    generalize lo % R = r at *
    rw [← e, ← hPR]
    grind
  · rw [Int.ediv_lt_iff_lt_mul hR, hPR]; omega
end Go.Proofs.YtnaflaokhldfnaaDoor
namespace Go.Proofs.YtnaflaokhldfnaaDoor
set_option linter.unusedSimpArgs false
set_option linter.unusedVariables false
open Go.RowKit

/-- The cells of a list of numbers in a slice's block. -/
def At (w : World) (b : Nat) (xs : List Int) : Prop := ∀ i, i < xs.length → w.cell? ⟨b, i, none⟩ = some (.int .i64 (xs.getD i 0))
/-- How many numbers are left without the zeros at the end. -/
def tN (xs : List Int) : Nat → Nat
  | 0 => 0
  | k + 1 => if xs.getD k 0 = 0 then tN xs k else k + 1
theorem tN_le (xs : List Int) : ∀ k, tN xs k ≤ k
  | 0 => Nat.le_refl _
  | k + 1 => by unfold tN; have := tN_le xs k; split <;> omega
theorem tN_zero {xs : List Int} {k : Nat} (h : xs.getD k 0 = 0) : tN xs (k + 1) = tN xs k := if_pos h
theorem tN_some {xs : List Int} {k : Nat} (h : xs.getD k 0 ≠ 0) : tN xs (k + 1) = k + 1 := if_neg h
def lenOf : Value → Nat
  | .slice _ k _ => k
  | _ => 0

theorem trim_nil (cap : Nat) (w : World) :
    Calls Tryd.prog 97 #[.slice none 0 cap] w fun e w' => e = .returned (.slice none 0 cap) ∧ w = w' := by
  go_enter Tryd.func97, Tryd.ntmps97
  go_wp2
  go_loop [0] (fun i => i = .slice none 0 cap) (fun _ => 0)
  case atStart => rfl
  case round =>
    subst hrel
    go_wp2
    go_ret
    exact ⟨rfl, rfl⟩

set_option maxRecDepth 100000 in
theorem trim_any (b n cap : Nat) (xs : List Int) (hn : xs.length = n) (hc : n ≤ cap) (hm : cap ≤ maxLen) (w : World) (hcell : At w b xs) :
    Calls Tryd.prog 97 #[.slice (some ⟨b, 0, none⟩) n cap] w fun e w' => e = .returned (.slice (some ⟨b, 0, none⟩) (tN xs n) cap) ∧ w = w' := by
  unfold maxLen at hm
  have H := Lib.hid hn
  have HC := Lib.hid hcell
  clear hn hcell
  go_enter Tryd.func97, Tryd.ntmps97
  go_wp2
  go_loop [0] (fun i => ∃ k : Nat, k ≤ n ∧ i = .slice (some ⟨b, 0, none⟩) k cap ∧ Hid (tN xs k = tN xs n)) (fun i => lenOf i)
  case atStart => exact ⟨n, Nat.le_refl _, rfl, rfl⟩
  case round =>
    obtain ⟨k, hk, rfl, hr⟩ := hrel
    match k, hk, hr with
    | 0, hk, hr =>
      have hk0 : decide (0 < (0 : Nat)) = false := rfl
      go_wp2
      go_ret
      exact ⟨by rw [← hr.out]; rfl, rfl⟩
    | k + 1, hk, hr =>
      have hc1 := HC.out k (by rw [H.out]; omega)
      by_cases hz : xs.getD k 0 = 0
      · have hz' := Lib.hid hz
        rw [hz] at hc1
        clear hz
        go_wp2
        go_round
        case rel => exact ⟨k, by omega, by go_num, (tN_zero hz'.out).symm.trans hr.out⟩
        case measure => simp [lenOf]
      · obtain ⟨x, hx⟩ : ∃ x, xs.getD k 0 = x := ⟨_, rfl⟩
        rw [hx] at hc1 hz
        have hx' := Lib.hid hx
        clear hx
        go_wp2
        go_ret
        exact ⟨by rw [← hr.out, tN_some (by rw [hx'.out]; exact hz)]; rfl, rfl⟩

def sg (b : Bool) (n : Nat) : Int := if b then -(n : Int) else n
def ordI (a b : Int) : Int := if a = b then 0 else if b < a then 1 else -1
theorem ordI_lt {a b : Int} (h : a < b) : ordI a b = -1 := by unfold ordI; rw [if_neg (by omega), if_neg (by omega)]
theorem ordI_gt {a b : Int} (h : b < a) : ordI a b = 1 := by unfold ordI; rw [if_neg (by omega), if_pos h]
theorem ordI_eq (a : Int) : ordI a a = 0 := if_pos rfl

theorem Count_same (b : Bool) (w : World) : Calls Tryd.prog 27 #[.bool b] w fun e w' => e = .returned (.int .i64 (countI b)) ∧ w' = w :=
  (Count_any b w).mono fun _ _ h => ⟨h.1, h.2.1.symm⟩
set_option maxRecDepth 100000 in
/-- Lists of different lengths. -/
theorem order_len (p q : Option Addr) (m n c d : Nat) (xs ys : List Int) (hx : xs.length = m) (hy : ys.length = n) (cx : Cn xs) (cy : Cn ys) (hm : m ≤ 100000) (hn : n ≤ 100000) (hmn : m ≠ n) (w : World) :
    Calls Tryd.prog 80 #[.slice p m c, .slice q n d] w fun e w' => e = .returned (.int .i64 (ordI (vl xs) (vl ys))) ∧ w = w' := by
  have hr : ordI (vl xs) (vl ys) = 2 * countI (decide (n < m)) - 1 := by
    by_cases h : m < n
    · rw [ordI_lt (lt_len cx cy (by omega)), decide_eq_false (by omega)]; rfl
    · rw [ordI_gt (lt_len cy cx (by omega)), decide_eq_true (by omega)]; rfl
  have HR := Lib.hid hr
  clear hr
  go_enter Tryd.func80, Tryd.ntmps80
  go_wp2_with (go_at_call 27; refine (Count_any _ _).mono ?_; rintro e w1 ⟨rfl, rfl, hc0, hc1⟩)
  go_ret
  exact ⟨ret_int (by rw [HR.out]), rfl⟩

set_option maxRecDepth 100000 in
/-- Lists of one length. -/
theorem order_eq (p q n c d : Nat) (xs ys : List Int) (hx : xs.length = n) (hy : ys.length = n) (dx : Dg xs) (dy : Dg ys) (hn : n ≤ 100000) (w : World) (hcx : At w p xs) (hcy : At w q ys) :
    Calls Tryd.prog 80 #[.slice (some ⟨p, 0, none⟩) n c, .slice (some ⟨q, 0, none⟩) n d] w fun e w' => e = .returned (.int .i64 (ordI (vl xs) (vl ys))) ∧ Gr w w' := by
  have HX := Lib.hid hx
  have HY := Lib.hid hy
  have HCX := Lib.hid hcx
  have HCY := Lib.hid hcy
  have DX := Lib.hid dx
  have DY := Lib.hid dy
  clear hx hy hcx hcy dx dy
  go_enter Tryd.func80, Tryd.ntmps80
  go_wp2
  go_loopw [5] (fun j wr => ∃ k : Nat, k ≤ n ∧ j = .int .i64 ((k : Int) - 1) ∧ Hid (vl (xs.drop k) = vl (ys.drop k)) ∧ Hid (Gr w wr)) (fun j _ => (intOf j + 1).toNat)
  case atStart => exact ⟨n, Nat.le_refl _, rfl, (by show _ = _; rw [← HX.out, List.drop_length, HX.out, ← HY.out, List.drop_length]), Gr.refl _⟩
  case round =>
    obtain ⟨k, hk, rfl, hr, hG⟩ := hrel
    match k, hk, hr with
    | 0, hk, hr =>
      go_wp2
      go_ret
      exact ⟨ret_int (by have h : vl xs = vl ys := hr.out; rw [h, ordI_eq]), hG.out⟩
    | k + 1, hk, hr =>
      have hc1 := hG.out.keep (HCX.out k (by rw [HX.out]; omega))
      have hc2 := hG.out.keep (HCY.out k (by rw [HY.out]; omega))
      have s1 := Lib.hid (vl_drop xs (i := k) (by rw [HX.out]; omega))
      have s2 := Lib.hid (vl_drop ys (i := k) (by rw [HY.out]; omega))
      obtain ⟨x, ex⟩ : ∃ x, xs.getD k 0 = x := ⟨_, rfl⟩
      obtain ⟨y, ey⟩ : ∃ y, ys.getD k 0 = y := ⟨_, rfl⟩
      by_cases hxy : x = y
      · subst hxy
        rw [ex] at hc1 s1
        rw [ey] at hc2 s2
        clear ex ey
        go_wp2
        go_quiet (fail)
        go_wp2
        go_round
        case rel => exact ⟨k, by omega, by go_num, (by show _ = _; rw [s1.out, s2.out, hr.out]), hG.out.drewN _⟩
        case measure => simp [intOf]
      · have hne := bne_iff_ne.2 hxy
        have hl : ordI (vl xs) (vl ys) = 2 * countI (decide (y < x)) - 1 := by
          by_cases h : x < y
          · rw [ordI_lt (drop_lt DX.out DY.out (by rw [HX.out, HY.out]) (show k < n by omega) HX.out.symm hr.out (by rw [ex, ey]; exact h)), decide_eq_false (by omega)]; rfl
          · rw [ordI_gt (drop_lt DY.out DX.out (by rw [HX.out, HY.out]) (show k < n by omega) HY.out.symm hr.out.symm (by rw [ex, ey]; omega)), decide_eq_true (by omega)]; rfl
        have HL := Lib.hid hl
        rw [ex] at hc1
        rw [ey] at hc2
        clear ex ey s1 s2 hl
        go_wp2
        go_quiet (fail)
        go_wp2
        have hcb := countI_bd (decide (y < x))
        have hkn : k < n := by omega
        have hkn' : (k : Int) < n := by omega
        have d1 : (wr.drewN nq).cell? ⟨p, k, none⟩ = some (.int .i64 x) := by simpa using hc1
        have d2 : (wr.drewN nq).cell? ⟨q, k, none⟩ = some (.int .i64 y) := by simpa using hc2
        have G1 := Lib.hid (hG.out.drewN nq)
        clear hc1 hc2
        generalize wr.drewN nq = wz at d1 d2 G1 ⊢
        go_quiet ((go_at_call 27; exact Calls.quiet_of_same (Count_same _ _)))
        go_wp2
        go_ret
        exact ⟨ret_int (by rw [HL.out]), G1.out.drewN _⟩
end Go.Proofs.YtnaflaokhldfnaaDoor
namespace Go.Proofs.YtnaflaokhldfnaaDoor
set_option linter.unusedSimpArgs false
set_option linter.unusedVariables false
open Go.RowKit

/-- What trim leaves has the same value, and is canonical. -/
theorem tN_vl (xs : List Int) : ∀ k, vl (xs.take (tN xs k)) = vl (xs.take k)
  | 0 => rfl
  | k + 1 => by
    by_cases h : xs.getD k 0 = 0
    · rw [tN_zero h, tN_vl xs k, trim_step h]
    · rw [tN_some h]
theorem tN_last (xs : List Int) : ∀ k, 0 < tN xs k → xs.getD (tN xs k - 1) 0 ≠ 0
  | 0, h => absurd h (Nat.lt_irrefl 0)
  | k + 1, h => by
    by_cases e : xs.getD k 0 = 0
    · rw [tN_zero e] at h ⊢; exact tN_last xs k h
    · rw [tN_some e]; simpa using e
theorem tN_cn {xs : List Int} (h : Dg xs) : Cn (xs.take (tN xs xs.length)) := by
  have hl : (xs.take (tN xs xs.length)).length = tN xs xs.length := by rw [List.length_take]; exact Nat.min_eq_left (tN_le xs _)
  refine Cn.of_last (h.take _) ?_
  rw [hl]
  intro h0
  have := tN_last xs xs.length h0
  rw [List.getD_eq_getElem?_getD] at this ⊢
  rw [List.getElem?_take_of_lt (by omega)]
  exact this
theorem At.take {w : World} {b : Nat} {xs : List Int} (h : At w b xs) (n : Nat) : At w b (xs.take n) := by
  intro i hi
  rw [List.length_take] at hi
  rw [h i (by omega), List.getD_eq_getElem?_getD, List.getD_eq_getElem?_getD, List.getElem?_take_of_lt (by omega)]
theorem At.gr {a w : World} {b : Nat} {xs : List Int} (h : At a b xs) (g : Gr a w) : At w b xs := fun i hi => g.keep (h i hi)

end Go.Proofs.YtnaflaokhldfnaaDoor
namespace Go.Proofs.YtnaflaokhldfnaaDoor
set_option linter.unusedSimpArgs false
set_option linter.unusedVariables false
open Go.RowKit

/-- The digits of an amount behind so many zeros: so many of them. -/
def ld (z : Nat) (a : Int) (q : Nat) : List Int := List.replicate z 0 ++ fl q (dig a)
theorem ld_length (z : Nat) (a : Int) (q : Nat) : (ld z a q).length = z + q := by unfold ld; simp [fl_length]
theorem ld_succ (z : Nat) (a : Int) (q : Nat) : ld z a q ++ [dig a q] = ld z a (q + 1) := by
  unfold ld fl; rw [List.append_assoc, List.range_succ, List.map_append]; rfl
theorem fl_dg (a : Int) (q : Nat) : Dg (fl q (dig a)) := by
  intro d hd
  unfold fl at hd
  obtain ⟨i, _, rfl⟩ := List.mem_map.1 hd
  exact dig_bd a i
theorem ld_dg (z : Nat) (a : Int) (q : Nat) : Dg (ld z a q) := (Dg.zeros z).append (fl_dg a q)
theorem fl_vl (a : Int) (h : 0 ≤ a) : ∀ q, vl (fl q (dig a)) + 10 ^ q * (a / 10 ^ q) = a
  | 0 => by simp [fl, vl]
  | q + 1 => by
    have e : fl (q + 1) (dig a) = fl q (dig a) ++ [dig a q] := by unfold fl; rw [List.range_succ, List.map_append]; rfl
    have ih := fl_vl a h q
    rw [e, vl_snoc, fl_length, ← div_step]
    rw [show dig a q = a / 10 ^ q % 10 from rfl]
    have := Int.mul_ediv_add_emod (a / 10 ^ q) 10
    generalize a / 10 ^ q = x at *
    rw [Int.pow_succ]
    generalize (10 : Int) ^ q = P at *
    have e2 : P * x = P * (10 * (x / 10)) + P * (x % 10) := by rw [← Int.mul_add, this]
    rw [Int.mul_assoc]
    omega
theorem ld_vl {z : Nat} {a : Int} {q : Nat} (h : 0 ≤ a) (hq : a / 10 ^ q = 0) : vl (ld z a q) = a * 10 ^ z := by
  unfold ld
  have := fl_vl a h q
  rw [hq] at this
  rw [vl_append, vl_zeros, List.length_replicate, Int.mul_comm a]
  simp at this
  rw [this]; simp
end Go.Proofs.YtnaflaokhldfnaaDoor
namespace Go.Proofs.YtnaflaokhldfnaaDoor
set_option linter.unusedSimpArgs false
set_option linter.unusedVariables false
open Go.RowKit

theorem Own.cap {w : World} {B g n cap : Nat} {k e} {xs : List Int} (h : Own w B k e (.slice (some ⟨g, 0, none⟩) n cap) xs) : xs.length ≤ cap ∧ cap ≤ maxLen := by
  rcases h.2 with ⟨h', _⟩ | ⟨g', cap', cur, h', _, hg, h1, h2, _⟩
  · simp at h'
  · simp only [Value.slice.injEq, Option.some.injEq, Addr.mk.injEq, and_true, true_and] at h'
    obtain ⟨rfl, rfl, rfl⟩ := h'
    exact ⟨h1, h2⟩
theorem Own.at_ {w : World} {B g n cap : Nat} {e} {xs : List Int} (h : Own w B .i64 e (.slice (some ⟨g, 0, none⟩) n cap) xs) : At w g xs := fun i hi => h.cell i hi

set_option maxHeartbeats 2000000 in
set_option maxRecDepth 100000 in
theorem LongOf_any (n : Int) (z : Nat) (Z : Int) (hZ : Z = z) (hz : z ≤ 100) (h : -1000000000000000000 ≤ n) (h' : n ≤ 1000000000000000000) (w : World) :
    Calls Tryd.prog 78 #[.int .i64 n, .int .i64 Z] w fun e w' => ∃ g cap xs k, e = .returned (.agg #[.bool (decide (n < 0)), .slice (some ⟨g, 0, none⟩) k cap]) ∧ xs.length = k ∧ k ≤ cap ∧ cap ≤ maxLen ∧ w.heap.size ≤ g ∧ At w' g xs ∧ Cn xs ∧ vl xs = absI n * 10 ^ z ∧ Gr w w' := by
  obtain ⟨i0, hi, hz0, hz1, hz2⟩ := info_parts info3
  have ha : 0 ≤ absI n ∧ absI n ≤ 1000000000000000000 := by unfold absI; split <;> omega
  have hmk := mk_ints Z z hZ (by omega)
  clear hZ
  go_enter Tryd.func78, Tryd.ntmps78
  go_wp2_with (first | (go_at_call 29; refine (Amount_any _ h h' _).mono ?_; rintro e w1 ⟨rfl, rfl⟩))
  have HA := Lib.hid ha
  have hO0 := Lib.hid (Own.of_arr (B := w.heap.size + 1) (n := z) (m := z) (Arr.made (w.alloc (.cells #[.bool false, .slice none 0 0] 99)) .i64 3 z) (by simp) (by unfold maxLen; simp; omega) (by simp) (by simp))
  go_loopw [5, 6] (fun l x wr => ∃ q g cap : Nat, q ≤ 19 ∧ l = .slice (some ⟨g, 0, none⟩) (z + q) cap ∧ x = .int .i64 (absI n / 10 ^ q) ∧ Hid (w.heap.size + 1 ≤ g) ∧ Hid (Own wr (w.heap.size + 1) .i64 3 (.slice (some ⟨g, 0, none⟩) (z + q) cap) (ld z (absI n) q)) ∧ Hid (Below (w.heap.size + 1) (w.alloc (.cells #[.bool false, .slice none 0 0] 99)) wr)) (fun _ x _ => (intOf x).toNat)
  case atStart =>
    refine ⟨0, w.heap.size + 1, z, by omega, rfl, by simp, Nat.le_refl _, Lib.hid ?_, (Below.refl _ _).alloc (by simp) _⟩
    have := hO0.out
    simp only [World.size_alloc] at this
    simpa [ld, fl] using this
  case round =>
    obtain ⟨q, g, cap, hq, rfl, rfl, hg, hO, hB⟩ := hrel
    obtain ⟨r, hr⟩ : ∃ r, absI n / 10 ^ q = r := ⟨_, rfl⟩
    have hrb := div_bd (absI n) q HA.out.1
    have hst := Lib.hid (div_step (absI n) q)
    have hq19 : 0 < r → q < 19 := by
      intro h0
      rcases Nat.lt_or_ge q 19 with k | k
      · exact k
      · exfalso
        have : (10 : Int) ^ 19 ≤ 10 ^ q := ten_mono k
        have h1 : absI n / 10 ^ q = 0 := Int.ediv_eq_zero_of_lt HA.out.1 (by have := HA.out.2; omega)
        omega
    rw [hr] at hrb hst ⊢
    have ha2 := HA.out.2
    have hsz := hB.size
    simp at hsz
    have hr' := Lib.hid hr
    clear hr ha
    by_cases hlt : 0 < r
    · have hq2 := hq19 hlt
      clear hq19
      go_wp2_with (at_builtin; go_loud (refine wp_append_ints _ rfl (.tmp 15) (.tmp 18) 97 3 rfl .i64 i0 8 Tryd.underlying97 hi hz0 hz1 hz2 (by decide) (w.heap.size + 1) _ (ld z (absI n) q) rfl (hO.out.alloc _) (z + q + 1) wr.heap.size 1 1 [r % 10] (by first | rfl | simp) rfl (by omega) (fun j hj => one_cell _ _ _ _ j hj) (by rw [ld_length]) (by omega) (by simp <;> omega) ?_); intro g1 cap1 w2 hO2 hB2 hgr2 hg1 hg1l)
      go_roundw
      case rel =>
        refine ⟨q + 1, g1, cap1, by omega, rfl, (by have e := hst.out; go_num), Lib.hid hg1, Lib.hid ?_, Lib.hid (Below.trans (Below.alloc hB.out (by omega) _) hB2)⟩
        rw [← ld_succ, show dig (absI n) q = r % 10 by unfold dig; rw [hr'.out]]
        exact hO2
      case measure => simp [intOf]; omega
    · have hr0 : r = 0 := by omega
      subst hr0
      have c0 : wr.cell? ⟨w.heap.size, 0, none⟩ = some (.bool false) := keepc hB.out (by simp) (by first | (simp; done) | (simp [go_sem]; done))
      have c1 : wr.cell? ⟨w.heap.size, 1, none⟩ = some (.slice none 0 0) := keepc hB.out (by simp) (by first | (simp; done) | (simp [go_sem]; done))
      have f0 : wr.frozen? ⟨w.heap.size, 0, none⟩ = false := (Below.frozen hB.out (p := ⟨w.heap.size, 0, none⟩) (by simp)).trans (by simp [go_sem])
      have f1 : wr.frozen? ⟨w.heap.size, 1, none⟩ = false := (Below.frozen hB.out (p := ⟨w.heap.size, 1, none⟩) (by simp)).trans (by simp [go_sem])
      have hT := trim_any g (z + q) cap (ld z (absI n) q) (ld_length _ _ _) (by have := hO.out.cap.1; rw [ld_length] at this; exact this) hO.out.cap.2 wr hO.out.at_
      obtain ⟨t, ht⟩ : ∃ t, tN (ld z (absI n) q) (z + q) = t := ⟨_, rfl⟩
      rw [ht] at hT
      have HT := Lib.hid ht
      clear ht hst
      go_wp2_with (go_at_call 97; refine (hT).mono ?_; rintro e w1 ⟨rfl, rfl⟩)
      have hat : At ((wr.setCell ⟨w.heap.size, 0, none⟩ (.bool (decide (n < 0)))).setCell ⟨w.heap.size, 1, none⟩ (.slice (some ⟨g, 0, none⟩) t cap)) g ((ld z (absI n) q).take t) := by
        intro i hi
        have h1 := (hO.out.at_.take t) i hi
        have hne : g ≠ w.heap.size := by have := hg.out; omega
        have hne' : w.heap.size ≠ g := fun k => hne k.symm
        simp [go_sem, hne, hne', h1]
      have hcn := tN_cn (ld_dg z (absI n) q)
      have hvl := tN_vl (ld z (absI n) q) (z + q)
      have hle := tN_le (ld z (absI n) q) (z + q)
      rw [ld_length, HT.out] at hcn
      have hv2 : vl ((ld z (absI n) q).take (z + q)) = absI n * 10 ^ z := by rw [List.take_of_length_le (by rw [ld_length]; exact Nat.le_refl _), ld_vl HA.out.1 hr'.out]
      rw [HT.out, hv2] at hvl
      rw [HT.out] at hle
      have hG : Gr w wr := Below.mono (Below.trans (Below.alloc (Below.refl w.heap.size w) (Nat.le_refl _) _) (Below.mono hB.out (Nat.le_succ _))) (Nat.le_refl _)
      refine bodyPost_ret (v := .agg #[.bool (decide (n < 0)), .slice (some ⟨g, 0, none⟩) t cap]) (by simp [results, Tryd.results78, go_sem, *]) rfl ⟨g, cap, (ld z (absI n) q).take t, t, rfl, by rw [List.length_take, ld_length]; exact Nat.min_eq_left hle, (by have := hO.out.cap.1; rw [ld_length] at this; omega), hO.out.cap.2, by have := hg.out; omega, hat, hcn, hvl, Gr.setCell (Gr.setCell hG (Nat.le_refl _) _) (Nat.le_refl _) _⟩
end Go.Proofs.YtnaflaokhldfnaaDoor
namespace Go.Proofs.YtnaflaokhldfnaaDoor
set_option linter.unusedSimpArgs false
set_option linter.unusedVariables false
open Go.RowKit

theorem pkH_odd (n : Int) (p L : Nat) (hL : 2 * p + 1 = L) : dgL (absI n) L ++ [15 - 2 * countI (decide (n < 0))] = pkH n (p + 1) := by
  rw [sgn_count]
  subst hL
  apply List.ext_getElem
  · simp [pkH, dgL, fl]; omega
  · intro i h1 h2
    have h3 : i < 2 * (p + 1) := by simpa [pkH, fl] using h2
    simp only [pkH, fl, List.getElem_map, List.getElem_range, dgL]
    by_cases e : i = 2 * (p + 1) - 1
    · subst e
      rw [List.getElem_append_right (by simp; omega)]
      simp
    · rw [if_neg e, List.getElem_append_left (by simp; omega)]
      simp
      first | done | (congr 1; done) | (congr 1; omega)

theorem dig_above (a : Int) (i : Nat) (h0 : 0 ≤ a) (h : a < 10 ^ i) : dig a i = 0 := by
  unfold dig; rw [Int.ediv_eq_zero_of_lt h0 h]; rfl

end Go.Proofs.YtnaflaokhldfnaaDoor
