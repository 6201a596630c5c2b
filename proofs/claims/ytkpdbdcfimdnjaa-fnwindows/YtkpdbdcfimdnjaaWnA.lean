/- Windows of numbers: what is wrong with one, what was taken, what is taken, guessed, missing: plain sums. -/
import Derived.Test.YtkpdbdcfimdnjaaPkt
import Derived.Laws.BitsAllLaws
namespace Go.Proofs.Ytkpdbdcfimdnjaa
open Go.RowKit

/-- A window: the greatest that was taken, the bits. -/
structure Wn where
  t : Int
  b : Int
deriving DecidableEq

/-- The bit k. -/
def bt (b : Int) (k : Nat) : Bool := b.toNat.testBit k

def inW (x : Wn) : Prop := 0 ≤ x.t ∧ x.t ≤ 1099511627776 ∧ 0 ≤ x.b ∧ x.b ≤ 4294967295

def fmW (x : Wn) : Prop := x.b.toNat < 2 ^ x.t.toNat ∧ (0 < x.t → x.b % 2 = 1)

instance (x : Wn) : Decidable (inW x) := inferInstanceAs (Decidable (_ ∧ _))

instance (x : Wn) : Decidable (fmW x) := inferInstanceAs (Decidable (_ ∧ _))

/-- What is wrong with a window. -/
def wF (x : Wn) : Int := if inW x then (if fmW x then 0 else 1) else 3

/-- The least that is not behind it. -/
def frW (x : Wn) : Int := max 1 (x.t - 31)

/-- Was it taken? -/
def had (x : Wn) (s : Int) : Bool := decide (s ≤ x.t) && bt x.b (x.t - s).toNat

def seenW (x : Wn) (s : Int) : Bool := decide (wF x ≠ 0) || decide (s < frW x) || had x s

/-- The code of taking a number, the window being whole. -/
def tkC (x : Wn) (s : Int) : Int := if 1 ≤ s ∧ s ≤ 1099511627776 then (if s < frW x then 10 else if had x s then 7 else 0) else 3

/-- The window behind it. -/
def nxW (x : Wn) (s : Int) : Wn := if x.t < s then ⟨s, ((x.b.toNat * 2 ^ (s - x.t).toNat % 4294967296 ||| 1 : Nat) : Int)⟩ else ⟨x.t, ((x.b.toNat ||| 2 ^ (x.t - s).toNat : Nat) : Int)⟩

/-- The code of 'TakeSeq'. -/
def tsC (x : Wn) (s : Int) : Int := if wF x = 0 then tkC x s else wF x

theorem wF_ok {x : Wn} : wF x = 0 ↔ inW x ∧ fmW x := by
  unfold wF
  by_cases h : inW x
  · by_cases g : fmW x <;> simp [h, g]
  · simp [h]

theorem bt_high {b : Int} (h0 : 0 ≤ b) (h1 : b ≤ 4294967295) {k : Nat} (hk : 32 ≤ k) : bt b k = false := by
  unfold bt
  refine Nat.testBit_lt_two_pow (Nat.lt_of_lt_of_le (show b.toNat < 2 ^ 32 by omega) (Nat.pow_le_pow_right (by omega) hk))

theorem bt_div (n k : Nat) : (n / 2 ^ k % 2 = 1) = (n.testBit k = true) := by
  rw [Nat.testBit_eq_decide_div_mod_eq, decide_eq_true_eq]

/-- The bit as the walk spells it. -/
theorem and1 (x : Nat) : bits .and .i64 (x : Int) 1 = ((x % 2 : Nat) : Int) := by
  show IntKind.i64.wrap ((BitVec.ofInt 64 (x : Int) &&& BitVec.ofInt 64 1).toNat : Int) = _
  rw [BitVec.toNat_and, BitVec.ofInt_natCast, BitVec.toNat_ofNat, show (BitVec.ofInt 64 1).toNat = 1 by decide, Nat.and_one_is_mod, show x % 2 ^ 64 % 2 = x % 2 by omega]
  rcases Nat.mod_two_eq_zero_or_one x with h | h <;> rw [h] <;> decide

theorem shr_bt {b : Int} (h0 : 0 ≤ b) (h1 : b ≤ 4294967295) (n : Nat) : bits .and .i64 (b / 2 ^ min n 64) 1 = if bt b n then 1 else 0 := by
  obtain ⟨B, rfl⟩ := Int.eq_ofNat_of_zero_le h0
  have e : (B : Int) / 2 ^ min n 64 = ((B / 2 ^ min n 64 : Nat) : Int) := by simp
  rw [e, and1]
  have key : B / 2 ^ min n 64 % 2 = if bt (B : Int) n then 1 else 0 := by
    by_cases hn : n ≤ 64
    · rw [Nat.min_eq_left hn]
      unfold bt
      rw [Int.toNat_natCast]
      by_cases h : B.testBit n = true
      · rw [if_pos h, ← bt_div] at *; exact h
      · rw [if_neg h]
        rw [← bt_div] at h
        omega
    · rw [bt_high (by omega) h1 (by omega), Nat.min_eq_right (by omega), Nat.div_eq_of_lt (by omega)]; rfl
  rw [key]
  split <;> rfl

/-- What lies from the bit t on. -/
theorem shr_zero {b : Int} (h0 : 0 ≤ b) (h1 : b ≤ 4294967295) (n : Nat) : (b / 2 ^ min n 64 = 0) ↔ b.toNat < 2 ^ n := by
  obtain ⟨B, rfl⟩ := Int.eq_ofNat_of_zero_le h0
  rw [Int.toNat_natCast]
  have e : (B : Int) / 2 ^ min n 64 = ((B / 2 ^ min n 64 : Nat) : Int) := by simp
  rw [e, Int.natCast_eq_zero]
  clear e
  have hb : B < 2 ^ 32 := by omega
  by_cases hn : n ≤ 64
  · rw [Nat.min_eq_left hn]
    have hp : 0 < 2 ^ n := Nat.two_pow_pos _
    have h4 : B / 2 ^ n < 1 ↔ B < 1 * 2 ^ n := Nat.div_lt_iff_lt_mul hp
    rw [Nat.one_mul] at h4
    generalize B / 2 ^ n = q at *
    exact ⟨fun h => h4.mp (by omega), fun h => by have h5 := h4.mpr h; omega⟩
  · rw [Nat.min_eq_right (by omega)]
    have h2 : (2 : Nat) ^ 32 ≤ 2 ^ n := Nat.pow_le_pow_right (by omega) (by omega)
    have h3 : B / 2 ^ 64 = 0 := Nat.div_eq_of_lt (by omega)
    omega

/-- It is less than 2 to the power of n, if no bit from n on is one. -/
theorem lt_bits {b : Int} (h0 : 0 ≤ b) (h1 : b ≤ 4294967295) (n : Nat) : b.toNat < 2 ^ n ↔ ∀ k, k < 32 → bt b k = true → k < n := by
  constructor
  · intro h k _ hk
    unfold bt at hk
    rcases Nat.lt_or_ge k n with h2 | h2
    · exact h2
    · rw [Nat.testBit_lt_two_pow (Nat.lt_of_lt_of_le h (Nat.pow_le_pow_right (by omega) h2))] at hk
      cases hk
  · intro h
    refine Nat.lt_pow_two_of_testBit _ fun k hk => ?_
    rcases Nat.lt_or_ge k 32 with h2 | h2
    · by_cases h3 : b.toNat.testBit k = true
      · have := h k h2 h3; omega
      · simpa using h3
    · exact bt_high h0 h1 h2

theorem bt_zero (b : Int) (h0 : 0 ≤ b) : bt b 0 = decide (b % 2 = 1) := by
  unfold bt
  rw [Nat.testBit_zero]
  have : (b.toNat % 2 = 1) ↔ (b % 2 = 1) := by omega
  simp [this]

/-- Taken at one bit. -/
theorem or_bt (b k j : Nat) : (b ||| 2 ^ k).testBit j = (b.testBit j || decide (k = j)) := by
  rw [Nat.testBit_or, Nat.testBit_two_pow]

theorem or_lt32 {a k : Nat} (ha : a < 4294967296) (hk : k ≤ 31) : a ||| 2 ^ k < 4294967296 :=
  Nat.or_lt_two_pow (n := 32) ha (Nat.pow_lt_pow_right (by omega) (by omega))

theorem nx_in {x : Wn} {s : Int} (hi : inW x) (hf : fmW x) (h1 : 1 ≤ s) (h2 : s ≤ 1099511627776) (h3 : frW x ≤ s) : inW (nxW x s) ∧ fmW (nxW x s) := by
  obtain ⟨i1, i2, i3, i4⟩ := hi
  obtain ⟨f1, f2⟩ := hf
  unfold frW at h3
  unfold nxW
  by_cases h : x.t < s
  · rw [if_pos h]
    have hb : x.b.toNat * 2 ^ (s - x.t).toNat % 4294967296 ||| 1 < 4294967296 := or_lt32 (k := 0) (Nat.mod_lt _ (by omega)) (by omega)
    have hodd : (x.b.toNat * 2 ^ (s - x.t).toNat % 4294967296 ||| 1) % 2 = 1 := by
      have := Nat.testBit_zero (x.b.toNat * 2 ^ (s - x.t).toNat % 4294967296 ||| 1)
      rw [Nat.testBit_or, show Nat.testBit 1 0 = true by decide, Bool.or_true] at this
      exact of_decide_eq_true this.symm
    refine ⟨⟨by simp only; omega, h2, by simp only; omega, by simp only; omega⟩, ?_, fun _ => by simp only; omega⟩
    rw [lt_bits (by simp only; omega) (by simp only; omega)]
    intro k hk hb'
    simp only [bt, Int.toNat_natCast, Nat.testBit_or, Bool.or_eq_true] at hb'
    rcases hb' with hb' | hb'
    · rw [show (4294967296 : Nat) = 2 ^ 32 by decide, Nat.testBit_mod_two_pow, Nat.testBit_mul_two_pow] at hb'
      simp only [Bool.and_eq_true, decide_eq_true_eq] at hb'
      have := (lt_bits i3 i4 x.t.toNat).mp f1 (k - (s - x.t).toNat) (by omega) hb'.2.2
      simp only
      omega
    · have : k = 0 := by
        have h9 := Nat.testBit_two_pow (n := 0) (m := k)
        rw [Nat.pow_zero] at h9
        rw [h9] at hb'
        simpa using (of_decide_eq_true hb').symm
      simp only
      omega
  · rw [if_neg h]
    have hb : x.b.toNat ||| 2 ^ (x.t - s).toNat < 4294967296 := or_lt32 (by omega) (by omega)
    have hodd : (x.b.toNat ||| 2 ^ (x.t - s).toNat) % 2 = 1 := by
      have := Nat.testBit_zero (x.b.toNat ||| 2 ^ (x.t - s).toNat)
      have g := f2 (by omega)
      rw [Nat.testBit_or, Nat.testBit_zero x.b.toNat, show x.b.toNat % 2 = 1 by omega] at this
      simp only [decide_true, Bool.true_or] at this
      exact of_decide_eq_true this.symm
    refine ⟨⟨i1, i2, by simp only; omega, by simp only; omega⟩, ?_, fun _ => by simp only; omega⟩
    rw [lt_bits (by simp only; omega) (by simp only; omega)]
    intro k hk hb'
    simp only [bt, Int.toNat_natCast, or_bt, Bool.or_eq_true, decide_eq_true_eq] at hb'
    rcases hb' with hb' | hb'
    · exact (lt_bits i3 i4 x.t.toNat).mp f1 k hk hb'
    · simp only
      omega

theorem tkC_ok {x : Wn} {s : Int} : tkC x s = 0 ↔ 1 ≤ s ∧ s ≤ 1099511627776 ∧ frW x ≤ s ∧ had x s = false := by
  unfold tkC
  by_cases h : 1 ≤ s ∧ s ≤ 1099511627776
  · rw [if_pos h]
    by_cases g : s < frW x
    · rw [if_pos g]
      constructor
      · intro e; omega
      · intro e; omega
    · rw [if_neg g]
      cases hh : had x s
      · simp; omega
      · simp
  · rw [if_neg h]
    constructor
    · intro e; omega
    · intro e; omega

theorem nx_ok {x : Wn} {s : Int} (hw : wF x = 0) (hc : tkC x s = 0) : wF (nxW x s) = 0 := by
  obtain ⟨h1, h2, h3, _⟩ := tkC_ok.mp hc
  obtain ⟨a, b⟩ := wF_ok.mp hw
  exact wF_ok.mpr (nx_in a b h1 h2 h3)

theorem nx_top (x : Wn) (s : Int) : (nxW x s).t = max x.t s := by
  unfold nxW
  split <;> simp only <;> omega

/-- What is taken is seen, and what was seen stays so. -/
theorem nx_had {x : Wn} {s r : Int} (hi : inW x) (hr : r = s ∨ had x r = true) (h3 : frW (nxW x s) ≤ r) : had (nxW x s) r = true := by
  obtain ⟨i1, i2, i3, i4⟩ := hi
  have ht := nx_top x s
  unfold frW at h3
  unfold had at hr ⊢
  simp only [Bool.and_eq_true, decide_eq_true_eq] at hr ⊢
  refine ⟨by omega, ?_⟩
  unfold nxW at ht h3 ⊢
  by_cases h : x.t < s
  · rw [if_pos h] at ht h3 ⊢
    simp only at ht h3 ⊢
    simp only [bt, Int.toNat_natCast, Nat.testBit_or, Bool.or_eq_true]
    rcases hr with hr | ⟨h5, h6⟩
    · right
      rw [hr, show (s - s).toNat = 0 by omega]; decide
    · left
      rw [show (4294967296 : Nat) = 2 ^ 32 by decide, Nat.testBit_mod_two_pow, Nat.testBit_mul_two_pow]
      simp only [Bool.and_eq_true, decide_eq_true_eq]
      refine ⟨by omega, by omega, ?_⟩
      rw [show (s - r).toNat - (s - x.t).toNat = (x.t - r).toNat by omega]
      exact h6
  · rw [if_neg h] at ht h3 ⊢
    simp only at ht h3 ⊢
    simp only [bt, Int.toNat_natCast, or_bt, Bool.or_eq_true, decide_eq_true_eq]
    rcases hr with hr | ⟨h5, h6⟩
    · right; rw [hr]
    · left; exact h6

theorem nx_seen {x : Wn} {s r : Int} (hw : wF x = 0) (hr : r = s ∨ seenW x r = true) : seenW (nxW x s) r = true := by
  unfold seenW at hr ⊢
  simp only [Bool.or_eq_true, decide_eq_true_eq] at hr ⊢
  by_cases h : r < frW (nxW x s)
  · exact .inl (.inr h)
  · refine .inr (nx_had (wF_ok.mp hw).1 ?_ (by omega))
    have ht := nx_top x s
    have : frW x ≤ frW (nxW x s) := by unfold frW; omega
    rcases hr with hr | (hr | hr) | hr
    · exact .inl hr
    · exact absurd hw hr
    · omega
    · exact .inr hr

theorem seen_no {x : Wn} {s : Int} (hw : wF x = 0) (hc : tkC x s = 0) : seenW x s = false := by
  obtain ⟨h1, h2, h3, h4⟩ := tkC_ok.mp hc
  unfold seenW
  rw [h4]
  simp [hw]
  omega

theorem seen_code {x : Wn} {s : Int} (hs : seenW x s = true) : tsC x s ≠ 0 := by
  unfold tsC
  by_cases hw : wF x = 0
  · rw [if_pos hw]
    intro hc
    rw [seen_no hw hc] at hs
    cases hs
  · rw [if_neg hw]; exact hw

/-- Numbers taken one behind the other: what is taken, the window then. -/
def tkA (x : Wn) : List Int → Wn × List Int
  | [] => (x, [])
  | s :: r => if tkC x s = 0 then ((tkA (nxW x s) r).1, s :: (tkA (nxW x s) r).2) else tkA x r

theorem tkA_yes {x : Wn} {s : Int} (r : List Int) (h : tkC x s = 0) : tkA x (s :: r) = ((tkA (nxW x s) r).1, s :: (tkA (nxW x s) r).2) := by
  rw [tkA, if_pos h]

theorem tkA_no {x : Wn} {s : Int} (r : List Int) (h : ¬ tkC x s = 0) : tkA x (s :: r) = tkA x r := by
  rw [tkA, if_neg h]

theorem tkA_app (zs : List Int) (s : Int) (x : Wn) : (tkC (tkA x zs).1 s = 0 → tkA x (zs ++ [s]) = (nxW (tkA x zs).1 s, (tkA x zs).2 ++ [s])) ∧ (¬ tkC (tkA x zs).1 s = 0 → tkA x (zs ++ [s]) = tkA x zs) := by
  induction zs generalizing x with
  | nil => exact ⟨fun h => tkA_yes [] h, fun h => tkA_no [] h⟩
  | cons z zs ih =>
    rw [List.cons_append]
    by_cases h : tkC x z = 0
    · rw [tkA_yes _ h, tkA_yes _ h]
      obtain ⟨i1, i2⟩ := ih (nxW x z)
      constructor
      · intro g; rw [i1 g]; rfl
      · intro g; rw [i2 g]
    · rw [tkA_no _ h, tkA_no _ h]
      exact ih x

theorem tkA_take {zs : List Int} {k : Nat} {x : Wn} {s : Int} (hk : k < zs.length) (hs : zs.getD k 0 = s) : (tkC (tkA x (zs.take k)).1 s = 0 → tkA x (zs.take (k + 1)) = (nxW (tkA x (zs.take k)).1 s, (tkA x (zs.take k)).2 ++ [s])) ∧ (¬ tkC (tkA x (zs.take k)).1 s = 0 → tkA x (zs.take (k + 1)) = tkA x (zs.take k)) := by
  have e : zs.take (k + 1) = zs.take k ++ [s] := by
    rw [← hs, List.take_add_one, List.getElem?_eq_getElem hk]
    simp [List.getD, List.getElem?_eq_getElem hk]
  rw [e]
  exact tkA_app _ _ _

theorem tkA_ok (zs : List Int) (x : Wn) (hw : wF x = 0) : wF (tkA x zs).1 = 0 := by
  induction zs generalizing x with
  | nil => exact hw
  | cons z zs ih =>
    by_cases h : tkC x z = 0
    · rw [tkA_yes _ h]; exact ih _ (nx_ok hw h)
    · rw [tkA_no _ h]; exact ih _ hw

theorem tkA_len (zs : List Int) (x : Wn) : (tkA x zs).2.length ≤ zs.length := by
  induction zs generalizing x with
  | nil => simp [tkA]
  | cons z zs ih =>
    by_cases h : tkC x z = 0
    · rw [tkA_yes _ h]; have := ih (nxW x z); simp only [List.length_cons]; omega
    · rw [tkA_no _ h]; have := ih x; simp only [List.length_cons]; omega

/-- What is taken of a list was not seen ahead of it. -/
theorem tkA_new (zs : List Int) (x : Wn) (hw : wF x = 0) : ∀ s ∈ (tkA x zs).2, seenW x s = false := by
  induction zs generalizing x with
  | nil => simp [tkA]
  | cons z zs ih =>
    by_cases h : tkC x z = 0
    · rw [tkA_yes _ h]
      intro s hs
      rcases List.mem_cons.mp hs with hs | hs
      · rw [hs]; exact seen_no hw h
      · have h1 := ih _ (nx_ok hw h) s hs
        cases h2 : seenW x s
        · rfl
        · rw [nx_seen hw (.inr h2)] at h1; cases h1
    · rw [tkA_no _ h]; exact ih x hw

theorem tkA_once (zs : List Int) (x : Wn) (hw : wF x = 0) : (tkA x zs).2.Nodup := by
  induction zs generalizing x with
  | nil => simp [tkA]
  | cons z zs ih =>
    by_cases h : tkC x z = 0
    · rw [tkA_yes _ h]
      refine List.nodup_cons.mpr ⟨fun hm => ?_, ih _ (nx_ok hw h)⟩
      have := tkA_new zs _ (nx_ok hw h) z hm
      rw [nx_seen hw (.inl rfl)] at this
      cases this
    · rw [tkA_no _ h]; exact ih x hw

/-- Those that are missing, of the first k. -/
def misK (x : Wn) (k : Nat) : List Int := ((List.range k).map fun i : Nat => frW x + (i : Int)).filter fun s => !had x s

theorem misK_succ (x : Wn) (k : Nat) : misK x (k + 1) = misK x k ++ (if had x (frW x + (k : Int)) then [] else [frW x + (k : Int)]) := by
  unfold misK
  rw [List.range_succ, List.map_append, List.filter_append]
  congr 1
  cases h : had x (frW x + (k : Int)) <;> simp [h]

theorem misK_len (x : Wn) (k : Nat) : (misK x k).length ≤ k := by
  unfold misK
  refine Nat.le_trans (List.length_filter_le _ _) ?_
  simp

def misN (x : Wn) : Nat := (x.t - frW x).toNat

def misL (x : Wn) : List Int := misK x (misN x)

theorem misL_in {x : Wn} (hw : wF x = 0) : ∀ s ∈ misL x, seenW x s = false ∧ s < x.t := by
  intro s hs
  unfold misL misK at hs
  rw [List.mem_filter, List.mem_map] at hs
  obtain ⟨⟨i, hi, rfl⟩, h2⟩ := hs
  rw [List.mem_range] at hi
  unfold misN at hi
  unfold seenW
  have h3 : had x (frW x + (i : Int)) = false := by simpa using h2
  rw [h3]
  simp [hw]
  omega

/-- The number that is guessed. -/
def gsV (x : Wn) (low : Int) : Int := frW x + (low - frW x) % 4294967296

def gsC (x : Wn) (low : Int) : Int := if wF x = 0 then (if 0 ≤ low ∧ low ≤ 4294967295 then (if gsV x low ≤ 1099511627776 then 0 else 3) else 3) else wF x

theorem gs_same {x : Wn} {s : Int} (h1 : frW x ≤ s) (h2 : s - frW x < 4294967296) : gsV x (s % 4294967296) = s := by
  unfold gsV
  omega

theorem gs_least (x : Wn) (low : Int) : frW x ≤ gsV x low := by
  unfold gsV
  have := Int.emod_nonneg (low - frW x) (show (4294967296 : Int) ≠ 0 by omega)
  omega

/-- As the model reckons it. -/
theorem gs_spec (x : Wn) (low : Int) (hl : 0 ≤ low ∧ low ≤ 4294967295) : gsV x low = if frW x / 4294967296 * 4294967296 + low < frW x then frW x / 4294967296 * 4294967296 + low + 4294967296 else frW x / 4294967296 * 4294967296 + low := by
  unfold gsV
  split <;> omega

/-- As the program reckons it. -/
theorem gs_impl (x : Wn) (low : Int) : gsV x low = frW x + (low % 4294967296 - frW x % 4294967296) % 4294967296 := by
  unfold gsV
  omega

theorem or64 (a b : Nat) (ha : a < 4294967296) (hb : b < 4294967296) : bits .or .i64 (a : Int) (b : Int) = ((a ||| b : Nat) : Int) := by
  have hx : a ||| b < 2 ^ 32 := Nat.or_lt_two_pow ha hb
  show IntKind.i64.wrap ((BitVec.ofInt 64 (a : Int) ||| BitVec.ofInt 64 (b : Int)).toNat : Int) = _
  rw [BitVec.toNat_or, BitVec.ofInt_natCast, BitVec.toNat_ofNat, BitVec.ofInt_natCast, BitVec.toNat_ofNat, Nat.mod_eq_of_lt (by omega), Nat.mod_eq_of_lt (by omega)]
  simp [IntKind.wrap, IntKind.bits, IntKind.signed]
  omega

/-- As the program shifts. -/
theorem shlU {b : Int} (h0 : 0 ≤ b) (h1 : b ≤ 4294967295) (n : Nat) : IntKind.u32.wrap (b * 2 ^ min n 32) = ((b.toNat * 2 ^ n % 4294967296 : Nat) : Int) := by
  obtain ⟨B, rfl⟩ := Int.eq_ofNat_of_zero_le h0
  rw [IntKind.wrap_u32', Int.toNat_natCast]
  have e : (B : Int) * 2 ^ min n 32 = ((B * 2 ^ min n 32 : Nat) : Int) := by simp
  rw [e]
  by_cases hn : n ≤ 32
  · rw [Nat.min_eq_left hn]; omega
  · rw [Nat.min_eq_right (by omega)]
    have h : B * 2 ^ n % 4294967296 = 0 := by
      rw [show n = 32 + (n - 32) by omega, Nat.pow_add, show (2 : Nat) ^ 32 = 4294967296 by decide, Nat.mul_comm, Nat.mul_assoc]
      exact Nat.mul_mod_right _ _
    rw [h]
    omega

theorem shl1 {n : Nat} (hn : n ≤ 31) : IntKind.i64.wrap (1 * 2 ^ min n 64) = ((2 ^ n : Nat) : Int) := by
  have h1 : 2 ^ n ≤ 2 ^ 31 := Nat.pow_le_pow_right (by omega) hn
  have e : (1 : Int) * 2 ^ min n 64 = ((2 ^ n : Nat) : Int) := by rw [Nat.min_eq_left (by omega)]; simp
  rw [e]
  clear e
  generalize 2 ^ n = p at *
  simp [IntKind.wrap, IntKind.bits, IntKind.signed]
  omega

theorem shlI {b : Int} (h0 : 0 ≤ b) (h1 : b ≤ 4294967295) {n : Nat} (hn : n ≤ 31) : IntKind.i64.wrap (b * 2 ^ min n 64) = ((b.toNat * 2 ^ n : Nat) : Int) ∧ b.toNat * 2 ^ n < 4611686018427387904 + 4611686018427387904 := by
  obtain ⟨B, rfl⟩ := Int.eq_ofNat_of_zero_le h0
  have h2 : 2 ^ n ≤ 2 ^ 31 := Nat.pow_le_pow_right (by omega) hn
  have h3 : B * 2 ^ n ≤ 4294967295 * 2 ^ 31 := Nat.mul_le_mul (by omega) h2
  have e : (B : Int) * 2 ^ min n 64 = ((B * 2 ^ n : Nat) : Int) := by rw [Nat.min_eq_left (by omega)]; simp
  rw [e, Int.toNat_natCast]
  generalize B * 2 ^ n = q at *
  refine ⟨?_, by omega⟩
  simp [IntKind.wrap, IntKind.bits, IntKind.signed]
  omega

theorem orBig' (a : Nat) (ha : a < 9223372036854775808) : bits .or .i64 (a : Int) 1 = ((a ||| 1 : Nat) : Int) := by
  have hx : a ||| 1 < 2 ^ 63 := Nat.or_lt_two_pow ha (by decide)
  show IntKind.i64.wrap ((BitVec.ofInt 64 (a : Int) ||| BitVec.ofInt 64 1).toNat : Int) = _
  rw [BitVec.toNat_or, BitVec.ofInt_natCast, BitVec.toNat_ofNat, show (BitVec.ofInt 64 1).toNat = 1 by decide, Nat.mod_eq_of_lt (by omega)]
  simp [IntKind.wrap, IntKind.bits, IntKind.signed]
  omega

theorem andBig' (a : Nat) (ha : a < 9223372036854775808) : bits .and .i64 (a : Int) 4294967295 = ((a % 4294967296 : Nat) : Int) := by
  show IntKind.i64.wrap ((BitVec.ofInt 64 (a : Int) &&& BitVec.ofInt 64 4294967295).toNat : Int) = _
  rw [BitVec.toNat_and, BitVec.ofInt_natCast, BitVec.toNat_ofNat, show (BitVec.ofInt 64 4294967295).toNat = 2 ^ 32 - 1 by decide, Nat.and_two_pow_sub_one_eq_mod, Nat.mod_eq_of_lt (by omega : a < 2 ^ 64)]
  simp [IntKind.wrap, IntKind.bits, IntKind.signed]
  omega

/-- The bits as the model reckons them. -/
theorem or1_mod (a : Nat) : (a ||| 1) % 4294967296 = a % 4294967296 ||| 1 := by
  rw [show (4294967296 : Nat) = 2 ^ 32 by decide, Nat.or_mod_two_pow]

theorem far_zero (B : Nat) {n : Nat} (hn : 32 ≤ n) : B * 2 ^ n % 4294967296 = 0 := by
  rw [show n = 32 + (n - 32) by omega, Nat.pow_add, show (2 : Nat) ^ 32 = 4294967296 by decide, Nat.mul_comm, Nat.mul_assoc]
  exact Nat.mul_mod_right _ _


theorem inW_btw (x : Wn) : (btw x.t 0 1099511627776 && btw x.b 0 4294967295) = decide (inW x) := by
  unfold btw inW
  by_cases h1 : 0 ≤ x.t <;> by_cases h2 : x.t ≤ 1099511627776 <;> by_cases h3 : 0 ≤ x.b <;> by_cases h4 : x.b ≤ 4294967295 <;> simp [h1, h2, h3, h4]

end Go.Proofs.Ytkpdbdcfimdnjaa
