/- Put together: Put, AtT, TxA, TxC, TxD, StrA, TxE, TxB, TxF. -/
import Derived.Test.YtedippfnlaiapaaDoorProg
import Derived.Test.YtedippfnlaiapaaDoorHeld
import Derived.Test.YtedippfnlaiapaaDoorShelf
import Derived.Test.YtedippfnlaiapaaDoorPkt
import Derived.Lib.ItoaLen
import Derived.Lib.Slices
import Derived.Laws.IdiomStrings
import Derived.Deep.RegionWith
import Derived.Deep.RegionHeld3
import Derived.BigCall
import Derived.Test.YtedippfnlaiapaaDoorTmE
import Derived.Test.YtedippfnlaiapaaDoorTmK
import Derived.Test.YtedippfnlaiapaaDoorTmG
import Derived.Test.YtedippfnlaiapaaDoorVar
import Derived.Test.YtedippfnlaiapaaDoorDrawP
import Derived.Test.YtedippfnlaiapaaDoorTmZ
import Derived.Deep.DeepCutAuto
import Derived.Test.YtedippfnlaiapaaDoorNewC
import Derived.Deep.AppendLies
import Derived.Lib.AppendIntMem
import Derived.Lib.Join
import Derived.Test.YtedippfnlaiapaaDoorFill
import Derived.Test.YtedippfnlaiapaaDoorTmQ
import Derived.Test.YtedippfnlaiapaaDoorTmW

/- 'PutNumber', the model's and the program's, by contracts. -/
namespace Go.Proofs.YtedippfnlaiapaaDoor
open Go.RowKit

/-- The byte at place i of a number in s bytes, the highest first. -/
def digitN (n : Int) (s i : Nat) : Int := n / (2 : Int) ^ (8 * (s - 1 - i)) % 256
def putN (n : Int) (s : Nat) : List Int := (List.range s).map (digitN n s)

theorem length_putN (n : Int) (s : Nat) : (putN n s).length = s := by simp [putN]

theorem putN_at (n : Int) (s i : Nat) (h : i < s) : (putN n s).getD i 0 = digitN n s i := by simp [putN, List.getD, h]

theorem putN_take (n : Int) (s j : Nat) (h : j < s) : (putN n s).take (j + 1) = (putN n s).take j ++ [digitN n s j] := by
  rw [take_snoc _ _ (by rw [length_putN]; exact h), putN_at n s j h]

theorem cell_one (w : World) (e : TypeId) (v : Value) : ∀ j u, ([v] : List Value)[j]? = some u → (w.alloc (.cells #[v] e)).cell? ((⟨w.heap.size, 0, none⟩ : Addr).add j) = some u := by
  intro j u hj
  match j, hj with
  | 0, hj =>
    simp at hj
    subst hj
    rw [Addr.add_lit, World.cell?_alloc_at _ _ _ _ rfl]
    rfl

/-- The code and the bytes that 'PutNumber' answers. -/
abbrev ptIn (n s : Int) : Prop := 1 ≤ s ∧ s ≤ 7 ∧ 0 ≤ n ∧ n ≤ (2 : Int) ^ (8 * s.toNat) - 1
def ptCode (n s : Int) : Int := if ptIn n s then 0 else 3
def ptVal (n s : Int) : List Int := if ptIn n s then putN n s.toNat else []

theorem pow2 (k : Nat) : ((2 ^ k : Nat) : Int) = (2 : Int) ^ k := by simp [Int.natCast_pow]

theorem pow2_bound (s : Nat) (h : s ≤ 7) : 1 ≤ (2 : Int) ^ (8 * s) ∧ (2 : Int) ^ (8 * s) ≤ 72057594037927936 := by
  have h1 : 2 ^ (8 * s) ≤ 2 ^ 56 := Nat.pow_le_pow_right (by omega) (by omega)
  have h2 : 0 < 2 ^ (8 * s) := Nat.pow_pos (by omega)
  have e : 2 ^ 56 = 72057594037927936 := by rfl
  rw [e] at h1
  rw [← pow2]
  omega

theorem wrap_pow2 (s : Nat) (h : s ≤ 7) : wrap64 ((2 : Int) ^ (8 * s)) = (2 : Int) ^ (8 * s) ∧ wrap64 ((2 : Int) ^ (8 * s) - 1) = (2 : Int) ^ (8 * s) - 1 := by
  have h1 := pow2_bound s h
  exact ⟨IntWalk.wrap64_in _ ⟨by omega, by omega⟩, IntWalk.wrap64_in _ ⟨by omega, by omega⟩⟩

/-- A row of which the last places are written, from 'm' on. -/
def tailFill (n : Int) (s m : Nat) : List Int := List.replicate m 0 ++ (putN n s).drop m

theorem tailFill_start (n : Int) (s : Nat) : tailFill n s s = List.replicate s 0 := by
  simp [tailFill, List.drop_eq_nil_of_le (Nat.le_of_eq (length_putN n s))]

theorem tailFill_end (n : Int) (s : Nat) : tailFill n s 0 = putN n s := by simp [tailFill]

theorem length_tailFill (n : Int) (s m : Nat) (h : m ≤ s) : (tailFill n s m).length = s := by simp [tailFill, length_putN]; omega

theorem tailFill_set (n : Int) (s m : Nat) (h : m < s) : (tailFill n s (m + 1)).set m (digitN n s m) = tailFill n s m := by
  unfold tailFill
  rw [List.set_append_left _ _ (by simp), List.replicate_succ', List.set_append_right _ _ (by simp)]
  have e : m < (putN n s).length := by rw [length_putN]; exact h
  have e2 : (putN n s)[m] = digitN n s m := by rw [← putN_at n s m h, getD_eq _ _ e]
  rw [List.drop_eq_getElem_cons e, e2]
  simp

theorem div_more (n : Int) (k : Nat) : n / (2 : Int) ^ (8 * k) / 256 = n / (2 : Int) ^ (8 * (k + 1)) := by
  rw [Int.ediv_ediv_of_nonneg (by rw [← pow2]; exact Int.natCast_nonneg _), show 8 * (k + 1) = 8 * k + 8 from by omega, Int.pow_add]
  rfl

theorem div_bound (n : Int) (k : Nat) (h : 0 ≤ n) : 0 ≤ n / (2 : Int) ^ k ∧ n / (2 : Int) ^ k ≤ n := by
  have hp : 0 < (2 : Int) ^ k := by rw [← pow2]; exact Int.natCast_pos.2 (Nat.pow_pos (by omega))
  exact ⟨Int.ediv_nonneg h (Int.le_of_lt hp), Int.ediv_le_self _ h⟩

end Go.Proofs.YtedippfnlaiapaaDoor

/- 'AddressText': what it stands on: a number from 0 on in decimal, the library's and the model's. -/
namespace Go.Proofs.YtedippfnlaiapaaDoor
open Go.RowKit


theorem dd_val (d : Nat) (h : d < 10) : ((UInt8.ofNat (48 + d)).toNat : Int) = 48 + (d : Int) := by
  have : (UInt8.ofNat (48 + d)).toNat = 48 + d := by
    rw [UInt8.toNat_ofNat']; omega
  omega

/-- 'string([]byte{'0' + d})'. -/
theorem one_digit_at (d : Nat) (h : d < 10) (B : Nat) (w : World) (hc : w.cell? ⟨B, 0, none⟩ = some (.int .u8 (48 + (d : Int)))) : (convert 22 9 (.slice (some ⟨B, 0, none⟩) 1 1)).run Tryd.prog w = .ok (.string ⟨(Lib.decDigits d).toArray⟩) w := by
  rw [Lib.decDigits_one h]
  refine run_convert_bytes_back (P := Tryd.prog) w 22 9 5 ⟨B, 0, none⟩ 1 [UInt8.ofNat (48 + d)] Tryd.underlying22 Tryd.underlying5 Tryd.underlying9 ?_
  intro j hj
  match j, hj with
  | 0, _ =>
    show w.cell? ⟨B, 0, none⟩ = some (.int .u8 ((UInt8.ofNat (48 + d)).toNat : Int))
    rw [hc, dd_val d h]

theorem one_digit (d : Nat) (h : d < 10) (w : World) : (convert 22 9 (.slice (some ⟨w.heap.size, 0, none⟩) 1 1)).run Tryd.prog (w.alloc (.cells #[.int .u8 (48 + (d : Int))] 5)) = .ok (.string ⟨(Lib.decDigits d).toArray⟩) (w.alloc (.cells #[.int .u8 (48 + (d : Int))] 5)) :=
  one_digit_at d h w.heap.size _ (cell_one w 5 (.int .u8 (48 + (d : Int))) 0 (.int .u8 (48 + (d : Int))) rfl)

set_option maxRecDepth 20000 in
set_option maxHeartbeats 400000 in
theorem digits_one (d : Nat) (h : d < 10) (w : World) :
    Calls Tryd.prog 63 #[.int .i64 (d : Int)] w fun e w' => e = .returned (.string ⟨(Lib.decDigits d).toArray⟩) ∧ Below w.heap.size w w' := by
  have h1 : (d : Int) < 10 := by omega
  have hcv := one_digit d h w
  go_enter Tryd.func63, Tryd.ntmps63
  go_wp2
  go_ret
  exact ⟨rfl, belowA _ _⟩

set_option maxRecDepth 20000 in
set_option maxHeartbeats 300000 in
theorem digits_step (n q d : Int) (sq sd : ByteArray) (h1 : 10 ≤ n) (e1 : n.tdiv 10 = q) (e2 : n.tmod 10 = d) (hd0 : 0 ≤ d) (hd1 : d ≤ 9) (hq0 : 0 ≤ q) (hq1 : q ≤ 6553) (hn : n ≤ 65535) (hs : sq.size + sd.size ≤ 9223372036854775807)
    (HC : Hid (∀ (B : Nat) (w : World), w.cell? ⟨B, 0, none⟩ = some (.int .u8 (48 + d)) → (convert 22 9 (.slice (some ⟨B, 0, none⟩) 1 1)).run Tryd.prog w = .ok (.string sd) w))
    (IH : Hid (∀ w, Calls Tryd.prog 63 #[.int .i64 q] w fun e w' => e = .returned (.string sq) ∧ Below w.heap.size w w')) (w : World) :
    Calls Tryd.prog 63 #[.int .i64 n] w fun e w' => e = .returned (.string (sq ++ sd)) ∧ Below w.heap.size w w' := by
  have hcv := HC.out w.heap.size ((w.alloc (.cells #[.int .u8 (48 + d)] 5)).drew) (cell_one w 5 (.int .u8 (48 + d)) 0 _ rfl)
  have g1 : IntKind.i64.wrap q = q := by rw [IntKind.wrap_i64]; omega
  have g2 : IntKind.i64.wrap (48 + d) = 48 + d := by rw [IntKind.wrap_i64]; omega
  have g3 : IntKind.u8.wrap (48 + d) = 48 + d := by rw [IntKind.wrap_u8]; omega
  go_enter Tryd.func63, Tryd.ntmps63
  go_wp2_with fail
  go_region_with (go_at_call 63; (try rw [g1]); refine (IH.out _).mono ?_; rintro e w1 ⟨rfl, b1⟩; first | have hcv2 := HC.out w.heap.size w1 (by rw [b1.cell (p := ⟨w.heap.size, 0, none⟩) (by simp)]; exact cell_one w.drew 5 _ 0 _ rfl) | have hcv3 := HC.out w1.heap.size (w1.alloc (.cells #[.int .u8 (48 + d)] 5)) (cell_one w1 5 (.int .u8 (48 + d)) 0 _ rfl))
  all_goals go_wp2_with fail
  all_goals go_ret
  · exact ⟨rfl, (thenB (Below.refl _ _).drew b1).alloc (by have := b1.size; simpa using this) _⟩
  · exact ⟨rfl, thenB (belowA w _).drew b1⟩
  · exact ⟨rfl, thenB (belowA w _).drew b1⟩

theorem dd_len (n : Nat) (h : n ≤ 65535) : (Lib.decDigits n).length ≤ 20 := by
  rw [Lib.decDigits_length]; exact Lib.nDigits_le20 n (by omega)

theorem digits_nat (n : Nat) (h : 10 ≤ n) (hn : n ≤ 65535) (ih : ∀ w, Calls Tryd.prog 63 #[.int .i64 ((n / 10 : Nat) : Int)] w fun e w' => e = .returned (.string ⟨(Lib.decDigits (n / 10)).toArray⟩) ∧ Below w.heap.size w w') (w : World) :
    Calls Tryd.prog 63 #[.int .i64 (n : Int)] w fun e w' => e = .returned (.string ⟨(Lib.decDigits n).toArray⟩) ∧ Below w.heap.size w w' := by
  have hD : Lib.decDigits n = Lib.decDigits (n / 10) ++ Lib.decDigits (n % 10) := by
    rw [Lib.decDigits, dif_neg (by omega), Lib.decDigits_one (i := n % 10) (by omega)]
  have l1 := dd_len (n / 10) (by omega)
  have l2 := dd_len (n % 10) (by omega)
  rw [hD, ← ByteArray.mk_append_mk]
  refine digits_step n ((n / 10 : Nat) : Int) ((n % 10 : Nat) : Int) ⟨(Lib.decDigits (n / 10)).toArray⟩ ⟨(Lib.decDigits (n % 10)).toArray⟩ (by omega) (by rw [Int.tdiv_eq_ediv_of_nonneg (by omega)]; omega) (by rw [Int.tmod_eq_emod_of_nonneg (by omega)]; omega) (by omega) (by omega) (by omega) (by omega) (by omega) ?_ ?_ ?_ w
  · show (Lib.decDigits (n / 10)).toArray.size + (Lib.decDigits (n % 10)).toArray.size ≤ _
    simp; omega
  · exact Hid.mk (fun B w hc => one_digit_at (n % 10) (by omega) B w hc)
  · exact Hid.mk ih

theorem digits_ok (n : Nat) (hn : n ≤ 65535) (w : World) :
    Calls Tryd.prog 63 #[.int .i64 (n : Int)] w fun e w' => e = .returned (.string ⟨(Lib.decDigits n).toArray⟩) ∧ Below w.heap.size w w' := by
  induction n using Nat.strongRecOn generalizing w with
  | _ n ih =>
    by_cases h1 : n < 10
    · exact digits_one n h1 w
    · exact digits_nat n (by omega) hn (fun w => ih (n / 10) (by omega) (by omega) w) w

end Go.Proofs.YtedippfnlaiapaaDoor

/- A term's text, of what it is made of. -/
namespace Go.Proofs.YtedippfnlaiapaaDoor
open Go.RowKit

/-- A number's text. -/
@[irreducible] def dcB (n : Int) : ByteArray := ⟨(Lib.decDigits n.toNat).toArray⟩

theorem dcB_size {n : Int} (h0 : 0 ≤ n) (h1 : n ≤ 65535) : (dcB n).size ≤ 20 := by
  unfold dcB
  show (Lib.decDigits n.toNat).toArray.size ≤ 20
  rw [List.size_toArray]
  exact dd_len _ (by omega)

/-- A term's text. -/
def Tr.tx : Tr → ByteArray
  | .leaf o n => (if o = 1 then ⟨#[110]⟩ else ⟨#[115]⟩) ++ dcB n
  | .one _ x => ⟨#[103, 40]⟩ ++ x.tx ++ ⟨#[41]⟩
  | .two o x y => if o = 3 then ⟨#[40]⟩ ++ x.tx ++ ⟨#[44]⟩ ++ y.tx ++ ⟨#[41]⟩ else if o = 4 then ⟨#[102, 40]⟩ ++ x.tx ++ ⟨#[44]⟩ ++ y.tx ++ ⟨#[41]⟩ else if o = 5 then ⟨#[123]⟩ ++ y.tx ++ ⟨#[125]⟩ ++ x.tx else ⟨#[103, 40]⟩ ++ x.tx ++ ⟨#[44]⟩ ++ y.tx ++ ⟨#[41]⟩

def Tr.Fit : Tr → Prop
  | .leaf _ n => 0 ≤ n ∧ n ≤ 9999
  | .one _ x => x.Fit
  | .two _ x y => x.Fit ∧ y.Fit

theorem mkTr_fit {t : T4} {x y : Tr} (hn : 0 ≤ t.n ∧ t.n ≤ 9999) (hx : 0 < kids t.o → x.Fit) (hy : 1 < kids t.o → y.Fit) : (mkTr t x y).Fit := by
  unfold mkTr
  rcases kids_cases t.o with h | h | h
  · rw [h]; simp only [show ¬ ((0 : Int) = 2) by decide, show ¬ ((0 : Int) = 1) by decide, if_false]; exact hn
  · rw [h]; simp only [show ¬ ((1 : Int) = 2) by decide, if_false, if_true]; exact hx (by omega)
  · rw [h, if_pos rfl]
    split
    · exact ⟨hy (by omega), hx (by omega)⟩
    · exact ⟨hx (by omega), hy (by omega)⟩

theorem den_fit {xs : List T4} (hv : tfC xs = 0) : ∀ k, k < xs.length → (den xs k).Fit := by
  intro k
  induction k using Nat.strongRecOn with
  | _ k ih =>
    intro hk
    have hA := tfC_ahead hv
    have h1 := tm_zero ((tfC_zero hv).2 k hk).1
    rw [den_at k hk hA]
    refine mkTr_fit h1.2.1 (fun e => ?_) (fun e => ?_)
    · have := (hA k hk).1 e
      exact ih _ (by omega) (by omega)
    · have := (hA k hk).2 e
      exact ih _ (by omega) (by omega)

theorem tx_size : ∀ {t : Tr}, t.Fit → t.sz ≤ 200 → (t.tx.size : Int) ≤ 24 * t.sz
  | .leaf o n, h, _ => by
    have h1 := dcB_size (n := n) h.1 (by have := h.2; omega)
    have h2 : ((⟨#[110]⟩ : ByteArray)).size = 1 := rfl
    have h3 : ((⟨#[115]⟩ : ByteArray)).size = 1 := rfl
    simp only [Tr.tx, Tr.sz]
    split <;> rw [ByteArray.size_append] <;> omega
  | .one o x, h, hs => by
    have h0 := x.sz_in
    simp only [Tr.sz] at hs
    have h1 := tx_size (t := x) h (by omega)
    have h2 : ((⟨#[103, 40]⟩ : ByteArray)).size = 2 := rfl
    have h3 : ((⟨#[41]⟩ : ByteArray)).size = 1 := rfl
    simp only [Tr.tx, Tr.sz, ByteArray.size_append, h2, h3]
    omega
  | .two o x y, h, hs => by
    have h0 := x.sz_in
    have h0' := y.sz_in
    simp only [Tr.sz] at hs
    have h1 := tx_size (t := x) h.1 (by omega)
    have h1' := tx_size (t := y) h.2 (by omega)
    have h2 : ((⟨#[103, 40]⟩ : ByteArray)).size = 2 := rfl
    have h3 : ((⟨#[41]⟩ : ByteArray)).size = 1 := rfl
    have h4 : ((⟨#[40]⟩ : ByteArray)).size = 1 := rfl
    have h5 : ((⟨#[44]⟩ : ByteArray)).size = 1 := rfl
    have h6 : ((⟨#[102, 40]⟩ : ByteArray)).size = 2 := rfl
    have h7 : ((⟨#[123]⟩ : ByteArray)).size = 1 := rfl
    have h8 : ((⟨#[125]⟩ : ByteArray)).size = 1 := rfl
    simp only [Tr.tx, Tr.sz]
    split
    · simp only [ByteArray.size_append, h3, h4, h5]; omega
    · split
      · simp only [ByteArray.size_append, h3, h5, h6]; omega
      · split
        · simp only [ByteArray.size_append, h7, h8]; omega
        · simp only [ByteArray.size_append, h2, h3, h5]; omega

/-- The text at a place. -/
@[irreducible] def txt (xs : List T4) (k : Nat) : ByteArray := (den xs k).tx

theorem txt_size {xs : List T4} (hv : tfC xs = 0) {k : Nat} (hk : k < xs.length) (hs : (den xs k).sz ≤ 200) : (txt xs k).size ≤ 4800 := by
  unfold txt
  have := tx_size (den_fit hv k hk) hs
  omega

theorem txt_den {xs ys : List T4} {i j : Nat} (h : den xs i = den ys j) : txt xs i = txt ys j := by unfold txt; rw [h]

/-- A place that a term names is of its size at most. -/
theorem sz_kid {xs : List T4} (hv : tfC xs = 0) {k : Nat} (hk : k < xs.length) {x : T4} (hx : xs.getD k zTerm = x) (hs : (den xs k).sz ≤ 200) : (0 < kids x.o → (den xs x.a.toNat).sz ≤ 200) ∧ (1 < kids x.o → (den xs x.b.toNat).sz ≤ 200) := by
  rw [sz_step k hk (tfC_ahead hv) hx] at hs
  have h1 := (den xs x.a.toNat).sz_in
  have h2 := (den xs x.b.toNat).sz_in
  refine ⟨fun e => ?_, fun e => ?_⟩
  · rw [if_pos e] at hs
    split at hs <;> omega
  · rw [if_pos e, if_pos (by omega)] at hs
    omega

/-- What a term's text is made of. -/
theorem txt_ways {xs : List T4} (hv : tfC xs = 0) {k : Nat} (hk : k < xs.length) {x : T4} (hx : xs.getD k zTerm = x) (hs : (den xs k).sz ≤ 200) :
    (x.o = 1 ∧ (0 ≤ x.n ∧ x.n ≤ 9999) ∧ txt xs k = ⟨#[110]⟩ ++ dcB x.n) ∨
    (x.o = 2 ∧ (0 ≤ x.n ∧ x.n ≤ 9999) ∧ txt xs k = ⟨#[115]⟩ ++ dcB x.n) ∨
    (∃ i : Nat, x.a = i ∧ i < k ∧ (den xs i).sz ≤ 200 ∧ x.o = 6 ∧ txt xs k = ⟨#[103, 40]⟩ ++ txt xs i ++ ⟨#[41]⟩) ∨
    (∃ i j : Nat, x.a = i ∧ i < k ∧ (den xs i).sz ≤ 200 ∧ x.b = j ∧ j < k ∧ (den xs j).sz ≤ 200 ∧ (
      (x.o = 3 ∧ txt xs k = ⟨#[40]⟩ ++ txt xs i ++ ⟨#[44]⟩ ++ txt xs j ++ ⟨#[41]⟩) ∨
      (x.o = 4 ∧ txt xs k = ⟨#[102, 40]⟩ ++ txt xs i ++ ⟨#[44]⟩ ++ txt xs j ++ ⟨#[41]⟩) ∨
      (x.o = 5 ∧ txt xs k = ⟨#[123]⟩ ++ txt xs j ++ ⟨#[125]⟩ ++ txt xs i) ∨
      (x.o = 7 ∧ (xs.getD j zTerm).n < (xs.getD i zTerm).n ∧ txt xs k = ⟨#[103, 40]⟩ ++ txt xs j ++ ⟨#[44]⟩ ++ txt xs i ++ ⟨#[41]⟩) ∨
      (x.o = 7 ∧ ¬ (xs.getD j zTerm).n < (xs.getD i zTerm).n ∧ txt xs k = ⟨#[103, 40]⟩ ++ txt xs i ++ ⟨#[44]⟩ ++ txt xs j ++ ⟨#[41]⟩))) := by
  have hA := tfC_ahead hv
  have N := tfC_nice hv
  have h1 := tm_zero ((tfC_zero hv).2 k hk).1
  have ho := h1.1
  have hn := h1.2.1
  obtain ⟨s1, s2⟩ := sz_kid hv hk hx hs
  obtain ⟨k1, k2⟩ := hA k hk
  have R := N.rise k hk
  have hd := den_at k hk hA
  rw [hx] at ho hn k1 k2 R hd
  clear h1 hs
  unfold txt
  rw [hd]
  unfold mkTr
  rcases kids_ways x.o with ⟨e, q⟩ | ⟨e, q⟩ | ⟨e, q⟩ | ⟨e, q⟩ | ⟨e, q⟩ | ⟨e3, e4, e5, e7, e6, q⟩
  iterate 4
    · obtain ⟨a1, a2⟩ := k1 (by omega)
      obtain ⟨b1, b2⟩ := k2 (by omega)
      refine .inr (.inr (.inr ⟨x.a.toNat, x.b.toNat, by omega, by omega, s1 (by omega), by omega, by omega, s2 (by omega), ?_⟩))
      rw [if_pos q]
      first
        | (refine .inl ⟨e, ?_⟩; rw [if_neg (by omega), e]; rfl)
        | (refine .inr (.inl ⟨e, ?_⟩); rw [if_neg (by omega), e]; rfl)
        | (refine .inr (.inr (.inl ⟨e, ?_⟩)); rw [if_neg (by omega), e]; rfl)
        | (obtain ⟨r1, r2, _⟩ := R e
           unfold tmAt at r1 r2
           have f1 := den_fresh x.a.toNat (by omega) hA r1
           have f2 := den_fresh x.b.toNat (by omega) hA r2
           have g1 : (den xs x.a.toNat).num = (xs.getD x.a.toNat zTerm).n := by rw [f1]; rfl
           have g2 : (den xs x.b.toNat).num = (xs.getD x.b.toNat zTerm).n := by rw [f2]; rfl
           rw [g1, g2]
           by_cases hlt : (xs.getD x.b.toNat zTerm).n < (xs.getD x.a.toNat zTerm).n
           · refine .inr (.inr (.inr (.inl ⟨e, hlt, ?_⟩)))
             rw [if_pos ⟨e, hlt⟩, e]; rfl
           · refine .inr (.inr (.inr (.inr ⟨e, hlt, ?_⟩)))
             rw [if_neg (fun h => hlt h.2), e]; rfl)
  · obtain ⟨a1, a2⟩ := k1 (by omega)
    refine .inr (.inr (.inl ⟨x.a.toNat, by omega, by omega, s1 (by omega), e, ?_⟩))
    rw [if_neg (by omega), if_pos q]; rfl
  · have e2 : x.o = 1 ∨ x.o = 2 := by omega
    rw [if_neg (by omega), if_neg (by omega)]
    rcases e2 with e2 | e2
    · exact .inl ⟨e2, hn, by rw [e2]; rfl⟩
    · exact .inr (.inl ⟨e2, hn, by rw [e2]; rfl⟩)

end Go.Proofs.YtedippfnlaiapaaDoor

/- The places told; a list of two turned. -/
namespace Go.Proofs.YtedippfnlaiapaaDoor
open Go.RowKit

theorem grownSetI (w : World) (p : Addr) (v : Value) : w.grownBy (w.setCell p v) (some p.block) :=
  ⟨rfl, rfl, rfl, by simp [World.setCell], fun k _ hk => Below.heap_setCell _ _ _ _ (fun e => hk (by rw [e]))⟩

theorem OwnI.store {w : World} {base g cap : Nat} {zs : List Int} (h : Own .i64 2 w base (some ⟨g, 0, Option.none⟩) cap zs) (j : Nat) (u : Int) : Own .i64 2 (w.setCell ⟨g, j, Option.none⟩ (.int .i64 u)) base (some ⟨g, 0, Option.none⟩) cap (zs.set j u) := by
  have h2 := (h.stored j (.int .i64 u)).1
  rw [set_map] at h2
  exact Own.mk h2 (by simp)

theorem OwnI.cellAt {w : World} {base g cap : Nat} {zs : List Int} (h : Own .i64 2 w base (some ⟨g, 0, Option.none⟩) cap zs) (j : Nat) (hj : j < zs.length) : w.cell? ⟨g, j, Option.none⟩ = some (.int .i64 (zs.getD j 0)) := by
  rw [World.ownsRow.cellAt h j (by simpa using hj)]
  simp [List.getD, hj]

set_option maxRecDepth 20000 in
set_option maxHeartbeats 4000000 in
theorem reverse2_ok (base g cap : Nat) (u v : Int) (w : World) (O : Own .i64 2 w base (some ⟨g, 0, none⟩) cap [u, v]) :
    Calls Tryd.prog 68 #[.slice (some ⟨g, 0, none⟩) 2 cap] w fun e w' => e = .returned (.tuple #[]) ∧ Own .i64 2 w' base (some ⟨g, 0, none⟩) cap [v, u] ∧ w.grownBy w' (some g) := by
  have O0 := Hid.mk O
  clear O
  go_enter Tryd.func68, Tryd.ntmps68
  go_wp2
  go_loopw [2, 3] (fun i j wr => (i = .int .i64 0 ∧ j = .int .i64 1 ∧ wr = w) ∨ (i = .int .i64 1 ∧ j = .int .i64 0 ∧ Own .i64 2 wr base (some ⟨g, 0, none⟩) cap [v, u] ∧ w.grownBy wr (some g))) (fun i _ _ => 2 - (intOf i).toNat)
  case atStart => exact .inl ⟨rfl, rfl, rfl⟩
  case round =>
    rcases hrel with ⟨rfl, rfl, hww⟩ | ⟨rfl, rfl, O, G⟩
    · subst hww
      have O := O0.out
      have G := World.grownBy.refl wr (some g)
      go_upto_region 3 with fail
      refine wp_region_any (by kernel_rfl) ?_
      change wpAny _ _ _ _ _ _ _ wr.drew
      have bd : Below wr.heap.size wr wr.drew := (Below.refl _ _).drew
      replace O := O.kept bd
      replace G := grownBy_trans G (Below.grownBy bd _)
      clear bd
      generalize wr.drew = wd at *
      refine wpAny_take (i := 0) (oi := _) (v := ?vtt1) rfl (by kernel_rfl) (by kernel_rfl) (by kernel_rfl) (fun _ _ _ h => h) (Or.inl ⟨by rfl, ?hytt1⟩) ?resttt1
      case hytt1 => (intro w; go_simp; first | done | with_reducible rfl)
      try simp only [Act.put, List.getElem_toArray, List.getElem_cons_zero, List.setIfInBounds_toArray, List.set_cons_zero, List.set_cons_succ]
      refine wpAny_take (i := 1) (oi := _) (v := ?vtt2) rfl (by kernel_rfl) (by kernel_rfl) (by kernel_rfl) (fun _ _ _ h => h) (Or.inl ⟨by rfl, ?hytt2⟩) ?resttt2
      case hytt2 => (intro w; go_simp; first | done | with_reducible rfl)
      try simp only [Act.put, List.getElem_toArray, List.getElem_cons_zero, List.getElem_cons_succ, List.setIfInBounds_toArray, List.set_cons_zero, List.set_cons_succ]
      refine wpAny_take (i := 4) (oi := _) (v := ?vtt3) rfl (by kernel_rfl) (by kernel_rfl) (by kernel_rfl) (fun _ _ _ h => h) (Or.inl ⟨by rfl, ?hytt3⟩) ?resttt3
      case hytt3 => (intro w; go_simp; first | done | with_reducible rfl)
      try simp only [Act.put, List.getElem_toArray, List.getElem_cons_zero, List.getElem_cons_succ, List.setIfInBounds_toArray, List.set_cons_zero, List.set_cons_succ]
      refine wpAny_take (i := 5) (oi := _) (v := ?vtt4) rfl (by kernel_rfl) (by kernel_rfl) (by kernel_rfl) (fun _ _ _ h => h) (Or.inl ⟨by rfl, ?hytt4⟩) ?resttt4
      case hytt4 => (intro w; go_simp; first | done | with_reducible rfl)
      try simp only [Act.put, List.getElem_toArray, List.getElem_cons_zero, List.getElem_cons_succ, List.setIfInBounds_toArray, List.set_cons_zero, List.set_cons_succ]
      refine wpAny_take (i := 6) (oi := _) (v := ?vtt5) rfl (by kernel_rfl) (by kernel_rfl) (by kernel_rfl) (fun _ _ _ h => h) (Or.inl ⟨by rfl, ?hytt5⟩) ?resttt5
      case hytt5 => (intro w; go_simp; first | done | with_reducible rfl)
      try simp only [Act.put, List.getElem_toArray, List.getElem_cons_zero, List.getElem_cons_succ, List.setIfInBounds_toArray, List.set_cons_zero, List.set_cons_succ]
      refine wpAny_take (i := 2) (oi := _) (v := ?vtt6) rfl (by kernel_rfl) (by kernel_rfl) (by kernel_rfl) (fun _ _ _ h => h) (Or.inl ⟨by rfl, ?hytt6⟩) ?resttt6
      case hytt6 => (intro w; go_simp; first | done | with_reducible rfl)
      try simp only [Act.put, List.getElem_toArray, List.getElem_cons_zero, List.getElem_cons_succ, List.setIfInBounds_toArray, List.set_cons_zero, List.set_cons_succ]
      refine wpAny_take (i := 3) (oi := _) (v := ?vtt7) rfl (by kernel_rfl) (by kernel_rfl) (by kernel_rfl) (fun _ _ _ h => h) (Or.inl ⟨by rfl, ?hytt7⟩) ?resttt7
      case hytt7 => (intro w; go_simp; first | done | with_reducible rfl)
      try simp only [Act.put, List.getElem_toArray, List.getElem_cons_zero, List.getElem_cons_succ, List.setIfInBounds_toArray, List.set_cons_zero, List.set_cons_succ]
      refine wpAny_take (i := 8) (oi := _) (v := ?vtt8) rfl (by kernel_rfl) (by kernel_rfl) (by kernel_rfl) (fun _ _ _ h => h) (Or.inl ⟨by rfl, ?hytt8⟩) ?resttt8
      case hytt8 => (intro w; go_simp; first | done | with_reducible rfl)
      try simp only [Act.put, List.getElem_toArray, List.getElem_cons_zero, List.getElem_cons_succ, List.setIfInBounds_toArray, List.set_cons_zero, List.set_cons_succ]
      refine wpAny_take (i := 9) (oi := _) (v := ?vtt9) rfl (by kernel_rfl) (by kernel_rfl) (by kernel_rfl) (fun _ _ _ h => h) (Or.inl ⟨by rfl, ?hytt9⟩) ?resttt9
      case hytt9 => (intro w; go_simp; first | done | with_reducible rfl)
      try simp only [Act.put, List.getElem_toArray, List.getElem_cons_zero, List.getElem_cons_succ, List.setIfInBounds_toArray, List.set_cons_zero, List.set_cons_succ]
      refine wpAny_take (i := 10) (oi := _) (v := ?vtt10) rfl (by kernel_rfl) (by kernel_rfl) (by kernel_rfl) (fun _ _ _ h => h) (Or.inl ⟨by rfl, ?hytt10⟩) ?resttt10
      case hytt10 => (intro w; go_simp; first | done | with_reducible rfl)
      try simp only [Act.put, List.getElem_toArray, List.getElem_cons_zero, List.getElem_cons_succ, List.setIfInBounds_toArray, List.set_cons_zero, List.set_cons_succ]
      refine wpAny_ready (rs := [7, 11]) (by kernel_rfl) (by simp) ?_
      refine AllReady.cons (o := _) rfl (fun K0 hK0 => ?_) (AllReady.cons (o := _) rfl (fun K0 hK0 => ?_) AllReady.nil)
      · skip
        have c1 := OwnI.cellAt O 1 (by simp)
        simp only [List.getD_cons_zero, List.getD_cons_succ] at c1
        go_simp
        refine hK0 _ _ ?_
        clear hK0 K0 c1
        try simp only [Act.put, List.getElem_toArray, List.getElem_cons_zero, List.getElem_cons_succ, List.setIfInBounds_toArray, List.set_cons_zero, List.set_cons_succ]
        refine wpAny_ready (rs := [11]) (by kernel_rfl) (by simp) ?_
        refine AllReady.cons (o := _) rfl (fun K0 hK0 => ?_) AllReady.nil
        have c1 := OwnI.cellAt O 0 (by simp)
        simp only [List.getD_cons_zero] at c1
        go_simp
        refine hK0 _ _ ?_
        clear hK0 K0 c1
        try simp only [Act.put, List.getElem_toArray, List.getElem_cons_zero, List.getElem_cons_succ, List.setIfInBounds_toArray, List.set_cons_zero, List.set_cons_succ]
        refine wpAny_take (i := 12) (oi := _) (v := ?vtt11) rfl (by kernel_rfl) (by kernel_rfl) (by kernel_rfl) (fun _ _ _ h => h) (Or.inl ⟨by rfl, ?hytt11⟩) ?resttt11
        case hytt11 => (intro w; go_simp; first | done | with_reducible rfl)
        try simp only [Act.put, List.getElem_toArray, List.getElem_cons_zero, List.getElem_cons_succ, List.setIfInBounds_toArray, List.set_cons_zero, List.set_cons_succ]
        refine wpAny_ready (rs := [13]) (by kernel_rfl) (by simp) ?_
        refine AllReady.cons (o := _) rfl (fun K0 hK0 => ?_) AllReady.nil
        have c1 := OwnI.cellAt O 0 (by simp)
        have zF := World.ownsRow.frozenAt O 0
        simp only [List.getD_cons_zero] at c1
        go_simp
        refine hK0 _ _ ?_
        clear hK0 K0 c1 zF
        try simp only [Act.put, List.getElem_toArray, List.getElem_cons_zero, List.getElem_cons_succ, List.setIfInBounds_toArray, List.set_cons_zero, List.set_cons_succ]
        replace O := OwnI.store O 0 v
        simp only [List.set_cons_zero] at O
        replace G := grownBy_trans G (grownSetI wd ⟨g, 0, none⟩ (.int .i64 v))
        generalize wd.setCell ⟨g, 0, none⟩ (.int .i64 v) = ws1 at *
        refine wpAny_take (i := 14) (oi := _) (v := ?vtt12) rfl (by kernel_rfl) (by kernel_rfl) (by kernel_rfl) (fun _ _ _ h => h) (Or.inl ⟨by rfl, ?hytt12⟩) ?resttt12
        case hytt12 => (intro w; go_simp; first | done | with_reducible rfl)
        try simp only [Act.put, List.getElem_toArray, List.getElem_cons_zero, List.getElem_cons_succ, List.setIfInBounds_toArray, List.set_cons_zero, List.set_cons_succ]
        refine wpAny_ready (rs := [15]) (by kernel_rfl) (by simp) ?_
        refine AllReady.cons (o := _) rfl (fun K0 hK0 => ?_) AllReady.nil
        have c1 := OwnI.cellAt O 1 (by simp)
        have zF := World.ownsRow.frozenAt O 1
        simp only [List.getD_cons_zero, List.getD_cons_succ] at c1
        go_simp
        refine hK0 _ _ ?_
        clear hK0 K0 c1 zF
        try simp only [Act.put, List.getElem_toArray, List.getElem_cons_zero, List.getElem_cons_succ, List.setIfInBounds_toArray, List.set_cons_zero, List.set_cons_succ]
        replace O := OwnI.store O 1 u
        simp only [List.set_cons_zero, List.set_cons_succ] at O
        replace G := grownBy_trans G (grownSetI ws1 ⟨g, 1, none⟩ (.int .i64 u))
        generalize ws1.setCell ⟨g, 1, none⟩ (.int .i64 u) = ws2 at *
        refine wpAny_done (by kernel_rfl) ?_ _
        have O9 := Hid.mk O
        have G9 := Hid.mk G
        clear O G
        go_wp2
        go_roundw
        case rel => exact .inr ⟨rfl, rfl, O9.out, G9.out⟩
        case measure => (simp [intOf])
      · skip
        have c1 := OwnI.cellAt O 0 (by simp)
        simp only [List.getD_cons_zero] at c1
        go_simp
        refine hK0 _ _ ?_
        clear hK0 K0 c1
        try simp only [Act.put, List.getElem_toArray, List.getElem_cons_zero, List.getElem_cons_succ, List.setIfInBounds_toArray, List.set_cons_zero, List.set_cons_succ]
        refine wpAny_ready (rs := [7]) (by kernel_rfl) (by simp) ?_
        refine AllReady.cons (o := _) rfl (fun K0 hK0 => ?_) AllReady.nil
        have c1 := OwnI.cellAt O 1 (by simp)
        simp only [List.getD_cons_zero, List.getD_cons_succ] at c1
        go_simp
        refine hK0 _ _ ?_
        clear hK0 K0 c1
        try simp only [Act.put, List.getElem_toArray, List.getElem_cons_zero, List.getElem_cons_succ, List.setIfInBounds_toArray, List.set_cons_zero, List.set_cons_succ]
        refine wpAny_take (i := 12) (oi := _) (v := ?vtt13) rfl (by kernel_rfl) (by kernel_rfl) (by kernel_rfl) (fun _ _ _ h => h) (Or.inl ⟨by rfl, ?hytt13⟩) ?resttt13
        case hytt13 => (intro w; go_simp; first | done | with_reducible rfl)
        try simp only [Act.put, List.getElem_toArray, List.getElem_cons_zero, List.getElem_cons_succ, List.setIfInBounds_toArray, List.set_cons_zero, List.set_cons_succ]
        refine wpAny_ready (rs := [13]) (by kernel_rfl) (by simp) ?_
        refine AllReady.cons (o := _) rfl (fun K0 hK0 => ?_) AllReady.nil
        have c1 := OwnI.cellAt O 0 (by simp)
        have zF := World.ownsRow.frozenAt O 0
        simp only [List.getD_cons_zero] at c1
        go_simp
        refine hK0 _ _ ?_
        clear hK0 K0 c1 zF
        try simp only [Act.put, List.getElem_toArray, List.getElem_cons_zero, List.getElem_cons_succ, List.setIfInBounds_toArray, List.set_cons_zero, List.set_cons_succ]
        replace O := OwnI.store O 0 v
        simp only [List.set_cons_zero] at O
        replace G := grownBy_trans G (grownSetI wd ⟨g, 0, none⟩ (.int .i64 v))
        generalize wd.setCell ⟨g, 0, none⟩ (.int .i64 v) = ws1 at *
        refine wpAny_take (i := 14) (oi := _) (v := ?vtt14) rfl (by kernel_rfl) (by kernel_rfl) (by kernel_rfl) (fun _ _ _ h => h) (Or.inl ⟨by rfl, ?hytt14⟩) ?resttt14
        case hytt14 => (intro w; go_simp; first | done | with_reducible rfl)
        try simp only [Act.put, List.getElem_toArray, List.getElem_cons_zero, List.getElem_cons_succ, List.setIfInBounds_toArray, List.set_cons_zero, List.set_cons_succ]
        refine wpAny_ready (rs := [15]) (by kernel_rfl) (by simp) ?_
        refine AllReady.cons (o := _) rfl (fun K0 hK0 => ?_) AllReady.nil
        have c1 := OwnI.cellAt O 1 (by simp)
        have zF := World.ownsRow.frozenAt O 1
        simp only [List.getD_cons_zero, List.getD_cons_succ] at c1
        go_simp
        refine hK0 _ _ ?_
        clear hK0 K0 c1 zF
        try simp only [Act.put, List.getElem_toArray, List.getElem_cons_zero, List.getElem_cons_succ, List.setIfInBounds_toArray, List.set_cons_zero, List.set_cons_succ]
        replace O := OwnI.store O 1 u
        simp only [List.set_cons_zero, List.set_cons_succ] at O
        replace G := grownBy_trans G (grownSetI ws1 ⟨g, 1, none⟩ (.int .i64 u))
        generalize ws1.setCell ⟨g, 1, none⟩ (.int .i64 u) = ws2 at *
        refine wpAny_done (by kernel_rfl) ?_ _
        have O9 := Hid.mk O
        have G9 := Hid.mk G
        clear O G
        go_wp2
        go_roundw
        case rel => exact .inr ⟨rfl, rfl, O9.out, G9.out⟩
        case measure => (simp [intOf])
    · have O9 := Hid.mk O
      have G9 := Hid.mk G
      clear O G
      go_wp2
      go_end0
      exact ⟨rfl, O9.out, G9.out⟩

/-- The places that a term names, in the order in which they are told. -/
@[irreducible] def plD (xs : List T4) (x : T4) : List Int := if x.o = 7 ∧ (xs.getD x.b.toNat zTerm).n < (xs.getD x.a.toNat zTerm).n then [x.b, x.a] else plc x

theorem plD_len (xs : List T4) (x : T4) : (plD xs x).length = (plc x).length := by
  unfold plD
  split
  · rename_i h
    unfold plc
    rw [h.1, kids7]; rfl
  · rfl

theorem plD_small (xs : List T4) (x : T4) : (plD xs x).length ≤ 2 := by
  rw [plD_len]; unfold plc
  split
  · simp
  · split <;> simp

theorem plD_in {xs : List T4} (hv : tfC xs = 0) {k : Nat} (hk : k < xs.length) {x : T4} (hx : xs.getD k zTerm = x) (hs : (den xs k).sz ≤ 200) : ∀ p ∈ plD xs x, ∃ i : Nat, p = i ∧ i < k ∧ (den xs i).sz ≤ 200 := by
  have h1 := plc_ahead k hk (tfC_ahead hv) hx
  obtain ⟨s1, s2⟩ := sz_kid hv hk hx hs
  have h2 : ∀ p ∈ plD xs x, p ∈ plc x := by
    intro p hp
    unfold plD at hp
    split at hp
    · rename_i h
      unfold plc
      rw [h.1, kids7, if_pos rfl]
      simp only [List.mem_cons, List.not_mem_nil, or_false] at hp ⊢
      omega
    · exact hp
  intro p hp
  have h3 := h2 p hp
  have h4 := h1 p h3
  refine ⟨p.toNat, by omega, by omega, ?_⟩
  unfold plc at h3
  rcases kids_cases x.o with q | q | q
  · rw [q] at h3; simp at h3
  · rw [q] at h3; simp at h3; subst h3; exact s1 (by omega)
  · rw [q] at h3; simp at h3
    rcases h3 with rfl | rfl
    · exact s1 (by omega)
    · exact s2 (by omega)

/-- The texts of the places told. -/
@[irreducible] def tsL (xs : List T4) (x : T4) : List ByteArray := (plD xs x).map fun p => txt xs p.toNat

theorem tsL_len (xs : List T4) (x : T4) : (tsL xs x).length = (plD xs x).length := by unfold tsL; simp

theorem tsL_next (xs : List T4) (x : T4) (q : Nat) (hq : q < (plD xs x).length) {i : Nat} (hi : (plD xs x).getD q 0 = (i : Int)) : (tsL xs x).take (q + 1) = (tsL xs x).take q ++ [txt xs i] := by
  rw [List.take_add_one]
  congr 1
  unfold tsL
  rw [List.getElem?_map, igetD_some hq, hi]
  simp

/-- What a term's text is made of, in the order told. -/
theorem words_ways {xs : List T4} (hv : tfC xs = 0) {k : Nat} (hk : k < xs.length) {x : T4} (hx : xs.getD k zTerm = x) (hs : (den xs k).sz ≤ 200) :
    (x.o = 1 ∧ (0 ≤ x.n ∧ x.n ≤ 9999) ∧ txt xs k = ⟨#[110]⟩ ++ dcB x.n) ∨
    (x.o = 2 ∧ (0 ≤ x.n ∧ x.n ≤ 9999) ∧ txt xs k = ⟨#[115]⟩ ++ dcB x.n) ∨
    (∃ A : ByteArray, A.size ≤ 4800 ∧ tsL xs x = [A] ∧ x.o = 6 ∧ txt xs k = ⟨#[103, 40]⟩ ++ A ++ ⟨#[41]⟩) ∨
    (∃ A D : ByteArray, A.size ≤ 4800 ∧ D.size ≤ 4800 ∧ tsL xs x = [A, D] ∧ (
      (x.o = 3 ∧ txt xs k = ⟨#[40]⟩ ++ (A ++ ⟨#[44]⟩ ++ D) ++ ⟨#[41]⟩) ∨
      (x.o = 4 ∧ txt xs k = ⟨#[102, 40]⟩ ++ (A ++ ⟨#[44]⟩ ++ D) ++ ⟨#[41]⟩) ∨
      (x.o = 5 ∧ txt xs k = ⟨#[123]⟩ ++ D ++ ⟨#[125]⟩ ++ A) ∨
      (x.o = 7 ∧ txt xs k = ⟨#[103, 40]⟩ ++ (A ++ ⟨#[44]⟩ ++ D) ++ ⟨#[41]⟩))) := by
  have two : ∀ {i j : Nat}, x.a = i → x.b = j → kids x.o = 2 → ¬ (x.o = 7 ∧ (xs.getD j zTerm).n < (xs.getD i zTerm).n) → tsL xs x = [txt xs i, txt xs j] := fun {i j} e1 e2 q hno => by
    unfold tsL plD plc
    rw [e1, e2, Int.toNat_natCast, Int.toNat_natCast, if_neg hno, if_pos q]
    simp
  rcases txt_ways hv hk hx hs with h | h | ⟨i, h1, h2, h3, h4, h5⟩ | ⟨i, j, h1, h2, h3, h4, h5, h6, h7⟩
  · exact .inl h
  · exact .inr (.inl h)
  · refine .inr (.inr (.inl ⟨txt xs i, txt_size hv (by omega) h3, ?_, h4, h5⟩))
    unfold tsL plD plc
    rw [if_neg (by omega), h4, kids6, if_neg (by decide), if_pos rfl, h1]
    simp
  · have s1 := txt_size hv (k := i) (by omega) h3
    have s2 := txt_size hv (k := j) (by omega) h6
    rcases h7 with ⟨e, h⟩ | ⟨e, h⟩ | ⟨e, h⟩ | ⟨e, hc, h⟩ | ⟨e, hc, h⟩
    · exact .inr (.inr (.inr ⟨_, _, s1, s2, two h1 h4 (by rw [e, kids3]) (by omega), .inl ⟨e, by rw [h]; simp only [ByteArray.append_assoc]⟩⟩))
    · exact .inr (.inr (.inr ⟨_, _, s1, s2, two h1 h4 (by rw [e, kids4]) (by omega), .inr (.inl ⟨e, by rw [h]; simp only [ByteArray.append_assoc]⟩)⟩))
    · exact .inr (.inr (.inr ⟨_, _, s1, s2, two h1 h4 (by rw [e, kids5]) (by omega), .inr (.inr (.inl ⟨e, h⟩))⟩))
    · refine .inr (.inr (.inr ⟨txt xs j, txt xs i, s2, s1, ?_, .inr (.inr (.inr ⟨e, by rw [h]; simp only [ByteArray.append_assoc]⟩))⟩))
      unfold tsL plD
      rw [h1, h4, Int.toNat_natCast, Int.toNat_natCast, if_pos ⟨e, hc⟩]
      simp
    · exact .inr (.inr (.inr ⟨_, _, s1, s2, two h1 h4 (by rw [e, kids7]) (fun h => hc h.2), .inr (.inr (.inr ⟨e, by rw [h]; simp only [ByteArray.append_assoc]⟩))⟩))

end Go.Proofs.YtedippfnlaiapaaDoor

/- The places told. -/
namespace Go.Proofs.YtedippfnlaiapaaDoor
open Go.RowKit

theorem igetD_at {w : World} {a : Option Addr} {zs : List Int} (h : Rd .i64 w a zs) (q : Nat) (hq : q < zs.length) : ∃ b o, a = some ⟨b, o, Option.none⟩ ∧ w.cell? ⟨b, o + q, Option.none⟩ = some (.int .i64 (zs.getD q 0)) := by
  rcases h with h | ⟨b, o, h, hc⟩
  · subst h; simp at hq
  · exact ⟨b, o, h, hc q hq⟩

set_option maxRecDepth 20000 in
set_option maxHeartbeats 4000000 in
theorem placesTold_ok (a : Option Addr) (n ca : Nat) (xs : List T4) (hv : tfC xs = 0) (hn : xs.length = n) (k : Nat) (hk : k < n) (x : T4) (hx : xs.getD k zTerm = x) (w : World) (ha : RdTerm w a xs) :
    Calls Tryd.prog 56 #[.slice a n ca, .agg #[.int .i64 x.o, .int .i64 x.a, .int .i64 x.b, .int .i64 x.n]] w fun e w' => ∃ c d, e = .returned (.slice c (plD xs x).length d) ∧ Own .i64 2 w' w.heap.size c d (plD xs x) ∧ Below w.heap.size w w' := by
  have ho := op_right hv k (by omega) hx
  have CP := Hid.mk (fun w => placesIn_ok x ho w)
  rw [plD_len]
  by_cases h7 : x.o = 7
  · obtain ⟨k1, k2⟩ := tfC_ahead hv k (by omega)
    rw [hx, h7, kids7] at k1 k2
    obtain ⟨a1, a2⟩ := k1 (by decide)
    obtain ⟨c1, c2⟩ := k2 (by decide)
    obtain ⟨i, hi⟩ := Int.eq_ofNat_of_zero_le a1
    obtain ⟨j, hj⟩ := Int.eq_ofNat_of_zero_le c1
    have hpl : plc x = [(i : Int), (j : Int)] := by unfold plc; rw [h7, kids7, if_pos rfl, hi, hj]
    have hpt : plD xs x = if (xs.getD j zTerm).n < (xs.getD i zTerm).n then [(j : Int), (i : Int)] else [(i : Int), (j : Int)] := by
      unfold plD
      rw [hpl, hi, hj, Int.toNat_natCast, Int.toNat_natCast]
      simp only [h7, true_and]
    rw [hpl] at CP ⊢
    rw [hpt]
    have hin : i < n := by omega
    have hjn : j < n := by omega
    have hil : (i : Int) < (n : Int) := by omega
    have hjl : (j : Int) < (n : Int) := by omega
    obtain ⟨b1, o1, rfl⟩ := RdTerm.addr ha (by omega)
    obtain ⟨yi, hyi⟩ : ∃ y, xs.getD i zTerm = y := ⟨_, rfl⟩
    obtain ⟨yj, hyj⟩ : ∃ y, xs.getD j zTerm = y := ⟨_, rfl⟩
    rw [hyi, hyj]
    have HN := Hid.mk hn
    have Hyi := Hid.mk hyi
    have Hyj := Hid.mk hyj
    obtain ⟨o, ta, tb, nn⟩ := x
    simp only at *
    subst h7
    subst hi
    subst hj
    clear hv hn hx hyi hyj hpl hpt ho k1 k2 a1 a2 c1 c2
    by_cases hc : yj.n < yi.n
    · rw [if_pos hc]
      go_enter Tryd.func56, Tryd.ntmps56
      have B := Below.refl w.heap.size w
      have Bo := B
      replace ha := ha.kept (belowA w (.cells #[.int .i64 7, .int .i64 (i : Int), .int .i64 (j : Int), .int .i64 nn] 66))
      replace B := thenB B (belowA w (.cells #[.int .i64 7, .int .i64 (i : Int), .int .i64 (j : Int), .int .i64 nn] 66))
      have VT := V.new w [.int .i64 7, .int .i64 (i : Int), .int .i64 (j : Int), .int .i64 nn] 66
      obtain ⟨s_VT, f_VT, z_VT⟩ := VT.open
      have Bo := B
      go_wp2_with fail
      refine (CP.out _).mono ?_
      rintro e w11 ⟨c, d, rfl, O, b11⟩
      clear s_VT f_VT z_VT
      have S11 := b11.size
      simp only [World.size_alloc] at S11
      replace VT := VT.kept b11
      replace ha := ha.kept b11
      replace B := thenB B b11
      clear b11
      obtain ⟨s_VT, f_VT, z_VT⟩ := VT.open
      have Bo := B
      obtain ⟨r0, r1, r2, r3⟩ := RdTerm.at ha i (by have := HN.out; omega) yi Hyi.out
      obtain ⟨t0, t1, t2, t3⟩ := RdTerm.at ha j (by have := HN.out; omega) yj Hyj.out
      clear r0 r1 r2 t0 t1 t2
      go_wp2_with fail
      go_quiet (fail)
      clear s_VT f_VT z_VT
      have bq := belowN (Below.refl (w11).heap.size (w11)) nq
      replace VT := VT.kept bq
      replace ha := ha.kept bq
      replace O := O.kept bq
      replace B := thenB B bq
      clear bq
      generalize World.drewN w11 nq = wn12 at *
      obtain ⟨s_VT, f_VT, z_VT⟩ := VT.open
      have Bo := B
      clear r3 t3
      have hc0 : ∃ g, c = some ⟨g, 0, none⟩ := by
        rcases O.2 with ⟨_, h0⟩ | ⟨g, cap', cur, hv, _⟩
        · simp at h0
        · simp only [Value.slice.injEq] at hv; exact ⟨g, hv.1⟩
      obtain ⟨gg, rfl⟩ := hc0
      have hOl := O.lt _ rfl
      simp only [World.size_alloc] at hOl
      go_wp2_with fail
      refine (reverse2_ok _ gg d (i : Int) (j : Int) _ O).mono ?_
      rintro e w9 ⟨rfl, O9, g9⟩
      clear s_VT f_VT z_VT
      have O9' := Hid.mk (O9.mono (base' := w.heap.size) (by simp only [World.size_alloc]; omega))
      have B9 := Hid.mk (belowG (c := some ⟨gg, 0, none⟩) B g9 B.size (fun b hb => by simp only [Option.some.injEq] at hb; subst hb; simp only; omega))
      clear O9 g9 B Bo VT
      go_wp2
      go_ret
      exact ⟨some ⟨gg, 0, none⟩, d, rfl, O9'.out, B9.out⟩
    · rw [if_neg hc]
      go_enter Tryd.func56, Tryd.ntmps56
      have B := Below.refl w.heap.size w
      have Bo := B
      replace ha := ha.kept (belowA w (.cells #[.int .i64 7, .int .i64 (i : Int), .int .i64 (j : Int), .int .i64 nn] 66))
      replace B := thenB B (belowA w (.cells #[.int .i64 7, .int .i64 (i : Int), .int .i64 (j : Int), .int .i64 nn] 66))
      have VT := V.new w [.int .i64 7, .int .i64 (i : Int), .int .i64 (j : Int), .int .i64 nn] 66
      obtain ⟨s_VT, f_VT, z_VT⟩ := VT.open
      have Bo := B
      go_wp2_with fail
      refine (CP.out _).mono ?_
      rintro e w31 ⟨c, d, rfl, O, b31⟩
      clear s_VT f_VT z_VT
      have S31 := b31.size
      simp only [World.size_alloc] at S31
      replace VT := VT.kept b31
      replace ha := ha.kept b31
      replace B := thenB B b31
      clear b31
      obtain ⟨s_VT, f_VT, z_VT⟩ := VT.open
      have Bo := B
      obtain ⟨r0, r1, r2, r3⟩ := RdTerm.at ha i (by have := HN.out; omega) yi Hyi.out
      obtain ⟨t0, t1, t2, t3⟩ := RdTerm.at ha j (by have := HN.out; omega) yj Hyj.out
      clear r0 r1 r2 t0 t1 t2
      go_wp2_with fail
      go_quiet (fail)
      clear s_VT f_VT z_VT
      have bq := belowN (Below.refl (w31).heap.size (w31)) nq
      replace VT := VT.kept bq
      replace ha := ha.kept bq
      replace O := O.kept bq
      replace B := thenB B bq
      clear bq
      generalize World.drewN w31 nq = wn32 at *
      obtain ⟨s_VT, f_VT, z_VT⟩ := VT.open
      have Bo := B
      clear r3 t3
      have O9' := Hid.mk (O.mono (base' := w.heap.size) (by simp only [World.size_alloc]; omega))
      go_wp2
      go_ret
      exact ⟨c, d, rfl, O9'.out, Bo⟩
  · have h8 : (x.o == 7) = false := by simp [h7]
    have hpt : plD xs x = plc x := by unfold plD; rw [if_neg (fun h => h7 h.1)]
    rw [hpt]
    clear hv hx hpt ho h7 hn hk
    go_enter Tryd.func56, Tryd.ntmps56
    have B := Below.refl w.heap.size w
    have Bo := B
    replace B := thenB B (belowA w (.cells #[.int .i64 x.o, .int .i64 x.a, .int .i64 x.b, .int .i64 x.n] 66))
    have VT := V.new w [.int .i64 x.o, .int .i64 x.a, .int .i64 x.b, .int .i64 x.n] 66
    obtain ⟨s_VT, f_VT, z_VT⟩ := VT.open
    have Bo := B
    go_wp2_with fail
    refine (CP.out _).mono ?_
    rintro e w51 ⟨c, d, rfl, O, b51⟩
    clear s_VT f_VT z_VT
    have S51 := b51.size
    simp only [World.size_alloc] at S51
    replace VT := VT.kept b51
    replace B := thenB B b51
    clear b51
    obtain ⟨s_VT, f_VT, z_VT⟩ := VT.open
    have Bo := B
    go_wp2_with fail
    go_quiet (fail)
    clear s_VT f_VT z_VT
    have bq := belowN (Below.refl (w51).heap.size (w51)) nq
    replace VT := VT.kept bq
    replace O := O.kept bq
    replace B := thenB B bq
    clear bq
    generalize World.drewN w51 nq = wn52 at *
    obtain ⟨s_VT, f_VT, z_VT⟩ := VT.open
    have Bo := B
    have O9' := Hid.mk (O.mono (base' := w.heap.size) (by simp only [World.size_alloc]; omega))
    go_wp2
    go_ret
    exact ⟨c, d, rfl, O9'.out, Bo⟩

theorem decimal_ok (n : Int) (h0 : 0 ≤ n) (h1 : n ≤ 65535) (w : World) (htab : Lib.TabIs Tryd.prog w (Rows.fnExactTermTextRow.laid.getD 2 ("", .nil)).1 .u64 Lib.pow10Tab) :
    Calls Tryd.prog 57 #[.int .i64 n] w fun e w' => e = .returned (.string (dcB n)) ∧ Below w.heap.size w w' := by
  have CF := Hid.mk (formatInt_any n (by omega) (by omega) w htab)
  have e1 : Lib.itoa n = Lib.decDigits n.toNat := by unfold Lib.itoa; rw [if_neg (by omega)]
  rw [e1] at CF
  have e2 : (⟨(Lib.decDigits n.toNat).toArray⟩ : ByteArray) = dcB n := by unfold dcB; rfl
  rw [e2] at CF
  clear e1 e2 htab
  generalize dcB n = D at *
  go_enter Tryd.func57, Tryd.ntmps57
  go_wp2_with fail
  refine CF.out.mono ?_
  rintro e w1 ⟨rfl, b1⟩
  go_wp2
  go_ret
  exact ⟨rfl, b1⟩

end Go.Proofs.YtedippfnlaiapaaDoor

/- Rows of texts: one is put behind the others. -/
namespace Go.Proofs.YtedippfnlaiapaaDoor
open Go.RowKit

theorem Tryd.infoStr : (Tryd.prog.info? 9).map (fun i => (i.zero, i.size, i.bytes)) = some (some (.string ⟨#[]⟩), 1, 16) := by kernel_rfl

/-- A row of texts that is the call's own. -/
def OwnSt (w : World) (base : Nat) (a : Option Addr) (cap : Nat) (zs : List ByteArray) : Prop :=
  w.ownsRow base 9 1 (.slice a zs.length cap) zs.length (zs.map Value.string)

theorem OwnSt.cells {w : World} {base g : Nat} {cap : Nat} {zs : List ByteArray} (h : OwnSt w base (some ⟨g, 0, none⟩) cap zs) : ∀ (j : Nat) x, zs[j]? = some x → w.cell? ⟨g, 0 + j, none⟩ = some (.string x) := by
  intro j x hj
  have hl := (List.getElem?_eq_some_iff.1 hj).1
  rw [Nat.zero_add, World.ownsRow.cellAt h j (by simpa using hl), List.getElem?_map, hj]; rfl

theorem OwnSt.lt {w : World} {base : Nat} {a : Option Addr} {cap : Nat} {zs : List ByteArray} (h : OwnSt w base a cap zs) : ∀ b, a = some b → base ≤ b.block ∧ b.block < w.heap.size := by
  intro b hb
  subst hb
  exact World.ownsRow.lt h b.block rfl

theorem OwnSt.grown {w w' : World} {base : Nat} {a : Option Addr} {cap : Nat} {zs : List ByteArray} {row : Option Nat} (h : OwnSt w base a cap zs) (hg : w.grownBy w' row) (hne : ∀ b, a = some b → row ≠ some b.block) : OwnSt w' base a cap zs := by
  refine World.ownsRow.kept h hg ?_
  cases a with
  | none => exact .inl rfl
  | some b => exact .inr fun e => hne b rfl e.symm

theorem OwnSt.kept {w w' : World} {base : Nat} {a : Option Addr} {cap : Nat} {zs : List ByteArray} (h : OwnSt w base a cap zs) (hb : Below w.heap.size w w') : OwnSt w' base a cap zs :=
  h.grown (Below.grownBy hb none) fun _ _ => by simp

theorem OwnSt.cap {w : World} {base g : Nat} {cap : Nat} {zs : List ByteArray} (h : OwnSt w base (some ⟨g, 0, none⟩) cap zs) : zs.length ≤ cap := by
  rcases h.2 with ⟨h1, _⟩ | ⟨g', cap', cur, hv, _, _, h2, _⟩
  · cases h1
  · simp only [Value.slice.injEq, Option.some.injEq, Addr.mk.injEq, and_true, true_and] at hv
    omega

theorem OwnSt.lit (w : World) (zs : List ByteArray) (vs : List Value) (hv : vs = zs.map (Value.string)) (hm : zs.length ≤ maxLen) : OwnSt (w.alloc (.cells vs.toArray 9)) w.heap.size (some ⟨w.heap.size, 0, none⟩) zs.length zs := by
  subst hv
  have h := World.ownsRow_lit (base := w.heap.size) (e := 9) (size := 1) w (zs.map (Value.string)).toArray zs.length (Nat.le_refl _) hm (by simp)
  simpa [OwnSt] using h

theorem wpList_putSt {ops : Array Oper} {rest : List Oper} {o : Oper} {a : Act} {Q : Exit → Act → World → Prop} (w : World) (hgd : o.guard = none) (s x : Operand)
    (ho : o.op = .call { callee := .builtin .append, args := #[s, x], argTypes := #[90, 90] })
    (base : Nat) (c : Option Addr) (d : Nat) (xs : List ByteArray) (n : Nat) (hn : xs.length = n) (hs : a.eval s = .slice c n d) (hown : OwnSt w base c d xs)
    (ad : Addr) (cc : Nat) (p : ByteArray) (hx : a.eval x = .slice (some ad) 1 cc) (hp : w.cell? (ad.add 0) = some (.string p))
    (hlen : n ≤ 1000000) (hbase : base ≤ w.heap.size)
    (h : ∀ c' d' w', OwnSt w' base c' d' (xs ++ [p]) → w.grownBy w' (c.map Addr.block) → Hid (∃ g, c' = some ⟨g, 0, none⟩ ∧ ((∃ a, c = some a ∧ a.block = g) ∨ g = w.heap.size) ∧ g < w'.heap.size) → wpList Tryd.prog ops Q rest (a.put o.dst (.slice c' (n + 1) d')) w') : wpList Tryd.prog ops Q (o :: rest) a w := by
  subst hn
  obtain ⟨i, hi, hz, hsz, hby⟩ : ∃ i, Tryd.prog.info? 9 = some i ∧ i.zero = some (.string ⟨#[]⟩) ∧ i.size = 1 ∧ i.bytes = 16 := by
    have h := Tryd.infoStr
    cases he : Tryd.prog.info? 9 with
    | none => rw [he] at h; cases h
    | some i =>
      rw [he] at h
      simp only [Option.map_some, Option.some.injEq, Prod.mk.injEq] at h
      exact ⟨i, rfl, h.1, h.2.1, h.2.2⟩
  refine wpList_append_lies w hgd s x 90 ho base 9 i _ 1 16 Tryd.underlying90 hi hz hsz hby (by rfl) (by decide) (.slice c xs.length d) xs.length (xs.map (Value.string)) hs hown ad 1 cc [.string p] hx rfl (fun j u hj => ?_) ?_ (by decide) (by unfold maxLen; omega) (by omega) hbase _ rfl ?_
  · match j, hj with
    | 0, hj => simp only [List.getElem?_cons_zero, Option.some.injEq] at hj; rw [← hj]; exact hp
  · intro u hu
    simp only [List.mem_cons, List.not_mem_nil, or_false] at hu
    subst hu; rfl
  · intro g cap w' h1 h2 h3 h4
    have e1 : (xs ++ [p]).length = xs.length + 1 := by simp
    have h2' : w.grownBy w' (c.map Addr.block) := by cases c <;> exact h2
    refine h _ _ w' ?_ h2' (Hid.mk ⟨g, rfl, ?_, h4⟩)
    · unfold OwnSt; rw [e1, List.map_append]; exact h1
    · rcases h3 with h3 | h3
      · left; cases c with
        | none => cases h3
        | some b => exact ⟨b, rfl, by simpa [Value.ownBlock] using h3⟩
      · exact .inr h3

end Go.Proofs.YtedippfnlaiapaaDoor

/- A term's text: the program. -/
namespace Go.Proofs.YtedippfnlaiapaaDoor
open Go.RowKit

theorem OwnSt.some {w : World} {base : Nat} {a : Option Addr} {cap : Nat} {zs : List ByteArray} (h : OwnSt w base a cap zs) (h0 : zs ≠ []) : ∃ g, a = Option.some ⟨g, 0, Option.none⟩ := by
  rcases h.2 with ⟨_, h1⟩ | ⟨g, cap', cur, hv, _⟩
  · exact absurd (List.length_eq_zero_iff.1 h1) h0
  · simp only [Value.slice.injEq] at hv
    exact ⟨g, hv.1⟩

theorem ownSt_none {w : World} {base : Nat} : OwnSt w base Option.none 0 [] := World.ownsRow_nil _ _ _ _

theorem join_one (A : ByteArray) : (⟨(Lib.join ([A].map (·.data.toList)) [44]).toArray⟩ : ByteArray) = A := by
  simp [Lib.join, List.intercalate]

theorem join_two (A D : ByteArray) : (⟨(Lib.join ([A, D].map (·.data.toList)) [44]).toArray⟩ : ByteArray) = A ++ ⟨#[44]⟩ ++ D := by
  apply ByteArray.ext
  simp [Lib.join, List.intercalate]

theorem join_size (A : ByteArray) : A.data.toList.length = A.size := by rw [Array.length_toList]; rfl

set_option maxRecDepth 20000 in
set_option maxHeartbeats 8000000 in
theorem termWords_ok (a : Option Addr) (n ca : Nat) (xs : List T4) (hv : tfC xs = 0) (hn : xs.length = n) : ∀ (k : Nat) (w : World), RdTerm w a xs → Lib.TabIs Tryd.prog w (Rows.fnExactTermTextRow.laid.getD 2 ("", .nil)).1 .u64 Lib.pow10Tab → k < n → (den xs k).sz ≤ 200 →
    Calls Tryd.prog 31 #[.slice a n ca, .int .i64 k] w fun e w' => e = .returned (.string (txt xs k)) ∧ Below w.heap.size w w' := by
  intro k
  induction k using Nat.strongRecOn with
  | _ k ih =>
  intro w ha htab hk hs
  have hT := Hid.mk (Lib.tabBelow_of_tabIs htab)
  obtain ⟨b1, o1, rfl⟩ := RdTerm.addr ha (by omega)
  have hkl : (k : Int) < (n : Int) := by omega
  obtain ⟨x, hx⟩ : ∃ x, xs.getD k zTerm = x := ⟨_, rfl⟩
  have CP := Hid.mk (fun w h => placesTold_ok (some ⟨b1, o1, none⟩) n ca xs hv hn k hk x hx w h)
  have W := Hid.mk (words_ways hv (by omega) hx hs)
  have HP := Hid.mk (plD_in hv (by omega) hx hs)
  have hm2 := plD_small xs x
  have hml := tsL_len xs x
  have HNX := Hid.mk (fun q h i hi => tsL_next xs x q h (i := i) hi)
  obtain ⟨p0, p1, p2, p3⟩ := RdTerm.at ha k (by omega) x hx
  have CI := Hid.mk (fun i (h : i < k) w h1 h2 h3 => ih i h w h1 h2 (by omega) h3)
  obtain ⟨m, hm⟩ : ∃ m, (plD xs x).length = m := ⟨_, rfl⟩
  have HM := Hid.mk hm
  rw [hm] at CP hm2 hml HNX
  replace hml := Hid.mk hml
  generalize plD xs x = ps at *
  generalize tsL xs x = ts at *
  generalize txt xs k = TX at *
  clear ih htab hv hn hx hs hm hk
  obtain ⟨o, ta, tb, nn⟩ := x
  simp only at p0 p1 p2 p3 CP W
  go_enter Tryd.func31, Tryd.ntmps31
  have B := Below.refl w.heap.size w
  have Bo := B
  replace ha := ha.kept (belowA w (.cells #[.int .i64 o, .int .i64 ta, .int .i64 tb, .int .i64 nn] 66))
  replace B := thenB B (belowA w (.cells #[.int .i64 o, .int .i64 ta, .int .i64 tb, .int .i64 nn] 66))
  have VT := V.new w [.int .i64 o, .int .i64 ta, .int .i64 tb, .int .i64 nn] 66
  obtain ⟨s_VT, f_VT, z_VT⟩ := VT.open
  have Bo := B
  go_wp2_with fail
  refine (CP.out _ ha).mono ?_
  rintro e w1 ⟨c, d, rfl, O, b1⟩
  clear s_VT f_VT z_VT
  have S1 := b1.size
  simp only [World.size_alloc] at S1
  replace VT := VT.kept b1
  replace ha := ha.kept b1
  replace B := thenB B b1
  clear b1
  obtain ⟨s_VT, f_VT, z_VT⟩ := VT.open
  have Bo := B
  have R := O.rd
  clear O
  clear s_VT f_VT z_VT
  have HV := Hid.mk VT
  have HA := Hid.mk ha
  have HR := Hid.mk R
  have HB := Hid.mk B
  clear VT ha R B Bo p0 p1 p2 p3
  go_wp2
  go_loopw [6, 17] (fun v i wr => ∃ (q : Nat) (c' : Option Addr) (d' : Nat), q ≤ m ∧ i = .int .i64 q ∧ v = .slice c' q d' ∧ OwnSt wr w1.heap.size c' d' (ts.take q) ∧ Below w1.heap.size w1 wr) (fun _ i _ => m - (intOf i).toNat)
  case atStart => exact ⟨0, none, 0, Nat.zero_le _, rfl, rfl, ownSt_none, Below.refl _ _⟩
  case round =>
    obtain ⟨q, c', d', hq, rfl, rfl, OS, B⟩ := hrel
    by_cases hlt : q < m
    · have hql : (q : Int) < (m : Int) := by omega
      obtain ⟨i, hi, hik, si⟩ := HP.out (ps.getD q 0) (igetD_mem (by rw [HM.out]; exact hlt))
      have hnx := Hid.mk (HNX.out q hlt i hi)
      have CA := Hid.mk (fun w h h2 => CI.out i hik w h h2 si)
      have R := HR.out.kept B
      obtain ⟨b2, o2, rfl, hc2⟩ := igetD_at R q (by rw [HM.out]; exact hlt)
      rw [hi] at hc2
      have hlen' : (ts.take q).length = q := by rw [List.length_take, hml.out]; omega
      clear R hi
      generalize txt xs i = A at *
      go_wp2_with fail
      refine (CA.out _ (HA.out.kept B) (hT.out _ (thenB HB.out B))).mono ?_
      rintro e w8 ⟨rfl, b8⟩
      replace OS := (OS.kept b8).kept (belowA w8 (.cells #[.string A] 9))
      replace B := thenB (thenB B b8) (belowA w8 (.cells #[.string A] 9))
      have hcA := cell_one w8 9 (.string A) 0 _ rfl
      replace hcA := Hid.mk hcA
      have hsz := B.size
      have OSl := Hid.mk OS.lt
      clear b8 hc2
      go_wp2_with (at_builtin; go_loud (refine wpList_putSt _ rfl _ _ rfl w1.heap.size c' d' (ts.take q) q hlen' rfl OS (⟨w8.heap.size, 0, none⟩) 1 A rfl hcA.out (by omega) hsz ?_))
      intro c6 d6 w6 O6 hg6 hx6
      have B6 := Hid.mk (belowG B hg6 hsz (fun b hb => (OSl.out b hb).1))
      have O6' := Hid.mk (hnx.out ▸ O6 : OwnSt w6 w1.heap.size c6 d6 (ts.take (q + 1)))
      clear OS B hcA O6 hg6 hx6 OSl
      go_wp2
      go_roundw
      case rel => exact ⟨q + 1, c6, d6, by omega, by go_num, rfl, O6'.out, B6.out⟩
      case measure => simp [intOf]; omega
    · obtain rfl : q = m := by omega
      rw [List.take_of_length_le (by rw [hml.out]; exact Nat.le_refl _)] at OS
      have VT := HV.out.kept B
      have BF := Hid.mk (thenB HB.out B)
      clear B HR CP HNX CI HP
      rcases W.out with ⟨rfl, ⟨n0, n9⟩, hT2⟩ | ⟨rfl, ⟨n0, n9⟩, hT2⟩ | ⟨A, sA, rfl, rfl, hT2⟩ | ⟨A, D, sA, sD, rfl, ⟨rfl, hT2⟩ | ⟨rfl, hT2⟩ | ⟨rfl, hT2⟩ | ⟨rfl, hT2⟩⟩
      · skip
        have CD := Hid.mk (decimal_ok nn n0 (by omega) wr (hT.out _ BF.out))
        have sD := dcB_size n0 (by omega)
        subst hT2
        have z1 : ¬ 9223372036854775807 < 1 + (dcB nn).size := by omega
        clear n0 n9 sD OS W
        obtain ⟨s_VT, f_VT, z_VT⟩ := VT.open
        go_wp2_with fail
        refine CD.out.mono ?_
        rintro e w8 ⟨rfl, b8⟩
        have B8 := Hid.mk (thenB BF.out b8)
        clear b8
        go_wp2
        go_ret
        exact ⟨rfl, B8.out⟩
      · skip
        have CD := Hid.mk (decimal_ok nn n0 (by omega) wr (hT.out _ BF.out))
        have sD := dcB_size n0 (by omega)
        subst hT2
        have z1 : ¬ 9223372036854775807 < 1 + (dcB nn).size := by omega
        clear n0 n9 sD OS W
        obtain ⟨s_VT, f_VT, z_VT⟩ := VT.open
        go_wp2_with fail
        refine CD.out.mono ?_
        rintro e w8 ⟨rfl, b8⟩
        have B8 := Hid.mk (thenB BF.out b8)
        clear b8
        go_wp2
        go_ret
        exact ⟨rfl, B8.out⟩
      · skip
        obtain ⟨gg, rfl⟩ := OS.some (by simp)
        have hjl : (Lib.join ([A].map (·.data.toList)) (⟨#[44]⟩ : ByteArray).data.toList).length ≤ 140737488355328 := by
          simp only [Lib.join, List.intercalate, List.map_cons, List.map_nil, List.intersperse, List.flatten_cons, List.flatten_nil, List.length_append, List.length_nil, join_size]
          omega
        have CJ := Hid.mk (join_any gg 0 d' [A] ⟨#[44]⟩ wr OS.cells (OS.lt _ rfl).2 (by simp) OS.cap hjl)
        rw [join_one] at CJ
        have hq2 : q = 1 := by have := hml.out; simpa using this.symm
        subst hq2
        subst hT2
        have sJ : A.size ≤ 9601 := by omega
        skip
        have z1 : ¬ 9223372036854775807 < 2 + A.size := by omega
        have z2 : ¬ 9223372036854775807 < 2 + A.size + 1 := by omega
        clear hjl OS W sJ sA
        obtain ⟨s_VT, f_VT, z_VT⟩ := VT.open
        go_wp2_with fail
        refine CJ.out.mono ?_
        rintro e w8 ⟨rfl, b8⟩
        have B8 := Hid.mk (thenB BF.out b8)
        clear b8
        go_wp2
        go_ret
        exact ⟨rfl, B8.out⟩
      · skip
        obtain ⟨gg, rfl⟩ := OS.some (by simp)
        have hjl : (Lib.join ([A, D].map (·.data.toList)) (⟨#[44]⟩ : ByteArray).data.toList).length ≤ 140737488355328 := by
          simp only [Lib.join, List.intercalate, List.map_cons, List.map_nil, List.intersperse, List.flatten_cons, List.flatten_nil, List.length_append, List.length_cons, List.length_nil, join_size]
          omega
        have CJ := Hid.mk (join_any gg 0 d' [A, D] ⟨#[44]⟩ wr OS.cells (OS.lt _ rfl).2 (by simp) OS.cap hjl)
        rw [join_two] at CJ
        have hq2 : q = 2 := by have := hml.out; simpa using this.symm
        subst hq2
        subst hT2
        generalize hJ : A ++ ⟨#[44]⟩ ++ D = J at *
        have sJ : J.size ≤ 9601 := by rw [← hJ]; rw [ByteArray.size_append, ByteArray.size_append]; have h7 : ((⟨#[44]⟩ : ByteArray)).size = 1 := rfl; omega
        replace hJ := Hid.mk hJ
        have z1 : ¬ 9223372036854775807 < 1 + J.size := by omega
        have z2 : ¬ 9223372036854775807 < 1 + J.size + 1 := by omega
        clear hjl OS W sJ sA sD
        obtain ⟨s_VT, f_VT, z_VT⟩ := VT.open
        go_wp2_with fail
        refine CJ.out.mono ?_
        rintro e w8 ⟨rfl, b8⟩
        have B8 := Hid.mk (thenB BF.out b8)
        clear b8
        go_wp2
        go_ret
        exact ⟨by rw [hJ.out]; rfl, B8.out⟩
      · skip
        obtain ⟨gg, rfl⟩ := OS.some (by simp)
        have hjl : (Lib.join ([A, D].map (·.data.toList)) (⟨#[44]⟩ : ByteArray).data.toList).length ≤ 140737488355328 := by
          simp only [Lib.join, List.intercalate, List.map_cons, List.map_nil, List.intersperse, List.flatten_cons, List.flatten_nil, List.length_append, List.length_cons, List.length_nil, join_size]
          omega
        have CJ := Hid.mk (join_any gg 0 d' [A, D] ⟨#[44]⟩ wr OS.cells (OS.lt _ rfl).2 (by simp) OS.cap hjl)
        rw [join_two] at CJ
        have hq2 : q = 2 := by have := hml.out; simpa using this.symm
        subst hq2
        subst hT2
        generalize hJ : A ++ ⟨#[44]⟩ ++ D = J at *
        have sJ : J.size ≤ 9601 := by rw [← hJ]; rw [ByteArray.size_append, ByteArray.size_append]; have h7 : ((⟨#[44]⟩ : ByteArray)).size = 1 := rfl; omega
        replace hJ := Hid.mk hJ
        have z1 : ¬ 9223372036854775807 < 2 + J.size := by omega
        have z2 : ¬ 9223372036854775807 < 2 + J.size + 1 := by omega
        clear hjl OS W sJ sA sD
        obtain ⟨s_VT, f_VT, z_VT⟩ := VT.open
        go_wp2_with fail
        refine CJ.out.mono ?_
        rintro e w8 ⟨rfl, b8⟩
        have B8 := Hid.mk (thenB BF.out b8)
        clear b8
        go_wp2
        go_ret
        exact ⟨by rw [hJ.out]; rfl, B8.out⟩
      · skip
        obtain ⟨gg, rfl⟩ := OS.some (by simp)
        have hq2 : q = 2 := by have := hml.out; simpa using this.symm
        subst hq2
        have c0 := OS.cells 0 A rfl
        have c1 := OS.cells 1 D rfl
        simp only [Nat.zero_add] at c0 c1
        subst hT2
        have z1 : ¬ 9223372036854775807 < 1 + D.size := by omega
        have z2 : ¬ 9223372036854775807 < 1 + D.size + 1 := by omega
        have z3 : ¬ 9223372036854775807 < 1 + D.size + 1 + A.size := by omega
        clear sA sD OS W
        obtain ⟨s_VT, f_VT, z_VT⟩ := VT.open
        go_wp2_with fail
        go_quiet (fail)
        have B8 := Hid.mk (belowN BF.out nq)
        go_wp2
        go_ret
        exact ⟨rfl, B8.out⟩
      · skip
        obtain ⟨gg, rfl⟩ := OS.some (by simp)
        have hjl : (Lib.join ([A, D].map (·.data.toList)) (⟨#[44]⟩ : ByteArray).data.toList).length ≤ 140737488355328 := by
          simp only [Lib.join, List.intercalate, List.map_cons, List.map_nil, List.intersperse, List.flatten_cons, List.flatten_nil, List.length_append, List.length_cons, List.length_nil, join_size]
          omega
        have CJ := Hid.mk (join_any gg 0 d' [A, D] ⟨#[44]⟩ wr OS.cells (OS.lt _ rfl).2 (by simp) OS.cap hjl)
        rw [join_two] at CJ
        have hq2 : q = 2 := by have := hml.out; simpa using this.symm
        subst hq2
        subst hT2
        generalize hJ : A ++ ⟨#[44]⟩ ++ D = J at *
        have sJ : J.size ≤ 9601 := by rw [← hJ]; rw [ByteArray.size_append, ByteArray.size_append]; have h7 : ((⟨#[44]⟩ : ByteArray)).size = 1 := rfl; omega
        replace hJ := Hid.mk hJ
        have z1 : ¬ 9223372036854775807 < 2 + J.size := by omega
        have z2 : ¬ 9223372036854775807 < 2 + J.size + 1 := by omega
        clear hjl OS W sJ sA sD
        obtain ⟨s_VT, f_VT, z_VT⟩ := VT.open
        go_wp2_with fail
        refine CJ.out.mono ?_
        rintro e w8 ⟨rfl, b8⟩
        have B8 := Hid.mk (thenB BF.out b8)
        clear b8
        go_wp2
        go_ret
        exact ⟨by rw [hJ.out]; rfl, B8.out⟩

end Go.Proofs.YtedippfnlaiapaaDoor

/- A term's text: the model. -/
namespace Go.Proofs.YtedippfnlaiapaaDoor
open Go.RowKit

theorem digN_ok (n : Int) (h0 : 0 ≤ n) (h1 : n ≤ 9999) (w : World) : Calls Tryd.prog 63 #[.int .i64 n] w fun e w' => e = .returned (.string (dcB n)) ∧ Below w.heap.size w w' := by
  obtain ⟨m, rfl⟩ := Int.eq_ofNat_of_zero_le h0
  have h := digits_ok m (by omega) w
  have e2 : (⟨(Lib.decDigits m).toArray⟩ : ByteArray) = dcB (m : Int) := by unfold dcB; rw [Int.toNat_natCast]
  rw [e2] at h
  exact h

set_option maxRecDepth 20000 in
set_option maxHeartbeats 8000000 in
theorem l5Text_ok (a : Option Addr) (n ca : Nat) (xs : List T4) (hv : tfC xs = 0) (hn : xs.length = n) : ∀ (k : Nat) (w : World), RdTerm w a xs → k < n → (den xs k).sz ≤ 200 →
    Calls Tryd.prog 36 #[.slice a n ca, .int .i64 k] w fun e w' => e = .returned (.string (txt xs k)) ∧ Below w.heap.size w w' := by
  intro k
  induction k using Nat.strongRecOn with
  | _ k ih =>
  intro w ha hk hs
  obtain ⟨b1, o1, rfl⟩ := RdTerm.addr ha (by omega)
  have hkl : (k : Int) < (n : Int) := by omega
  obtain ⟨x, hx⟩ : ∃ x, xs.getD k zTerm = x := ⟨_, rfl⟩
  have HX := Hid.mk hx
  have HN := Hid.mk hn
  have W := txt_ways hv (by omega) hx hs
  have HS := Hid.mk (fun i (h : i < n) s => txt_size hv (k := i) (by omega) s)
  replace ih := Hid.mk ih
  clear hx hs hv
  obtain ⟨o, ta, tb, nn⟩ := x
  simp only at W
  rcases W with ⟨rfl, ⟨n0, n9⟩, hT⟩ | ⟨rfl, ⟨n0, n9⟩, hT⟩ | ⟨i, rfl, hik, si, rfl, hT⟩ | ⟨i, j, rfl, hik, si, rfl, hjk, sj, ⟨rfl, hT⟩ | ⟨rfl, hT⟩ | ⟨rfl, hT⟩ | ⟨rfl, hc, hT⟩ | ⟨rfl, hc, hT⟩⟩
  · skip
    rw [hT]
    clear hT
    have CD := Hid.mk (fun w => digN_ok nn n0 n9 w)
    have sD := dcB_size n0 (by omega)
    generalize dcB nn = A at *
    have z1 : ¬ 9223372036854775807 < 1 + A.size := by omega
    clear n0 n9 ih HS
    obtain ⟨p0, p1, p2, p3⟩ := RdTerm.at ha k (by have := HN.out; omega) ⟨1, ta, tb, nn⟩ HX.out
    simp only at p0 p1 p2 p3
    go_enter Tryd.func36, Tryd.ntmps36
    have B := Below.refl w.heap.size w
    have Bo := B
    replace ha := ha.kept (belowA w (.cells #[.int .i64 1, .int .i64 ta, .int .i64 tb, .int .i64 nn] 66))
    replace B := thenB B (belowA w (.cells #[.int .i64 1, .int .i64 ta, .int .i64 tb, .int .i64 nn] 66))
    have VT := V.new w [.int .i64 1, .int .i64 ta, .int .i64 tb, .int .i64 nn] 66
    obtain ⟨s_VT, f_VT, z_VT⟩ := VT.open
    have Bo := B
    go_wp2_with fail
    refine (CD.out _).mono ?_
    rintro e w1 ⟨rfl, b1⟩
    clear s_VT f_VT z_VT
    have S1 := b1.size
    simp only [World.size_alloc] at S1
    replace VT := VT.kept b1
    replace ha := ha.kept b1
    replace B := thenB B b1
    clear b1
    obtain ⟨s_VT, f_VT, z_VT⟩ := VT.open
    have Bo := B
    go_wp2
    go_ret
    exact ⟨rfl, Bo⟩
  · skip
    rw [hT]
    clear hT
    have CD := Hid.mk (fun w => digN_ok nn n0 n9 w)
    have sD := dcB_size n0 (by omega)
    generalize dcB nn = A at *
    have z1 : ¬ 9223372036854775807 < 1 + A.size := by omega
    clear n0 n9 ih HS
    obtain ⟨p0, p1, p2, p3⟩ := RdTerm.at ha k (by have := HN.out; omega) ⟨2, ta, tb, nn⟩ HX.out
    simp only at p0 p1 p2 p3
    go_enter Tryd.func36, Tryd.ntmps36
    have B := Below.refl w.heap.size w
    have Bo := B
    replace ha := ha.kept (belowA w (.cells #[.int .i64 2, .int .i64 ta, .int .i64 tb, .int .i64 nn] 66))
    replace B := thenB B (belowA w (.cells #[.int .i64 2, .int .i64 ta, .int .i64 tb, .int .i64 nn] 66))
    have VT := V.new w [.int .i64 2, .int .i64 ta, .int .i64 tb, .int .i64 nn] 66
    obtain ⟨s_VT, f_VT, z_VT⟩ := VT.open
    have Bo := B
    go_wp2_with fail
    refine (CD.out _).mono ?_
    rintro e w101 ⟨rfl, b101⟩
    clear s_VT f_VT z_VT
    have S101 := b101.size
    simp only [World.size_alloc] at S101
    replace VT := VT.kept b101
    replace ha := ha.kept b101
    replace B := thenB B b101
    clear b101
    obtain ⟨s_VT, f_VT, z_VT⟩ := VT.open
    have Bo := B
    go_wp2
    go_ret
    exact ⟨rfl, Bo⟩
  · skip
    rw [hT]
    clear hT
    have CA := Hid.mk (fun w h => ih.out i hik w h (by omega) si)
    have sA := HS.out i (by omega) si
    generalize txt xs i = A at *
    clear ih HS si
    have z1 : ¬ 9223372036854775807 < 2 + A.size := by omega
    have z2 : ¬ 9223372036854775807 < 2 + A.size + 1 := by omega
    clear sA
    obtain ⟨p0, p1, p2, p3⟩ := RdTerm.at ha k (by have := HN.out; omega) ⟨6, (i : Int), tb, nn⟩ HX.out
    simp only at p0 p1 p2 p3
    go_enter Tryd.func36, Tryd.ntmps36
    have B := Below.refl w.heap.size w
    have Bo := B
    replace ha := ha.kept (belowA w (.cells #[.int .i64 6, .int .i64 (i : Int), .int .i64 tb, .int .i64 nn] 66))
    replace B := thenB B (belowA w (.cells #[.int .i64 6, .int .i64 (i : Int), .int .i64 tb, .int .i64 nn] 66))
    have VT := V.new w [.int .i64 6, .int .i64 (i : Int), .int .i64 tb, .int .i64 nn] 66
    obtain ⟨s_VT, f_VT, z_VT⟩ := VT.open
    have Bo := B
    go_wp2_with fail
    refine (CA.out _ ha).mono ?_
    rintro e w201 ⟨rfl, b201⟩
    clear s_VT f_VT z_VT
    have S201 := b201.size
    simp only [World.size_alloc] at S201
    replace VT := VT.kept b201
    replace ha := ha.kept b201
    replace B := thenB B b201
    clear b201
    obtain ⟨s_VT, f_VT, z_VT⟩ := VT.open
    have Bo := B
    go_wp2
    go_ret
    exact ⟨rfl, Bo⟩
  · skip
    rw [hT]
    clear hT
    have CA := Hid.mk (fun w h => ih.out i hik w h (by omega) si)
    have sA := HS.out i (by omega) si
    have CB := Hid.mk (fun w h => ih.out j hjk w h (by omega) sj)
    have sB := HS.out j (by omega) sj
    generalize txt xs i = A at *
    generalize txt xs j = D at *
    clear ih HS si sj
    have z1 : ¬ 9223372036854775807 < 1 + A.size := by omega
    have z2 : ¬ 9223372036854775807 < 1 + A.size + 1 := by omega
    have z3 : ¬ 9223372036854775807 < 1 + A.size + 1 + D.size := by omega
    have z4 : ¬ 9223372036854775807 < 1 + A.size + 1 + D.size + 1 := by omega
    clear sA sB
    obtain ⟨p0, p1, p2, p3⟩ := RdTerm.at ha k (by have := HN.out; omega) ⟨3, (i : Int), (j : Int), nn⟩ HX.out
    simp only at p0 p1 p2 p3
    go_enter Tryd.func36, Tryd.ntmps36
    have B := Below.refl w.heap.size w
    have Bo := B
    replace ha := ha.kept (belowA w (.cells #[.int .i64 3, .int .i64 (i : Int), .int .i64 (j : Int), .int .i64 nn] 66))
    replace B := thenB B (belowA w (.cells #[.int .i64 3, .int .i64 (i : Int), .int .i64 (j : Int), .int .i64 nn] 66))
    have VT := V.new w [.int .i64 3, .int .i64 (i : Int), .int .i64 (j : Int), .int .i64 nn] 66
    obtain ⟨s_VT, f_VT, z_VT⟩ := VT.open
    have Bo := B
    go_wp2_with fail
    refine (CA.out _ ha).mono ?_
    rintro e w301 ⟨rfl, b301⟩
    clear s_VT f_VT z_VT
    have S301 := b301.size
    simp only [World.size_alloc] at S301
    replace VT := VT.kept b301
    replace ha := ha.kept b301
    replace B := thenB B b301
    clear b301
    obtain ⟨s_VT, f_VT, z_VT⟩ := VT.open
    have Bo := B
    go_wp2_with fail
    refine (CB.out _ ha).mono ?_
    rintro e w302 ⟨rfl, b302⟩
    clear s_VT f_VT z_VT
    have S302 := b302.size
    replace VT := VT.kept b302
    replace ha := ha.kept b302
    replace B := thenB B b302
    clear b302
    obtain ⟨s_VT, f_VT, z_VT⟩ := VT.open
    have Bo := B
    go_wp2
    go_ret
    exact ⟨rfl, Bo⟩
  · skip
    rw [hT]
    clear hT
    have CA := Hid.mk (fun w h => ih.out i hik w h (by omega) si)
    have sA := HS.out i (by omega) si
    have CB := Hid.mk (fun w h => ih.out j hjk w h (by omega) sj)
    have sB := HS.out j (by omega) sj
    generalize txt xs i = A at *
    generalize txt xs j = D at *
    clear ih HS si sj
    have z1 : ¬ 9223372036854775807 < 2 + A.size := by omega
    have z2 : ¬ 9223372036854775807 < 2 + A.size + 1 := by omega
    have z3 : ¬ 9223372036854775807 < 2 + A.size + 1 + D.size := by omega
    have z4 : ¬ 9223372036854775807 < 2 + A.size + 1 + D.size + 1 := by omega
    clear sA sB
    obtain ⟨p0, p1, p2, p3⟩ := RdTerm.at ha k (by have := HN.out; omega) ⟨4, (i : Int), (j : Int), nn⟩ HX.out
    simp only at p0 p1 p2 p3
    go_enter Tryd.func36, Tryd.ntmps36
    have B := Below.refl w.heap.size w
    have Bo := B
    replace ha := ha.kept (belowA w (.cells #[.int .i64 4, .int .i64 (i : Int), .int .i64 (j : Int), .int .i64 nn] 66))
    replace B := thenB B (belowA w (.cells #[.int .i64 4, .int .i64 (i : Int), .int .i64 (j : Int), .int .i64 nn] 66))
    have VT := V.new w [.int .i64 4, .int .i64 (i : Int), .int .i64 (j : Int), .int .i64 nn] 66
    obtain ⟨s_VT, f_VT, z_VT⟩ := VT.open
    have Bo := B
    go_wp2_with fail
    refine (CA.out _ ha).mono ?_
    rintro e w401 ⟨rfl, b401⟩
    clear s_VT f_VT z_VT
    have S401 := b401.size
    simp only [World.size_alloc] at S401
    replace VT := VT.kept b401
    replace ha := ha.kept b401
    replace B := thenB B b401
    clear b401
    obtain ⟨s_VT, f_VT, z_VT⟩ := VT.open
    have Bo := B
    go_wp2_with fail
    refine (CB.out _ ha).mono ?_
    rintro e w402 ⟨rfl, b402⟩
    clear s_VT f_VT z_VT
    have S402 := b402.size
    replace VT := VT.kept b402
    replace ha := ha.kept b402
    replace B := thenB B b402
    clear b402
    obtain ⟨s_VT, f_VT, z_VT⟩ := VT.open
    have Bo := B
    go_wp2
    go_ret
    exact ⟨rfl, Bo⟩
  · skip
    rw [hT]
    clear hT
    have CA := Hid.mk (fun w h => ih.out i hik w h (by omega) si)
    have sA := HS.out i (by omega) si
    have CB := Hid.mk (fun w h => ih.out j hjk w h (by omega) sj)
    have sB := HS.out j (by omega) sj
    generalize txt xs i = A at *
    generalize txt xs j = D at *
    clear ih HS si sj
    have z1 : ¬ 9223372036854775807 < 1 + D.size := by omega
    have z2 : ¬ 9223372036854775807 < 1 + D.size + 1 := by omega
    have z3 : ¬ 9223372036854775807 < 1 + D.size + 1 + A.size := by omega
    have z4 : ¬ 9223372036854775807 < 1 + D.size + 1 + A.size + 1 := by omega
    clear sA sB
    obtain ⟨p0, p1, p2, p3⟩ := RdTerm.at ha k (by have := HN.out; omega) ⟨5, (i : Int), (j : Int), nn⟩ HX.out
    simp only at p0 p1 p2 p3
    go_enter Tryd.func36, Tryd.ntmps36
    have B := Below.refl w.heap.size w
    have Bo := B
    replace ha := ha.kept (belowA w (.cells #[.int .i64 5, .int .i64 (i : Int), .int .i64 (j : Int), .int .i64 nn] 66))
    replace B := thenB B (belowA w (.cells #[.int .i64 5, .int .i64 (i : Int), .int .i64 (j : Int), .int .i64 nn] 66))
    have VT := V.new w [.int .i64 5, .int .i64 (i : Int), .int .i64 (j : Int), .int .i64 nn] 66
    obtain ⟨s_VT, f_VT, z_VT⟩ := VT.open
    have Bo := B
    go_wp2_with fail
    refine (CA.out _ ha).mono ?_
    rintro e w501 ⟨rfl, b501⟩
    clear s_VT f_VT z_VT
    have S501 := b501.size
    simp only [World.size_alloc] at S501
    replace VT := VT.kept b501
    replace ha := ha.kept b501
    replace B := thenB B b501
    clear b501
    obtain ⟨s_VT, f_VT, z_VT⟩ := VT.open
    have Bo := B
    go_wp2_with fail
    refine (CB.out _ ha).mono ?_
    rintro e w502 ⟨rfl, b502⟩
    clear s_VT f_VT z_VT
    have S502 := b502.size
    replace VT := VT.kept b502
    replace ha := ha.kept b502
    replace B := thenB B b502
    clear b502
    obtain ⟨s_VT, f_VT, z_VT⟩ := VT.open
    have Bo := B
    go_wp2
    go_ret
    exact ⟨rfl, Bo⟩
  · skip
    rw [hT]
    clear hT
    have CA := Hid.mk (fun w h => ih.out i hik w h (by omega) si)
    have sA := HS.out i (by omega) si
    have CB := Hid.mk (fun w h => ih.out j hjk w h (by omega) sj)
    have sB := HS.out j (by omega) sj
    obtain ⟨yi, hyi⟩ : ∃ y, xs.getD i zTerm = y := ⟨_, rfl⟩
    obtain ⟨yj, hyj⟩ : ∃ y, xs.getD j zTerm = y := ⟨_, rfl⟩
    rw [hyi, hyj] at hc
    have hil : (i : Int) < (n : Int) := by omega
    have hjl : (j : Int) < (n : Int) := by omega
    replace hyi := Hid.mk hyi
    replace hyj := Hid.mk hyj
    replace hik := Hid.mk hik
    replace hjk := Hid.mk hjk
    generalize txt xs i = A at *
    generalize txt xs j = D at *
    clear ih HS si sj
    have z1 : ¬ 9223372036854775807 < 2 + D.size := by omega
    have z2 : ¬ 9223372036854775807 < 2 + D.size + 1 := by omega
    have z3 : ¬ 9223372036854775807 < 2 + D.size + 1 + A.size := by omega
    have z4 : ¬ 9223372036854775807 < 2 + D.size + 1 + A.size + 1 := by omega
    clear sA sB
    obtain ⟨p0, p1, p2, p3⟩ := RdTerm.at ha k (by have := HN.out; omega) ⟨7, (i : Int), (j : Int), nn⟩ HX.out
    simp only at p0 p1 p2 p3
    go_enter Tryd.func36, Tryd.ntmps36
    have B := Below.refl w.heap.size w
    have Bo := B
    replace ha := ha.kept (belowA w (.cells #[.int .i64 7, .int .i64 (i : Int), .int .i64 (j : Int), .int .i64 nn] 66))
    replace B := thenB B (belowA w (.cells #[.int .i64 7, .int .i64 (i : Int), .int .i64 (j : Int), .int .i64 nn] 66))
    have VT := V.new w [.int .i64 7, .int .i64 (i : Int), .int .i64 (j : Int), .int .i64 nn] 66
    obtain ⟨s_VT, f_VT, z_VT⟩ := VT.open
    have Bo := B
    go_wp2_with fail
    refine (CA.out _ ha).mono ?_
    rintro e w601 ⟨rfl, b601⟩
    clear s_VT f_VT z_VT
    have S601 := b601.size
    simp only [World.size_alloc] at S601
    replace VT := VT.kept b601
    replace ha := ha.kept b601
    replace B := thenB B b601
    clear b601
    obtain ⟨s_VT, f_VT, z_VT⟩ := VT.open
    have Bo := B
    go_wp2_with fail
    refine (CB.out _ ha).mono ?_
    rintro e w602 ⟨rfl, b602⟩
    clear s_VT f_VT z_VT
    have S602 := b602.size
    replace VT := VT.kept b602
    replace ha := ha.kept b602
    replace B := thenB B b602
    clear b602
    obtain ⟨s_VT, f_VT, z_VT⟩ := VT.open
    have Bo := B
    obtain ⟨r0, r1, r2, r3⟩ := RdTerm.at ha i (by have := HN.out; have := hik.out; omega) yi hyi.out
    obtain ⟨t0, t1, t2, t3⟩ := RdTerm.at ha j (by have := HN.out; have := hjk.out; omega) yj hyj.out
    clear r0 r1 r2 t0 t1 t2
    go_wp2_with fail
    go_quiet (fail)
    clear s_VT f_VT z_VT
    have bq := belowN (Below.refl (w602).heap.size (w602)) nq
    replace VT := VT.kept bq
    replace ha := ha.kept bq
    replace B := thenB B bq
    clear bq
    generalize World.drewN w602 nq = wn603 at *
    obtain ⟨s_VT, f_VT, z_VT⟩ := VT.open
    have Bo := B
    clear r3 t3
    go_wp2
    go_ret
    exact ⟨rfl, Bo⟩
  · skip
    rw [hT]
    clear hT
    have CA := Hid.mk (fun w h => ih.out i hik w h (by omega) si)
    have sA := HS.out i (by omega) si
    have CB := Hid.mk (fun w h => ih.out j hjk w h (by omega) sj)
    have sB := HS.out j (by omega) sj
    obtain ⟨yi, hyi⟩ : ∃ y, xs.getD i zTerm = y := ⟨_, rfl⟩
    obtain ⟨yj, hyj⟩ : ∃ y, xs.getD j zTerm = y := ⟨_, rfl⟩
    rw [hyi, hyj] at hc
    have hil : (i : Int) < (n : Int) := by omega
    have hjl : (j : Int) < (n : Int) := by omega
    replace hyi := Hid.mk hyi
    replace hyj := Hid.mk hyj
    replace hik := Hid.mk hik
    replace hjk := Hid.mk hjk
    generalize txt xs i = A at *
    generalize txt xs j = D at *
    clear ih HS si sj
    have z1 : ¬ 9223372036854775807 < 2 + A.size := by omega
    have z2 : ¬ 9223372036854775807 < 2 + A.size + 1 := by omega
    have z3 : ¬ 9223372036854775807 < 2 + A.size + 1 + D.size := by omega
    have z4 : ¬ 9223372036854775807 < 2 + A.size + 1 + D.size + 1 := by omega
    clear sA sB
    obtain ⟨p0, p1, p2, p3⟩ := RdTerm.at ha k (by have := HN.out; omega) ⟨7, (i : Int), (j : Int), nn⟩ HX.out
    simp only at p0 p1 p2 p3
    go_enter Tryd.func36, Tryd.ntmps36
    have B := Below.refl w.heap.size w
    have Bo := B
    replace ha := ha.kept (belowA w (.cells #[.int .i64 7, .int .i64 (i : Int), .int .i64 (j : Int), .int .i64 nn] 66))
    replace B := thenB B (belowA w (.cells #[.int .i64 7, .int .i64 (i : Int), .int .i64 (j : Int), .int .i64 nn] 66))
    have VT := V.new w [.int .i64 7, .int .i64 (i : Int), .int .i64 (j : Int), .int .i64 nn] 66
    obtain ⟨s_VT, f_VT, z_VT⟩ := VT.open
    have Bo := B
    go_wp2_with fail
    refine (CA.out _ ha).mono ?_
    rintro e w701 ⟨rfl, b701⟩
    clear s_VT f_VT z_VT
    have S701 := b701.size
    simp only [World.size_alloc] at S701
    replace VT := VT.kept b701
    replace ha := ha.kept b701
    replace B := thenB B b701
    clear b701
    obtain ⟨s_VT, f_VT, z_VT⟩ := VT.open
    have Bo := B
    go_wp2_with fail
    refine (CB.out _ ha).mono ?_
    rintro e w702 ⟨rfl, b702⟩
    clear s_VT f_VT z_VT
    have S702 := b702.size
    replace VT := VT.kept b702
    replace ha := ha.kept b702
    replace B := thenB B b702
    clear b702
    obtain ⟨s_VT, f_VT, z_VT⟩ := VT.open
    have Bo := B
    obtain ⟨r0, r1, r2, r3⟩ := RdTerm.at ha i (by have := HN.out; have := hik.out; omega) yi hyi.out
    obtain ⟨t0, t1, t2, t3⟩ := RdTerm.at ha j (by have := HN.out; have := hjk.out; omega) yj hyj.out
    clear r0 r1 r2 t0 t1 t2
    go_wp2_with fail
    go_quiet (fail)
    clear s_VT f_VT z_VT
    have bq := belowN (Below.refl (w702).heap.size (w702)) nq
    replace VT := VT.kept bq
    replace ha := ha.kept bq
    replace B := thenB B bq
    clear bq
    generalize World.drewN w702 nq = wn703 at *
    obtain ⟨s_VT, f_VT, z_VT⟩ := VT.open
    have Bo := B
    clear r3 t3
    go_wp2
    go_ret
    exact ⟨rfl, Bo⟩

end Go.Proofs.YtedippfnlaiapaaDoor

/- TermText: both sides. -/
namespace Go.Proofs.YtedippfnlaiapaaDoor
open Go.RowKit

/-- The code of a text, and the text. -/
@[irreducible] def ttC (xs : List T4) (q : Int) : Int := if akC xs q = 0 then (if 200 < (den xs q.toNat).sz then 2 else 0) else akC xs q
@[irreducible] def ttT (xs : List T4) (q : Int) : ByteArray := if akC xs q = 0 then (if 200 < (den xs q.toNat).sz then ⟨#[]⟩ else txt xs q.toNat) else ⟨#[]⟩

theorem tt_ways (xs : List T4) (q : Int) : (akC xs q ≠ 0 ∧ ttC xs q = akC xs q ∧ ttT xs q = ⟨#[]⟩) ∨ (akC xs q = 0 ∧ 200 < (den xs q.toNat).sz ∧ ttC xs q = 2 ∧ ttT xs q = ⟨#[]⟩) ∨ (akC xs q = 0 ∧ ¬ 200 < (den xs q.toNat).sz ∧ ttC xs q = 0 ∧ ttT xs q = txt xs q.toNat) := by
  unfold ttC ttT
  by_cases h : akC xs q = 0
  · by_cases h2 : 200 < (den xs q.toNat).sz
    · exact .inr (.inl ⟨h, h2, by rw [if_pos h, if_pos h2], by rw [if_pos h, if_pos h2]⟩)
    · exact .inr (.inr ⟨h, h2, by rw [if_pos h, if_neg h2], by rw [if_pos h, if_neg h2]⟩)
  · exact .inl ⟨h, by rw [if_neg h], by rw [if_neg h]⟩

theorem build_tr0 (k : Int) (w : World) : (Instr.build 33 #[(0, .int .i64 k)]).run Tryd.prog w = .ok (.agg #[.int .i64 k, .string ⟨#[]⟩]) w := run_build w 33 _ _ (by kernel_rfl)

theorem build_tr1 (s : ByteArray) (w : World) : (Instr.build 33 #[(1, .string s)]).run Tryd.prog w = .ok (.agg #[.int .i64 0, .string s]) w := run_build w 33 _ _ (by kernel_rfl)


set_option maxRecDepth 20000 in
set_option maxHeartbeats 4000000 in
theorem specTermText_ok (a : Option Addr) (n ca : Nat) (xs : List T4) (q : Int) (w : World) (ha : RdTerm w a xs) (hn : xs.length = n) (hx : n ≤ maxLen) (hca : n ≤ ca) :
    Calls Tryd.prog 15 #[.slice a n ca, .int .i64 q] w fun e w' => e = .returned (.agg #[.int .i64 (ttC xs q), .string (ttT xs q)]) ∧ Below w.heap.size w w' := by
  have q1 := build_tr0
  have q2 := build_tr1
  have CA := Hid.mk (fun w h => l5Asked_ok a n ca xs q w h hn hx hca)
  rcases tt_ways xs q with ⟨h1, e1, e2⟩ | ⟨h1, hs, e1, e2⟩ | ⟨h1, hs, e1, e2⟩
  · rw [e1, e2]
    have h2 : (akC xs q != 0) = true := by simp [h1]
    clear e1 e2 h1
    generalize akC xs q = kk at *
    go_enter Tryd.func15, Tryd.ntmps15
    have B := Below.refl w.heap.size w
    replace ha := ha.kept (belowA w (.cells #[.int .i64 0, .string ⟨#[]⟩] 33))
    replace B := thenB B (belowA w (.cells #[.int .i64 0, .string ⟨#[]⟩] 33))
    have VR := V.new w [.int .i64 0, .string ⟨#[]⟩] 33
    obtain ⟨s_VR, f_VR, z_VR⟩ := VR.open
    have Bo := B
    go_wp2_with fail
    refine (CA.out _ ha).mono ?_
    rintro e w1 ⟨rfl, b1⟩
    clear s_VR f_VR z_VR
    have S1 := b1.size
    simp only [World.size_alloc] at S1
    replace VR := VR.kept b1
    replace ha := ha.kept b1
    replace B := thenB B b1
    clear b1
    obtain ⟨s_VR, f_VR, z_VR⟩ := VR.open
    have Bo := B
    clear s_VR f_VR z_VR
    have VF := Hid.mk (VR.filled [.int .i64 kk, .string ⟨#[]⟩] rfl)
    have HT := Hid.mk VR.there
    have BR := belowCells B (show w.heap.size ≤ w.heap.size by (first | omega | (simp; done) | (simp; omega))) 0 [.int .i64 kk, .string ⟨#[]⟩]
    replace BR := Hid.mk BR
    obtain ⟨s_VR, f_VR, z_VR⟩ := VR.open
    go_wp2_with (refine wpList_store_mid rfl 33 _ _ rfl (w.heap.size) 0 #[.int .i64 kk, .string ⟨#[]⟩] rfl rfl HT.out (by kernel_rfl) (by kernel_rfl) ?_)
    refine bodyPost_ret (v := .agg #[.int .i64 kk, .string ⟨#[]⟩]) (results_row Tryd.results15 _ _ (w.heap.size) [.int .i64 kk, .string ⟨#[]⟩] _ rfl VF.out Tryd.underlying33 rfl (by kernel_rfl)) rfl ⟨rfl, BR.out⟩
  · rw [e1, e2]
    rw [h1] at CA
    obtain ⟨hv, hq0, hq1⟩ := ak_zero h1
    obtain ⟨m, rfl⟩ : ∃ m : Nat, q = (m : Int) := ⟨q.toNat, by omega⟩
    rw [Int.toNat_natCast] at *
    have hm1 : (m : Int) < (n : Int) := by omega
    have hmn : m < n := by omega
    have CS := Hid.mk (fun w h => l5Sizes_ok a n ca xs w h hn hv)
    have hzm := szL_at xs n m (by omega)
    have hzl := szL_len xs n
    obtain ⟨s, hs2⟩ : ∃ s, (den xs m).sz = s := ⟨_, rfl⟩
    rw [hs2] at hs hzm
    replace hzm := Hid.mk hzm
    replace hzl := Hid.mk hzl
    clear e1 e2 h1 hq0 hq1 hv hs2
    go_enter Tryd.func15, Tryd.ntmps15
    have B := Below.refl w.heap.size w
    replace ha := ha.kept (belowA w (.cells #[.int .i64 0, .string ⟨#[]⟩] 33))
    replace B := thenB B (belowA w (.cells #[.int .i64 0, .string ⟨#[]⟩] 33))
    have VR := V.new w [.int .i64 0, .string ⟨#[]⟩] 33
    obtain ⟨s_VR, f_VR, z_VR⟩ := VR.open
    have Bo := B
    go_wp2_with fail
    refine (CA.out _ ha).mono ?_
    rintro e w21 ⟨rfl, b21⟩
    clear s_VR f_VR z_VR
    have S21 := b21.size
    simp only [World.size_alloc] at S21
    replace VR := VR.kept b21
    replace ha := ha.kept b21
    replace B := thenB B b21
    clear b21
    obtain ⟨s_VR, f_VR, z_VR⟩ := VR.open
    have Bo := B
    go_wp2_with fail
    refine (CS.out _ ha).mono ?_
    rintro e w22 ⟨c, d, rfl, O, b22⟩
    clear s_VR f_VR z_VR
    have S22 := b22.size
    replace VR := VR.kept b22
    replace ha := ha.kept b22
    replace B := thenB B b22
    clear b22
    obtain ⟨s_VR, f_VR, z_VR⟩ := VR.open
    have Bo := B
    rcases O.rd with h0 | ⟨b1, o1, rfl, hca2⟩
    · have := hzl.out; rw [h0] at this; simp at this; omega
    have p0 := hca2 m (by have := hzl.out; omega)
    rw [hzm.out] at p0
    clear hca2
    clear s_VR f_VR z_VR
    have VF := Hid.mk (VR.filled [.int .i64 2, .string ⟨#[]⟩] rfl)
    have HT := Hid.mk VR.there
    have BR := belowCells B (show w.heap.size ≤ w.heap.size by (first | omega | (simp; done) | (simp; omega))) 0 [.int .i64 2, .string ⟨#[]⟩]
    replace BR := Hid.mk BR
    obtain ⟨s_VR, f_VR, z_VR⟩ := VR.open
    go_wp2_with (refine wpList_store_mid rfl 33 _ _ rfl (w.heap.size) 0 #[.int .i64 2, .string ⟨#[]⟩] rfl rfl HT.out (by kernel_rfl) (by kernel_rfl) ?_)
    refine bodyPost_ret (v := .agg #[.int .i64 2, .string ⟨#[]⟩]) (results_row Tryd.results15 _ _ (w.heap.size) [.int .i64 2, .string ⟨#[]⟩] _ rfl VF.out Tryd.underlying33 rfl (by kernel_rfl)) rfl ⟨rfl, BR.out⟩
  · rw [e1, e2]
    rw [h1] at CA
    obtain ⟨hv, hq0, hq1⟩ := ak_zero h1
    obtain ⟨m, rfl⟩ : ∃ m : Nat, q = (m : Int) := ⟨q.toNat, by omega⟩
    rw [Int.toNat_natCast] at *
    have hm1 : (m : Int) < (n : Int) := by omega
    have hmn : m < n := by omega
    have CT := Hid.mk (fun w h => l5Text_ok a n ca xs hv hn m w h hmn (by omega))
    have CS := Hid.mk (fun w h => l5Sizes_ok a n ca xs w h hn hv)
    have hzm := szL_at xs n m (by omega)
    have hzl := szL_len xs n
    obtain ⟨s, hs2⟩ : ∃ s, (den xs m).sz = s := ⟨_, rfl⟩
    rw [hs2] at hs hzm
    replace hzm := Hid.mk hzm
    replace hzl := Hid.mk hzl
    clear e1 e2 h1 hq0 hq1 hv hs2
    generalize txt xs m = TX at *
    go_enter Tryd.func15, Tryd.ntmps15
    have B := Below.refl w.heap.size w
    replace ha := ha.kept (belowA w (.cells #[.int .i64 0, .string ⟨#[]⟩] 33))
    replace B := thenB B (belowA w (.cells #[.int .i64 0, .string ⟨#[]⟩] 33))
    have VR := V.new w [.int .i64 0, .string ⟨#[]⟩] 33
    obtain ⟨s_VR, f_VR, z_VR⟩ := VR.open
    have Bo := B
    go_wp2_with fail
    refine (CA.out _ ha).mono ?_
    rintro e w41 ⟨rfl, b41⟩
    clear s_VR f_VR z_VR
    have S41 := b41.size
    simp only [World.size_alloc] at S41
    replace VR := VR.kept b41
    replace ha := ha.kept b41
    replace B := thenB B b41
    clear b41
    obtain ⟨s_VR, f_VR, z_VR⟩ := VR.open
    have Bo := B
    go_wp2_with fail
    refine (CS.out _ ha).mono ?_
    rintro e w42 ⟨c, d, rfl, O, b42⟩
    clear s_VR f_VR z_VR
    have S42 := b42.size
    replace VR := VR.kept b42
    replace ha := ha.kept b42
    replace B := thenB B b42
    clear b42
    obtain ⟨s_VR, f_VR, z_VR⟩ := VR.open
    have Bo := B
    rcases O.rd with h0 | ⟨b1, o1, rfl, hca2⟩
    · have := hzl.out; rw [h0] at this; simp at this; omega
    have p0 := hca2 m (by have := hzl.out; omega)
    rw [hzm.out] at p0
    clear hca2
    go_wp2_with fail
    refine (CT.out _ ha).mono ?_
    rintro e w43 ⟨rfl, b43⟩
    clear s_VR f_VR z_VR
    have S43 := b43.size
    replace VR := VR.kept b43
    replace ha := ha.kept b43
    replace O := O.kept b43
    replace B := thenB B b43
    clear b43
    obtain ⟨s_VR, f_VR, z_VR⟩ := VR.open
    have Bo := B
    clear s_VR f_VR z_VR
    have VF := Hid.mk (VR.filled [.int .i64 0, .string TX] rfl)
    have HT := Hid.mk VR.there
    have BR := belowCells B (show w.heap.size ≤ w.heap.size by (first | omega | (simp; done) | (simp; omega))) 0 [.int .i64 0, .string TX]
    replace BR := Hid.mk BR
    obtain ⟨s_VR, f_VR, z_VR⟩ := VR.open
    go_wp2_with (refine wpList_store_mid rfl 33 _ _ rfl (w.heap.size) 0 #[.int .i64 0, .string TX] rfl rfl HT.out (by kernel_rfl) (by kernel_rfl) ?_)
    refine bodyPost_ret (v := .agg #[.int .i64 0, .string TX]) (results_row Tryd.results15 _ _ (w.heap.size) [.int .i64 0, .string TX] _ rfl VF.out Tryd.underlying33 rfl (by kernel_rfl)) rfl ⟨rfl, BR.out⟩

set_option maxRecDepth 20000 in
set_option maxHeartbeats 4000000 in
theorem implTermText_ok (a : Option Addr) (n ca : Nat) (xs : List T4) (q : Int) (w : World) (ha : RdTerm w a xs) (hn : xs.length = n) (hx : n ≤ maxLen) (hca : n ≤ ca) (hok : ∀ t ∈ xs, okT t) (htab : Lib.TabIs Tryd.prog w (Rows.fnExactTermTextRow.laid.getD 2 ("", .nil)).1 .u64 Lib.pow10Tab) :
    Calls Tryd.prog 11 #[.slice a n ca, .int .i64 q] w fun e w' => e = .returned (.agg #[.int .i64 (ttC xs q), .string (ttT xs q)]) ∧ Below w.heap.size w w' := by
  have q1 := build_tr0
  have q2 := build_tr1
  have CA := Hid.mk (fun w h => implSizeOf_ok a n ca xs q w h hn hx hca hok)
  have hT := Hid.mk (Lib.tabBelow_of_tabIs htab)
  clear htab
  rcases tt_ways xs q with ⟨h1, e1, e2⟩ | ⟨h1, hs, e1, e2⟩ | ⟨h1, hs, e1, e2⟩
  · rw [e1, e2]
    have h2 : (akC xs q != 0) = true := by simp [h1]
    clear e1 e2 h1
    have hsv : szV xs q = 0 := by rcases szV_ways xs q with ⟨_, h⟩ | ⟨h, _⟩ <;> first | exact h | (rw [h] at h2; simp at h2)
    rw [hsv] at CA
    clear hsv
    generalize akC xs q = kk at *
    go_enter Tryd.func11, Tryd.ntmps11
    have B := Below.refl w.heap.size w
    replace ha := ha.kept (belowA w (.cells #[.int .i64 0, .string ⟨#[]⟩] 33))
    replace B := thenB B (belowA w (.cells #[.int .i64 0, .string ⟨#[]⟩] 33))
    have VR := V.new w [.int .i64 0, .string ⟨#[]⟩] 33
    obtain ⟨s_VR, f_VR, z_VR⟩ := VR.open
    have Bo := B
    go_wp2_with fail
    refine (CA.out _ ha).mono ?_
    rintro e w101 ⟨rfl, b101⟩
    clear s_VR f_VR z_VR
    have S101 := b101.size
    simp only [World.size_alloc] at S101
    replace VR := VR.kept b101
    replace ha := ha.kept b101
    replace B := thenB B b101
    clear b101
    obtain ⟨s_VR, f_VR, z_VR⟩ := VR.open
    have Bo := B
    replace VR := VR.kept (belowA w101 (.cells #[.int .i64 kk, .int .i64 0] 36))
    replace ha := ha.kept (belowA w101 (.cells #[.int .i64 kk, .int .i64 0] 36))
    replace B := thenB B (belowA w101 (.cells #[.int .i64 kk, .int .i64 0] 36))
    have VS := V.new w101 [.int .i64 kk, .int .i64 0] 36
    clear s_VR f_VR z_VR
    obtain ⟨s_VR, f_VR, z_VR⟩ := VR.open
    obtain ⟨s_VS, f_VS, z_VS⟩ := VS.open
    have Bo := B
    clear s_VR f_VR z_VR s_VS f_VS z_VS
    have VF := Hid.mk (VR.filled [.int .i64 kk, .string ⟨#[]⟩] rfl)
    have HT := Hid.mk VR.there
    have BR := belowCells B (show w.heap.size ≤ w.heap.size by (first | omega | (simp; done) | (simp; omega))) 0 [.int .i64 kk, .string ⟨#[]⟩]
    replace BR := Hid.mk BR
    obtain ⟨s_VR, f_VR, z_VR⟩ := VR.open
    obtain ⟨s_VS, f_VS, z_VS⟩ := VS.open
    go_wp2_with (refine wpList_store_mid rfl 33 _ _ rfl (w.heap.size) 0 #[.int .i64 kk, .string ⟨#[]⟩] rfl rfl HT.out (by kernel_rfl) (by kernel_rfl) ?_)
    refine bodyPost_ret (v := .agg #[.int .i64 kk, .string ⟨#[]⟩]) (results_row Tryd.results11 _ _ (w.heap.size) [.int .i64 kk, .string ⟨#[]⟩] _ rfl VF.out Tryd.underlying33 rfl (by kernel_rfl)) rfl ⟨rfl, BR.out⟩
  · rw [e1, e2]
    rw [h1] at CA
    obtain ⟨hv, hq0, hq1⟩ := ak_zero h1
    obtain ⟨m, rfl⟩ : ∃ m : Nat, q = (m : Int) := ⟨q.toNat, by omega⟩
    rw [Int.toNat_natCast] at *
    have hm1 : (m : Int) < (n : Int) := by omega
    have hmn : m < n := by omega
    have hsv : szV xs (m : Int) = (den xs m).sz := by rcases szV_ways xs (m : Int) with ⟨h, _⟩ | ⟨_, h⟩ <;> first | exact absurd h1 h | rw [h, Int.toNat_natCast]
    rw [hsv] at CA
    clear hsv
    obtain ⟨s, hs2⟩ : ∃ s, (den xs m).sz = s := ⟨_, rfl⟩
    rw [hs2] at hs CA
    clear e1 e2 h1 hq0 hq1 hv hs2
    go_enter Tryd.func11, Tryd.ntmps11
    have B := Below.refl w.heap.size w
    replace ha := ha.kept (belowA w (.cells #[.int .i64 0, .string ⟨#[]⟩] 33))
    replace B := thenB B (belowA w (.cells #[.int .i64 0, .string ⟨#[]⟩] 33))
    have VR := V.new w [.int .i64 0, .string ⟨#[]⟩] 33
    obtain ⟨s_VR, f_VR, z_VR⟩ := VR.open
    have Bo := B
    go_wp2_with fail
    refine (CA.out _ ha).mono ?_
    rintro e w121 ⟨rfl, b121⟩
    clear s_VR f_VR z_VR
    have S121 := b121.size
    simp only [World.size_alloc] at S121
    replace VR := VR.kept b121
    replace ha := ha.kept b121
    replace B := thenB B b121
    clear b121
    obtain ⟨s_VR, f_VR, z_VR⟩ := VR.open
    have Bo := B
    replace VR := VR.kept (belowA w121 (.cells #[.int .i64 0, .int .i64 s] 36))
    replace ha := ha.kept (belowA w121 (.cells #[.int .i64 0, .int .i64 s] 36))
    replace B := thenB B (belowA w121 (.cells #[.int .i64 0, .int .i64 s] 36))
    have VS := V.new w121 [.int .i64 0, .int .i64 s] 36
    clear s_VR f_VR z_VR
    obtain ⟨s_VR, f_VR, z_VR⟩ := VR.open
    obtain ⟨s_VS, f_VS, z_VS⟩ := VS.open
    have Bo := B
    clear s_VR f_VR z_VR s_VS f_VS z_VS
    have VF := Hid.mk (VR.filled [.int .i64 2, .string ⟨#[]⟩] rfl)
    have HT := Hid.mk VR.there
    have BR := belowCells B (show w.heap.size ≤ w.heap.size by (first | omega | (simp; done) | (simp; omega))) 0 [.int .i64 2, .string ⟨#[]⟩]
    replace BR := Hid.mk BR
    obtain ⟨s_VR, f_VR, z_VR⟩ := VR.open
    obtain ⟨s_VS, f_VS, z_VS⟩ := VS.open
    go_wp2_with (refine wpList_store_mid rfl 33 _ _ rfl (w.heap.size) 0 #[.int .i64 2, .string ⟨#[]⟩] rfl rfl HT.out (by kernel_rfl) (by kernel_rfl) ?_)
    refine bodyPost_ret (v := .agg #[.int .i64 2, .string ⟨#[]⟩]) (results_row Tryd.results11 _ _ (w.heap.size) [.int .i64 2, .string ⟨#[]⟩] _ rfl VF.out Tryd.underlying33 rfl (by kernel_rfl)) rfl ⟨rfl, BR.out⟩
  · rw [e1, e2]
    rw [h1] at CA
    obtain ⟨hv, hq0, hq1⟩ := ak_zero h1
    obtain ⟨m, rfl⟩ : ∃ m : Nat, q = (m : Int) := ⟨q.toNat, by omega⟩
    rw [Int.toNat_natCast] at *
    have hm1 : (m : Int) < (n : Int) := by omega
    have hmn : m < n := by omega
    have CT := Hid.mk (fun w h t => termWords_ok a n ca xs hv hn m w h t hmn (by omega))
    have hsv : szV xs (m : Int) = (den xs m).sz := by rcases szV_ways xs (m : Int) with ⟨h, _⟩ | ⟨_, h⟩ <;> first | exact absurd h1 h | rw [h, Int.toNat_natCast]
    rw [hsv] at CA
    clear hsv
    obtain ⟨s, hs2⟩ : ∃ s, (den xs m).sz = s := ⟨_, rfl⟩
    rw [hs2] at hs CA
    clear e1 e2 h1 hq0 hq1 hv hs2
    generalize txt xs m = TX at *
    go_enter Tryd.func11, Tryd.ntmps11
    have B := Below.refl w.heap.size w
    replace ha := ha.kept (belowA w (.cells #[.int .i64 0, .string ⟨#[]⟩] 33))
    replace B := thenB B (belowA w (.cells #[.int .i64 0, .string ⟨#[]⟩] 33))
    have VR := V.new w [.int .i64 0, .string ⟨#[]⟩] 33
    obtain ⟨s_VR, f_VR, z_VR⟩ := VR.open
    have Bo := B
    go_wp2_with fail
    refine (CA.out _ ha).mono ?_
    rintro e w141 ⟨rfl, b141⟩
    clear s_VR f_VR z_VR
    have S141 := b141.size
    simp only [World.size_alloc] at S141
    replace VR := VR.kept b141
    replace ha := ha.kept b141
    replace B := thenB B b141
    clear b141
    obtain ⟨s_VR, f_VR, z_VR⟩ := VR.open
    have Bo := B
    replace VR := VR.kept (belowA w141 (.cells #[.int .i64 0, .int .i64 s] 36))
    replace ha := ha.kept (belowA w141 (.cells #[.int .i64 0, .int .i64 s] 36))
    replace B := thenB B (belowA w141 (.cells #[.int .i64 0, .int .i64 s] 36))
    have VS := V.new w141 [.int .i64 0, .int .i64 s] 36
    clear s_VR f_VR z_VR
    obtain ⟨s_VR, f_VR, z_VR⟩ := VR.open
    obtain ⟨s_VS, f_VS, z_VS⟩ := VS.open
    have Bo := B
    go_wp2_with fail
    refine (CT.out _ ha (hT.out _ B)).mono ?_
    rintro e w142 ⟨rfl, b142⟩
    clear s_VR f_VR z_VR s_VS f_VS z_VS
    have S142 := b142.size
    simp only [World.size_alloc] at S142
    replace VR := VR.kept b142
    replace VS := VS.kept b142
    replace ha := ha.kept b142
    replace B := thenB B b142
    clear b142
    obtain ⟨s_VR, f_VR, z_VR⟩ := VR.open
    obtain ⟨s_VS, f_VS, z_VS⟩ := VS.open
    have Bo := B
    clear s_VR f_VR z_VR s_VS f_VS z_VS
    have VF := Hid.mk (VR.filled [.int .i64 0, .string TX] rfl)
    have HT := Hid.mk VR.there
    have BR := belowCells B (show w.heap.size ≤ w.heap.size by (first | omega | (simp; done) | (simp; omega))) 0 [.int .i64 0, .string TX]
    replace BR := Hid.mk BR
    obtain ⟨s_VR, f_VR, z_VR⟩ := VR.open
    obtain ⟨s_VS, f_VS, z_VS⟩ := VS.open
    go_wp2_with (refine wpList_store_mid rfl 33 _ _ rfl (w.heap.size) 0 #[.int .i64 0, .string TX] rfl rfl HT.out (by kernel_rfl) (by kernel_rfl) ?_)
    refine bodyPost_ret (v := .agg #[.int .i64 0, .string TX]) (results_row Tryd.results11 _ _ (w.heap.size) [.int .i64 0, .string TX] _ rfl VF.out Tryd.underlying33 rfl (by kernel_rfl)) rfl ⟨rfl, BR.out⟩

end Go.Proofs.YtedippfnlaiapaaDoor
