/- A term's text, of what it is made of. -/
import Derived.Test.YthjaehcfakjemaaDoorPlT
import Derived.Test.YthjaehcfakjemaaDoorTmE
import Derived.Test.YthjaehcfakjemaaDoorAtT
namespace Go.Proofs.YthjaehcfakjemaaDoor
open Go.RowKit

/-- A number's text. -/
@[irreducible] def dcB (n : Int) : ByteArray := ⟨(Lib.decDigits n.toNat).toArray⟩

theorem dcB_size {n : Int} (h0 : 0 ≤ n) (h1 : n ≤ 65535) : (dcB n).size ≤ 20 := by
  unfold dcB
  show (Lib.decDigits n.toNat).toArray.size ≤ 20
  rw [List.size_toArray]
  exact dd_len _ (by omega)

/-- A term's text. -/
def Tr.tx : Tr → ByteArray
  | .leaf o n => (if o = 1 then ⟨#[110]⟩ else ⟨#[115]⟩) ++ dcB n
  | .one _ x => ⟨#[103, 40]⟩ ++ x.tx ++ ⟨#[41]⟩
  | .two o x y => if o = 3 then ⟨#[40]⟩ ++ x.tx ++ ⟨#[44]⟩ ++ y.tx ++ ⟨#[41]⟩ else if o = 4 then ⟨#[102, 40]⟩ ++ x.tx ++ ⟨#[44]⟩ ++ y.tx ++ ⟨#[41]⟩ else if o = 5 then ⟨#[123]⟩ ++ y.tx ++ ⟨#[125]⟩ ++ x.tx else ⟨#[103, 40]⟩ ++ x.tx ++ ⟨#[44]⟩ ++ y.tx ++ ⟨#[41]⟩

def Tr.Fit : Tr → Prop
  | .leaf _ n => 0 ≤ n ∧ n ≤ 9999
  | .one _ x => x.Fit
  | .two _ x y => x.Fit ∧ y.Fit

theorem mkTr_fit {t : T4} {x y : Tr} (hn : 0 ≤ t.n ∧ t.n ≤ 9999) (hx : 0 < kids t.o → x.Fit) (hy : 1 < kids t.o → y.Fit) : (mkTr t x y).Fit := by
  unfold mkTr
  rcases kids_cases t.o with h | h | h
  · rw [h]; simp only [show ¬ ((0 : Int) = 2) by decide, show ¬ ((0 : Int) = 1) by decide, if_false]; exact hn
  · rw [h]; simp only [show ¬ ((1 : Int) = 2) by decide, if_false, if_true]; exact hx (by omega)
  · rw [h, if_pos rfl]
    split
    · exact ⟨hy (by omega), hx (by omega)⟩
    · exact ⟨hx (by omega), hy (by omega)⟩

theorem den_fit {xs : List T4} (hv : tfC xs = 0) : ∀ k, k < xs.length → (den xs k).Fit := by
  intro k
  induction k using Nat.strongRecOn with
  | _ k ih =>
    intro hk
    have hA := tfC_ahead hv
    have h1 := tm_zero ((tfC_zero hv).2 k hk).1
    rw [den_at k hk hA]
    refine mkTr_fit h1.2.1 (fun e => ?_) (fun e => ?_)
    · have := (hA k hk).1 e
      exact ih _ (by omega) (by omega)
    · have := (hA k hk).2 e
      exact ih _ (by omega) (by omega)

theorem tx_size : ∀ {t : Tr}, t.Fit → t.sz ≤ 200 → (t.tx.size : Int) ≤ 24 * t.sz
  | .leaf o n, h, _ => by
    have h1 := dcB_size (n := n) h.1 (by have := h.2; omega)
    have h2 : ((⟨#[110]⟩ : ByteArray)).size = 1 := rfl
    have h3 : ((⟨#[115]⟩ : ByteArray)).size = 1 := rfl
    simp only [Tr.tx, Tr.sz]
    split <;> rw [ByteArray.size_append] <;> omega
  | .one o x, h, hs => by
    have h0 := x.sz_in
    simp only [Tr.sz] at hs
    have h1 := tx_size (t := x) h (by omega)
    have h2 : ((⟨#[103, 40]⟩ : ByteArray)).size = 2 := rfl
    have h3 : ((⟨#[41]⟩ : ByteArray)).size = 1 := rfl
    simp only [Tr.tx, Tr.sz, ByteArray.size_append, h2, h3]
    omega
  | .two o x y, h, hs => by
    have h0 := x.sz_in
    have h0' := y.sz_in
    simp only [Tr.sz] at hs
    have h1 := tx_size (t := x) h.1 (by omega)
    have h1' := tx_size (t := y) h.2 (by omega)
    have h2 : ((⟨#[103, 40]⟩ : ByteArray)).size = 2 := rfl
    have h3 : ((⟨#[41]⟩ : ByteArray)).size = 1 := rfl
    have h4 : ((⟨#[40]⟩ : ByteArray)).size = 1 := rfl
    have h5 : ((⟨#[44]⟩ : ByteArray)).size = 1 := rfl
    have h6 : ((⟨#[102, 40]⟩ : ByteArray)).size = 2 := rfl
    have h7 : ((⟨#[123]⟩ : ByteArray)).size = 1 := rfl
    have h8 : ((⟨#[125]⟩ : ByteArray)).size = 1 := rfl
    simp only [Tr.tx, Tr.sz]
    split
    · simp only [ByteArray.size_append, h3, h4, h5]; omega
    · split
      · simp only [ByteArray.size_append, h3, h5, h6]; omega
      · split
        · simp only [ByteArray.size_append, h7, h8]; omega
        · simp only [ByteArray.size_append, h2, h3, h5]; omega

/-- The text at a place. -/
@[irreducible] def txt (xs : List T4) (k : Nat) : ByteArray := (den xs k).tx

theorem txt_size {xs : List T4} (hv : tfC xs = 0) {k : Nat} (hk : k < xs.length) (hs : (den xs k).sz ≤ 200) : (txt xs k).size ≤ 4800 := by
  unfold txt
  have := tx_size (den_fit hv k hk) hs
  omega

theorem txt_den {xs ys : List T4} {i j : Nat} (h : den xs i = den ys j) : txt xs i = txt ys j := by unfold txt; rw [h]

/-- What a term's text is made of. -/
theorem txt_ways {xs : List T4} (hv : tfC xs = 0) {k : Nat} (hk : k < xs.length) {x : T4} (hx : xs.getD k zTerm = x) (hs : (den xs k).sz ≤ 200) :
    (x.o = 1 ∧ (0 ≤ x.n ∧ x.n ≤ 9999) ∧ txt xs k = ⟨#[110]⟩ ++ dcB x.n) ∨
    (x.o = 2 ∧ (0 ≤ x.n ∧ x.n ≤ 9999) ∧ txt xs k = ⟨#[115]⟩ ++ dcB x.n) ∨
    (∃ i : Nat, x.a = i ∧ i < k ∧ (den xs i).sz ≤ 200 ∧ x.o = 6 ∧ txt xs k = ⟨#[103, 40]⟩ ++ txt xs i ++ ⟨#[41]⟩) ∨
    (∃ i j : Nat, x.a = i ∧ i < k ∧ (den xs i).sz ≤ 200 ∧ x.b = j ∧ j < k ∧ (den xs j).sz ≤ 200 ∧ (
      (x.o = 3 ∧ txt xs k = ⟨#[40]⟩ ++ txt xs i ++ ⟨#[44]⟩ ++ txt xs j ++ ⟨#[41]⟩) ∨
      (x.o = 4 ∧ txt xs k = ⟨#[102, 40]⟩ ++ txt xs i ++ ⟨#[44]⟩ ++ txt xs j ++ ⟨#[41]⟩) ∨
      (x.o = 5 ∧ txt xs k = ⟨#[123]⟩ ++ txt xs j ++ ⟨#[125]⟩ ++ txt xs i) ∨
      (x.o = 7 ∧ (xs.getD j zTerm).n < (xs.getD i zTerm).n ∧ txt xs k = ⟨#[103, 40]⟩ ++ txt xs j ++ ⟨#[44]⟩ ++ txt xs i ++ ⟨#[41]⟩) ∨
      (x.o = 7 ∧ ¬ (xs.getD j zTerm).n < (xs.getD i zTerm).n ∧ txt xs k = ⟨#[103, 40]⟩ ++ txt xs i ++ ⟨#[44]⟩ ++ txt xs j ++ ⟨#[41]⟩))) := by
  have hA := tfC_ahead hv
  have N := tfC_nice hv
  have h1 := tm_zero ((tfC_zero hv).2 k hk).1
  have ho := h1.1
  have hn := h1.2.1
  obtain ⟨s1, s2⟩ := sz_kid hv hk hx hs
  obtain ⟨k1, k2⟩ := hA k hk
  have R := N.rise k hk
  have hd := den_at k hk hA
  rw [hx] at ho hn k1 k2 R hd
  clear h1 hs
  unfold txt
  rw [hd]
  unfold mkTr
  rcases kids_ways x.o with ⟨e, q⟩ | ⟨e, q⟩ | ⟨e, q⟩ | ⟨e, q⟩ | ⟨e, q⟩ | ⟨e3, e4, e5, e7, e6, q⟩
  iterate 4
    · obtain ⟨a1, a2⟩ := k1 (by omega)
      obtain ⟨b1, b2⟩ := k2 (by omega)
      refine .inr (.inr (.inr ⟨x.a.toNat, x.b.toNat, by omega, by omega, s1 (by omega), by omega, by omega, s2 (by omega), ?_⟩))
      rw [if_pos q]
      first
        | (refine .inl ⟨e, ?_⟩; rw [if_neg (by omega), e]; rfl)
        | (refine .inr (.inl ⟨e, ?_⟩); rw [if_neg (by omega), e]; rfl)
        | (refine .inr (.inr (.inl ⟨e, ?_⟩)); rw [if_neg (by omega), e]; rfl)
        | (obtain ⟨r1, r2, _⟩ := R e
           unfold tmAt at r1 r2
           have f1 := den_fresh x.a.toNat (by omega) hA r1
           have f2 := den_fresh x.b.toNat (by omega) hA r2
           have g1 : (den xs x.a.toNat).num = (xs.getD x.a.toNat zTerm).n := by rw [f1]; rfl
           have g2 : (den xs x.b.toNat).num = (xs.getD x.b.toNat zTerm).n := by rw [f2]; rfl
           rw [g1, g2]
           by_cases hlt : (xs.getD x.b.toNat zTerm).n < (xs.getD x.a.toNat zTerm).n
           · refine .inr (.inr (.inr (.inl ⟨e, hlt, ?_⟩)))
             rw [if_pos ⟨e, hlt⟩, e]; rfl
           · refine .inr (.inr (.inr (.inr ⟨e, hlt, ?_⟩)))
             rw [if_neg (fun h => hlt h.2), e]; rfl)
  · obtain ⟨a1, a2⟩ := k1 (by omega)
    refine .inr (.inr (.inl ⟨x.a.toNat, by omega, by omega, s1 (by omega), e, ?_⟩))
    rw [if_neg (by omega), if_pos q]; rfl
  · have e2 : x.o = 1 ∨ x.o = 2 := by omega
    rw [if_neg (by omega), if_neg (by omega)]
    rcases e2 with e2 | e2
    · exact .inl ⟨e2, hn, by rw [e2]; rfl⟩
    · exact .inr (.inl ⟨e2, hn, by rw [e2]; rfl⟩)

end Go.Proofs.YthjaehcfakjemaaDoor
