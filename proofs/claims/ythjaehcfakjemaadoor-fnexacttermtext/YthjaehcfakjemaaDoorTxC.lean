/- The places told; a list of two turned. -/
import Derived.Test.YthjaehcfakjemaaDoorPlT
import Derived.Test.YthjaehcfakjemaaDoorTxA
import Derived.Test.YthjaehcfakjemaaDoorTmK
import Derived.Test.YthjaehcfakjemaaDoorTmG
import Derived.Test.YthjaehcfakjemaaDoorVar
import Derived.Test.YthjaehcfakjemaaDoorDrawP
import Derived.Test.YthjaehcfakjemaaDoorTmZ
import Derived.Deep.DeepCutAuto
namespace Go.Proofs.YthjaehcfakjemaaDoor
open Go.RowKit

/-- The texts of the places told. -/
@[irreducible] def tsL (xs : List T4) (x : T4) : List ByteArray := (plD xs x).map fun p => txt xs p.toNat

theorem tsL_len (xs : List T4) (x : T4) : (tsL xs x).length = (plD xs x).length := by unfold tsL; simp

theorem tsL_next (xs : List T4) (x : T4) (q : Nat) (hq : q < (plD xs x).length) {i : Nat} (hi : (plD xs x).getD q 0 = (i : Int)) : (tsL xs x).take (q + 1) = (tsL xs x).take q ++ [txt xs i] := by
  rw [List.take_add_one]
  congr 1
  unfold tsL
  rw [List.getElem?_map, igetD_some hq, hi]
  simp

/-- What a term's text is made of, in the order told. -/
theorem words_ways {xs : List T4} (hv : tfC xs = 0) {k : Nat} (hk : k < xs.length) {x : T4} (hx : xs.getD k zTerm = x) (hs : (den xs k).sz ≤ 200) :
    (x.o = 1 ∧ (0 ≤ x.n ∧ x.n ≤ 9999) ∧ txt xs k = ⟨#[110]⟩ ++ dcB x.n) ∨
    (x.o = 2 ∧ (0 ≤ x.n ∧ x.n ≤ 9999) ∧ txt xs k = ⟨#[115]⟩ ++ dcB x.n) ∨
    (∃ A : ByteArray, A.size ≤ 4800 ∧ tsL xs x = [A] ∧ x.o = 6 ∧ txt xs k = ⟨#[103, 40]⟩ ++ A ++ ⟨#[41]⟩) ∨
    (∃ A D : ByteArray, A.size ≤ 4800 ∧ D.size ≤ 4800 ∧ tsL xs x = [A, D] ∧ (
      (x.o = 3 ∧ txt xs k = ⟨#[40]⟩ ++ (A ++ ⟨#[44]⟩ ++ D) ++ ⟨#[41]⟩) ∨
      (x.o = 4 ∧ txt xs k = ⟨#[102, 40]⟩ ++ (A ++ ⟨#[44]⟩ ++ D) ++ ⟨#[41]⟩) ∨
      (x.o = 5 ∧ txt xs k = ⟨#[123]⟩ ++ D ++ ⟨#[125]⟩ ++ A) ∨
      (x.o = 7 ∧ txt xs k = ⟨#[103, 40]⟩ ++ (A ++ ⟨#[44]⟩ ++ D) ++ ⟨#[41]⟩))) := by
  have two : ∀ {i j : Nat}, x.a = i → x.b = j → kids x.o = 2 → ¬ (x.o = 7 ∧ (xs.getD j zTerm).n < (xs.getD i zTerm).n) → tsL xs x = [txt xs i, txt xs j] := fun {i j} e1 e2 q hno => by
    unfold tsL plD plc
    rw [e1, e2, Int.toNat_natCast, Int.toNat_natCast, if_neg hno, if_pos q]
    simp
  rcases txt_ways hv hk hx hs with h | h | ⟨i, h1, h2, h3, h4, h5⟩ | ⟨i, j, h1, h2, h3, h4, h5, h6, h7⟩
  · exact .inl h
  · exact .inr (.inl h)
  · refine .inr (.inr (.inl ⟨txt xs i, txt_size hv (by omega) h3, ?_, h4, h5⟩))
    unfold tsL plD plc
    rw [if_neg (by omega), h4, kids6, if_neg (by decide), if_pos rfl, h1]
    simp
  · have s1 := txt_size hv (k := i) (by omega) h3
    have s2 := txt_size hv (k := j) (by omega) h6
    rcases h7 with ⟨e, h⟩ | ⟨e, h⟩ | ⟨e, h⟩ | ⟨e, hc, h⟩ | ⟨e, hc, h⟩
    · exact .inr (.inr (.inr ⟨_, _, s1, s2, two h1 h4 (by rw [e, kids3]) (by omega), .inl ⟨e, by rw [h]; simp only [ByteArray.append_assoc]⟩⟩))
    · exact .inr (.inr (.inr ⟨_, _, s1, s2, two h1 h4 (by rw [e, kids4]) (by omega), .inr (.inl ⟨e, by rw [h]; simp only [ByteArray.append_assoc]⟩)⟩))
    · exact .inr (.inr (.inr ⟨_, _, s1, s2, two h1 h4 (by rw [e, kids5]) (by omega), .inr (.inr (.inl ⟨e, h⟩))⟩))
    · refine .inr (.inr (.inr ⟨txt xs j, txt xs i, s2, s1, ?_, .inr (.inr (.inr ⟨e, by rw [h]; simp only [ByteArray.append_assoc]⟩))⟩))
      unfold tsL plD
      rw [h1, h4, Int.toNat_natCast, Int.toNat_natCast, if_pos ⟨e, hc⟩]
      simp
    · exact .inr (.inr (.inr ⟨_, _, s1, s2, two h1 h4 (by rw [e, kids7]) (fun h => hc h.2), .inr (.inr (.inr ⟨e, by rw [h]; simp only [ByteArray.append_assoc]⟩))⟩))

end Go.Proofs.YthjaehcfakjemaaDoor
