/- Put together: TxA, TxC, TxD, TxE. -/
import Derived.Test.YthjaehcfakjemaaDoorFmi
import Derived.Test.YthjaehcfakjemaaDoorFmj
import Derived.Test.YthjaehcfakjemaaDoorAtT
import Derived.Test.YthjaehcfakjemaaDoorTmK
import Derived.Test.YthjaehcfakjemaaDoorTmG
import Derived.Test.YthjaehcfakjemaaDoorVar
import Derived.Test.YthjaehcfakjemaaDoorFmn
import Derived.Deep.DeepCutAuto
import Derived.Test.YthjaehcfakjemaaDoorShelf
import Derived.Test.YthjaehcfakjemaaDoorStrA
import Derived.Lib.AppendIntMem
import Derived.Lib.Join

/- A term's text, of what it is made of. -/
namespace Go.Proofs.YthjaehcfakjemaaDoor
open Go.RowKit

/-- A number's text. -/
@[irreducible] def dcB (n : Int) : ByteArray := ⟨(Lib.decDigits n.toNat).toArray⟩

theorem dcB_size {n : Int} (h0 : 0 ≤ n) (h1 : n ≤ 65535) : (dcB n).size ≤ 20 := by
  unfold dcB
  show (Lib.decDigits n.toNat).toArray.size ≤ 20
  rw [List.size_toArray]
  exact dd_len _ (by omega)

/-- A term's text. -/
def Tr.tx : Tr → ByteArray
  | .leaf o n => (if o = 1 then ⟨#[110]⟩ else ⟨#[115]⟩) ++ dcB n
  | .one _ x => ⟨#[103, 40]⟩ ++ x.tx ++ ⟨#[41]⟩
  | .two o x y => if o = 3 then ⟨#[40]⟩ ++ x.tx ++ ⟨#[44]⟩ ++ y.tx ++ ⟨#[41]⟩ else if o = 4 then ⟨#[102, 40]⟩ ++ x.tx ++ ⟨#[44]⟩ ++ y.tx ++ ⟨#[41]⟩ else if o = 5 then ⟨#[123]⟩ ++ y.tx ++ ⟨#[125]⟩ ++ x.tx else ⟨#[103, 40]⟩ ++ x.tx ++ ⟨#[44]⟩ ++ y.tx ++ ⟨#[41]⟩

def Tr.Fit : Tr → Prop
  | .leaf _ n => 0 ≤ n ∧ n ≤ 9999
  | .one _ x => x.Fit
  | .two _ x y => x.Fit ∧ y.Fit

theorem mkTr_fit {t : T4} {x y : Tr} (hn : 0 ≤ t.n ∧ t.n ≤ 9999) (hx : 0 < kids t.o → x.Fit) (hy : 1 < kids t.o → y.Fit) : (mkTr t x y).Fit := by
  unfold mkTr
  rcases kids_cases t.o with h | h | h
  · rw [h]; simp only [show ¬ ((0 : Int) = 2) by decide, show ¬ ((0 : Int) = 1) by decide, if_false]; exact hn
  · rw [h]; simp only [show ¬ ((1 : Int) = 2) by decide, if_false, if_true]; exact hx (by omega)
  · rw [h, if_pos rfl]
    split
    · exact ⟨hy (by omega), hx (by omega)⟩
    · exact ⟨hx (by omega), hy (by omega)⟩

theorem den_fit {xs : List T4} (hv : tfC xs = 0) : ∀ k, k < xs.length → (den xs k).Fit := by
  intro k
  induction k using Nat.strongRecOn with
  | _ k ih =>
    intro hk
    have hA := tfC_ahead hv
    have h1 := tm_zero ((tfC_zero hv).2 k hk).1
    rw [den_at k hk hA]
    refine mkTr_fit h1.2.1 (fun e => ?_) (fun e => ?_)
    · have := (hA k hk).1 e
      exact ih _ (by omega) (by omega)
    · have := (hA k hk).2 e
      exact ih _ (by omega) (by omega)

theorem tx_size : ∀ {t : Tr}, t.Fit → t.sz ≤ 200 → (t.tx.size : Int) ≤ 24 * t.sz
  | .leaf o n, h, _ => by
    have h1 := dcB_size (n := n) h.1 (by have := h.2; omega)
    have h2 : ((⟨#[110]⟩ : ByteArray)).size = 1 := rfl
    have h3 : ((⟨#[115]⟩ : ByteArray)).size = 1 := rfl
    simp only [Tr.tx, Tr.sz]
    split <;> rw [ByteArray.size_append] <;> omega
  | .one o x, h, hs => by
    have h0 := x.sz_in
    simp only [Tr.sz] at hs
    have h1 := tx_size (t := x) h (by omega)
    have h2 : ((⟨#[103, 40]⟩ : ByteArray)).size = 2 := rfl
    have h3 : ((⟨#[41]⟩ : ByteArray)).size = 1 := rfl
    simp only [Tr.tx, Tr.sz, ByteArray.size_append, h2, h3]
    omega
  | .two o x y, h, hs => by
    have h0 := x.sz_in
    have h0' := y.sz_in
    simp only [Tr.sz] at hs
    have h1 := tx_size (t := x) h.1 (by omega)
    have h1' := tx_size (t := y) h.2 (by omega)
    have h2 : ((⟨#[103, 40]⟩ : ByteArray)).size = 2 := rfl
    have h3 : ((⟨#[41]⟩ : ByteArray)).size = 1 := rfl
    have h4 : ((⟨#[40]⟩ : ByteArray)).size = 1 := rfl
    have h5 : ((⟨#[44]⟩ : ByteArray)).size = 1 := rfl
    have h6 : ((⟨#[102, 40]⟩ : ByteArray)).size = 2 := rfl
    have h7 : ((⟨#[123]⟩ : ByteArray)).size = 1 := rfl
    have h8 : ((⟨#[125]⟩ : ByteArray)).size = 1 := rfl
    simp only [Tr.tx, Tr.sz]
    split
    · simp only [ByteArray.size_append, h3, h4, h5]; omega
    · split
      · simp only [ByteArray.size_append, h3, h5, h6]; omega
      · split
        · simp only [ByteArray.size_append, h7, h8]; omega
        · simp only [ByteArray.size_append, h2, h3, h5]; omega

/-- The text at a place. -/
@[irreducible] def txt (xs : List T4) (k : Nat) : ByteArray := (den xs k).tx

theorem txt_size {xs : List T4} (hv : tfC xs = 0) {k : Nat} (hk : k < xs.length) (hs : (den xs k).sz ≤ 200) : (txt xs k).size ≤ 4800 := by
  unfold txt
  have := tx_size (den_fit hv k hk) hs
  omega

theorem txt_den {xs ys : List T4} {i j : Nat} (h : den xs i = den ys j) : txt xs i = txt ys j := by unfold txt; rw [h]

/-- What a term's text is made of. -/
theorem txt_ways {xs : List T4} (hv : tfC xs = 0) {k : Nat} (hk : k < xs.length) {x : T4} (hx : xs.getD k zTerm = x) (hs : (den xs k).sz ≤ 200) :
    (x.o = 1 ∧ (0 ≤ x.n ∧ x.n ≤ 9999) ∧ txt xs k = ⟨#[110]⟩ ++ dcB x.n) ∨
    (x.o = 2 ∧ (0 ≤ x.n ∧ x.n ≤ 9999) ∧ txt xs k = ⟨#[115]⟩ ++ dcB x.n) ∨
    (∃ i : Nat, x.a = i ∧ i < k ∧ (den xs i).sz ≤ 200 ∧ x.o = 6 ∧ txt xs k = ⟨#[103, 40]⟩ ++ txt xs i ++ ⟨#[41]⟩) ∨
    (∃ i j : Nat, x.a = i ∧ i < k ∧ (den xs i).sz ≤ 200 ∧ x.b = j ∧ j < k ∧ (den xs j).sz ≤ 200 ∧ (
      (x.o = 3 ∧ txt xs k = ⟨#[40]⟩ ++ txt xs i ++ ⟨#[44]⟩ ++ txt xs j ++ ⟨#[41]⟩) ∨
      (x.o = 4 ∧ txt xs k = ⟨#[102, 40]⟩ ++ txt xs i ++ ⟨#[44]⟩ ++ txt xs j ++ ⟨#[41]⟩) ∨
      (x.o = 5 ∧ txt xs k = ⟨#[123]⟩ ++ txt xs j ++ ⟨#[125]⟩ ++ txt xs i) ∨
      (x.o = 7 ∧ (xs.getD j zTerm).n < (xs.getD i zTerm).n ∧ txt xs k = ⟨#[103, 40]⟩ ++ txt xs j ++ ⟨#[44]⟩ ++ txt xs i ++ ⟨#[41]⟩) ∨
      (x.o = 7 ∧ ¬ (xs.getD j zTerm).n < (xs.getD i zTerm).n ∧ txt xs k = ⟨#[103, 40]⟩ ++ txt xs i ++ ⟨#[44]⟩ ++ txt xs j ++ ⟨#[41]⟩))) := by
  have hA := tfC_ahead hv
  have N := tfC_nice hv
  have h1 := tm_zero ((tfC_zero hv).2 k hk).1
  have ho := h1.1
  have hn := h1.2.1
  obtain ⟨s1, s2⟩ := sz_kid hv hk hx hs
  obtain ⟨k1, k2⟩ := hA k hk
  have R := N.rise k hk
  have hd := den_at k hk hA
  rw [hx] at ho hn k1 k2 R hd
  clear h1 hs
  unfold txt
  rw [hd]
  unfold mkTr
  rcases kids_ways x.o with ⟨e, q⟩ | ⟨e, q⟩ | ⟨e, q⟩ | ⟨e, q⟩ | ⟨e, q⟩ | ⟨e3, e4, e5, e7, e6, q⟩
  iterate 4
    · obtain ⟨a1, a2⟩ := k1 (by omega)
      obtain ⟨b1, b2⟩ := k2 (by omega)
      refine .inr (.inr (.inr ⟨x.a.toNat, x.b.toNat, by omega, by omega, s1 (by omega), by omega, by omega, s2 (by omega), ?_⟩))
      rw [if_pos q]
      first
        | (refine .inl ⟨e, ?_⟩; rw [if_neg (by omega), e]; rfl)
        | (refine .inr (.inl ⟨e, ?_⟩); rw [if_neg (by omega), e]; rfl)
        | (refine .inr (.inr (.inl ⟨e, ?_⟩)); rw [if_neg (by omega), e]; rfl)
        | (obtain ⟨r1, r2, _⟩ := R e
           unfold tmAt at r1 r2
           have f1 := den_fresh x.a.toNat (by omega) hA r1
           have f2 := den_fresh x.b.toNat (by omega) hA r2
           have g1 : (den xs x.a.toNat).num = (xs.getD x.a.toNat zTerm).n := by rw [f1]; rfl
           have g2 : (den xs x.b.toNat).num = (xs.getD x.b.toNat zTerm).n := by rw [f2]; rfl
           rw [g1, g2]
           by_cases hlt : (xs.getD x.b.toNat zTerm).n < (xs.getD x.a.toNat zTerm).n
           · refine .inr (.inr (.inr (.inl ⟨e, hlt, ?_⟩)))
             rw [if_pos ⟨e, hlt⟩, e]; rfl
           · refine .inr (.inr (.inr (.inr ⟨e, hlt, ?_⟩)))
             rw [if_neg (fun h => hlt h.2), e]; rfl)
  · obtain ⟨a1, a2⟩ := k1 (by omega)
    refine .inr (.inr (.inl ⟨x.a.toNat, by omega, by omega, s1 (by omega), e, ?_⟩))
    rw [if_neg (by omega), if_pos q]; rfl
  · have e2 : x.o = 1 ∨ x.o = 2 := by omega
    rw [if_neg (by omega), if_neg (by omega)]
    rcases e2 with e2 | e2
    · exact .inl ⟨e2, hn, by rw [e2]; rfl⟩
    · exact .inr (.inl ⟨e2, hn, by rw [e2]; rfl⟩)

end Go.Proofs.YthjaehcfakjemaaDoor

/- The places told; a list of two turned. -/
namespace Go.Proofs.YthjaehcfakjemaaDoor
open Go.RowKit

/-- The texts of the places told. -/
@[irreducible] def tsL (xs : List T4) (x : T4) : List ByteArray := (plD xs x).map fun p => txt xs p.toNat

theorem tsL_len (xs : List T4) (x : T4) : (tsL xs x).length = (plD xs x).length := by unfold tsL; simp

theorem tsL_next (xs : List T4) (x : T4) (q : Nat) (hq : q < (plD xs x).length) {i : Nat} (hi : (plD xs x).getD q 0 = (i : Int)) : (tsL xs x).take (q + 1) = (tsL xs x).take q ++ [txt xs i] := by
  rw [List.take_add_one]
  congr 1
  unfold tsL
  rw [List.getElem?_map, igetD_some hq, hi]
  simp

/-- What a term's text is made of, in the order told. -/
theorem words_ways {xs : List T4} (hv : tfC xs = 0) {k : Nat} (hk : k < xs.length) {x : T4} (hx : xs.getD k zTerm = x) (hs : (den xs k).sz ≤ 200) :
    (x.o = 1 ∧ (0 ≤ x.n ∧ x.n ≤ 9999) ∧ txt xs k = ⟨#[110]⟩ ++ dcB x.n) ∨
    (x.o = 2 ∧ (0 ≤ x.n ∧ x.n ≤ 9999) ∧ txt xs k = ⟨#[115]⟩ ++ dcB x.n) ∨
    (∃ A : ByteArray, A.size ≤ 4800 ∧ tsL xs x = [A] ∧ x.o = 6 ∧ txt xs k = ⟨#[103, 40]⟩ ++ A ++ ⟨#[41]⟩) ∨
    (∃ A D : ByteArray, A.size ≤ 4800 ∧ D.size ≤ 4800 ∧ tsL xs x = [A, D] ∧ (
      (x.o = 3 ∧ txt xs k = ⟨#[40]⟩ ++ (A ++ ⟨#[44]⟩ ++ D) ++ ⟨#[41]⟩) ∨
      (x.o = 4 ∧ txt xs k = ⟨#[102, 40]⟩ ++ (A ++ ⟨#[44]⟩ ++ D) ++ ⟨#[41]⟩) ∨
      (x.o = 5 ∧ txt xs k = ⟨#[123]⟩ ++ D ++ ⟨#[125]⟩ ++ A) ∨
      (x.o = 7 ∧ txt xs k = ⟨#[103, 40]⟩ ++ (A ++ ⟨#[44]⟩ ++ D) ++ ⟨#[41]⟩))) := by
  have two : ∀ {i j : Nat}, x.a = i → x.b = j → kids x.o = 2 → ¬ (x.o = 7 ∧ (xs.getD j zTerm).n < (xs.getD i zTerm).n) → tsL xs x = [txt xs i, txt xs j] := fun {i j} e1 e2 q hno => by
    unfold tsL plD plc
    rw [e1, e2, Int.toNat_natCast, Int.toNat_natCast, if_neg hno, if_pos q]
    simp
  rcases txt_ways hv hk hx hs with h | h | ⟨i, h1, h2, h3, h4, h5⟩ | ⟨i, j, h1, h2, h3, h4, h5, h6, h7⟩
  · exact .inl h
  · exact .inr (.inl h)
  · refine .inr (.inr (.inl ⟨txt xs i, txt_size hv (by omega) h3, ?_, h4, h5⟩))
    unfold tsL plD plc
    rw [if_neg (by omega), h4, kids6, if_neg (by decide), if_pos rfl, h1]
    simp
  · have s1 := txt_size hv (k := i) (by omega) h3
    have s2 := txt_size hv (k := j) (by omega) h6
    rcases h7 with ⟨e, h⟩ | ⟨e, h⟩ | ⟨e, h⟩ | ⟨e, hc, h⟩ | ⟨e, hc, h⟩
    · exact .inr (.inr (.inr ⟨_, _, s1, s2, two h1 h4 (by rw [e, kids3]) (by omega), .inl ⟨e, by rw [h]; simp only [ByteArray.append_assoc]⟩⟩))
    · exact .inr (.inr (.inr ⟨_, _, s1, s2, two h1 h4 (by rw [e, kids4]) (by omega), .inr (.inl ⟨e, by rw [h]; simp only [ByteArray.append_assoc]⟩)⟩))
    · exact .inr (.inr (.inr ⟨_, _, s1, s2, two h1 h4 (by rw [e, kids5]) (by omega), .inr (.inr (.inl ⟨e, h⟩))⟩))
    · refine .inr (.inr (.inr ⟨txt xs j, txt xs i, s2, s1, ?_, .inr (.inr (.inr ⟨e, by rw [h]; simp only [ByteArray.append_assoc]⟩))⟩))
      unfold tsL plD
      rw [h1, h4, Int.toNat_natCast, Int.toNat_natCast, if_pos ⟨e, hc⟩]
      simp
    · exact .inr (.inr (.inr ⟨_, _, s1, s2, two h1 h4 (by rw [e, kids7]) (fun h => hc h.2), .inr (.inr (.inr ⟨e, by rw [h]; simp only [ByteArray.append_assoc]⟩))⟩))

end Go.Proofs.YthjaehcfakjemaaDoor

/- The places told. -/
namespace Go.Proofs.YthjaehcfakjemaaDoor
open Go.RowKit

theorem decimal_ok (n : Int) (h0 : 0 ≤ n) (h1 : n ≤ 65535) (w : World) (htab : Lib.TabIs Tryd.prog w (Rows.fnExactTermTextRow.laid.getD 2 ("", .nil)).1 .u64 Lib.pow10Tab) :
    Calls Tryd.prog 58 #[.int .i64 n] w fun e w' => e = .returned (.string (dcB n)) ∧ Below w.heap.size w w' := by
  have CF := Hid.mk (formatInt_any n (by omega) (by omega) w htab)
  have e1 : Lib.itoa n = Lib.decDigits n.toNat := by unfold Lib.itoa; rw [if_neg (by omega)]
  rw [e1] at CF
  have e2 : (⟨(Lib.decDigits n.toNat).toArray⟩ : ByteArray) = dcB n := by unfold dcB; rfl
  rw [e2] at CF
  clear e1 e2 htab
  generalize dcB n = D at *
  go_enter Tryd.func58, Tryd.ntmps58
  go_wp2_with fail
  refine CF.out.mono ?_
  rintro e w1 ⟨rfl, b1⟩
  go_wp2
  go_ret
  exact ⟨rfl, b1⟩

end Go.Proofs.YthjaehcfakjemaaDoor

/- A term's text: the program. -/
namespace Go.Proofs.YthjaehcfakjemaaDoor
open Go.RowKit

theorem OwnSt.some {w : World} {base : Nat} {a : Option Addr} {cap : Nat} {zs : List ByteArray} (h : OwnSt w base a cap zs) (h0 : zs ≠ []) : ∃ g, a = Option.some ⟨g, 0, Option.none⟩ := by
  rcases h.2 with ⟨_, h1⟩ | ⟨g, cap', cur, hv, _⟩
  · exact absurd (List.length_eq_zero_iff.1 h1) h0
  · simp only [Value.slice.injEq] at hv
    exact ⟨g, hv.1⟩

theorem ownSt_none {w : World} {base : Nat} : OwnSt w base Option.none 0 [] := World.ownsRow_nil _ _ _ _

theorem join_one (A : ByteArray) : (⟨(Lib.join ([A].map (·.data.toList)) [44]).toArray⟩ : ByteArray) = A := by
  simp [Lib.join, List.intercalate]

theorem join_two (A D : ByteArray) : (⟨(Lib.join ([A, D].map (·.data.toList)) [44]).toArray⟩ : ByteArray) = A ++ ⟨#[44]⟩ ++ D := by
  apply ByteArray.ext
  simp [Lib.join, List.intercalate]

theorem join_size (A : ByteArray) : A.data.toList.length = A.size := by rw [Array.length_toList]; rfl

set_option maxRecDepth 20000 in
set_option maxHeartbeats 8000000 in
theorem termWords_ok (a : Option Addr) (n ca : Nat) (xs : List T4) (hv : tfC xs = 0) (hn : xs.length = n) : ∀ (k : Nat) (w : World), RdTerm w a xs → Lib.TabIs Tryd.prog w (Rows.fnExactTermTextRow.laid.getD 2 ("", .nil)).1 .u64 Lib.pow10Tab → k < n → (den xs k).sz ≤ 200 →
    Calls Tryd.prog 31 #[.slice a n ca, .int .i64 k] w fun e w' => e = .returned (.string (txt xs k)) ∧ Below w.heap.size w w' := by
  intro k
  induction k using Nat.strongRecOn with
  | _ k ih =>
  intro w ha htab hk hs
  have hT := Hid.mk (Lib.tabBelow_of_tabIs htab)
  obtain ⟨b1, o1, rfl⟩ := RdTerm.addr ha (by omega)
  have hkl : (k : Int) < (n : Int) := by omega
  obtain ⟨x, hx⟩ : ∃ x, xs.getD k zTerm = x := ⟨_, rfl⟩
  have CP := Hid.mk (fun w h => placesTold_ok (some ⟨b1, o1, none⟩) n ca xs hv hn k hk x hx w h)
  have W := Hid.mk (words_ways hv (by omega) hx hs)
  have HP := Hid.mk (plD_in hv (by omega) hx hs)
  have hm2 := plD_small xs x
  have hml := tsL_len xs x
  have HNX := Hid.mk (fun q h i hi => tsL_next xs x q h (i := i) hi)
  obtain ⟨p0, p1, p2, p3⟩ := RdTerm.at ha k (by omega) x hx
  have CI := Hid.mk (fun i (h : i < k) w h1 h2 h3 => ih i h w h1 h2 (by omega) h3)
  obtain ⟨m, hm⟩ : ∃ m, (plD xs x).length = m := ⟨_, rfl⟩
  have HM := Hid.mk hm
  rw [hm] at CP hm2 hml HNX
  replace hml := Hid.mk hml
  generalize plD xs x = ps at *
  generalize tsL xs x = ts at *
  generalize txt xs k = TX at *
  clear ih htab hv hn hx hs hm hk
  obtain ⟨o, ta, tb, nn⟩ := x
  simp only at p0 p1 p2 p3 CP W
  go_enter Tryd.func31, Tryd.ntmps31
  have B := Below.refl w.heap.size w
  have Bo := B
  replace ha := ha.kept (belowA w (.cells #[.int .i64 o, .int .i64 ta, .int .i64 tb, .int .i64 nn] 70))
  replace B := thenB B (belowA w (.cells #[.int .i64 o, .int .i64 ta, .int .i64 tb, .int .i64 nn] 70))
  have VT := V.new w [.int .i64 o, .int .i64 ta, .int .i64 tb, .int .i64 nn] 70
  obtain ⟨s_VT, f_VT, z_VT⟩ := VT.open
  have Bo := B
  go_wp2_with fail
  refine (CP.out _ ha).mono ?_
  rintro e w1 ⟨c, d, rfl, O, b1⟩
  clear s_VT f_VT z_VT
  have S1 := b1.size
  simp only [World.size_alloc] at S1
  replace VT := VT.kept b1
  replace ha := ha.kept b1
  replace B := thenB B b1
  clear b1
  obtain ⟨s_VT, f_VT, z_VT⟩ := VT.open
  have Bo := B
  have R := O.rd
  clear O
  clear s_VT f_VT z_VT
  have HV := Hid.mk VT
  have HA := Hid.mk ha
  have HR := Hid.mk R
  have HB := Hid.mk B
  clear VT ha R B Bo p0 p1 p2 p3
  go_wp2
  go_loopw [6, 17] (fun v i wr => ∃ (q : Nat) (c' : Option Addr) (d' : Nat), q ≤ m ∧ i = .int .i64 q ∧ v = .slice c' q d' ∧ OwnSt wr w1.heap.size c' d' (ts.take q) ∧ Below w1.heap.size w1 wr) (fun _ i _ => m - (intOf i).toNat)
  case atStart => exact ⟨0, none, 0, Nat.zero_le _, rfl, rfl, ownSt_none, Below.refl _ _⟩
  case round =>
    obtain ⟨q, c', d', hq, rfl, rfl, OS, B⟩ := hrel
    by_cases hlt : q < m
    · have hql : (q : Int) < (m : Int) := by omega
      obtain ⟨i, hi, hik, si⟩ := HP.out (ps.getD q 0) (igetD_mem (by rw [HM.out]; exact hlt))
      have hnx := Hid.mk (HNX.out q hlt i hi)
      have CA := Hid.mk (fun w h h2 => CI.out i hik w h h2 si)
      have R := HR.out.kept B
      obtain ⟨b2, o2, rfl, hc2⟩ := igetD_at R q (by rw [HM.out]; exact hlt)
      rw [hi] at hc2
      have hlen' : (ts.take q).length = q := by rw [List.length_take, hml.out]; omega
      clear R hi
      generalize txt xs i = A at *
      go_wp2_with fail
      refine (CA.out _ (HA.out.kept B) (hT.out _ (thenB HB.out B))).mono ?_
      rintro e w8 ⟨rfl, b8⟩
      replace OS := (OS.kept b8).kept (belowA w8 (.cells #[.string A] 9))
      replace B := thenB (thenB B b8) (belowA w8 (.cells #[.string A] 9))
      have hcA := cell_one w8 9 (.string A) 0 _ rfl
      replace hcA := Hid.mk hcA
      have hsz := B.size
      have OSl := Hid.mk OS.lt
      clear b8 hc2
      go_wp2_with (at_builtin; go_loud (refine wpList_putSt _ rfl _ _ rfl w1.heap.size c' d' (ts.take q) q hlen' rfl OS (⟨w8.heap.size, 0, none⟩) 1 A rfl hcA.out (by omega) hsz ?_))
      intro c6 d6 w6 O6 hg6 hx6
      have B6 := Hid.mk (belowG B hg6 hsz (fun b hb => (OSl.out b hb).1))
      have O6' := Hid.mk (hnx.out ▸ O6 : OwnSt w6 w1.heap.size c6 d6 (ts.take (q + 1)))
      clear OS B hcA O6 hg6 hx6 OSl
      go_wp2
      go_roundw
      case rel => exact ⟨q + 1, c6, d6, by omega, by go_num, rfl, O6'.out, B6.out⟩
      case measure => simp [intOf]; omega
    · obtain rfl : q = m := by omega
      rw [List.take_of_length_le (by rw [hml.out]; exact Nat.le_refl _)] at OS
      have VT := HV.out.kept B
      have BF := Hid.mk (thenB HB.out B)
      clear B HR CP HNX CI HP
      rcases W.out with ⟨rfl, ⟨n0, n9⟩, hT2⟩ | ⟨rfl, ⟨n0, n9⟩, hT2⟩ | ⟨A, sA, rfl, rfl, hT2⟩ | ⟨A, D, sA, sD, rfl, ⟨rfl, hT2⟩ | ⟨rfl, hT2⟩ | ⟨rfl, hT2⟩ | ⟨rfl, hT2⟩⟩
      · skip
        have CD := Hid.mk (decimal_ok nn n0 (by omega) wr (hT.out _ BF.out))
        have sD := dcB_size n0 (by omega)
        subst hT2
        have z1 : ¬ 9223372036854775807 < 1 + (dcB nn).size := by omega
        clear n0 n9 sD OS W
        obtain ⟨s_VT, f_VT, z_VT⟩ := VT.open
        go_wp2_with fail
        refine CD.out.mono ?_
        rintro e w8 ⟨rfl, b8⟩
        have B8 := Hid.mk (thenB BF.out b8)
        clear b8
        go_wp2
        go_ret
        exact ⟨rfl, B8.out⟩
      · skip
        have CD := Hid.mk (decimal_ok nn n0 (by omega) wr (hT.out _ BF.out))
        have sD := dcB_size n0 (by omega)
        subst hT2
        have z1 : ¬ 9223372036854775807 < 1 + (dcB nn).size := by omega
        clear n0 n9 sD OS W
        obtain ⟨s_VT, f_VT, z_VT⟩ := VT.open
        go_wp2_with fail
        refine CD.out.mono ?_
        rintro e w8 ⟨rfl, b8⟩
        have B8 := Hid.mk (thenB BF.out b8)
        clear b8
        go_wp2
        go_ret
        exact ⟨rfl, B8.out⟩
      · skip
        obtain ⟨gg, rfl⟩ := OS.some (by simp)
        have hjl : (Lib.join ([A].map (·.data.toList)) (⟨#[44]⟩ : ByteArray).data.toList).length ≤ 140737488355328 := by
          simp only [Lib.join, List.intercalate, List.map_cons, List.map_nil, List.intersperse, List.flatten_cons, List.flatten_nil, List.length_append, List.length_nil, join_size]
          omega
        have CJ := Hid.mk (join_any gg 0 d' [A] ⟨#[44]⟩ wr OS.cells (OS.lt _ rfl).2 (by simp) OS.cap hjl)
        rw [join_one] at CJ
        have hq2 : q = 1 := by have := hml.out; simpa using this.symm
        subst hq2
        subst hT2
        have sJ : A.size ≤ 9601 := by omega
        skip
        have z1 : ¬ 9223372036854775807 < 2 + A.size := by omega
        have z2 : ¬ 9223372036854775807 < 2 + A.size + 1 := by omega
        clear hjl OS W sJ sA
        obtain ⟨s_VT, f_VT, z_VT⟩ := VT.open
        go_wp2_with fail
        refine CJ.out.mono ?_
        rintro e w8 ⟨rfl, b8⟩
        have B8 := Hid.mk (thenB BF.out b8)
        clear b8
        go_wp2
        go_ret
        exact ⟨rfl, B8.out⟩
      · skip
        obtain ⟨gg, rfl⟩ := OS.some (by simp)
        have hjl : (Lib.join ([A, D].map (·.data.toList)) (⟨#[44]⟩ : ByteArray).data.toList).length ≤ 140737488355328 := by
          simp only [Lib.join, List.intercalate, List.map_cons, List.map_nil, List.intersperse, List.flatten_cons, List.flatten_nil, List.length_append, List.length_cons, List.length_nil, join_size]
          omega
        have CJ := Hid.mk (join_any gg 0 d' [A, D] ⟨#[44]⟩ wr OS.cells (OS.lt _ rfl).2 (by simp) OS.cap hjl)
        rw [join_two] at CJ
        have hq2 : q = 2 := by have := hml.out; simpa using this.symm
        subst hq2
        subst hT2
        generalize hJ : A ++ ⟨#[44]⟩ ++ D = J at *
        have sJ : J.size ≤ 9601 := by rw [← hJ]; rw [ByteArray.size_append, ByteArray.size_append]; have h7 : ((⟨#[44]⟩ : ByteArray)).size = 1 := rfl; omega
        replace hJ := Hid.mk hJ
        have z1 : ¬ 9223372036854775807 < 1 + J.size := by omega
        have z2 : ¬ 9223372036854775807 < 1 + J.size + 1 := by omega
        clear hjl OS W sJ sA sD
        obtain ⟨s_VT, f_VT, z_VT⟩ := VT.open
        go_wp2_with fail
        refine CJ.out.mono ?_
        rintro e w8 ⟨rfl, b8⟩
        have B8 := Hid.mk (thenB BF.out b8)
        clear b8
        go_wp2
        go_ret
        exact ⟨by rw [hJ.out]; rfl, B8.out⟩
      · skip
        obtain ⟨gg, rfl⟩ := OS.some (by simp)
        have hjl : (Lib.join ([A, D].map (·.data.toList)) (⟨#[44]⟩ : ByteArray).data.toList).length ≤ 140737488355328 := by
          simp only [Lib.join, List.intercalate, List.map_cons, List.map_nil, List.intersperse, List.flatten_cons, List.flatten_nil, List.length_append, List.length_cons, List.length_nil, join_size]
          omega
        have CJ := Hid.mk (join_any gg 0 d' [A, D] ⟨#[44]⟩ wr OS.cells (OS.lt _ rfl).2 (by simp) OS.cap hjl)
        rw [join_two] at CJ
        have hq2 : q = 2 := by have := hml.out; simpa using this.symm
        subst hq2
        subst hT2
        generalize hJ : A ++ ⟨#[44]⟩ ++ D = J at *
        have sJ : J.size ≤ 9601 := by rw [← hJ]; rw [ByteArray.size_append, ByteArray.size_append]; have h7 : ((⟨#[44]⟩ : ByteArray)).size = 1 := rfl; omega
        replace hJ := Hid.mk hJ
        have z1 : ¬ 9223372036854775807 < 2 + J.size := by omega
        have z2 : ¬ 9223372036854775807 < 2 + J.size + 1 := by omega
        clear hjl OS W sJ sA sD
        obtain ⟨s_VT, f_VT, z_VT⟩ := VT.open
        go_wp2_with fail
        refine CJ.out.mono ?_
        rintro e w8 ⟨rfl, b8⟩
        have B8 := Hid.mk (thenB BF.out b8)
        clear b8
        go_wp2
        go_ret
        exact ⟨by rw [hJ.out]; rfl, B8.out⟩
      · skip
        obtain ⟨gg, rfl⟩ := OS.some (by simp)
        have hq2 : q = 2 := by have := hml.out; simpa using this.symm
        subst hq2
        have c0 := OS.cells 0 A rfl
        have c1 := OS.cells 1 D rfl
        simp only [Nat.zero_add] at c0 c1
        subst hT2
        have z1 : ¬ 9223372036854775807 < 1 + D.size := by omega
        have z2 : ¬ 9223372036854775807 < 1 + D.size + 1 := by omega
        have z3 : ¬ 9223372036854775807 < 1 + D.size + 1 + A.size := by omega
        clear sA sD OS W
        obtain ⟨s_VT, f_VT, z_VT⟩ := VT.open
        go_wp2_with fail
        go_quiet (fail)
        have B8 := Hid.mk (belowN BF.out nq)
        go_wp2
        go_ret
        exact ⟨rfl, B8.out⟩
      · skip
        obtain ⟨gg, rfl⟩ := OS.some (by simp)
        have hjl : (Lib.join ([A, D].map (·.data.toList)) (⟨#[44]⟩ : ByteArray).data.toList).length ≤ 140737488355328 := by
          simp only [Lib.join, List.intercalate, List.map_cons, List.map_nil, List.intersperse, List.flatten_cons, List.flatten_nil, List.length_append, List.length_cons, List.length_nil, join_size]
          omega
        have CJ := Hid.mk (join_any gg 0 d' [A, D] ⟨#[44]⟩ wr OS.cells (OS.lt _ rfl).2 (by simp) OS.cap hjl)
        rw [join_two] at CJ
        have hq2 : q = 2 := by have := hml.out; simpa using this.symm
        subst hq2
        subst hT2
        generalize hJ : A ++ ⟨#[44]⟩ ++ D = J at *
        have sJ : J.size ≤ 9601 := by rw [← hJ]; rw [ByteArray.size_append, ByteArray.size_append]; have h7 : ((⟨#[44]⟩ : ByteArray)).size = 1 := rfl; omega
        replace hJ := Hid.mk hJ
        have z1 : ¬ 9223372036854775807 < 2 + J.size := by omega
        have z2 : ¬ 9223372036854775807 < 2 + J.size + 1 := by omega
        clear hjl OS W sJ sA sD
        obtain ⟨s_VT, f_VT, z_VT⟩ := VT.open
        go_wp2_with fail
        refine CJ.out.mono ?_
        rintro e w8 ⟨rfl, b8⟩
        have B8 := Hid.mk (thenB BF.out b8)
        clear b8
        go_wp2
        go_ret
        exact ⟨by rw [hJ.out]; rfl, B8.out⟩

end Go.Proofs.YthjaehcfakjemaaDoor
