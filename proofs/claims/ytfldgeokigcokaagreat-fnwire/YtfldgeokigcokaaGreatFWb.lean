/- Put together: RdrA, RdrB, RdrC, RdrD, RdrE, RdrF. -/
import Derived.Test.YtfldgeokigcokaaGreatFWm
import Derived.Test.YtfldgeokigcokaaGreatFWu
import Derived.Test.YtfldgeokigcokaaGreatFWi

/- A reader of bytes: 'number'. -/
namespace Go.Proofs.YtfldgeokigcokaaGreat
open Go.RowKit

/-- The reader at P: what is left of its bytes, in the block bx; beside it 'bk'. -/
structure Rdr (w : World) (P : Nat) (bk : Value) (bx : Nat) (x : Option Addr) (m d : Nat) (ds : List Int) : Prop where
  v : V w P [.slice x m d, bk]
  rd : Rd .u8 w x ds
  len : ds.length = m
  cap : m ≤ d
  big : m ≤ 1048576
  lies : ∀ b : Addr, x = some b → b.block = bx
  nil : x = none → ds = []

theorem Rdr.sm {X : Nat → Prop} {w w' : World} {P : Nat} {bk : Value} {bx : Nat} {x : Option Addr} {m d : Nat} {ds : List Int} (h : Rdr w P bk bx x m d ds) (s : Sm X w w') (hP : ¬ X P) (hb : ¬ X bx) : Rdr w' P bk bx x m d ds :=
  ⟨h.v.sm s hP, h.rd.sm s (fun b hx e => hb (by rw [← h.lies b hx]; exact e)), h.len, h.cap, h.big, h.lies, h.nil⟩

theorem Rdr.kept {w w' : World} {P : Nat} {bk : Value} {bx : Nat} {x : Option Addr} {m d : Nat} {ds : List Int} (h : Rdr w P bk bx x m d ds) (b : Below w.heap.size w w') : Rdr w' P bk bx x m d ds :=
  ⟨h.v.kept b, h.rd.kept b, h.len, h.cap, h.big, h.lies, h.nil⟩

set_option maxRecDepth 20000 in
set_option maxHeartbeats 4000000 in
theorem number_no (P : Nat) (bk : Value) (bx : Nat) (x : Option Addr) (m d : Nat) (ds : List Int) (s : Nat) (w : World) (R : Rdr w P bk bx x m d ds) (hb : Bytes ds) (hs : m < s) :
    Calls Tryz.prog 66 #[.pointer (some ⟨P, 0, none⟩), .int .i64 (s : Int)] w fun e w' => e = stop 5 ∧ Below w.heap.size w w' := by
  have CR := readNumber_no x m d 0 s ds w R.rd hb R.len R.big R.cap (by omega)
  rw [show ((0 : Nat) : Int) = 0 from rfl] at CR
  replace CR := Hid.mk CR
  obtain ⟨s_V, f_V, z_V⟩ := R.v.open
  go_enter Tryz.func66, Tryz.ntmps66
  go_wp2_with fail
  refine CR.out.mono ?_
  rintro e w1 ⟨rfl, b1⟩
  exact ⟨rfl, rfl, b1⟩

set_option maxRecDepth 20000 in
set_option maxHeartbeats 4000000 in
theorem number_some (P : Nat) (bk : Value) (bx : Nat) (x : Option Addr) (m d : Nat) (ds : List Int) (s : Nat) (w : World) (R : Rdr w P bk bx x m d ds) (hb : Bytes ds) (h1 : 1 ≤ s) (h7 : s ≤ 7) (hs : s ≤ m) (hne : bx ≠ P) :
    Calls Tryz.prog 66 #[.pointer (some ⟨P, 0, none⟩), .int .i64 (s : Int)] w fun e w' => e = .returned (.int .i64 (takeN ds 0 s)) ∧ Sm (fun k => k = P) w w' ∧ ∃ x', Rdr w' P bk bx x' (m - s) (d - s) (ds.drop s) ∧ x' ≠ none := by
  have CR := readNumber_ok x m d 0 s ds w R.rd hb R.len R.big R.cap h1 h7 (by omega)
  rw [show ((0 : Nat) : Int) = 0 from rfl] at CR
  replace CR := Hid.mk CR
  have hcap := R.cap
  have hbig := R.big
  obtain ⟨b2, o2, rfl, hcell⟩ : ∃ b2 o2, x = some ⟨b2, o2, none⟩ ∧ ∀ i, i < ds.length → w.cell? ⟨b2, o2 + i, none⟩ = some (.int .u8 (ds.getD i 0)) := by
    rcases R.rd with h | ⟨b2, o2, rfl, hcell⟩
    · have := R.len; rw [h] at this; simp at this; omega
    · exact ⟨_, _, rfl, hcell⟩
  have hbx := R.lies _ rfl
  simp only at hbx
  subst hbx
  have HR := Hid.mk R
  obtain ⟨tk, htk⟩ : ∃ t, takeN ds 0 s = t := ⟨_, rfl⟩
  rw [htk] at CR ⊢
  have k1 : (s : Int) ≤ (m : Int) := by omega
  have k2 : (m : Int) ≤ (d : Int) := by omega
  have k3 : (s : Int) ≤ (d : Int) := by omega
  have key : ∀ (w1 : World) (x' : Option Addr), Below w.heap.size w w1 → (x' = some ⟨b2, o2 + s, none⟩ ∨ (m = s ∧ x' = some ⟨b2, o2, none⟩)) → Sm (fun k => k = P) w (w1.setCell ⟨P, 0, none⟩ (.slice x' (m - s) (d - s))) ∧ ∃ x2, Rdr (w1.setCell ⟨P, 0, none⟩ (.slice x' (m - s) (d - s))) P bk b2 x2 (m - s) (d - s) (ds.drop s) ∧ x2 ≠ none := by
    intro w1 x' b1 hx'
    have R1 := HR.out.kept b1
    have S1 : Sm (fun k => k = P) w1 (w1.setCell ⟨P, 0, none⟩ (.slice x' (m - s) (d - s))) := Sm.cell (X := fun k => k = P) rfl _
    refine ⟨(Sm.below b1).trans S1, x', ?_⟩
    have hV := R1.v.set (i := 0) (by simp) (.slice x' (m - s) (d - s))
    simp only [List.set_cons_zero] at hV
    have hlen : (ds.drop s).length = m - s := by rw [List.length_drop, R1.len]
    have hrd : Rd .u8 w1 x' (ds.drop s) := by
      rcases hx' with rfl | ⟨h, rfl⟩
      · refine .inr ⟨b2, o2 + s, rfl, fun i hi => ?_⟩
        have h2 := R1.rd
        rcases h2 with h2 | ⟨b3, o3, e3, h2⟩
        · rw [h2] at hi; simp at hi
        · simp only [Option.some.injEq, Addr.mk.injEq, and_true] at e3
          obtain ⟨rfl, rfl⟩ := e3
          have h3 := h2 (s + i) (by rw [List.length_drop] at hi; omega)
          rw [getD_drop, ← h3, Nat.add_assoc]
      · exact .inl (List.eq_nil_of_length_eq_zero (by omega))
    refine ⟨⟨hV, hrd.sm S1 (fun b hb' e => ?_), hlen, by omega, by omega, fun b hb' => ?_, fun h => ?_⟩, fun h => ?_⟩
    · rcases hx' with rfl | ⟨_, rfl⟩ <;> simp only [Option.some.injEq] at hb' <;> subst hb' <;> exact hne e
    · rcases hx' with rfl | ⟨_, rfl⟩ <;> simp only [Option.some.injEq] at hb' <;> subst hb' <;> rfl
    · rcases hx' with rfl | ⟨_, rfl⟩ <;> cases h
    · rcases hx' with rfl | ⟨_, rfl⟩ <;> cases h
  have KEY := Hid.mk key
  have hVh := Hid.mk R.v
  clear key hcell R
  obtain ⟨s_V, f_V, z_V⟩ := hVh.out.open
  rcases Nat.lt_or_ge s d with hd | hd
  · have k4 : (s : Int) < (d : Int) := by omega
    have k5 : ¬ d = s := by omega
    have k6 : d - s ≠ 0 := by omega
    go_enter Tryz.func66, Tryz.ntmps66
    go_wp2_with fail
    refine CR.out.mono ?_
    rintro e w1 ⟨rfl, b1⟩
    have KK := Hid.mk (KEY.out w1 (some ⟨b2, o2 + s, none⟩) b1 (.inl rfl))
    have hv1 := hVh.out.kept b1
    clear s_V f_V z_V
    obtain ⟨s_V, f_V, z_V⟩ := hv1.open
    have hms : m - s = m - s := rfl
    go_wp2
    go_ret
    exact ⟨rfl, KK.out⟩
  · obtain rfl : m = s := by omega
    obtain rfl : d = m := by omega
    go_enter Tryz.func66, Tryz.ntmps66
    go_wp2_with fail
    refine CR.out.mono ?_
    rintro e w1 ⟨rfl, b1⟩
    have KK := Hid.mk (KEY.out w1 (some ⟨b2, o2, none⟩) b1 (.inr (by simp)))
    have hv1 := hVh.out.kept b1
    clear s_V f_V z_V
    obtain ⟨s_V, f_V, z_V⟩ := hv1.open
    go_wp2
    go_ret
    have h := KK.out
    simp only [Nat.sub_self] at h ⊢
    exact ⟨rfl, h⟩

theorem number_ok (P : Nat) (bk : Value) (bx : Nat) (x : Option Addr) (m d : Nat) (ds : List Int) (s : Nat) (w : World) (R : Rdr w P bk bx x m d ds) (hb : Bytes ds) (h1 : 1 ≤ s) (h7 : s ≤ 7) (hs : s ≤ m) (hne : bx ≠ P) :
    Calls Tryz.prog 66 #[.pointer (some ⟨P, 0, none⟩), .int .i64 (s : Int)] w fun e w' => e = .returned (.int .i64 (takeN ds 0 s)) ∧ Sm (fun k => k = P) w w' ∧ ∃ x', Rdr w' P bk bx x' (m - s) (d - s) (ds.drop s) :=
  (number_some P bk bx x m d ds s w R hb h1 h7 hs hne).mono fun _ _ ⟨h, S, x', R', _⟩ => ⟨h, S, x', R'⟩

end Go.Proofs.YtfldgeokigcokaaGreat

/- The reader's 'term': names and secrets. -/
namespace Go.Proofs.YtfldgeokigcokaaGreat
open Go.RowKit

theorem Sm.more {X Y : Nat → Prop} {w w' : World} (h : Sm X w w') (hx : ∀ k, X k → Y k) : Sm Y w w' := ⟨h.os, h.tape, h.output, h.size, fun k hk hn => h.block k hk (fun e => hn (hx k e))⟩

/-- What 'term' leaves: nothing but a code, or the term that it has read, put into the book. -/
def TermRead (f : Nat) (xs : List T4) (ds : List Int) (base P pb g bx : Nat) (c : Option Addr) (w : World) : Ending → World → Prop := fun e w' =>
  Sm (fun k => k = P ∨ BkX pb g c k) w w' ∧ ((rd1 f xs ds = none ∧ e = stop 5) ∨ ∃ (A : Go.Proofs.YtfldgeokigcokaaGreat.Put) (r : List Int), rd1 f xs ds = some (A, r) ∧ e = .returned (.int .i64 A.k) ∧
    (∃ c' d', Bk w' base pb g c' d' A.l ∧ ∀ k, BkX pb g c' k → k < w.heap.size → BkX pb g c k) ∧ ∃ x' d', Rdr w' P (.pointer (some ⟨pb, 0, none⟩)) bx x' r.length d' r)

/-- 'term' at bytes of so many. -/
def TermOk (f : Nat) (base P pb g bx : Nat) : Prop :=
  ∀ (xs : List T4) (ds : List Int) (x : Option Addr) (m d : Nat) (c : Option Addr) (dd : Nat) (w : World), ds.length ≤ f → Rdr w P (.pointer (some ⟨pb, 0, none⟩)) bx x m d ds → Bytes ds → Bk w base pb g c dd xs → tfC xs = 0 → (∀ k, BkX pb g c k → k ≠ P) → base ≤ P → bx < base →
    Calls Tryz.prog 42 #[.pointer (some ⟨P, 0, none⟩)] w (TermRead f xs ds base P pb g bx c w)

theorem build_tmo (o : Int) (w : World) : (Instr.build 70 #[(0, .int .i64 o)]).run Tryz.prog w = .ok (.agg #[.int .i64 o, .int .i64 0, .int .i64 0, .int .i64 0]) w := run_build w 70 _ _ (by kernel_rfl)

theorem takeN_head (o : Int) (r : List Int) : takeN (o :: r) 0 1 = o := by
  rw [show (1 : Nat) = 0 + 1 from rfl, takeN_succ]; simp [takeN]

theorem takeN_pair (r : List Int) : takeN r 0 2 = r.getD 0 0 * 256 + r.getD 1 0 := by
  rw [show (2 : Nat) = 0 + 1 + 1 from rfl, takeN_succ, takeN_succ]; simp [takeN]

theorem bytes_tail {o : Int} {r : List Int} (h : Bytes (o :: r)) : Bytes r := fun z hz => h z (by simp [hz])
theorem bytes_dropN {r : List Int} (h : Bytes r) (n : Nat) : Bytes (r.drop n) := fun z hz => h z (List.mem_of_mem_drop hz)
theorem okT_of {o a b n : Int} (h1 : 0 ≤ o ∧ o < 1000000) (h2 : 0 ≤ a ∧ a < 1000000) (h3 : 0 ≤ b ∧ b < 1000000) (h4 : 0 ≤ n ∧ n < 1000000) : okT ⟨o, a, b, n⟩ := ⟨okI_of (by simp only; omega) (by simp only; omega), okI_of (by simp only; omega) (by simp only; omega), okI_of (by simp only; omega) (by simp only; omega), okI_of (by simp only; omega) (by simp only; omega)⟩
theorem okP {i : Int} (h : 0 ≤ i ∧ i < 1000000) : okI i := okI_of (by omega) (by omega)

set_option maxRecDepth 20000 in
set_option maxHeartbeats 16000000 in
theorem term_leaf1 (f base P pb g bx : Nat) (xs : List T4) (r : List Int) (x : Option Addr) (m d : Nat) (c : Option Addr) (dd : Nat) (w : World) (R : Rdr w P (.pointer (some ⟨pb, 0, none⟩)) bx x m d (1 :: r)) (hb : Bytes (1 :: r)) (H : Bk w base pb g c dd xs) (ht : tfC xs = 0) (hP : ∀ k, BkX pb g c k → k ≠ P) (hbP : base ≤ P) (hbx : bx < base) :
    Calls Tryz.prog 42 #[.pointer (some ⟨P, 0, none⟩)] w (TermRead (f + 1) xs (1 :: r) base P pb g bx c w) := by
  have q1 := build_tmo
  unfold TermRead
  have hx4 := (tfC_zero ht).1
  have hml := R.len
  simp only [List.length_cons] at hml
  have hbr := bytes_tail hb
  have hne : bx ≠ P := by omega
  have CN := number_ok P (.pointer (some ⟨pb, 0, none⟩)) bx x m d (1 :: r) 1 w R hb (by decide) (by decide) (by omega) hne
  rw [takeN_head, show ((1 : Nat) : Int) = 1 from rfl, List.drop_succ_cons, List.drop_zero] at CN
  replace CN := Hid.mk CN
  have hPl := R.v.1
  have HX := Hid.mk hP
  have HLT := Hid.mk H.lt
  have HT := Hid.mk ht
  by_cases h2 : 2 ≤ r.length
  · skip
    have hn0 := hbr.at 0
    have hn1 := hbr.at 1
    obtain ⟨nn, hnn⟩ : ∃ nn, r.getD 0 0 * 256 + r.getD 1 0 = nn := ⟨_, rfl⟩
    go_enter Tryz.func42, Tryz.ntmps42
    go_wp2_with fail
    refine CN.out.mono ?_
    rintro e w1 ⟨rfl, S1, x1, R1⟩
    have H1 := H.sm S1 (fun k e => by subst e; exact fun h => HX.out _ h rfl)
    have S : Sm (fun k => k = P ∨ BkX pb g c k) w w1 := S1.more (fun k e => .inl e)
    have hs1 := S1.size
    have HC : Hid (∀ k, BkX pb g c k → k < w.heap.size → BkX pb g c k) := Hid.mk (fun k h _ => h)
    clear R H S1 CN
    have R := R1
    have H := H1
    clear R1 H1
    replace R := R.kept (belowA w1 (.cells #[.int .i64 1, .int .i64 0, .int .i64 0, .int .i64 0] 70))
    replace H := H.kept (belowA w1 (.cells #[.int .i64 1, .int .i64 0, .int .i64 0, .int .i64 0] 70))
    replace S := S.trans (Sm.below (belowA w1 (.cells #[.int .i64 1, .int .i64 0, .int .i64 0, .int .i64 0] 70)))
    have VT := V.new w1 [.int .i64 1, .int .i64 0, .int .i64 0, .int .i64 0] 70
    have hT1 : w.heap.size ≤ w1.heap.size := hs1
    have hTB : Hid (P < w1.heap.size ∧ ∀ k, BkX pb g c k → k < w1.heap.size) := Hid.mk ⟨by omega, fun k h => by have := (HLT.out k h).2; omega⟩
    obtain ⟨s_VT, f_VT, z_VT⟩ := VT.open
    clear s_VT f_VT z_VT
    have CN2 := number_ok P (.pointer (some ⟨pb, 0, none⟩)) bx x1 (m - 1) (d - 1) r 2 _ R hbr (by decide) (by decide) (by omega) hne
    rw [takeN_pair, show ((2 : Nat) : Int) = 2 from rfl, hnn] at CN2
    replace CN2 := Hid.mk CN2
    obtain ⟨s_VT, f_VT, z_VT⟩ := VT.open
    go_wp2_with fail
    refine CN2.out.mono ?_
    rintro e w2 ⟨rfl, S2, x2, R2⟩
    clear s_VT f_VT z_VT
    have hs2 := S2.size
    simp only [World.size_alloc] at hs2
    have H2 := H.sm S2 (fun k e => by subst e; exact fun h => HX.out _ h rfl)
    have VT2 := VT.sm S2 (by have := hTB.out.1; omega)
    have Sn : Sm (fun k => k = P ∨ BkX pb g c k) w w2 := S.trans (S2.more (fun k e => .inl e))
    clear R H S S2 VT CN2
    have R := R2
    have H := H2
    have S := Sn
    have VT := VT2
    clear R2 H2 Sn VT2
    obtain ⟨s_VT, f_VT, z_VT⟩ := VT.open
    clear s_VT f_VT z_VT
    have VT2 := VT.set (i := 3) (by simp) (.int .i64 nn)
    simp only [List.set_cons_zero, List.set_cons_succ] at VT2
    have hPT : P < w1.heap.size := hTB.out.1
    have R2 : Rdr (w2.setCell ⟨w1.heap.size, 3, none⟩ (.int .i64 nn)) P (.pointer (some ⟨pb, 0, none⟩)) bx x2 (m - 1 - 2) (d - 1 - 2) (r.drop 2) := R.sm (X := fun k => k = w1.heap.size) (Sm.cell (X := fun k => k = w1.heap.size) rfl _) (by omega) (by omega)
    have H2 : Bk (w2.setCell ⟨w1.heap.size, 3, none⟩ (.int .i64 nn)) base pb g c dd xs := H.sm (X := fun k => k = w1.heap.size) (Sm.cell (X := fun k => k = w1.heap.size) rfl _) (fun k e h => by have := hTB.out.2 k h; omega)
    have S2 := S.newCell (p := ⟨w1.heap.size, 3, none⟩) (by simp only; omega) (.int .i64 nn)
    obtain ⟨s_VT, f_VT, z_VT⟩ := VT.open
    go_upto_region 14 with fail
    clear s_VT f_VT z_VT R H S VT
    have R := R2
    have H := H2
    have S := S2
    have VT := VT2
    clear R2 H2 S2 VT2
    generalize w2.setCell ⟨w1.heap.size, 3, none⟩ (.int .i64 nn) = w3 at *
    have CU := fun w h => put_ok base pb g c dd xs ⟨1, 0, 0, nn⟩ w h (okT_of (by decide) (by decide) (by decide) (by omega)) hx4
    simp only at CU
    obtain ⟨Q, hQ⟩ : ∃ Q, put xs ⟨1, 0, 0, nn⟩ = Q := ⟨_, rfl⟩
    have HQ := Hid.mk hQ
    have HPL : Hid (putL xs ⟨1, 0, 0, nn⟩ = if Q.c = 0 then Q.l else xs) := Hid.mk (by unfold putL; rw [hQ])
    rw [hQ] at CU
    replace CU := Hid.mk CU
    clear hQ
    have hPf : ¬ BkX pb g c P := fun h => HX.out P h rfl
    have hTf : ¬ BkX pb g c (w1.heap.size) := by intro e; exact absurd e (by exact fun e => by have := hTB.out.2 _ e; omega)
    have K : ∀ w' : World, Sm (BkX pb g c) w3 w' → (w'.cell? ⟨P, 1, none⟩ = some (.pointer (some ⟨pb, 0, none⟩)) ∧ w'.cell? ⟨w1.heap.size, 0, none⟩ = some (.int .i64 1) ∧ w'.cell? ⟨w1.heap.size, 1, none⟩ = some (.int .i64 0) ∧ w'.cell? ⟨w1.heap.size, 2, none⟩ = some (.int .i64 0) ∧ w'.cell? ⟨w1.heap.size, 3, none⟩ = some (.int .i64 nn)) := fun w' h => ⟨(R.v.sm h hPf).2.1 1 (by simp), (VT.sm h hTf).2.1 0 (by simp), (VT.sm h hTf).2.1 1 (by simp), (VT.sm h hTf).2.1 2 (by simp), (VT.sm h hTf).2.1 3 (by simp)⟩
    have K := Hid.mk K
    have RR := Hid.mk R
    have HH := Hid.mk H
    have SS := Hid.mk S
    have VTT := Hid.mk VT
    have hPz := R.v.1
    clear R H S VT
    go_cut [4] (fun p wx => ∃ (PI : Nat) (c6 : Option Addr) (d6 : Nat), p = .pointer (some ⟨PI, 0, none⟩) ∧ V wx PI [.int .i64 Q.c, .int .i64 Q.k] ∧ Hid (Bk wx base pb g c6 d6 (putL xs ⟨1, 0, 0, nn⟩)) ∧ Hid (Rdr wx P (.pointer (some ⟨pb, 0, none⟩)) bx x2 (m - 1 - 2) (d - 1 - 2) (r.drop 2)) ∧ Hid (Sm (fun k => k = P ∨ BkX pb g c k) w wx) ∧ Hid (∀ k, BkX pb g c6 k → k < w.heap.size → BkX pb g c k))
    case first =>
      refine wp_region_held_drew (S := (fun w' => w'.cell? ⟨P, 1, none⟩ = some (.pointer (some ⟨pb, 0, none⟩)) ∧ w'.cell? ⟨w1.heap.size, 0, none⟩ = some (.int .i64 1) ∧ w'.cell? ⟨w1.heap.size, 1, none⟩ = some (.int .i64 0) ∧ w'.cell? ⟨w1.heap.size, 2, none⟩ = some (.int .i64 0) ∧ w'.cell? ⟨w1.heap.size, 3, none⟩ = some (.int .i64 nn))) (by kernel_rfl) (K.out _ (Sm.below (Below.refl _ _).drew)) (fun hHeld => ?_)
      have bd : Sm (BkX pb g c) w3 w3.drew := Sm.below (Below.refl _ _).drew
      have HBd := Hid.mk (HH.out.kept (Below.refl _ _).drew)
      have hd0 := Hid.mk (show w3.drew.heap.size = w3.heap.size from rfl)
      generalize w3.drew = wd at *
      refine wpAnyH_take (i := 0) (oi := _) (v := ?vtma11) rfl (by kernel_rfl) (by kernel_rfl) (by kernel_rfl) (fun _ _ _ h => h) (Or.inl ⟨by kernel_rfl, ?hytma11⟩) hHeld ?resttma11
      case hytma11 => (intro w hSw; (try dsimp only at hSw); go_simp; first | done | with_reducible rfl)
      try simp only [Act.put, List.getElem_toArray, List.getElem_cons_zero, List.setIfInBounds_toArray, List.set_cons_zero, List.set_cons_succ]
      refine wpAnyH_take (i := 1) (oi := _) (v := ?vtma12) rfl (by kernel_rfl) (by kernel_rfl) (by kernel_rfl) (fun _ _ _ h => h) (Or.inl ⟨by kernel_rfl, ?hytma12⟩) hHeld ?resttma12
      case hytma12 => (intro w hSw; (try dsimp only at hSw); go_simp; first | done | with_reducible rfl)
      try simp only [Act.put, List.getElem_toArray, List.getElem_cons_zero, List.getElem_cons_succ, List.setIfInBounds_toArray, List.set_cons_zero, List.set_cons_succ]
      refine wpAnyH_take (i := 2) (oi := _) (v := ?vtma13) rfl (by kernel_rfl) (by kernel_rfl) (by kernel_rfl) (fun _ _ _ h => h) (Or.inl ⟨by kernel_rfl, ?hytma13⟩) hHeld ?resttma13
      case hytma13 => (intro w hSw; (try dsimp only at hSw); go_simp; first | done | with_reducible rfl)
      try simp only [Act.put, List.getElem_toArray, List.getElem_cons_zero, List.getElem_cons_succ, List.setIfInBounds_toArray, List.set_cons_zero, List.set_cons_succ]
      refine wpAnyH_take (i := 3) (oi := _) (v := ?vtma14) rfl (by kernel_rfl) (by kernel_rfl) (by kernel_rfl) (fun _ _ _ h => h) (Or.inl ⟨by kernel_rfl, ?hytma14⟩) hHeld ?resttma14
      case hytma14 => (intro w hSw; (try dsimp only at hSw); go_simp; first | done | with_reducible rfl)
      try simp only [Act.put, List.getElem_toArray, List.getElem_cons_zero, List.getElem_cons_succ, List.setIfInBounds_toArray, List.set_cons_zero, List.set_cons_succ]
      refine wpAnyH_take (i := 4) (oi := _) (v := ?vtma15) rfl (by kernel_rfl) (by kernel_rfl) (by kernel_rfl) (fun _ _ _ h => h) (Or.inl ⟨by kernel_rfl, ?hytma15⟩) hHeld ?resttma15
      case hytma15 => (intro w hSw; (try dsimp only at hSw); go_simp; first | done | with_reducible rfl)
      try simp only [Act.put, List.getElem_toArray, List.getElem_cons_zero, List.getElem_cons_succ, List.setIfInBounds_toArray, List.set_cons_zero, List.set_cons_succ]
      refine wpAnyH_ready (rs := [5, 6]) (by kernel_rfl) (by simp) ?_
      refine AllReadyH.cons (o := _) rfl (fun K0 hK0 => ?_) (AllReadyH.cons (o := _) rfl (fun K0 hK0 => ?_) AllReadyH.nil)
      · skip
        have HB := HBd.out
        go_simp
        go_at_call 68
        refine (CU.out _ HB).mono ?_
        rintro e w6 ⟨c6, d6, rfl, H6, S6, hc6⟩
        have T6 := bd.trans S6
        have hz6 := S6.size
        refine hK0.out _ _ (K.out _ T6) (fun hHeld => ?_)
        clear hK0 K0
        try simp only [Act.put, List.getElem_toArray, List.getElem_cons_zero, List.getElem_cons_succ, List.setIfInBounds_toArray, List.set_cons_zero, List.set_cons_succ]
        refine wpAnyH_ready (rs := [6]) (by kernel_rfl) (by simp) ?_
        refine AllReadyH.cons (o := _) rfl (fun K0 hK0 => ?_) AllReadyH.nil
        go_simp
        have b7 := belowA w6 (.cells #[.int .i64 0, .int .i64 0] 37)
        have T7 := T6.trans (Sm.below b7)
        have VN : V (w6.alloc (.cells #[.int .i64 0, .int .i64 0] 37)) w6.heap.size [.int .i64 0, .int .i64 0] := V.new _ _ _
        have H7 := H6.kept b7
        refine hK0.out _ _ (K.out _ T7) (fun hHeld => ?_)
        clear hK0 K0
        try simp only [Act.put, List.getElem_toArray, List.getElem_cons_zero, List.getElem_cons_succ, List.setIfInBounds_toArray, List.set_cons_zero, List.set_cons_succ]
        have hz7 : (w6.alloc (.cells #[.int .i64 0, .int .i64 0] 37)).heap.size = w6.heap.size + 1 := World.size_alloc _ _
        have hB6 : ∀ k, BkX pb g c6 k → k ≠ w6.heap.size := fun k h => by have := (H6.lt k h).2; omega
        obtain ⟨PI, hPI⟩ : ∃ PI, w6.heap.size = PI := ⟨_, rfl⟩
        have hPIw : w3.heap.size ≤ PI := by have := hd0.out; omega
        generalize w6.alloc (.cells #[.int .i64 0, .int .i64 0] 37) = wn at *
        rw [hPI] at VN hB6 ⊢
        refine wpAnyH_ready (rs := [7]) (by kernel_rfl) (by simp) ?_
        refine AllReadyH.cons (o := _) rfl (fun K0 hK0 => ?_) AllReadyH.nil
        rw [if_pos (by rfl)]
        have hT := VN.there
        have VF := VN.filled [.int .i64 Q.c, .int .i64 Q.k] rfl
        have HF := H7.apart (B := PI) hB6 0 [.int .i64 Q.c, .int .i64 Q.k]
        have Tn : Sm (BkX pb g c) w3 (World.setCells wn PI 0 [.int .i64 Q.c, .int .i64 Q.k]) := Sm.newCells T7 hPIw 0 _
        have RF := RR.out.sm Tn hPf (fun h => by have := (HH.out.lt _ h).1; omega)
        have SF := Sm.less SS.out.size Tn (fun k hk hx => .inr (HC.out k hx hk)) SS.out
        have CF : ∀ k, BkX pb g c6 k → k < w.heap.size → BkX pb g c k := fun k h hk => HC.out k (hc6 k h (by have := SS.out.size; have := hd0.out; omega)) hk
        refine wp_store_mid _ _ _ rfl PI 0 #[.int .i64 Q.c, .int .i64 Q.k] rfl rfl hT (by kernel_rfl) (by kernel_rfl) ?_
        refine hK0.out _ _ (K.out _ Tn) (fun hHeld => ?_)
        clear hK0 K0
        refine wpAnyH_done (by kernel_rfl) ?_ _
        go_wp2_with fail
        go_meet
        exact ⟨PI, c6, d6, rfl, VF, Hid.mk HF, Hid.mk RF, Hid.mk SF, Hid.mk CF⟩
      · skip
        go_simp
        have b7 := belowA wd (.cells #[.int .i64 0, .int .i64 0] 37)
        have T7 := bd.trans (Sm.below b7)
        have VN0 : V (wd.alloc (.cells #[.int .i64 0, .int .i64 0] 37)) wd.heap.size [.int .i64 0, .int .i64 0] := V.new _ _ _
        have HB := HBd.out.kept b7
        have hz7 : (wd.alloc (.cells #[.int .i64 0, .int .i64 0] 37)).heap.size = wd.heap.size + 1 := World.size_alloc _ _
        refine hK0.out _ _ (K.out _ T7) (fun hHeld => ?_)
        clear hK0 K0
        try simp only [Act.put, List.getElem_toArray, List.getElem_cons_zero, List.getElem_cons_succ, List.setIfInBounds_toArray, List.set_cons_zero, List.set_cons_succ]
        have hBd : ∀ k, BkX pb g c k → k ≠ wd.heap.size := fun k h => by have := (HBd.out.lt k h).2; omega
        obtain ⟨PI, hPI⟩ : ∃ PI, wd.heap.size = PI := ⟨_, rfl⟩
        have hPIw : w3.heap.size ≤ PI := by have := hd0.out; omega
        generalize wd.alloc (.cells #[.int .i64 0, .int .i64 0] 37) = wa at *
        rw [hPI] at VN0 hBd hz7 ⊢
        refine wpAnyH_ready (rs := [5]) (by kernel_rfl) (by simp) ?_
        refine AllReadyH.cons (o := _) rfl (fun K0 hK0 => ?_) AllReadyH.nil
        go_simp
        go_at_call 68
        refine (CU.out _ HB).mono ?_
        rintro e w6 ⟨c6, d6, rfl, H6, S6, hc6⟩
        have T6 := T7.trans S6
        have hz6 := S6.size
        refine hK0.out _ _ (K.out _ T6) (fun hHeld => ?_)
        clear hK0 K0
        try simp only [Act.put, List.getElem_toArray, List.getElem_cons_zero, List.getElem_cons_succ, List.setIfInBounds_toArray, List.set_cons_zero, List.set_cons_succ]
        have VN := VN0.sm S6 (fun h => hBd _ h rfl)
        have hB6 : ∀ k, BkX pb g c6 k → k ≠ PI := fun k h e => hBd k (hc6 k h (by omega)) e
        have hc6' : ∀ k, BkX pb g c6 k → k < wd.heap.size → BkX pb g c k := fun k h hk => hc6 k h (by omega)
        clear hc6
        have hc6 := hc6'
        clear hc6'
        generalize w6 = wn at *
        refine wpAnyH_ready (rs := [7]) (by kernel_rfl) (by simp) ?_
        refine AllReadyH.cons (o := _) rfl (fun K0 hK0 => ?_) AllReadyH.nil
        rw [if_pos (by rfl)]
        have hT := VN.there
        have VF := VN.filled [.int .i64 Q.c, .int .i64 Q.k] rfl
        have HF := H6.apart (B := PI) hB6 0 [.int .i64 Q.c, .int .i64 Q.k]
        have Tn : Sm (BkX pb g c) w3 (World.setCells wn PI 0 [.int .i64 Q.c, .int .i64 Q.k]) := Sm.newCells T6 hPIw 0 _
        have RF := RR.out.sm Tn hPf (fun h => by have := (HH.out.lt _ h).1; omega)
        have SF := Sm.less SS.out.size Tn (fun k hk hx => .inr (HC.out k hx hk)) SS.out
        have CF : ∀ k, BkX pb g c6 k → k < w.heap.size → BkX pb g c k := fun k h hk => HC.out k (hc6 k h (by have := SS.out.size; have := hd0.out; omega)) hk
        refine wp_store_mid _ _ _ rfl PI 0 #[.int .i64 Q.c, .int .i64 Q.k] rfl rfl hT (by kernel_rfl) (by kernel_rfl) ?_
        refine hK0.out _ _ (K.out _ Tn) (fun hHeld => ?_)
        clear hK0 K0
        refine wpAnyH_done (by kernel_rfl) ?_ _
        go_wp2_with fail
        go_meet
        exact ⟨PI, c6, d6, rfl, VF, Hid.mk HF, Hid.mk RF, Hid.mk SF, Hid.mk CF⟩
    case rest =>
      clear K CU RR HH SS VTT
      obtain ⟨PI, c6, d6, rfl, VI, H6, R6, S6, C6⟩ := hcut
      obtain ⟨s_VI, f_VI, z_VI⟩ := VI.open
      by_cases hpc : Q.c = 0
      · have hpb : (Q.c == 0) = true := by simp [hpc]
        have e1 := HPL.out
        rw [if_pos hpc] at e1
        have E1 := Hid.mk e1
        have HPC := Hid.mk hpc
        clear e1 hpc
        go_wp2_with (go_at_call 43; refine (require_ok 5 _).mono ?_; rintro e wq ⟨rfl, rfl⟩)
        go_ret
        exact ⟨S6.out, .inr ⟨Q, (r.drop 2), by rw [rd1, if_pos (by decide), if_pos h2, hnn]; unfold rdP; rw [HQ.out, if_pos HPC.out], rfl, ⟨c6, d6, by rw [← E1.out]; exact H6.out, C6.out⟩, x2, (d - 1 - 2), by rw [List.length_drop, show r.length - 2 = m - 1 - 2 by omega]; exact R6.out⟩⟩
      · have hpb : (Q.c == 0) = false := by simp [hpc]
        have HPC := Hid.mk hpc
        clear hpc
        go_wp2_with (go_at_call 43; refine (require_no 5 _).mono ?_; rintro e wq ⟨rfl, rfl⟩)
        exact ⟨rfl, S6.out, .inl ⟨by rw [rd1, if_pos (by decide), if_pos h2, hnn]; unfold rdP; rw [HQ.out, if_neg HPC.out], rfl⟩⟩
  · skip
    go_enter Tryz.func42, Tryz.ntmps42
    go_wp2_with fail
    refine CN.out.mono ?_
    rintro e w1 ⟨rfl, S1, x1, R1⟩
    have H1 := H.sm S1 (fun k e => by subst e; exact fun h => HX.out _ h rfl)
    have S : Sm (fun k => k = P ∨ BkX pb g c k) w w1 := S1.more (fun k e => .inl e)
    have hs1 := S1.size
    have HC : Hid (∀ k, BkX pb g c k → k < w.heap.size → BkX pb g c k) := Hid.mk (fun k h _ => h)
    clear R H S1 CN
    have R := R1
    have H := H1
    clear R1 H1
    replace R := R.kept (belowA w1 (.cells #[.int .i64 1, .int .i64 0, .int .i64 0, .int .i64 0] 70))
    replace H := H.kept (belowA w1 (.cells #[.int .i64 1, .int .i64 0, .int .i64 0, .int .i64 0] 70))
    replace S := S.trans (Sm.below (belowA w1 (.cells #[.int .i64 1, .int .i64 0, .int .i64 0, .int .i64 0] 70)))
    have VT := V.new w1 [.int .i64 1, .int .i64 0, .int .i64 0, .int .i64 0] 70
    have hT1 : w.heap.size ≤ w1.heap.size := hs1
    have hTB : Hid (P < w1.heap.size ∧ ∀ k, BkX pb g c k → k < w1.heap.size) := Hid.mk ⟨by omega, fun k h => by have := (HLT.out k h).2; omega⟩
    obtain ⟨s_VT, f_VT, z_VT⟩ := VT.open
    clear s_VT f_VT z_VT
    have CN2 := number_no P (.pointer (some ⟨pb, 0, none⟩)) bx x1 (m - 1) (d - 1) r 2 _ R hbr (by omega)
    rw [show ((2 : Nat) : Int) = 2 from rfl] at CN2
    replace CN2 := Hid.mk CN2
    obtain ⟨s_VT, f_VT, z_VT⟩ := VT.open
    go_wp2_with fail
    refine CN2.out.mono ?_
    rintro e w2 ⟨rfl, b2⟩
    clear s_VT f_VT z_VT
    exact ⟨rfl, S.trans (Sm.below b2), .inl ⟨by rw [rd1, if_pos (by decide), if_neg (by omega)], rfl⟩⟩

set_option maxRecDepth 20000 in
set_option maxHeartbeats 16000000 in
theorem term_leaf2 (f base P pb g bx : Nat) (xs : List T4) (r : List Int) (x : Option Addr) (m d : Nat) (c : Option Addr) (dd : Nat) (w : World) (R : Rdr w P (.pointer (some ⟨pb, 0, none⟩)) bx x m d (2 :: r)) (hb : Bytes (2 :: r)) (H : Bk w base pb g c dd xs) (ht : tfC xs = 0) (hP : ∀ k, BkX pb g c k → k ≠ P) (hbP : base ≤ P) (hbx : bx < base) :
    Calls Tryz.prog 42 #[.pointer (some ⟨P, 0, none⟩)] w (TermRead (f + 1) xs (2 :: r) base P pb g bx c w) := by
  have q1 := build_tmo
  unfold TermRead
  have hx4 := (tfC_zero ht).1
  have hml := R.len
  simp only [List.length_cons] at hml
  have hbr := bytes_tail hb
  have hne : bx ≠ P := by omega
  have CN := number_ok P (.pointer (some ⟨pb, 0, none⟩)) bx x m d (2 :: r) 1 w R hb (by decide) (by decide) (by omega) hne
  rw [takeN_head, show ((1 : Nat) : Int) = 1 from rfl, List.drop_succ_cons, List.drop_zero] at CN
  replace CN := Hid.mk CN
  have hPl := R.v.1
  have HX := Hid.mk hP
  have HLT := Hid.mk H.lt
  have HT := Hid.mk ht
  by_cases h2 : 2 ≤ r.length
  · skip
    have hn0 := hbr.at 0
    have hn1 := hbr.at 1
    obtain ⟨nn, hnn⟩ : ∃ nn, r.getD 0 0 * 256 + r.getD 1 0 = nn := ⟨_, rfl⟩
    go_enter Tryz.func42, Tryz.ntmps42
    go_wp2_with fail
    refine CN.out.mono ?_
    rintro e w1 ⟨rfl, S1, x1, R1⟩
    have H1 := H.sm S1 (fun k e => by subst e; exact fun h => HX.out _ h rfl)
    have S : Sm (fun k => k = P ∨ BkX pb g c k) w w1 := S1.more (fun k e => .inl e)
    have hs1 := S1.size
    have HC : Hid (∀ k, BkX pb g c k → k < w.heap.size → BkX pb g c k) := Hid.mk (fun k h _ => h)
    clear R H S1 CN
    have R := R1
    have H := H1
    clear R1 H1
    replace R := R.kept (belowA w1 (.cells #[.int .i64 2, .int .i64 0, .int .i64 0, .int .i64 0] 70))
    replace H := H.kept (belowA w1 (.cells #[.int .i64 2, .int .i64 0, .int .i64 0, .int .i64 0] 70))
    replace S := S.trans (Sm.below (belowA w1 (.cells #[.int .i64 2, .int .i64 0, .int .i64 0, .int .i64 0] 70)))
    have VT := V.new w1 [.int .i64 2, .int .i64 0, .int .i64 0, .int .i64 0] 70
    have hT1 : w.heap.size ≤ w1.heap.size := hs1
    have hTB : Hid (P < w1.heap.size ∧ ∀ k, BkX pb g c k → k < w1.heap.size) := Hid.mk ⟨by omega, fun k h => by have := (HLT.out k h).2; omega⟩
    obtain ⟨s_VT, f_VT, z_VT⟩ := VT.open
    clear s_VT f_VT z_VT
    have CN2 := number_ok P (.pointer (some ⟨pb, 0, none⟩)) bx x1 (m - 1) (d - 1) r 2 _ R hbr (by decide) (by decide) (by omega) hne
    rw [takeN_pair, show ((2 : Nat) : Int) = 2 from rfl, hnn] at CN2
    replace CN2 := Hid.mk CN2
    obtain ⟨s_VT, f_VT, z_VT⟩ := VT.open
    go_wp2_with fail
    refine CN2.out.mono ?_
    rintro e w2 ⟨rfl, S2, x2, R2⟩
    clear s_VT f_VT z_VT
    have hs2 := S2.size
    simp only [World.size_alloc] at hs2
    have H2 := H.sm S2 (fun k e => by subst e; exact fun h => HX.out _ h rfl)
    have VT2 := VT.sm S2 (by have := hTB.out.1; omega)
    have Sn : Sm (fun k => k = P ∨ BkX pb g c k) w w2 := S.trans (S2.more (fun k e => .inl e))
    clear R H S S2 VT CN2
    have R := R2
    have H := H2
    have S := Sn
    have VT := VT2
    clear R2 H2 Sn VT2
    obtain ⟨s_VT, f_VT, z_VT⟩ := VT.open
    clear s_VT f_VT z_VT
    have VT2 := VT.set (i := 3) (by simp) (.int .i64 nn)
    simp only [List.set_cons_zero, List.set_cons_succ] at VT2
    have hPT : P < w1.heap.size := hTB.out.1
    have R2 : Rdr (w2.setCell ⟨w1.heap.size, 3, none⟩ (.int .i64 nn)) P (.pointer (some ⟨pb, 0, none⟩)) bx x2 (m - 1 - 2) (d - 1 - 2) (r.drop 2) := R.sm (X := fun k => k = w1.heap.size) (Sm.cell (X := fun k => k = w1.heap.size) rfl _) (by omega) (by omega)
    have H2 : Bk (w2.setCell ⟨w1.heap.size, 3, none⟩ (.int .i64 nn)) base pb g c dd xs := H.sm (X := fun k => k = w1.heap.size) (Sm.cell (X := fun k => k = w1.heap.size) rfl _) (fun k e h => by have := hTB.out.2 k h; omega)
    have S2 := S.newCell (p := ⟨w1.heap.size, 3, none⟩) (by simp only; omega) (.int .i64 nn)
    obtain ⟨s_VT, f_VT, z_VT⟩ := VT.open
    go_upto_region 14 with fail
    clear s_VT f_VT z_VT R H S VT
    have R := R2
    have H := H2
    have S := S2
    have VT := VT2
    clear R2 H2 S2 VT2
    generalize w2.setCell ⟨w1.heap.size, 3, none⟩ (.int .i64 nn) = w3 at *
    have CU := fun w h => put_ok base pb g c dd xs ⟨2, 0, 0, nn⟩ w h (okT_of (by decide) (by decide) (by decide) (by omega)) hx4
    simp only at CU
    obtain ⟨Q, hQ⟩ : ∃ Q, put xs ⟨2, 0, 0, nn⟩ = Q := ⟨_, rfl⟩
    have HQ := Hid.mk hQ
    have HPL : Hid (putL xs ⟨2, 0, 0, nn⟩ = if Q.c = 0 then Q.l else xs) := Hid.mk (by unfold putL; rw [hQ])
    rw [hQ] at CU
    replace CU := Hid.mk CU
    clear hQ
    have hPf : ¬ BkX pb g c P := fun h => HX.out P h rfl
    have hTf : ¬ BkX pb g c (w1.heap.size) := by intro e; exact absurd e (by exact fun e => by have := hTB.out.2 _ e; omega)
    have K : ∀ w' : World, Sm (BkX pb g c) w3 w' → (w'.cell? ⟨P, 1, none⟩ = some (.pointer (some ⟨pb, 0, none⟩)) ∧ w'.cell? ⟨w1.heap.size, 0, none⟩ = some (.int .i64 2) ∧ w'.cell? ⟨w1.heap.size, 1, none⟩ = some (.int .i64 0) ∧ w'.cell? ⟨w1.heap.size, 2, none⟩ = some (.int .i64 0) ∧ w'.cell? ⟨w1.heap.size, 3, none⟩ = some (.int .i64 nn)) := fun w' h => ⟨(R.v.sm h hPf).2.1 1 (by simp), (VT.sm h hTf).2.1 0 (by simp), (VT.sm h hTf).2.1 1 (by simp), (VT.sm h hTf).2.1 2 (by simp), (VT.sm h hTf).2.1 3 (by simp)⟩
    have K := Hid.mk K
    have RR := Hid.mk R
    have HH := Hid.mk H
    have SS := Hid.mk S
    have VTT := Hid.mk VT
    have hPz := R.v.1
    clear R H S VT
    go_cut [4] (fun p wx => ∃ (PI : Nat) (c6 : Option Addr) (d6 : Nat), p = .pointer (some ⟨PI, 0, none⟩) ∧ V wx PI [.int .i64 Q.c, .int .i64 Q.k] ∧ Hid (Bk wx base pb g c6 d6 (putL xs ⟨2, 0, 0, nn⟩)) ∧ Hid (Rdr wx P (.pointer (some ⟨pb, 0, none⟩)) bx x2 (m - 1 - 2) (d - 1 - 2) (r.drop 2)) ∧ Hid (Sm (fun k => k = P ∨ BkX pb g c k) w wx) ∧ Hid (∀ k, BkX pb g c6 k → k < w.heap.size → BkX pb g c k))
    case first =>
      refine wp_region_held_drew (S := (fun w' => w'.cell? ⟨P, 1, none⟩ = some (.pointer (some ⟨pb, 0, none⟩)) ∧ w'.cell? ⟨w1.heap.size, 0, none⟩ = some (.int .i64 2) ∧ w'.cell? ⟨w1.heap.size, 1, none⟩ = some (.int .i64 0) ∧ w'.cell? ⟨w1.heap.size, 2, none⟩ = some (.int .i64 0) ∧ w'.cell? ⟨w1.heap.size, 3, none⟩ = some (.int .i64 nn))) (by kernel_rfl) (K.out _ (Sm.below (Below.refl _ _).drew)) (fun hHeld => ?_)
      have bd : Sm (BkX pb g c) w3 w3.drew := Sm.below (Below.refl _ _).drew
      have HBd := Hid.mk (HH.out.kept (Below.refl _ _).drew)
      have hd0 := Hid.mk (show w3.drew.heap.size = w3.heap.size from rfl)
      generalize w3.drew = wd at *
      refine wpAnyH_take (i := 0) (oi := _) (v := ?vtma21) rfl (by kernel_rfl) (by kernel_rfl) (by kernel_rfl) (fun _ _ _ h => h) (Or.inl ⟨by kernel_rfl, ?hytma21⟩) hHeld ?resttma21
      case hytma21 => (intro w hSw; (try dsimp only at hSw); go_simp; first | done | with_reducible rfl)
      try simp only [Act.put, List.getElem_toArray, List.getElem_cons_zero, List.setIfInBounds_toArray, List.set_cons_zero, List.set_cons_succ]
      refine wpAnyH_take (i := 1) (oi := _) (v := ?vtma22) rfl (by kernel_rfl) (by kernel_rfl) (by kernel_rfl) (fun _ _ _ h => h) (Or.inl ⟨by kernel_rfl, ?hytma22⟩) hHeld ?resttma22
      case hytma22 => (intro w hSw; (try dsimp only at hSw); go_simp; first | done | with_reducible rfl)
      try simp only [Act.put, List.getElem_toArray, List.getElem_cons_zero, List.getElem_cons_succ, List.setIfInBounds_toArray, List.set_cons_zero, List.set_cons_succ]
      refine wpAnyH_take (i := 2) (oi := _) (v := ?vtma23) rfl (by kernel_rfl) (by kernel_rfl) (by kernel_rfl) (fun _ _ _ h => h) (Or.inl ⟨by kernel_rfl, ?hytma23⟩) hHeld ?resttma23
      case hytma23 => (intro w hSw; (try dsimp only at hSw); go_simp; first | done | with_reducible rfl)
      try simp only [Act.put, List.getElem_toArray, List.getElem_cons_zero, List.getElem_cons_succ, List.setIfInBounds_toArray, List.set_cons_zero, List.set_cons_succ]
      refine wpAnyH_take (i := 3) (oi := _) (v := ?vtma24) rfl (by kernel_rfl) (by kernel_rfl) (by kernel_rfl) (fun _ _ _ h => h) (Or.inl ⟨by kernel_rfl, ?hytma24⟩) hHeld ?resttma24
      case hytma24 => (intro w hSw; (try dsimp only at hSw); go_simp; first | done | with_reducible rfl)
      try simp only [Act.put, List.getElem_toArray, List.getElem_cons_zero, List.getElem_cons_succ, List.setIfInBounds_toArray, List.set_cons_zero, List.set_cons_succ]
      refine wpAnyH_take (i := 4) (oi := _) (v := ?vtma25) rfl (by kernel_rfl) (by kernel_rfl) (by kernel_rfl) (fun _ _ _ h => h) (Or.inl ⟨by kernel_rfl, ?hytma25⟩) hHeld ?resttma25
      case hytma25 => (intro w hSw; (try dsimp only at hSw); go_simp; first | done | with_reducible rfl)
      try simp only [Act.put, List.getElem_toArray, List.getElem_cons_zero, List.getElem_cons_succ, List.setIfInBounds_toArray, List.set_cons_zero, List.set_cons_succ]
      refine wpAnyH_ready (rs := [5, 6]) (by kernel_rfl) (by simp) ?_
      refine AllReadyH.cons (o := _) rfl (fun K0 hK0 => ?_) (AllReadyH.cons (o := _) rfl (fun K0 hK0 => ?_) AllReadyH.nil)
      · skip
        have HB := HBd.out
        go_simp
        go_at_call 68
        refine (CU.out _ HB).mono ?_
        rintro e w6 ⟨c6, d6, rfl, H6, S6, hc6⟩
        have T6 := bd.trans S6
        have hz6 := S6.size
        refine hK0.out _ _ (K.out _ T6) (fun hHeld => ?_)
        clear hK0 K0
        try simp only [Act.put, List.getElem_toArray, List.getElem_cons_zero, List.getElem_cons_succ, List.setIfInBounds_toArray, List.set_cons_zero, List.set_cons_succ]
        refine wpAnyH_ready (rs := [6]) (by kernel_rfl) (by simp) ?_
        refine AllReadyH.cons (o := _) rfl (fun K0 hK0 => ?_) AllReadyH.nil
        go_simp
        have b7 := belowA w6 (.cells #[.int .i64 0, .int .i64 0] 37)
        have T7 := T6.trans (Sm.below b7)
        have VN : V (w6.alloc (.cells #[.int .i64 0, .int .i64 0] 37)) w6.heap.size [.int .i64 0, .int .i64 0] := V.new _ _ _
        have H7 := H6.kept b7
        refine hK0.out _ _ (K.out _ T7) (fun hHeld => ?_)
        clear hK0 K0
        try simp only [Act.put, List.getElem_toArray, List.getElem_cons_zero, List.getElem_cons_succ, List.setIfInBounds_toArray, List.set_cons_zero, List.set_cons_succ]
        have hz7 : (w6.alloc (.cells #[.int .i64 0, .int .i64 0] 37)).heap.size = w6.heap.size + 1 := World.size_alloc _ _
        have hB6 : ∀ k, BkX pb g c6 k → k ≠ w6.heap.size := fun k h => by have := (H6.lt k h).2; omega
        obtain ⟨PI, hPI⟩ : ∃ PI, w6.heap.size = PI := ⟨_, rfl⟩
        have hPIw : w3.heap.size ≤ PI := by have := hd0.out; omega
        generalize w6.alloc (.cells #[.int .i64 0, .int .i64 0] 37) = wn at *
        rw [hPI] at VN hB6 ⊢
        refine wpAnyH_ready (rs := [7]) (by kernel_rfl) (by simp) ?_
        refine AllReadyH.cons (o := _) rfl (fun K0 hK0 => ?_) AllReadyH.nil
        rw [if_pos (by rfl)]
        have hT := VN.there
        have VF := VN.filled [.int .i64 Q.c, .int .i64 Q.k] rfl
        have HF := H7.apart (B := PI) hB6 0 [.int .i64 Q.c, .int .i64 Q.k]
        have Tn : Sm (BkX pb g c) w3 (World.setCells wn PI 0 [.int .i64 Q.c, .int .i64 Q.k]) := Sm.newCells T7 hPIw 0 _
        have RF := RR.out.sm Tn hPf (fun h => by have := (HH.out.lt _ h).1; omega)
        have SF := Sm.less SS.out.size Tn (fun k hk hx => .inr (HC.out k hx hk)) SS.out
        have CF : ∀ k, BkX pb g c6 k → k < w.heap.size → BkX pb g c k := fun k h hk => HC.out k (hc6 k h (by have := SS.out.size; have := hd0.out; omega)) hk
        refine wp_store_mid _ _ _ rfl PI 0 #[.int .i64 Q.c, .int .i64 Q.k] rfl rfl hT (by kernel_rfl) (by kernel_rfl) ?_
        refine hK0.out _ _ (K.out _ Tn) (fun hHeld => ?_)
        clear hK0 K0
        refine wpAnyH_done (by kernel_rfl) ?_ _
        go_wp2_with fail
        go_meet
        exact ⟨PI, c6, d6, rfl, VF, Hid.mk HF, Hid.mk RF, Hid.mk SF, Hid.mk CF⟩
      · skip
        go_simp
        have b7 := belowA wd (.cells #[.int .i64 0, .int .i64 0] 37)
        have T7 := bd.trans (Sm.below b7)
        have VN0 : V (wd.alloc (.cells #[.int .i64 0, .int .i64 0] 37)) wd.heap.size [.int .i64 0, .int .i64 0] := V.new _ _ _
        have HB := HBd.out.kept b7
        have hz7 : (wd.alloc (.cells #[.int .i64 0, .int .i64 0] 37)).heap.size = wd.heap.size + 1 := World.size_alloc _ _
        refine hK0.out _ _ (K.out _ T7) (fun hHeld => ?_)
        clear hK0 K0
        try simp only [Act.put, List.getElem_toArray, List.getElem_cons_zero, List.getElem_cons_succ, List.setIfInBounds_toArray, List.set_cons_zero, List.set_cons_succ]
        have hBd : ∀ k, BkX pb g c k → k ≠ wd.heap.size := fun k h => by have := (HBd.out.lt k h).2; omega
        obtain ⟨PI, hPI⟩ : ∃ PI, wd.heap.size = PI := ⟨_, rfl⟩
        have hPIw : w3.heap.size ≤ PI := by have := hd0.out; omega
        generalize wd.alloc (.cells #[.int .i64 0, .int .i64 0] 37) = wa at *
        rw [hPI] at VN0 hBd hz7 ⊢
        refine wpAnyH_ready (rs := [5]) (by kernel_rfl) (by simp) ?_
        refine AllReadyH.cons (o := _) rfl (fun K0 hK0 => ?_) AllReadyH.nil
        go_simp
        go_at_call 68
        refine (CU.out _ HB).mono ?_
        rintro e w6 ⟨c6, d6, rfl, H6, S6, hc6⟩
        have T6 := T7.trans S6
        have hz6 := S6.size
        refine hK0.out _ _ (K.out _ T6) (fun hHeld => ?_)
        clear hK0 K0
        try simp only [Act.put, List.getElem_toArray, List.getElem_cons_zero, List.getElem_cons_succ, List.setIfInBounds_toArray, List.set_cons_zero, List.set_cons_succ]
        have VN := VN0.sm S6 (fun h => hBd _ h rfl)
        have hB6 : ∀ k, BkX pb g c6 k → k ≠ PI := fun k h e => hBd k (hc6 k h (by omega)) e
        have hc6' : ∀ k, BkX pb g c6 k → k < wd.heap.size → BkX pb g c k := fun k h hk => hc6 k h (by omega)
        clear hc6
        have hc6 := hc6'
        clear hc6'
        generalize w6 = wn at *
        refine wpAnyH_ready (rs := [7]) (by kernel_rfl) (by simp) ?_
        refine AllReadyH.cons (o := _) rfl (fun K0 hK0 => ?_) AllReadyH.nil
        rw [if_pos (by rfl)]
        have hT := VN.there
        have VF := VN.filled [.int .i64 Q.c, .int .i64 Q.k] rfl
        have HF := H6.apart (B := PI) hB6 0 [.int .i64 Q.c, .int .i64 Q.k]
        have Tn : Sm (BkX pb g c) w3 (World.setCells wn PI 0 [.int .i64 Q.c, .int .i64 Q.k]) := Sm.newCells T6 hPIw 0 _
        have RF := RR.out.sm Tn hPf (fun h => by have := (HH.out.lt _ h).1; omega)
        have SF := Sm.less SS.out.size Tn (fun k hk hx => .inr (HC.out k hx hk)) SS.out
        have CF : ∀ k, BkX pb g c6 k → k < w.heap.size → BkX pb g c k := fun k h hk => HC.out k (hc6 k h (by have := SS.out.size; have := hd0.out; omega)) hk
        refine wp_store_mid _ _ _ rfl PI 0 #[.int .i64 Q.c, .int .i64 Q.k] rfl rfl hT (by kernel_rfl) (by kernel_rfl) ?_
        refine hK0.out _ _ (K.out _ Tn) (fun hHeld => ?_)
        clear hK0 K0
        refine wpAnyH_done (by kernel_rfl) ?_ _
        go_wp2_with fail
        go_meet
        exact ⟨PI, c6, d6, rfl, VF, Hid.mk HF, Hid.mk RF, Hid.mk SF, Hid.mk CF⟩
    case rest =>
      clear K CU RR HH SS VTT
      obtain ⟨PI, c6, d6, rfl, VI, H6, R6, S6, C6⟩ := hcut
      obtain ⟨s_VI, f_VI, z_VI⟩ := VI.open
      by_cases hpc : Q.c = 0
      · have hpb : (Q.c == 0) = true := by simp [hpc]
        have e1 := HPL.out
        rw [if_pos hpc] at e1
        have E1 := Hid.mk e1
        have HPC := Hid.mk hpc
        clear e1 hpc
        go_wp2_with (go_at_call 43; refine (require_ok 5 _).mono ?_; rintro e wq ⟨rfl, rfl⟩)
        go_ret
        exact ⟨S6.out, .inr ⟨Q, (r.drop 2), by rw [rd1, if_pos (by decide), if_pos h2, hnn]; unfold rdP; rw [HQ.out, if_pos HPC.out], rfl, ⟨c6, d6, by rw [← E1.out]; exact H6.out, C6.out⟩, x2, (d - 1 - 2), by rw [List.length_drop, show r.length - 2 = m - 1 - 2 by omega]; exact R6.out⟩⟩
      · have hpb : (Q.c == 0) = false := by simp [hpc]
        have HPC := Hid.mk hpc
        clear hpc
        go_wp2_with (go_at_call 43; refine (require_no 5 _).mono ?_; rintro e wq ⟨rfl, rfl⟩)
        exact ⟨rfl, S6.out, .inl ⟨by rw [rd1, if_pos (by decide), if_pos h2, hnn]; unfold rdP; rw [HQ.out, if_neg HPC.out], rfl⟩⟩
  · skip
    go_enter Tryz.func42, Tryz.ntmps42
    go_wp2_with fail
    refine CN.out.mono ?_
    rintro e w1 ⟨rfl, S1, x1, R1⟩
    have H1 := H.sm S1 (fun k e => by subst e; exact fun h => HX.out _ h rfl)
    have S : Sm (fun k => k = P ∨ BkX pb g c k) w w1 := S1.more (fun k e => .inl e)
    have hs1 := S1.size
    have HC : Hid (∀ k, BkX pb g c k → k < w.heap.size → BkX pb g c k) := Hid.mk (fun k h _ => h)
    clear R H S1 CN
    have R := R1
    have H := H1
    clear R1 H1
    replace R := R.kept (belowA w1 (.cells #[.int .i64 2, .int .i64 0, .int .i64 0, .int .i64 0] 70))
    replace H := H.kept (belowA w1 (.cells #[.int .i64 2, .int .i64 0, .int .i64 0, .int .i64 0] 70))
    replace S := S.trans (Sm.below (belowA w1 (.cells #[.int .i64 2, .int .i64 0, .int .i64 0, .int .i64 0] 70)))
    have VT := V.new w1 [.int .i64 2, .int .i64 0, .int .i64 0, .int .i64 0] 70
    have hT1 : w.heap.size ≤ w1.heap.size := hs1
    have hTB : Hid (P < w1.heap.size ∧ ∀ k, BkX pb g c k → k < w1.heap.size) := Hid.mk ⟨by omega, fun k h => by have := (HLT.out k h).2; omega⟩
    obtain ⟨s_VT, f_VT, z_VT⟩ := VT.open
    clear s_VT f_VT z_VT
    have CN2 := number_no P (.pointer (some ⟨pb, 0, none⟩)) bx x1 (m - 1) (d - 1) r 2 _ R hbr (by omega)
    rw [show ((2 : Nat) : Int) = 2 from rfl] at CN2
    replace CN2 := Hid.mk CN2
    obtain ⟨s_VT, f_VT, z_VT⟩ := VT.open
    go_wp2_with fail
    refine CN2.out.mono ?_
    rintro e w2 ⟨rfl, b2⟩
    clear s_VT f_VT z_VT
    exact ⟨rfl, S.trans (Sm.below b2), .inl ⟨by rw [rd1, if_pos (by decide), if_neg (by omega)], rfl⟩⟩

end Go.Proofs.YtfldgeokigcokaaGreat

/- The reader's 'term': a half, and what is no Op. -/
namespace Go.Proofs.YtfldgeokigcokaaGreat
open Go.RowKit

set_option maxRecDepth 20000 in
set_option maxHeartbeats 16000000 in
theorem term_half (f base P pb g bx : Nat) (xs : List T4) (r : List Int) (x : Option Addr) (m d : Nat) (c : Option Addr) (dd : Nat) (w : World) (ih : TermOk f base P pb g bx) (hl : (6 :: r).length ≤ f + 1) (R : Rdr w P (.pointer (some ⟨pb, 0, none⟩)) bx x m d (6 :: r)) (hb : Bytes (6 :: r)) (H : Bk w base pb g c dd xs) (ht : tfC xs = 0) (hP : ∀ k, BkX pb g c k → k ≠ P) (hbP : base ≤ P) (hbx : bx < base) :
    Calls Tryz.prog 42 #[.pointer (some ⟨P, 0, none⟩)] w (TermRead (f + 1) xs (6 :: r) base P pb g bx c w) := by
  have q1 := build_tmo
  unfold TermRead
  have hx4 := (tfC_zero ht).1
  have hml := R.len
  simp only [List.length_cons] at hml
  have hbr := bytes_tail hb
  have hne : bx ≠ P := by omega
  have CN := number_ok P (.pointer (some ⟨pb, 0, none⟩)) bx x m d (6 :: r) 1 w R hb (by decide) (by decide) (by omega) hne
  rw [takeN_head, show ((1 : Nat) : Int) = 1 from rfl, List.drop_succ_cons, List.drop_zero] at CN
  replace CN := Hid.mk CN
  have hPl := R.v.1
  have HX := Hid.mk hP
  have HLT := Hid.mk H.lt
  have HT := Hid.mk ht
  simp only [List.length_cons] at hl
  have hl' : r.length ≤ f := by omega
  go_enter Tryz.func42, Tryz.ntmps42
  go_wp2_with fail
  refine CN.out.mono ?_
  rintro e w1 ⟨rfl, S1, x1, R1⟩
  have H1 := H.sm S1 (fun k e => by subst e; exact fun h => HX.out _ h rfl)
  have S : Sm (fun k => k = P ∨ BkX pb g c k) w w1 := S1.more (fun k e => .inl e)
  have hs1 := S1.size
  have HC : Hid (∀ k, BkX pb g c k → k < w.heap.size → BkX pb g c k) := Hid.mk (fun k h _ => h)
  clear R H S1 CN
  have R := R1
  have H := H1
  clear R1 H1
  replace R := R.kept (belowA w1 (.cells #[.int .i64 6, .int .i64 0, .int .i64 0, .int .i64 0] 70))
  replace H := H.kept (belowA w1 (.cells #[.int .i64 6, .int .i64 0, .int .i64 0, .int .i64 0] 70))
  replace S := S.trans (Sm.below (belowA w1 (.cells #[.int .i64 6, .int .i64 0, .int .i64 0, .int .i64 0] 70)))
  have VT := V.new w1 [.int .i64 6, .int .i64 0, .int .i64 0, .int .i64 0] 70
  have hT1 : w.heap.size ≤ w1.heap.size := hs1
  have hTB : Hid (P < w1.heap.size ∧ ∀ k, BkX pb g c k → k < w1.heap.size) := Hid.mk ⟨by omega, fun k h => by have := (HLT.out k h).2; omega⟩
  obtain ⟨s_VT, f_VT, z_VT⟩ := VT.open
  clear s_VT f_VT z_VT
  have CT := Hid.mk (ih xs r x1 (m - 1) (d - 1) c dd _ (by omega) R hbr H HT.out HX.out hbP hbx)
  unfold TermRead at CT
  obtain ⟨s_VT, f_VT, z_VT⟩ := VT.open
  go_wp2_with fail
  refine CT.out.mono ?_
  rintro e wt1 ⟨SA1, ⟨hnA1, rfl⟩ | ⟨A1, rA1, hA1, rfl, ⟨cA1, dA1, HA1, hcA1⟩, xA1, eA1, RA1⟩⟩
  clear s_VT f_VT z_VT
  · exact ⟨rfl, Sm.less S.size SA1 (fun k hk hx => by rcases hx with e | e; exact .inl e; exact .inr (HC.out k e hk)) S, .inl ⟨by rw [rd1, if_neg (by decide), if_pos rfl, hnA1], rfl⟩⟩
  have hsA1 := SA1.size
  simp only [World.size_alloc] at hsA1
  have VT2 := VT.sm SA1 (by rintro (e | e); have := hTB.out.1; omega; exact absurd e (by exact fun e => by have := hTB.out.2 _ e; omega))
  have Sn : Sm (fun k => k = P ∨ BkX pb g c k) w wt1 := Sm.less S.size SA1 (fun k hk hx => by rcases hx with e | e; exact .inl e; exact .inr (HC.out k e hk)) S
  have GA1 := rd1_ok f _ _ _ HT.out hA1
  have gkA1 : 0 ≤ A1.k ∧ A1.k < A1.l.length := ⟨GA1.k0, GA1.k1⟩
  have g4A1 : A1.l.length ≤ 400 := (tfC_zero GA1.right).1
  have gbA1 : Bytes rA1 ∧ rA1.length ≤ r.length := by
    obtain ⟨nn, _, n1, n2⟩ := GA1.rest
    simp only at n2
    rw [n2]
    exact ⟨bytes_dropN hbr nn, by rw [List.length_drop]; omega⟩
  have hcnA1 : Hid (∀ k, BkX pb g cA1 k → k < w.heap.size → BkX pb g c k) := Hid.mk (fun k h hk => HC.out k (hcA1 k h (Nat.lt_of_lt_of_le hk S.size)) hk)
  have hfarA1 : Hid (∀ k, BkX pb g cA1 k → k ≠ P ∧ k ≠ w1.heap.size) := Hid.mk (fun k h => by
    rcases Nat.lt_or_ge k w1.heap.size with h1 | h1
    · rcases Nat.lt_or_ge k w.heap.size with h2 | h2
      · exact ⟨HX.out k (hcnA1.out k h h2), by omega⟩
      · exact ⟨by omega, by omega⟩
    · refine ⟨by omega, fun e => ?_⟩
      have h2 := hcA1 k h (by have := VT.1; omega)
      have := hTB.out.2 _ h2; omega)
  clear CT SA1 VT S R H hcA1
  have R := RA1
  have H := HA1
  have S := Sn
  have VT := VT2
  clear RA1 HA1 Sn VT2
  obtain ⟨s_VT, f_VT, z_VT⟩ := VT.open
  clear s_VT f_VT z_VT
  have VT0 := VT
  have hPT : P < w1.heap.size := hTB.out.1
  replace VT := VT.set (i := 1) (by simp) (.int .i64 A1.k)
  simp only [List.set_cons_zero, List.set_cons_succ] at VT
  replace R := R.sm (X := fun k => k = w1.heap.size) (Sm.cell (X := fun k => k = w1.heap.size) (p := ⟨w1.heap.size, 1, none⟩) rfl (.int .i64 A1.k)) (by omega) (by omega)
  replace H := H.sm (X := fun k => k = w1.heap.size) (Sm.cell (X := fun k => k = w1.heap.size) (p := ⟨w1.heap.size, 1, none⟩) rfl (.int .i64 A1.k)) (fun k e h => by rw [e] at h; exact absurd h (by exact fun e => (hfarA1.out _ e).2 rfl))
  replace S := S.newCell (p := ⟨w1.heap.size, 1, none⟩) (by simp only; omega) (.int .i64 A1.k)
  obtain ⟨s_VT, f_VT, z_VT⟩ := VT0.open
  go_upto_region 14 with fail
  clear s_VT f_VT z_VT VT0
  generalize (World.setCell wt1 ⟨w1.heap.size, 1, none⟩ (.int .i64 A1.k)) = w3 at *
  have CU := fun w h => put_ok base pb g cA1 dA1 A1.l ⟨6, A1.k, 0, 0⟩ w h (okT_of (by decide) (by omega) (by decide) (by decide)) g4A1
  simp only at CU
  obtain ⟨Q, hQ⟩ : ∃ Q, put A1.l ⟨6, A1.k, 0, 0⟩ = Q := ⟨_, rfl⟩
  have HQ := Hid.mk hQ
  have HPL : Hid (putL A1.l ⟨6, A1.k, 0, 0⟩ = if Q.c = 0 then Q.l else A1.l) := Hid.mk (by unfold putL; rw [hQ])
  rw [hQ] at CU
  replace CU := Hid.mk CU
  clear hQ
  have hPf : ¬ BkX pb g cA1 P := fun h => (fun k h => (hfarA1.out k h).1) P h rfl
  have hTf : ¬ BkX pb g cA1 (w1.heap.size) := by intro e; exact absurd e (by exact fun e => (hfarA1.out _ e).2 rfl)
  have K : ∀ w' : World, Sm (BkX pb g cA1) w3 w' → (w'.cell? ⟨P, 1, none⟩ = some (.pointer (some ⟨pb, 0, none⟩)) ∧ w'.cell? ⟨w1.heap.size, 0, none⟩ = some (.int .i64 6) ∧ w'.cell? ⟨w1.heap.size, 1, none⟩ = some (.int .i64 A1.k) ∧ w'.cell? ⟨w1.heap.size, 2, none⟩ = some (.int .i64 0) ∧ w'.cell? ⟨w1.heap.size, 3, none⟩ = some (.int .i64 0)) := fun w' h => ⟨(R.v.sm h hPf).2.1 1 (by simp), (VT.sm h hTf).2.1 0 (by simp), (VT.sm h hTf).2.1 1 (by simp), (VT.sm h hTf).2.1 2 (by simp), (VT.sm h hTf).2.1 3 (by simp)⟩
  have K := Hid.mk K
  have RR := Hid.mk R
  have HH := Hid.mk H
  have SS := Hid.mk S
  have VTT := Hid.mk VT
  have hPz := R.v.1
  clear R H S VT
  go_cut [4] (fun p wx => ∃ (PI : Nat) (c6 : Option Addr) (d6 : Nat), p = .pointer (some ⟨PI, 0, none⟩) ∧ V wx PI [.int .i64 Q.c, .int .i64 Q.k] ∧ Hid (Bk wx base pb g c6 d6 (putL A1.l ⟨6, A1.k, 0, 0⟩)) ∧ Hid (Rdr wx P (.pointer (some ⟨pb, 0, none⟩)) bx xA1 rA1.length eA1 rA1) ∧ Hid (Sm (fun k => k = P ∨ BkX pb g c k) w wx) ∧ Hid (∀ k, BkX pb g c6 k → k < w.heap.size → BkX pb g c k))
  case first =>
    refine wp_region_held_drew (S := (fun w' => w'.cell? ⟨P, 1, none⟩ = some (.pointer (some ⟨pb, 0, none⟩)) ∧ w'.cell? ⟨w1.heap.size, 0, none⟩ = some (.int .i64 6) ∧ w'.cell? ⟨w1.heap.size, 1, none⟩ = some (.int .i64 A1.k) ∧ w'.cell? ⟨w1.heap.size, 2, none⟩ = some (.int .i64 0) ∧ w'.cell? ⟨w1.heap.size, 3, none⟩ = some (.int .i64 0))) (by kernel_rfl) (K.out _ (Sm.below (Below.refl _ _).drew)) (fun hHeld => ?_)
    have bd : Sm (BkX pb g cA1) w3 w3.drew := Sm.below (Below.refl _ _).drew
    have HBd := Hid.mk (HH.out.kept (Below.refl _ _).drew)
    have hd0 := Hid.mk (show w3.drew.heap.size = w3.heap.size from rfl)
    generalize w3.drew = wd at *
    refine wpAnyH_take (i := 0) (oi := _) (v := ?vtmh1) rfl (by kernel_rfl) (by kernel_rfl) (by kernel_rfl) (fun _ _ _ h => h) (Or.inl ⟨by kernel_rfl, ?hytmh1⟩) hHeld ?resttmh1
    case hytmh1 => (intro w hSw; (try dsimp only at hSw); go_simp; first | done | with_reducible rfl)
    try simp only [Act.put, List.getElem_toArray, List.getElem_cons_zero, List.setIfInBounds_toArray, List.set_cons_zero, List.set_cons_succ]
    refine wpAnyH_take (i := 1) (oi := _) (v := ?vtmh2) rfl (by kernel_rfl) (by kernel_rfl) (by kernel_rfl) (fun _ _ _ h => h) (Or.inl ⟨by kernel_rfl, ?hytmh2⟩) hHeld ?resttmh2
    case hytmh2 => (intro w hSw; (try dsimp only at hSw); go_simp; first | done | with_reducible rfl)
    try simp only [Act.put, List.getElem_toArray, List.getElem_cons_zero, List.getElem_cons_succ, List.setIfInBounds_toArray, List.set_cons_zero, List.set_cons_succ]
    refine wpAnyH_take (i := 2) (oi := _) (v := ?vtmh3) rfl (by kernel_rfl) (by kernel_rfl) (by kernel_rfl) (fun _ _ _ h => h) (Or.inl ⟨by kernel_rfl, ?hytmh3⟩) hHeld ?resttmh3
    case hytmh3 => (intro w hSw; (try dsimp only at hSw); go_simp; first | done | with_reducible rfl)
    try simp only [Act.put, List.getElem_toArray, List.getElem_cons_zero, List.getElem_cons_succ, List.setIfInBounds_toArray, List.set_cons_zero, List.set_cons_succ]
    refine wpAnyH_take (i := 3) (oi := _) (v := ?vtmh4) rfl (by kernel_rfl) (by kernel_rfl) (by kernel_rfl) (fun _ _ _ h => h) (Or.inl ⟨by kernel_rfl, ?hytmh4⟩) hHeld ?resttmh4
    case hytmh4 => (intro w hSw; (try dsimp only at hSw); go_simp; first | done | with_reducible rfl)
    try simp only [Act.put, List.getElem_toArray, List.getElem_cons_zero, List.getElem_cons_succ, List.setIfInBounds_toArray, List.set_cons_zero, List.set_cons_succ]
    refine wpAnyH_take (i := 4) (oi := _) (v := ?vtmh5) rfl (by kernel_rfl) (by kernel_rfl) (by kernel_rfl) (fun _ _ _ h => h) (Or.inl ⟨by kernel_rfl, ?hytmh5⟩) hHeld ?resttmh5
    case hytmh5 => (intro w hSw; (try dsimp only at hSw); go_simp; first | done | with_reducible rfl)
    try simp only [Act.put, List.getElem_toArray, List.getElem_cons_zero, List.getElem_cons_succ, List.setIfInBounds_toArray, List.set_cons_zero, List.set_cons_succ]
    refine wpAnyH_ready (rs := [5, 6]) (by kernel_rfl) (by simp) ?_
    refine AllReadyH.cons (o := _) rfl (fun K0 hK0 => ?_) (AllReadyH.cons (o := _) rfl (fun K0 hK0 => ?_) AllReadyH.nil)
    · skip
      have HB := HBd.out
      go_simp
      go_at_call 68
      refine (CU.out _ HB).mono ?_
      rintro e w6 ⟨c6, d6, rfl, H6, S6, hc6⟩
      have T6 := bd.trans S6
      have hz6 := S6.size
      refine hK0.out _ _ (K.out _ T6) (fun hHeld => ?_)
      clear hK0 K0
      try simp only [Act.put, List.getElem_toArray, List.getElem_cons_zero, List.getElem_cons_succ, List.setIfInBounds_toArray, List.set_cons_zero, List.set_cons_succ]
      refine wpAnyH_ready (rs := [6]) (by kernel_rfl) (by simp) ?_
      refine AllReadyH.cons (o := _) rfl (fun K0 hK0 => ?_) AllReadyH.nil
      go_simp
      have b7 := belowA w6 (.cells #[.int .i64 0, .int .i64 0] 37)
      have T7 := T6.trans (Sm.below b7)
      have VN : V (w6.alloc (.cells #[.int .i64 0, .int .i64 0] 37)) w6.heap.size [.int .i64 0, .int .i64 0] := V.new _ _ _
      have H7 := H6.kept b7
      refine hK0.out _ _ (K.out _ T7) (fun hHeld => ?_)
      clear hK0 K0
      try simp only [Act.put, List.getElem_toArray, List.getElem_cons_zero, List.getElem_cons_succ, List.setIfInBounds_toArray, List.set_cons_zero, List.set_cons_succ]
      have hz7 : (w6.alloc (.cells #[.int .i64 0, .int .i64 0] 37)).heap.size = w6.heap.size + 1 := World.size_alloc _ _
      have hB6 : ∀ k, BkX pb g c6 k → k ≠ w6.heap.size := fun k h => by have := (H6.lt k h).2; omega
      obtain ⟨PI, hPI⟩ : ∃ PI, w6.heap.size = PI := ⟨_, rfl⟩
      have hPIw : w3.heap.size ≤ PI := by have := hd0.out; omega
      generalize w6.alloc (.cells #[.int .i64 0, .int .i64 0] 37) = wn at *
      rw [hPI] at VN hB6 ⊢
      refine wpAnyH_ready (rs := [7]) (by kernel_rfl) (by simp) ?_
      refine AllReadyH.cons (o := _) rfl (fun K0 hK0 => ?_) AllReadyH.nil
      rw [if_pos (by rfl)]
      have hT := VN.there
      have VF := VN.filled [.int .i64 Q.c, .int .i64 Q.k] rfl
      have HF := H7.apart (B := PI) hB6 0 [.int .i64 Q.c, .int .i64 Q.k]
      have Tn : Sm (BkX pb g cA1) w3 (World.setCells wn PI 0 [.int .i64 Q.c, .int .i64 Q.k]) := Sm.newCells T7 hPIw 0 _
      have RF := RR.out.sm Tn hPf (fun h => by have := (HH.out.lt _ h).1; omega)
      have SF := Sm.less SS.out.size Tn (fun k hk hx => .inr (hcnA1.out k hx hk)) SS.out
      have CF : ∀ k, BkX pb g c6 k → k < w.heap.size → BkX pb g c k := fun k h hk => hcnA1.out k (hc6 k h (by have := SS.out.size; have := hd0.out; omega)) hk
      refine wp_store_mid _ _ _ rfl PI 0 #[.int .i64 Q.c, .int .i64 Q.k] rfl rfl hT (by kernel_rfl) (by kernel_rfl) ?_
      refine hK0.out _ _ (K.out _ Tn) (fun hHeld => ?_)
      clear hK0 K0
      refine wpAnyH_done (by kernel_rfl) ?_ _
      go_wp2_with fail
      go_meet
      exact ⟨PI, c6, d6, rfl, VF, Hid.mk HF, Hid.mk RF, Hid.mk SF, Hid.mk CF⟩
    · skip
      go_simp
      have b7 := belowA wd (.cells #[.int .i64 0, .int .i64 0] 37)
      have T7 := bd.trans (Sm.below b7)
      have VN0 : V (wd.alloc (.cells #[.int .i64 0, .int .i64 0] 37)) wd.heap.size [.int .i64 0, .int .i64 0] := V.new _ _ _
      have HB := HBd.out.kept b7
      have hz7 : (wd.alloc (.cells #[.int .i64 0, .int .i64 0] 37)).heap.size = wd.heap.size + 1 := World.size_alloc _ _
      refine hK0.out _ _ (K.out _ T7) (fun hHeld => ?_)
      clear hK0 K0
      try simp only [Act.put, List.getElem_toArray, List.getElem_cons_zero, List.getElem_cons_succ, List.setIfInBounds_toArray, List.set_cons_zero, List.set_cons_succ]
      have hBd : ∀ k, BkX pb g cA1 k → k ≠ wd.heap.size := fun k h => by have := (HBd.out.lt k h).2; omega
      obtain ⟨PI, hPI⟩ : ∃ PI, wd.heap.size = PI := ⟨_, rfl⟩
      have hPIw : w3.heap.size ≤ PI := by have := hd0.out; omega
      generalize wd.alloc (.cells #[.int .i64 0, .int .i64 0] 37) = wa at *
      rw [hPI] at VN0 hBd hz7 ⊢
      refine wpAnyH_ready (rs := [5]) (by kernel_rfl) (by simp) ?_
      refine AllReadyH.cons (o := _) rfl (fun K0 hK0 => ?_) AllReadyH.nil
      go_simp
      go_at_call 68
      refine (CU.out _ HB).mono ?_
      rintro e w6 ⟨c6, d6, rfl, H6, S6, hc6⟩
      have T6 := T7.trans S6
      have hz6 := S6.size
      refine hK0.out _ _ (K.out _ T6) (fun hHeld => ?_)
      clear hK0 K0
      try simp only [Act.put, List.getElem_toArray, List.getElem_cons_zero, List.getElem_cons_succ, List.setIfInBounds_toArray, List.set_cons_zero, List.set_cons_succ]
      have VN := VN0.sm S6 (fun h => hBd _ h rfl)
      have hB6 : ∀ k, BkX pb g c6 k → k ≠ PI := fun k h e => hBd k (hc6 k h (by omega)) e
      have hc6' : ∀ k, BkX pb g c6 k → k < wd.heap.size → BkX pb g cA1 k := fun k h hk => hc6 k h (by omega)
      clear hc6
      have hc6 := hc6'
      clear hc6'
      generalize w6 = wn at *
      refine wpAnyH_ready (rs := [7]) (by kernel_rfl) (by simp) ?_
      refine AllReadyH.cons (o := _) rfl (fun K0 hK0 => ?_) AllReadyH.nil
      rw [if_pos (by rfl)]
      have hT := VN.there
      have VF := VN.filled [.int .i64 Q.c, .int .i64 Q.k] rfl
      have HF := H6.apart (B := PI) hB6 0 [.int .i64 Q.c, .int .i64 Q.k]
      have Tn : Sm (BkX pb g cA1) w3 (World.setCells wn PI 0 [.int .i64 Q.c, .int .i64 Q.k]) := Sm.newCells T6 hPIw 0 _
      have RF := RR.out.sm Tn hPf (fun h => by have := (HH.out.lt _ h).1; omega)
      have SF := Sm.less SS.out.size Tn (fun k hk hx => .inr (hcnA1.out k hx hk)) SS.out
      have CF : ∀ k, BkX pb g c6 k → k < w.heap.size → BkX pb g c k := fun k h hk => hcnA1.out k (hc6 k h (by have := SS.out.size; have := hd0.out; omega)) hk
      refine wp_store_mid _ _ _ rfl PI 0 #[.int .i64 Q.c, .int .i64 Q.k] rfl rfl hT (by kernel_rfl) (by kernel_rfl) ?_
      refine hK0.out _ _ (K.out _ Tn) (fun hHeld => ?_)
      clear hK0 K0
      refine wpAnyH_done (by kernel_rfl) ?_ _
      go_wp2_with fail
      go_meet
      exact ⟨PI, c6, d6, rfl, VF, Hid.mk HF, Hid.mk RF, Hid.mk SF, Hid.mk CF⟩
  case rest =>
    clear K CU RR HH SS VTT
    obtain ⟨PI, c6, d6, rfl, VI, H6, R6, S6, C6⟩ := hcut
    obtain ⟨s_VI, f_VI, z_VI⟩ := VI.open
    by_cases hpc : Q.c = 0
    · have hpb : (Q.c == 0) = true := by simp [hpc]
      have e1 := HPL.out
      rw [if_pos hpc] at e1
      have E1 := Hid.mk e1
      have HPC := Hid.mk hpc
      clear e1 hpc
      go_wp2_with (go_at_call 43; refine (require_ok 5 _).mono ?_; rintro e wq ⟨rfl, rfl⟩)
      go_ret
      exact ⟨S6.out, .inr ⟨Q, rA1, by rw [rd1, if_neg (by decide), if_pos rfl, hA1]; dsimp only; unfold rdP; rw [HQ.out, if_pos HPC.out], rfl, ⟨c6, d6, by rw [← E1.out]; exact H6.out, C6.out⟩, xA1, eA1, R6.out⟩⟩
    · have hpb : (Q.c == 0) = false := by simp [hpc]
      have HPC := Hid.mk hpc
      clear hpc
      go_wp2_with (go_at_call 43; refine (require_no 5 _).mono ?_; rintro e wq ⟨rfl, rfl⟩)
      exact ⟨rfl, S6.out, .inl ⟨by rw [rd1, if_neg (by decide), if_pos rfl, hA1]; dsimp only; unfold rdP; rw [HQ.out, if_neg HPC.out], rfl⟩⟩

theorem other_bad {xs : List T4} {o : Int} (h : ¬ (1 ≤ o ∧ o ≤ 7)) : (put xs ⟨o, 0, 0, 0⟩).c ≠ 0 := by
  have hc : tmC xs ⟨o, 0, 0, 0⟩ = 5 := by
    have hb : btw o 1 7 = false := by
      cases hb : btw o 1 7 with
      | false => rfl
      | true => exact absurd (btw_iff.1 hb) h
    rcases tm_ways xs ⟨o, 0, 0, 0⟩ with ⟨_, e⟩ | ⟨e, _⟩ | ⟨e, _⟩ | ⟨e, _⟩ | ⟨e, _⟩ | ⟨e, _⟩
    · exact e
    all_goals exact absurd (e.symm.trans hb) (by decide)
  rcases put_ways xs ⟨o, 0, 0, 0⟩ with ⟨_, e⟩ | ⟨e, _⟩ | ⟨e, _⟩ | ⟨e, _⟩
  · rw [e, hc]; decide
  all_goals (rw [hc] at e; exact absurd e (by decide))

set_option maxRecDepth 20000 in
set_option maxHeartbeats 16000000 in
theorem term_other (f base P pb g bx : Nat) (xs : List T4) (r : List Int) (o : Int) (ho : ¬ (1 ≤ o ∧ o ≤ 7)) (x : Option Addr) (m d : Nat) (c : Option Addr) (dd : Nat) (w : World) (R : Rdr w P (.pointer (some ⟨pb, 0, none⟩)) bx x m d (o :: r)) (hb : Bytes (o :: r)) (H : Bk w base pb g c dd xs) (ht : tfC xs = 0) (hP : ∀ k, BkX pb g c k → k ≠ P) (hbP : base ≤ P) (hbx : bx < base) :
    Calls Tryz.prog 42 #[.pointer (some ⟨P, 0, none⟩)] w (TermRead (f + 1) xs (o :: r) base P pb g bx c w) := by
  have q1 := build_tmo
  unfold TermRead
  have hx4 := (tfC_zero ht).1
  have hml := R.len
  simp only [List.length_cons] at hml
  have hbr := bytes_tail hb
  have hne : bx ≠ P := by omega
  have CN := number_ok P (.pointer (some ⟨pb, 0, none⟩)) bx x m d (o :: r) 1 w R hb (by decide) (by decide) (by omega) hne
  rw [takeN_head, show ((1 : Nat) : Int) = 1 from rfl, List.drop_succ_cons, List.drop_zero] at CN
  replace CN := Hid.mk CN
  have hPl := R.v.1
  have HX := Hid.mk hP
  have HLT := Hid.mk H.lt
  have HT := Hid.mk ht
  have hob := hb.at 0
  rw [List.getD_cons_zero] at hob
  have n1 : (o == 1) = false := by simp; omega
  have n2 : (o == 2) = false := by simp; omega
  have n3 : (o == 3) = false := by simp; omega
  have n4 : (o == 4) = false := by simp; omega
  have n5 : (o == 5) = false := by simp; omega
  have n6 : (o == 6) = false := by simp; omega
  have n7 : (o == 7) = false := by simp; omega
  go_enter Tryz.func42, Tryz.ntmps42
  go_wp2_with fail
  refine CN.out.mono ?_
  rintro e w1 ⟨rfl, S1, x1, R1⟩
  have H1 := H.sm S1 (fun k e => by subst e; exact fun h => HX.out _ h rfl)
  have S : Sm (fun k => k = P ∨ BkX pb g c k) w w1 := S1.more (fun k e => .inl e)
  have hs1 := S1.size
  have HC : Hid (∀ k, BkX pb g c k → k < w.heap.size → BkX pb g c k) := Hid.mk (fun k h _ => h)
  clear R H S1 CN
  have R := R1
  have H := H1
  clear R1 H1
  replace R := R.kept (belowA w1 (.cells #[.int .i64 o, .int .i64 0, .int .i64 0, .int .i64 0] 70))
  replace H := H.kept (belowA w1 (.cells #[.int .i64 o, .int .i64 0, .int .i64 0, .int .i64 0] 70))
  replace S := S.trans (Sm.below (belowA w1 (.cells #[.int .i64 o, .int .i64 0, .int .i64 0, .int .i64 0] 70)))
  have VT := V.new w1 [.int .i64 o, .int .i64 0, .int .i64 0, .int .i64 0] 70
  have hT1 : w.heap.size ≤ w1.heap.size := hs1
  have hTB : Hid (P < w1.heap.size ∧ ∀ k, BkX pb g c k → k < w1.heap.size) := Hid.mk ⟨by omega, fun k h => by have := (HLT.out k h).2; omega⟩
  obtain ⟨s_VT, f_VT, z_VT⟩ := VT.open
  clear s_VT f_VT z_VT
  have CU := fun w h => put_ok base pb g c dd xs ⟨o, 0, 0, 0⟩ w h (okT_of (by omega) (by decide) (by decide) (by decide)) hx4
  simp only at CU
  obtain ⟨Q, hQ⟩ : ∃ Q, put xs ⟨o, 0, 0, 0⟩ = Q := ⟨_, rfl⟩
  have HQ := Hid.mk hQ
  have HPL : Hid (putL xs ⟨o, 0, 0, 0⟩ = if Q.c = 0 then Q.l else xs) := Hid.mk (by unfold putL; rw [hQ])
  rw [hQ] at CU
  replace CU := Hid.mk CU
  clear hQ
  have hPf : ¬ BkX pb g c P := fun h => HX.out P h rfl
  have hTf : ¬ BkX pb g c (w1.heap.size) := by intro e; exact absurd e (by exact fun e => by have := hTB.out.2 _ e; omega)
  have K : ∀ w' : World, Sm (BkX pb g c) (w1.alloc (.cells #[.int .i64 o, .int .i64 0, .int .i64 0, .int .i64 0] 70)) w' → (w'.cell? ⟨P, 1, none⟩ = some (.pointer (some ⟨pb, 0, none⟩)) ∧ w'.cell? ⟨w1.heap.size, 0, none⟩ = some (.int .i64 o) ∧ w'.cell? ⟨w1.heap.size, 1, none⟩ = some (.int .i64 0) ∧ w'.cell? ⟨w1.heap.size, 2, none⟩ = some (.int .i64 0) ∧ w'.cell? ⟨w1.heap.size, 3, none⟩ = some (.int .i64 0)) := fun w' h => ⟨(R.v.sm h hPf).2.1 1 (by simp), (VT.sm h hTf).2.1 0 (by simp), (VT.sm h hTf).2.1 1 (by simp), (VT.sm h hTf).2.1 2 (by simp), (VT.sm h hTf).2.1 3 (by simp)⟩
  have K := Hid.mk K
  have RR := Hid.mk R
  have HH := Hid.mk H
  have SS := Hid.mk S
  have VTT := Hid.mk VT
  have hPz := R.v.1
  clear R H S VT
  obtain ⟨s_VT, f_VT, z_VT⟩ := VTT.out.open
  go_upto_region 14 with fail
  clear s_VT f_VT z_VT
  go_cut [4] (fun p wx => ∃ (PI : Nat) (c6 : Option Addr) (d6 : Nat), p = .pointer (some ⟨PI, 0, none⟩) ∧ V wx PI [.int .i64 Q.c, .int .i64 Q.k] ∧ Hid (Bk wx base pb g c6 d6 (putL xs ⟨o, 0, 0, 0⟩)) ∧ Hid (Rdr wx P (.pointer (some ⟨pb, 0, none⟩)) bx x1 (m - 1) (d - 1) r) ∧ Hid (Sm (fun k => k = P ∨ BkX pb g c k) w wx) ∧ Hid (∀ k, BkX pb g c6 k → k < w.heap.size → BkX pb g c k))
  case first =>
    refine wp_region_held_drew (S := (fun w' => w'.cell? ⟨P, 1, none⟩ = some (.pointer (some ⟨pb, 0, none⟩)) ∧ w'.cell? ⟨w1.heap.size, 0, none⟩ = some (.int .i64 o) ∧ w'.cell? ⟨w1.heap.size, 1, none⟩ = some (.int .i64 0) ∧ w'.cell? ⟨w1.heap.size, 2, none⟩ = some (.int .i64 0) ∧ w'.cell? ⟨w1.heap.size, 3, none⟩ = some (.int .i64 0))) (by kernel_rfl) (K.out _ (Sm.below (Below.refl _ _).drew)) (fun hHeld => ?_)
    have bd : Sm (BkX pb g c) (w1.alloc (.cells #[.int .i64 o, .int .i64 0, .int .i64 0, .int .i64 0] 70)) (w1.alloc (.cells #[.int .i64 o, .int .i64 0, .int .i64 0, .int .i64 0] 70)).drew := Sm.below (Below.refl _ _).drew
    have HBd := Hid.mk (HH.out.kept (Below.refl _ _).drew)
    have hd0 := Hid.mk (show (w1.alloc (.cells #[.int .i64 o, .int .i64 0, .int .i64 0, .int .i64 0] 70)).drew.heap.size = (w1.alloc (.cells #[.int .i64 o, .int .i64 0, .int .i64 0, .int .i64 0] 70)).heap.size from rfl)
    generalize (w1.alloc (.cells #[.int .i64 o, .int .i64 0, .int .i64 0, .int .i64 0] 70)).drew = wd at *
    refine wpAnyH_take (i := 0) (oi := _) (v := ?vtmo1) rfl (by kernel_rfl) (by kernel_rfl) (by kernel_rfl) (fun _ _ _ h => h) (Or.inl ⟨by kernel_rfl, ?hytmo1⟩) hHeld ?resttmo1
    case hytmo1 => (intro w hSw; (try dsimp only at hSw); go_simp; first | done | with_reducible rfl)
    try simp only [Act.put, List.getElem_toArray, List.getElem_cons_zero, List.setIfInBounds_toArray, List.set_cons_zero, List.set_cons_succ]
    refine wpAnyH_take (i := 1) (oi := _) (v := ?vtmo2) rfl (by kernel_rfl) (by kernel_rfl) (by kernel_rfl) (fun _ _ _ h => h) (Or.inl ⟨by kernel_rfl, ?hytmo2⟩) hHeld ?resttmo2
    case hytmo2 => (intro w hSw; (try dsimp only at hSw); go_simp; first | done | with_reducible rfl)
    try simp only [Act.put, List.getElem_toArray, List.getElem_cons_zero, List.getElem_cons_succ, List.setIfInBounds_toArray, List.set_cons_zero, List.set_cons_succ]
    refine wpAnyH_take (i := 2) (oi := _) (v := ?vtmo3) rfl (by kernel_rfl) (by kernel_rfl) (by kernel_rfl) (fun _ _ _ h => h) (Or.inl ⟨by kernel_rfl, ?hytmo3⟩) hHeld ?resttmo3
    case hytmo3 => (intro w hSw; (try dsimp only at hSw); go_simp; first | done | with_reducible rfl)
    try simp only [Act.put, List.getElem_toArray, List.getElem_cons_zero, List.getElem_cons_succ, List.setIfInBounds_toArray, List.set_cons_zero, List.set_cons_succ]
    refine wpAnyH_take (i := 3) (oi := _) (v := ?vtmo4) rfl (by kernel_rfl) (by kernel_rfl) (by kernel_rfl) (fun _ _ _ h => h) (Or.inl ⟨by kernel_rfl, ?hytmo4⟩) hHeld ?resttmo4
    case hytmo4 => (intro w hSw; (try dsimp only at hSw); go_simp; first | done | with_reducible rfl)
    try simp only [Act.put, List.getElem_toArray, List.getElem_cons_zero, List.getElem_cons_succ, List.setIfInBounds_toArray, List.set_cons_zero, List.set_cons_succ]
    refine wpAnyH_take (i := 4) (oi := _) (v := ?vtmo5) rfl (by kernel_rfl) (by kernel_rfl) (by kernel_rfl) (fun _ _ _ h => h) (Or.inl ⟨by kernel_rfl, ?hytmo5⟩) hHeld ?resttmo5
    case hytmo5 => (intro w hSw; (try dsimp only at hSw); go_simp; first | done | with_reducible rfl)
    try simp only [Act.put, List.getElem_toArray, List.getElem_cons_zero, List.getElem_cons_succ, List.setIfInBounds_toArray, List.set_cons_zero, List.set_cons_succ]
    refine wpAnyH_ready (rs := [5, 6]) (by kernel_rfl) (by simp) ?_
    refine AllReadyH.cons (o := _) rfl (fun K0 hK0 => ?_) (AllReadyH.cons (o := _) rfl (fun K0 hK0 => ?_) AllReadyH.nil)
    · skip
      have HB := HBd.out
      go_simp
      go_at_call 68
      refine (CU.out _ HB).mono ?_
      rintro e w6 ⟨c6, d6, rfl, H6, S6, hc6⟩
      have T6 := bd.trans S6
      have hz6 := S6.size
      refine hK0.out _ _ (K.out _ T6) (fun hHeld => ?_)
      clear hK0 K0
      try simp only [Act.put, List.getElem_toArray, List.getElem_cons_zero, List.getElem_cons_succ, List.setIfInBounds_toArray, List.set_cons_zero, List.set_cons_succ]
      refine wpAnyH_ready (rs := [6]) (by kernel_rfl) (by simp) ?_
      refine AllReadyH.cons (o := _) rfl (fun K0 hK0 => ?_) AllReadyH.nil
      go_simp
      have b7 := belowA w6 (.cells #[.int .i64 0, .int .i64 0] 37)
      have T7 := T6.trans (Sm.below b7)
      have VN : V (w6.alloc (.cells #[.int .i64 0, .int .i64 0] 37)) w6.heap.size [.int .i64 0, .int .i64 0] := V.new _ _ _
      have H7 := H6.kept b7
      refine hK0.out _ _ (K.out _ T7) (fun hHeld => ?_)
      clear hK0 K0
      try simp only [Act.put, List.getElem_toArray, List.getElem_cons_zero, List.getElem_cons_succ, List.setIfInBounds_toArray, List.set_cons_zero, List.set_cons_succ]
      have hz7 : (w6.alloc (.cells #[.int .i64 0, .int .i64 0] 37)).heap.size = w6.heap.size + 1 := World.size_alloc _ _
      have hB6 : ∀ k, BkX pb g c6 k → k ≠ w6.heap.size := fun k h => by have := (H6.lt k h).2; omega
      obtain ⟨PI, hPI⟩ : ∃ PI, w6.heap.size = PI := ⟨_, rfl⟩
      have hPIw : (w1.alloc (.cells #[.int .i64 o, .int .i64 0, .int .i64 0, .int .i64 0] 70)).heap.size ≤ PI := by have := hd0.out; omega
      generalize w6.alloc (.cells #[.int .i64 0, .int .i64 0] 37) = wn at *
      rw [hPI] at VN hB6 ⊢
      refine wpAnyH_ready (rs := [7]) (by kernel_rfl) (by simp) ?_
      refine AllReadyH.cons (o := _) rfl (fun K0 hK0 => ?_) AllReadyH.nil
      rw [if_pos (by rfl)]
      have hT := VN.there
      have VF := VN.filled [.int .i64 Q.c, .int .i64 Q.k] rfl
      have HF := H7.apart (B := PI) hB6 0 [.int .i64 Q.c, .int .i64 Q.k]
      have Tn : Sm (BkX pb g c) (w1.alloc (.cells #[.int .i64 o, .int .i64 0, .int .i64 0, .int .i64 0] 70)) (World.setCells wn PI 0 [.int .i64 Q.c, .int .i64 Q.k]) := Sm.newCells T7 hPIw 0 _
      have RF := RR.out.sm Tn hPf (fun h => by have := (HH.out.lt _ h).1; omega)
      have SF := Sm.less SS.out.size Tn (fun k hk hx => .inr (HC.out k hx hk)) SS.out
      have CF : ∀ k, BkX pb g c6 k → k < w.heap.size → BkX pb g c k := fun k h hk => HC.out k (hc6 k h (by have := SS.out.size; have := hd0.out; omega)) hk
      refine wp_store_mid _ _ _ rfl PI 0 #[.int .i64 Q.c, .int .i64 Q.k] rfl rfl hT (by kernel_rfl) (by kernel_rfl) ?_
      refine hK0.out _ _ (K.out _ Tn) (fun hHeld => ?_)
      clear hK0 K0
      refine wpAnyH_done (by kernel_rfl) ?_ _
      go_wp2_with fail
      go_meet
      exact ⟨PI, c6, d6, rfl, VF, Hid.mk HF, Hid.mk RF, Hid.mk SF, Hid.mk CF⟩
    · skip
      go_simp
      have b7 := belowA wd (.cells #[.int .i64 0, .int .i64 0] 37)
      have T7 := bd.trans (Sm.below b7)
      have VN0 : V (wd.alloc (.cells #[.int .i64 0, .int .i64 0] 37)) wd.heap.size [.int .i64 0, .int .i64 0] := V.new _ _ _
      have HB := HBd.out.kept b7
      have hz7 : (wd.alloc (.cells #[.int .i64 0, .int .i64 0] 37)).heap.size = wd.heap.size + 1 := World.size_alloc _ _
      refine hK0.out _ _ (K.out _ T7) (fun hHeld => ?_)
      clear hK0 K0
      try simp only [Act.put, List.getElem_toArray, List.getElem_cons_zero, List.getElem_cons_succ, List.setIfInBounds_toArray, List.set_cons_zero, List.set_cons_succ]
      have hBd : ∀ k, BkX pb g c k → k ≠ wd.heap.size := fun k h => by have := (HBd.out.lt k h).2; omega
      obtain ⟨PI, hPI⟩ : ∃ PI, wd.heap.size = PI := ⟨_, rfl⟩
      have hPIw : (w1.alloc (.cells #[.int .i64 o, .int .i64 0, .int .i64 0, .int .i64 0] 70)).heap.size ≤ PI := by have := hd0.out; omega
      generalize wd.alloc (.cells #[.int .i64 0, .int .i64 0] 37) = wa at *
      rw [hPI] at VN0 hBd hz7 ⊢
      refine wpAnyH_ready (rs := [5]) (by kernel_rfl) (by simp) ?_
      refine AllReadyH.cons (o := _) rfl (fun K0 hK0 => ?_) AllReadyH.nil
      go_simp
      go_at_call 68
      refine (CU.out _ HB).mono ?_
      rintro e w6 ⟨c6, d6, rfl, H6, S6, hc6⟩
      have T6 := T7.trans S6
      have hz6 := S6.size
      refine hK0.out _ _ (K.out _ T6) (fun hHeld => ?_)
      clear hK0 K0
      try simp only [Act.put, List.getElem_toArray, List.getElem_cons_zero, List.getElem_cons_succ, List.setIfInBounds_toArray, List.set_cons_zero, List.set_cons_succ]
      have VN := VN0.sm S6 (fun h => hBd _ h rfl)
      have hB6 : ∀ k, BkX pb g c6 k → k ≠ PI := fun k h e => hBd k (hc6 k h (by omega)) e
      have hc6' : ∀ k, BkX pb g c6 k → k < wd.heap.size → BkX pb g c k := fun k h hk => hc6 k h (by omega)
      clear hc6
      have hc6 := hc6'
      clear hc6'
      generalize w6 = wn at *
      refine wpAnyH_ready (rs := [7]) (by kernel_rfl) (by simp) ?_
      refine AllReadyH.cons (o := _) rfl (fun K0 hK0 => ?_) AllReadyH.nil
      rw [if_pos (by rfl)]
      have hT := VN.there
      have VF := VN.filled [.int .i64 Q.c, .int .i64 Q.k] rfl
      have HF := H6.apart (B := PI) hB6 0 [.int .i64 Q.c, .int .i64 Q.k]
      have Tn : Sm (BkX pb g c) (w1.alloc (.cells #[.int .i64 o, .int .i64 0, .int .i64 0, .int .i64 0] 70)) (World.setCells wn PI 0 [.int .i64 Q.c, .int .i64 Q.k]) := Sm.newCells T6 hPIw 0 _
      have RF := RR.out.sm Tn hPf (fun h => by have := (HH.out.lt _ h).1; omega)
      have SF := Sm.less SS.out.size Tn (fun k hk hx => .inr (HC.out k hx hk)) SS.out
      have CF : ∀ k, BkX pb g c6 k → k < w.heap.size → BkX pb g c k := fun k h hk => HC.out k (hc6 k h (by have := SS.out.size; have := hd0.out; omega)) hk
      refine wp_store_mid _ _ _ rfl PI 0 #[.int .i64 Q.c, .int .i64 Q.k] rfl rfl hT (by kernel_rfl) (by kernel_rfl) ?_
      refine hK0.out _ _ (K.out _ Tn) (fun hHeld => ?_)
      clear hK0 K0
      refine wpAnyH_done (by kernel_rfl) ?_ _
      go_wp2_with fail
      go_meet
      exact ⟨PI, c6, d6, rfl, VF, Hid.mk HF, Hid.mk RF, Hid.mk SF, Hid.mk CF⟩
  case rest =>
    clear K CU RR HH SS VTT
    obtain ⟨PI, c6, d6, rfl, VI, H6, R6, S6, C6⟩ := hcut
    obtain ⟨s_VI, f_VI, z_VI⟩ := VI.open
    by_cases hpc : Q.c = 0
    · have hpb : (Q.c == 0) = true := by simp [hpc]
      have e1 := HPL.out
      rw [if_pos hpc] at e1
      have E1 := Hid.mk e1
      have HPC := Hid.mk hpc
      clear e1 hpc
      go_wp2_with (go_at_call 43; refine (require_ok 5 _).mono ?_; rintro e wq ⟨rfl, rfl⟩)
      go_ret
      exact ⟨S6.out, .inr ⟨Q, r, absurd HPC.out (by rw [← HQ.out]; exact other_bad ho), rfl, ⟨c6, d6, by rw [← E1.out]; exact H6.out, C6.out⟩, x1, (d - 1), by rw [show r.length = m - 1 by omega]; exact R6.out⟩⟩
    · have hpb : (Q.c == 0) = false := by simp [hpc]
      have HPC := Hid.mk hpc
      clear hpc
      go_wp2_with (go_at_call 43; refine (require_no 5 _).mono ?_; rintro e wq ⟨rfl, rfl⟩)
      exact ⟨rfl, S6.out, .inl ⟨by rw [rd1, if_neg (by omega), if_neg (by omega), if_neg (by omega)], rfl⟩⟩

end Go.Proofs.YtfldgeokigcokaaGreat

/- The reader's 'term': what has two parts. -/
namespace Go.Proofs.YtfldgeokigcokaaGreat
open Go.RowKit

set_option maxRecDepth 20000 in
set_option maxHeartbeats 16000000 in
theorem term_two3 (f base P pb g bx : Nat) (xs : List T4) (r : List Int) (x : Option Addr) (m d : Nat) (c : Option Addr) (dd : Nat) (w : World) (ih : TermOk f base P pb g bx) (hl : (3 :: r).length ≤ f + 1) (R : Rdr w P (.pointer (some ⟨pb, 0, none⟩)) bx x m d (3 :: r)) (hb : Bytes (3 :: r)) (H : Bk w base pb g c dd xs) (ht : tfC xs = 0) (hP : ∀ k, BkX pb g c k → k ≠ P) (hbP : base ≤ P) (hbx : bx < base) :
    Calls Tryz.prog 42 #[.pointer (some ⟨P, 0, none⟩)] w (TermRead (f + 1) xs (3 :: r) base P pb g bx c w) := by
  have q1 := build_tmo
  unfold TermRead
  have hx4 := (tfC_zero ht).1
  have hml := R.len
  simp only [List.length_cons] at hml
  have hbr := bytes_tail hb
  have hne : bx ≠ P := by omega
  have CN := number_ok P (.pointer (some ⟨pb, 0, none⟩)) bx x m d (3 :: r) 1 w R hb (by decide) (by decide) (by omega) hne
  rw [takeN_head, show ((1 : Nat) : Int) = 1 from rfl, List.drop_succ_cons, List.drop_zero] at CN
  replace CN := Hid.mk CN
  have hPl := R.v.1
  have HX := Hid.mk hP
  have HLT := Hid.mk H.lt
  have HT := Hid.mk ht
  simp only [List.length_cons] at hl
  have hl' : r.length ≤ f := by omega
  go_enter Tryz.func42, Tryz.ntmps42
  go_wp2_with fail
  refine CN.out.mono ?_
  rintro e w1 ⟨rfl, S1, x1, R1⟩
  have H1 := H.sm S1 (fun k e => by subst e; exact fun h => HX.out _ h rfl)
  have S : Sm (fun k => k = P ∨ BkX pb g c k) w w1 := S1.more (fun k e => .inl e)
  have hs1 := S1.size
  have HC : Hid (∀ k, BkX pb g c k → k < w.heap.size → BkX pb g c k) := Hid.mk (fun k h _ => h)
  clear R H S1 CN
  have R := R1
  have H := H1
  clear R1 H1
  replace R := R.kept (belowA w1 (.cells #[.int .i64 3, .int .i64 0, .int .i64 0, .int .i64 0] 70))
  replace H := H.kept (belowA w1 (.cells #[.int .i64 3, .int .i64 0, .int .i64 0, .int .i64 0] 70))
  replace S := S.trans (Sm.below (belowA w1 (.cells #[.int .i64 3, .int .i64 0, .int .i64 0, .int .i64 0] 70)))
  have VT := V.new w1 [.int .i64 3, .int .i64 0, .int .i64 0, .int .i64 0] 70
  have hT1 : w.heap.size ≤ w1.heap.size := hs1
  have hTB : Hid (P < w1.heap.size ∧ ∀ k, BkX pb g c k → k < w1.heap.size) := Hid.mk ⟨by omega, fun k h => by have := (HLT.out k h).2; omega⟩
  obtain ⟨s_VT, f_VT, z_VT⟩ := VT.open
  clear s_VT f_VT z_VT
  have CT := Hid.mk (ih xs r x1 (m - 1) (d - 1) c dd _ (by omega) R hbr H HT.out HX.out hbP hbx)
  unfold TermRead at CT
  obtain ⟨s_VT, f_VT, z_VT⟩ := VT.open
  go_wp2_with fail
  refine CT.out.mono ?_
  rintro e wt1 ⟨SA1, ⟨hnA1, rfl⟩ | ⟨A1, rA1, hA1, rfl, ⟨cA1, dA1, HA1, hcA1⟩, xA1, eA1, RA1⟩⟩
  clear s_VT f_VT z_VT
  · exact ⟨rfl, Sm.less S.size SA1 (fun k hk hx => by rcases hx with e | e; exact .inl e; exact .inr (HC.out k e hk)) S, .inl ⟨by rw [rd1, if_neg (by decide), if_neg (by decide), if_pos (by decide), hnA1], rfl⟩⟩
  have hsA1 := SA1.size
  simp only [World.size_alloc] at hsA1
  have VT2 := VT.sm SA1 (by rintro (e | e); have := hTB.out.1; omega; exact absurd e (by exact fun e => by have := hTB.out.2 _ e; omega))
  have Sn : Sm (fun k => k = P ∨ BkX pb g c k) w wt1 := Sm.less S.size SA1 (fun k hk hx => by rcases hx with e | e; exact .inl e; exact .inr (HC.out k e hk)) S
  have GA1 := rd1_ok f _ _ _ HT.out hA1
  have gkA1 : 0 ≤ A1.k ∧ A1.k < A1.l.length := ⟨GA1.k0, GA1.k1⟩
  have g4A1 : A1.l.length ≤ 400 := (tfC_zero GA1.right).1
  have gbA1 : Bytes rA1 ∧ rA1.length ≤ r.length := by
    obtain ⟨nn, _, n1, n2⟩ := GA1.rest
    simp only at n2
    rw [n2]
    exact ⟨bytes_dropN hbr nn, by rw [List.length_drop]; omega⟩
  have hcnA1 : Hid (∀ k, BkX pb g cA1 k → k < w.heap.size → BkX pb g c k) := Hid.mk (fun k h hk => HC.out k (hcA1 k h (Nat.lt_of_lt_of_le hk S.size)) hk)
  have hfarA1 : Hid (∀ k, BkX pb g cA1 k → k ≠ P ∧ k ≠ w1.heap.size) := Hid.mk (fun k h => by
    rcases Nat.lt_or_ge k w1.heap.size with h1 | h1
    · rcases Nat.lt_or_ge k w.heap.size with h2 | h2
      · exact ⟨HX.out k (hcnA1.out k h h2), by omega⟩
      · exact ⟨by omega, by omega⟩
    · refine ⟨by omega, fun e => ?_⟩
      have h2 := hcA1 k h (by have := VT.1; omega)
      have := hTB.out.2 _ h2; omega)
  clear CT SA1 VT S R H hcA1
  have R := RA1
  have H := HA1
  have S := Sn
  have VT := VT2
  clear RA1 HA1 Sn VT2
  obtain ⟨s_VT, f_VT, z_VT⟩ := VT.open
  clear s_VT f_VT z_VT
  have CT := Hid.mk (ih A1.l rA1 xA1 rA1.length eA1 cA1 dA1 _ (by have := gbA1.2; omega) R gbA1.1 H GA1.right (fun k h => (hfarA1.out k h).1) hbP hbx)
  unfold TermRead at CT
  obtain ⟨s_VT, f_VT, z_VT⟩ := VT.open
  go_wp2_with fail
  refine CT.out.mono ?_
  rintro e wt2 ⟨SA2, ⟨hnA2, rfl⟩ | ⟨A2, rA2, hA2, rfl, ⟨cA2, dA2, HA2, hcA2⟩, xA2, eA2, RA2⟩⟩
  clear s_VT f_VT z_VT
  · exact ⟨rfl, Sm.less S.size SA2 (fun k hk hx => by rcases hx with e | e; exact .inl e; exact .inr (hcnA1.out k e hk)) S, .inl ⟨by rw [rd1, if_neg (by decide), if_neg (by decide), if_pos (by decide), hA1]; dsimp only; rw [hnA2], rfl⟩⟩
  have hsA2 := SA2.size
  have VT2 := VT.sm SA2 (by rintro (e | e); have := hTB.out.1; omega; exact absurd e (by exact fun e => (hfarA1.out _ e).2 rfl))
  have Sn : Sm (fun k => k = P ∨ BkX pb g c k) w wt2 := Sm.less S.size SA2 (fun k hk hx => by rcases hx with e | e; exact .inl e; exact .inr (hcnA1.out k e hk)) S
  have GA2 := rd1_ok f _ _ _ GA1.right hA2
  have gkA2 : 0 ≤ A2.k ∧ A2.k < A2.l.length := ⟨GA2.k0, GA2.k1⟩
  have g4A2 : A2.l.length ≤ 400 := (tfC_zero GA2.right).1
  have gbA2 : Bytes rA2 ∧ rA2.length ≤ rA1.length := by
    obtain ⟨nn, _, n1, n2⟩ := GA2.rest
    simp only at n2
    rw [n2]
    exact ⟨bytes_dropN gbA1.1 nn, by rw [List.length_drop]; omega⟩
  have hcnA2 : Hid (∀ k, BkX pb g cA2 k → k < w.heap.size → BkX pb g c k) := Hid.mk (fun k h hk => hcnA1.out k (hcA2 k h (Nat.lt_of_lt_of_le hk S.size)) hk)
  have hfarA2 : Hid (∀ k, BkX pb g cA2 k → k ≠ P ∧ k ≠ w1.heap.size) := Hid.mk (fun k h => by
    rcases Nat.lt_or_ge k w1.heap.size with h1 | h1
    · rcases Nat.lt_or_ge k w.heap.size with h2 | h2
      · exact ⟨HX.out k (hcnA2.out k h h2), by omega⟩
      · exact ⟨by omega, by omega⟩
    · refine ⟨by omega, fun e => ?_⟩
      have h2 := hcA2 k h (by have := VT.1; omega)
      exact absurd e (hfarA1.out k h2).2)
  clear CT SA2 VT S R H hcA2
  have R := RA2
  have H := HA2
  have S := Sn
  have VT := VT2
  clear RA2 HA2 Sn VT2
  obtain ⟨s_VT, f_VT, z_VT⟩ := VT.open
  clear s_VT f_VT z_VT
  have VT0 := VT
  have hPT : P < w1.heap.size := hTB.out.1
  replace VT := VT.set (i := 1) (by simp) (.int .i64 A1.k)
  simp only [List.set_cons_zero, List.set_cons_succ] at VT
  replace R := R.sm (X := fun k => k = w1.heap.size) (Sm.cell (X := fun k => k = w1.heap.size) (p := ⟨w1.heap.size, 1, none⟩) rfl (.int .i64 A1.k)) (by omega) (by omega)
  replace H := H.sm (X := fun k => k = w1.heap.size) (Sm.cell (X := fun k => k = w1.heap.size) (p := ⟨w1.heap.size, 1, none⟩) rfl (.int .i64 A1.k)) (fun k e h => by rw [e] at h; exact absurd h (by exact fun e => (hfarA2.out _ e).2 rfl))
  replace S := S.newCell (p := ⟨w1.heap.size, 1, none⟩) (by simp only; omega) (.int .i64 A1.k)
  replace VT := VT.set (i := 2) (by simp) (.int .i64 A2.k)
  simp only [List.set_cons_zero, List.set_cons_succ] at VT
  replace R := R.sm (X := fun k => k = w1.heap.size) (Sm.cell (X := fun k => k = w1.heap.size) (p := ⟨w1.heap.size, 2, none⟩) rfl (.int .i64 A2.k)) (by omega) (by omega)
  replace H := H.sm (X := fun k => k = w1.heap.size) (Sm.cell (X := fun k => k = w1.heap.size) (p := ⟨w1.heap.size, 2, none⟩) rfl (.int .i64 A2.k)) (fun k e h => by rw [e] at h; exact absurd h (by exact fun e => (hfarA2.out _ e).2 rfl))
  replace S := S.newCell (p := ⟨w1.heap.size, 2, none⟩) (by simp only; omega) (.int .i64 A2.k)
  obtain ⟨s_VT, f_VT, z_VT⟩ := VT0.open
  go_upto_region 14 with fail
  clear s_VT f_VT z_VT VT0
  generalize (World.setCell (World.setCell wt2 ⟨w1.heap.size, 1, none⟩ (.int .i64 A1.k)) ⟨w1.heap.size, 2, none⟩ (.int .i64 A2.k)) = w3 at *
  have CU := fun w h => put_ok base pb g cA2 dA2 A2.l ⟨3, A1.k, A2.k, 0⟩ w h (okT_of (by decide) (by omega) (by omega) (by decide)) g4A2
  simp only at CU
  obtain ⟨Q, hQ⟩ : ∃ Q, put A2.l ⟨3, A1.k, A2.k, 0⟩ = Q := ⟨_, rfl⟩
  have HQ := Hid.mk hQ
  have HPL : Hid (putL A2.l ⟨3, A1.k, A2.k, 0⟩ = if Q.c = 0 then Q.l else A2.l) := Hid.mk (by unfold putL; rw [hQ])
  rw [hQ] at CU
  replace CU := Hid.mk CU
  clear hQ
  have hPf : ¬ BkX pb g cA2 P := fun h => (fun k h => (hfarA2.out k h).1) P h rfl
  have hTf : ¬ BkX pb g cA2 (w1.heap.size) := by intro e; exact absurd e (by exact fun e => (hfarA2.out _ e).2 rfl)
  have K : ∀ w' : World, Sm (BkX pb g cA2) w3 w' → (w'.cell? ⟨P, 1, none⟩ = some (.pointer (some ⟨pb, 0, none⟩)) ∧ w'.cell? ⟨w1.heap.size, 0, none⟩ = some (.int .i64 3) ∧ w'.cell? ⟨w1.heap.size, 1, none⟩ = some (.int .i64 A1.k) ∧ w'.cell? ⟨w1.heap.size, 2, none⟩ = some (.int .i64 A2.k) ∧ w'.cell? ⟨w1.heap.size, 3, none⟩ = some (.int .i64 0)) := fun w' h => ⟨(R.v.sm h hPf).2.1 1 (by simp), (VT.sm h hTf).2.1 0 (by simp), (VT.sm h hTf).2.1 1 (by simp), (VT.sm h hTf).2.1 2 (by simp), (VT.sm h hTf).2.1 3 (by simp)⟩
  have K := Hid.mk K
  have RR := Hid.mk R
  have HH := Hid.mk H
  have SS := Hid.mk S
  have VTT := Hid.mk VT
  have hPz := R.v.1
  clear R H S VT
  go_cut [4] (fun p wx => ∃ (PI : Nat) (c6 : Option Addr) (d6 : Nat), p = .pointer (some ⟨PI, 0, none⟩) ∧ V wx PI [.int .i64 Q.c, .int .i64 Q.k] ∧ Hid (Bk wx base pb g c6 d6 (putL A2.l ⟨3, A1.k, A2.k, 0⟩)) ∧ Hid (Rdr wx P (.pointer (some ⟨pb, 0, none⟩)) bx xA2 rA2.length eA2 rA2) ∧ Hid (Sm (fun k => k = P ∨ BkX pb g c k) w wx) ∧ Hid (∀ k, BkX pb g c6 k → k < w.heap.size → BkX pb g c k))
  case first =>
    refine wp_region_held_drew (S := (fun w' => w'.cell? ⟨P, 1, none⟩ = some (.pointer (some ⟨pb, 0, none⟩)) ∧ w'.cell? ⟨w1.heap.size, 0, none⟩ = some (.int .i64 3) ∧ w'.cell? ⟨w1.heap.size, 1, none⟩ = some (.int .i64 A1.k) ∧ w'.cell? ⟨w1.heap.size, 2, none⟩ = some (.int .i64 A2.k) ∧ w'.cell? ⟨w1.heap.size, 3, none⟩ = some (.int .i64 0))) (by kernel_rfl) (K.out _ (Sm.below (Below.refl _ _).drew)) (fun hHeld => ?_)
    have bd : Sm (BkX pb g cA2) w3 w3.drew := Sm.below (Below.refl _ _).drew
    have HBd := Hid.mk (HH.out.kept (Below.refl _ _).drew)
    have hd0 := Hid.mk (show w3.drew.heap.size = w3.heap.size from rfl)
    generalize w3.drew = wd at *
    refine wpAnyH_take (i := 0) (oi := _) (v := ?vtmt31) rfl (by kernel_rfl) (by kernel_rfl) (by kernel_rfl) (fun _ _ _ h => h) (Or.inl ⟨by kernel_rfl, ?hytmt31⟩) hHeld ?resttmt31
    case hytmt31 => (intro w hSw; (try dsimp only at hSw); go_simp; first | done | with_reducible rfl)
    try simp only [Act.put, List.getElem_toArray, List.getElem_cons_zero, List.setIfInBounds_toArray, List.set_cons_zero, List.set_cons_succ]
    refine wpAnyH_take (i := 1) (oi := _) (v := ?vtmt32) rfl (by kernel_rfl) (by kernel_rfl) (by kernel_rfl) (fun _ _ _ h => h) (Or.inl ⟨by kernel_rfl, ?hytmt32⟩) hHeld ?resttmt32
    case hytmt32 => (intro w hSw; (try dsimp only at hSw); go_simp; first | done | with_reducible rfl)
    try simp only [Act.put, List.getElem_toArray, List.getElem_cons_zero, List.getElem_cons_succ, List.setIfInBounds_toArray, List.set_cons_zero, List.set_cons_succ]
    refine wpAnyH_take (i := 2) (oi := _) (v := ?vtmt33) rfl (by kernel_rfl) (by kernel_rfl) (by kernel_rfl) (fun _ _ _ h => h) (Or.inl ⟨by kernel_rfl, ?hytmt33⟩) hHeld ?resttmt33
    case hytmt33 => (intro w hSw; (try dsimp only at hSw); go_simp; first | done | with_reducible rfl)
    try simp only [Act.put, List.getElem_toArray, List.getElem_cons_zero, List.getElem_cons_succ, List.setIfInBounds_toArray, List.set_cons_zero, List.set_cons_succ]
    refine wpAnyH_take (i := 3) (oi := _) (v := ?vtmt34) rfl (by kernel_rfl) (by kernel_rfl) (by kernel_rfl) (fun _ _ _ h => h) (Or.inl ⟨by kernel_rfl, ?hytmt34⟩) hHeld ?resttmt34
    case hytmt34 => (intro w hSw; (try dsimp only at hSw); go_simp; first | done | with_reducible rfl)
    try simp only [Act.put, List.getElem_toArray, List.getElem_cons_zero, List.getElem_cons_succ, List.setIfInBounds_toArray, List.set_cons_zero, List.set_cons_succ]
    refine wpAnyH_take (i := 4) (oi := _) (v := ?vtmt35) rfl (by kernel_rfl) (by kernel_rfl) (by kernel_rfl) (fun _ _ _ h => h) (Or.inl ⟨by kernel_rfl, ?hytmt35⟩) hHeld ?resttmt35
    case hytmt35 => (intro w hSw; (try dsimp only at hSw); go_simp; first | done | with_reducible rfl)
    try simp only [Act.put, List.getElem_toArray, List.getElem_cons_zero, List.getElem_cons_succ, List.setIfInBounds_toArray, List.set_cons_zero, List.set_cons_succ]
    refine wpAnyH_ready (rs := [5, 6]) (by kernel_rfl) (by simp) ?_
    refine AllReadyH.cons (o := _) rfl (fun K0 hK0 => ?_) (AllReadyH.cons (o := _) rfl (fun K0 hK0 => ?_) AllReadyH.nil)
    · skip
      have HB := HBd.out
      go_simp
      go_at_call 68
      refine (CU.out _ HB).mono ?_
      rintro e w6 ⟨c6, d6, rfl, H6, S6, hc6⟩
      have T6 := bd.trans S6
      have hz6 := S6.size
      refine hK0.out _ _ (K.out _ T6) (fun hHeld => ?_)
      clear hK0 K0
      try simp only [Act.put, List.getElem_toArray, List.getElem_cons_zero, List.getElem_cons_succ, List.setIfInBounds_toArray, List.set_cons_zero, List.set_cons_succ]
      refine wpAnyH_ready (rs := [6]) (by kernel_rfl) (by simp) ?_
      refine AllReadyH.cons (o := _) rfl (fun K0 hK0 => ?_) AllReadyH.nil
      go_simp
      have b7 := belowA w6 (.cells #[.int .i64 0, .int .i64 0] 37)
      have T7 := T6.trans (Sm.below b7)
      have VN : V (w6.alloc (.cells #[.int .i64 0, .int .i64 0] 37)) w6.heap.size [.int .i64 0, .int .i64 0] := V.new _ _ _
      have H7 := H6.kept b7
      refine hK0.out _ _ (K.out _ T7) (fun hHeld => ?_)
      clear hK0 K0
      try simp only [Act.put, List.getElem_toArray, List.getElem_cons_zero, List.getElem_cons_succ, List.setIfInBounds_toArray, List.set_cons_zero, List.set_cons_succ]
      have hz7 : (w6.alloc (.cells #[.int .i64 0, .int .i64 0] 37)).heap.size = w6.heap.size + 1 := World.size_alloc _ _
      have hB6 : ∀ k, BkX pb g c6 k → k ≠ w6.heap.size := fun k h => by have := (H6.lt k h).2; omega
      obtain ⟨PI, hPI⟩ : ∃ PI, w6.heap.size = PI := ⟨_, rfl⟩
      have hPIw : w3.heap.size ≤ PI := by have := hd0.out; omega
      generalize w6.alloc (.cells #[.int .i64 0, .int .i64 0] 37) = wn at *
      rw [hPI] at VN hB6 ⊢
      refine wpAnyH_ready (rs := [7]) (by kernel_rfl) (by simp) ?_
      refine AllReadyH.cons (o := _) rfl (fun K0 hK0 => ?_) AllReadyH.nil
      rw [if_pos (by rfl)]
      have hT := VN.there
      have VF := VN.filled [.int .i64 Q.c, .int .i64 Q.k] rfl
      have HF := H7.apart (B := PI) hB6 0 [.int .i64 Q.c, .int .i64 Q.k]
      have Tn : Sm (BkX pb g cA2) w3 (World.setCells wn PI 0 [.int .i64 Q.c, .int .i64 Q.k]) := Sm.newCells T7 hPIw 0 _
      have RF := RR.out.sm Tn hPf (fun h => by have := (HH.out.lt _ h).1; omega)
      have SF := Sm.less SS.out.size Tn (fun k hk hx => .inr (hcnA2.out k hx hk)) SS.out
      have CF : ∀ k, BkX pb g c6 k → k < w.heap.size → BkX pb g c k := fun k h hk => hcnA2.out k (hc6 k h (by have := SS.out.size; have := hd0.out; omega)) hk
      refine wp_store_mid _ _ _ rfl PI 0 #[.int .i64 Q.c, .int .i64 Q.k] rfl rfl hT (by kernel_rfl) (by kernel_rfl) ?_
      refine hK0.out _ _ (K.out _ Tn) (fun hHeld => ?_)
      clear hK0 K0
      refine wpAnyH_done (by kernel_rfl) ?_ _
      go_wp2_with fail
      go_meet
      exact ⟨PI, c6, d6, rfl, VF, Hid.mk HF, Hid.mk RF, Hid.mk SF, Hid.mk CF⟩
    · skip
      go_simp
      have b7 := belowA wd (.cells #[.int .i64 0, .int .i64 0] 37)
      have T7 := bd.trans (Sm.below b7)
      have VN0 : V (wd.alloc (.cells #[.int .i64 0, .int .i64 0] 37)) wd.heap.size [.int .i64 0, .int .i64 0] := V.new _ _ _
      have HB := HBd.out.kept b7
      have hz7 : (wd.alloc (.cells #[.int .i64 0, .int .i64 0] 37)).heap.size = wd.heap.size + 1 := World.size_alloc _ _
      refine hK0.out _ _ (K.out _ T7) (fun hHeld => ?_)
      clear hK0 K0
      try simp only [Act.put, List.getElem_toArray, List.getElem_cons_zero, List.getElem_cons_succ, List.setIfInBounds_toArray, List.set_cons_zero, List.set_cons_succ]
      have hBd : ∀ k, BkX pb g cA2 k → k ≠ wd.heap.size := fun k h => by have := (HBd.out.lt k h).2; omega
      obtain ⟨PI, hPI⟩ : ∃ PI, wd.heap.size = PI := ⟨_, rfl⟩
      have hPIw : w3.heap.size ≤ PI := by have := hd0.out; omega
      generalize wd.alloc (.cells #[.int .i64 0, .int .i64 0] 37) = wa at *
      rw [hPI] at VN0 hBd hz7 ⊢
      refine wpAnyH_ready (rs := [5]) (by kernel_rfl) (by simp) ?_
      refine AllReadyH.cons (o := _) rfl (fun K0 hK0 => ?_) AllReadyH.nil
      go_simp
      go_at_call 68
      refine (CU.out _ HB).mono ?_
      rintro e w6 ⟨c6, d6, rfl, H6, S6, hc6⟩
      have T6 := T7.trans S6
      have hz6 := S6.size
      refine hK0.out _ _ (K.out _ T6) (fun hHeld => ?_)
      clear hK0 K0
      try simp only [Act.put, List.getElem_toArray, List.getElem_cons_zero, List.getElem_cons_succ, List.setIfInBounds_toArray, List.set_cons_zero, List.set_cons_succ]
      have VN := VN0.sm S6 (fun h => hBd _ h rfl)
      have hB6 : ∀ k, BkX pb g c6 k → k ≠ PI := fun k h e => hBd k (hc6 k h (by omega)) e
      have hc6' : ∀ k, BkX pb g c6 k → k < wd.heap.size → BkX pb g cA2 k := fun k h hk => hc6 k h (by omega)
      clear hc6
      have hc6 := hc6'
      clear hc6'
      generalize w6 = wn at *
      refine wpAnyH_ready (rs := [7]) (by kernel_rfl) (by simp) ?_
      refine AllReadyH.cons (o := _) rfl (fun K0 hK0 => ?_) AllReadyH.nil
      rw [if_pos (by rfl)]
      have hT := VN.there
      have VF := VN.filled [.int .i64 Q.c, .int .i64 Q.k] rfl
      have HF := H6.apart (B := PI) hB6 0 [.int .i64 Q.c, .int .i64 Q.k]
      have Tn : Sm (BkX pb g cA2) w3 (World.setCells wn PI 0 [.int .i64 Q.c, .int .i64 Q.k]) := Sm.newCells T6 hPIw 0 _
      have RF := RR.out.sm Tn hPf (fun h => by have := (HH.out.lt _ h).1; omega)
      have SF := Sm.less SS.out.size Tn (fun k hk hx => .inr (hcnA2.out k hx hk)) SS.out
      have CF : ∀ k, BkX pb g c6 k → k < w.heap.size → BkX pb g c k := fun k h hk => hcnA2.out k (hc6 k h (by have := SS.out.size; have := hd0.out; omega)) hk
      refine wp_store_mid _ _ _ rfl PI 0 #[.int .i64 Q.c, .int .i64 Q.k] rfl rfl hT (by kernel_rfl) (by kernel_rfl) ?_
      refine hK0.out _ _ (K.out _ Tn) (fun hHeld => ?_)
      clear hK0 K0
      refine wpAnyH_done (by kernel_rfl) ?_ _
      go_wp2_with fail
      go_meet
      exact ⟨PI, c6, d6, rfl, VF, Hid.mk HF, Hid.mk RF, Hid.mk SF, Hid.mk CF⟩
  case rest =>
    clear K CU RR HH SS VTT
    obtain ⟨PI, c6, d6, rfl, VI, H6, R6, S6, C6⟩ := hcut
    obtain ⟨s_VI, f_VI, z_VI⟩ := VI.open
    by_cases hpc : Q.c = 0
    · have hpb : (Q.c == 0) = true := by simp [hpc]
      have e1 := HPL.out
      rw [if_pos hpc] at e1
      have E1 := Hid.mk e1
      have HPC := Hid.mk hpc
      clear e1 hpc
      go_wp2_with (go_at_call 43; refine (require_ok 5 _).mono ?_; rintro e wq ⟨rfl, rfl⟩)
      go_ret
      exact ⟨S6.out, .inr ⟨Q, rA2, by rw [rd1, if_neg (by decide), if_neg (by decide), if_pos (by decide), hA1]; dsimp only; rw [hA2]; dsimp only; rw [if_neg (by decide)]; unfold rdP; rw [HQ.out, if_pos HPC.out], rfl, ⟨c6, d6, by rw [← E1.out]; exact H6.out, C6.out⟩, xA2, eA2, R6.out⟩⟩
    · have hpb : (Q.c == 0) = false := by simp [hpc]
      have HPC := Hid.mk hpc
      clear hpc
      go_wp2_with (go_at_call 43; refine (require_no 5 _).mono ?_; rintro e wq ⟨rfl, rfl⟩)
      exact ⟨rfl, S6.out, .inl ⟨by rw [rd1, if_neg (by decide), if_neg (by decide), if_pos (by decide), hA1]; dsimp only; rw [hA2]; dsimp only; rw [if_neg (by decide)]; unfold rdP; rw [HQ.out, if_neg HPC.out], rfl⟩⟩

set_option maxRecDepth 20000 in
set_option maxHeartbeats 16000000 in
theorem term_two4 (f base P pb g bx : Nat) (xs : List T4) (r : List Int) (x : Option Addr) (m d : Nat) (c : Option Addr) (dd : Nat) (w : World) (ih : TermOk f base P pb g bx) (hl : (4 :: r).length ≤ f + 1) (R : Rdr w P (.pointer (some ⟨pb, 0, none⟩)) bx x m d (4 :: r)) (hb : Bytes (4 :: r)) (H : Bk w base pb g c dd xs) (ht : tfC xs = 0) (hP : ∀ k, BkX pb g c k → k ≠ P) (hbP : base ≤ P) (hbx : bx < base) :
    Calls Tryz.prog 42 #[.pointer (some ⟨P, 0, none⟩)] w (TermRead (f + 1) xs (4 :: r) base P pb g bx c w) := by
  have q1 := build_tmo
  unfold TermRead
  have hx4 := (tfC_zero ht).1
  have hml := R.len
  simp only [List.length_cons] at hml
  have hbr := bytes_tail hb
  have hne : bx ≠ P := by omega
  have CN := number_ok P (.pointer (some ⟨pb, 0, none⟩)) bx x m d (4 :: r) 1 w R hb (by decide) (by decide) (by omega) hne
  rw [takeN_head, show ((1 : Nat) : Int) = 1 from rfl, List.drop_succ_cons, List.drop_zero] at CN
  replace CN := Hid.mk CN
  have hPl := R.v.1
  have HX := Hid.mk hP
  have HLT := Hid.mk H.lt
  have HT := Hid.mk ht
  simp only [List.length_cons] at hl
  have hl' : r.length ≤ f := by omega
  go_enter Tryz.func42, Tryz.ntmps42
  go_wp2_with fail
  refine CN.out.mono ?_
  rintro e w1 ⟨rfl, S1, x1, R1⟩
  have H1 := H.sm S1 (fun k e => by subst e; exact fun h => HX.out _ h rfl)
  have S : Sm (fun k => k = P ∨ BkX pb g c k) w w1 := S1.more (fun k e => .inl e)
  have hs1 := S1.size
  have HC : Hid (∀ k, BkX pb g c k → k < w.heap.size → BkX pb g c k) := Hid.mk (fun k h _ => h)
  clear R H S1 CN
  have R := R1
  have H := H1
  clear R1 H1
  replace R := R.kept (belowA w1 (.cells #[.int .i64 4, .int .i64 0, .int .i64 0, .int .i64 0] 70))
  replace H := H.kept (belowA w1 (.cells #[.int .i64 4, .int .i64 0, .int .i64 0, .int .i64 0] 70))
  replace S := S.trans (Sm.below (belowA w1 (.cells #[.int .i64 4, .int .i64 0, .int .i64 0, .int .i64 0] 70)))
  have VT := V.new w1 [.int .i64 4, .int .i64 0, .int .i64 0, .int .i64 0] 70
  have hT1 : w.heap.size ≤ w1.heap.size := hs1
  have hTB : Hid (P < w1.heap.size ∧ ∀ k, BkX pb g c k → k < w1.heap.size) := Hid.mk ⟨by omega, fun k h => by have := (HLT.out k h).2; omega⟩
  obtain ⟨s_VT, f_VT, z_VT⟩ := VT.open
  clear s_VT f_VT z_VT
  have CT := Hid.mk (ih xs r x1 (m - 1) (d - 1) c dd _ (by omega) R hbr H HT.out HX.out hbP hbx)
  unfold TermRead at CT
  obtain ⟨s_VT, f_VT, z_VT⟩ := VT.open
  go_wp2_with fail
  refine CT.out.mono ?_
  rintro e wt1 ⟨SA1, ⟨hnA1, rfl⟩ | ⟨A1, rA1, hA1, rfl, ⟨cA1, dA1, HA1, hcA1⟩, xA1, eA1, RA1⟩⟩
  clear s_VT f_VT z_VT
  · exact ⟨rfl, Sm.less S.size SA1 (fun k hk hx => by rcases hx with e | e; exact .inl e; exact .inr (HC.out k e hk)) S, .inl ⟨by rw [rd1, if_neg (by decide), if_neg (by decide), if_pos (by decide), hnA1], rfl⟩⟩
  have hsA1 := SA1.size
  simp only [World.size_alloc] at hsA1
  have VT2 := VT.sm SA1 (by rintro (e | e); have := hTB.out.1; omega; exact absurd e (by exact fun e => by have := hTB.out.2 _ e; omega))
  have Sn : Sm (fun k => k = P ∨ BkX pb g c k) w wt1 := Sm.less S.size SA1 (fun k hk hx => by rcases hx with e | e; exact .inl e; exact .inr (HC.out k e hk)) S
  have GA1 := rd1_ok f _ _ _ HT.out hA1
  have gkA1 : 0 ≤ A1.k ∧ A1.k < A1.l.length := ⟨GA1.k0, GA1.k1⟩
  have g4A1 : A1.l.length ≤ 400 := (tfC_zero GA1.right).1
  have gbA1 : Bytes rA1 ∧ rA1.length ≤ r.length := by
    obtain ⟨nn, _, n1, n2⟩ := GA1.rest
    simp only at n2
    rw [n2]
    exact ⟨bytes_dropN hbr nn, by rw [List.length_drop]; omega⟩
  have hcnA1 : Hid (∀ k, BkX pb g cA1 k → k < w.heap.size → BkX pb g c k) := Hid.mk (fun k h hk => HC.out k (hcA1 k h (Nat.lt_of_lt_of_le hk S.size)) hk)
  have hfarA1 : Hid (∀ k, BkX pb g cA1 k → k ≠ P ∧ k ≠ w1.heap.size) := Hid.mk (fun k h => by
    rcases Nat.lt_or_ge k w1.heap.size with h1 | h1
    · rcases Nat.lt_or_ge k w.heap.size with h2 | h2
      · exact ⟨HX.out k (hcnA1.out k h h2), by omega⟩
      · exact ⟨by omega, by omega⟩
    · refine ⟨by omega, fun e => ?_⟩
      have h2 := hcA1 k h (by have := VT.1; omega)
      have := hTB.out.2 _ h2; omega)
  clear CT SA1 VT S R H hcA1
  have R := RA1
  have H := HA1
  have S := Sn
  have VT := VT2
  clear RA1 HA1 Sn VT2
  obtain ⟨s_VT, f_VT, z_VT⟩ := VT.open
  clear s_VT f_VT z_VT
  have CT := Hid.mk (ih A1.l rA1 xA1 rA1.length eA1 cA1 dA1 _ (by have := gbA1.2; omega) R gbA1.1 H GA1.right (fun k h => (hfarA1.out k h).1) hbP hbx)
  unfold TermRead at CT
  obtain ⟨s_VT, f_VT, z_VT⟩ := VT.open
  go_wp2_with fail
  refine CT.out.mono ?_
  rintro e wt2 ⟨SA2, ⟨hnA2, rfl⟩ | ⟨A2, rA2, hA2, rfl, ⟨cA2, dA2, HA2, hcA2⟩, xA2, eA2, RA2⟩⟩
  clear s_VT f_VT z_VT
  · exact ⟨rfl, Sm.less S.size SA2 (fun k hk hx => by rcases hx with e | e; exact .inl e; exact .inr (hcnA1.out k e hk)) S, .inl ⟨by rw [rd1, if_neg (by decide), if_neg (by decide), if_pos (by decide), hA1]; dsimp only; rw [hnA2], rfl⟩⟩
  have hsA2 := SA2.size
  have VT2 := VT.sm SA2 (by rintro (e | e); have := hTB.out.1; omega; exact absurd e (by exact fun e => (hfarA1.out _ e).2 rfl))
  have Sn : Sm (fun k => k = P ∨ BkX pb g c k) w wt2 := Sm.less S.size SA2 (fun k hk hx => by rcases hx with e | e; exact .inl e; exact .inr (hcnA1.out k e hk)) S
  have GA2 := rd1_ok f _ _ _ GA1.right hA2
  have gkA2 : 0 ≤ A2.k ∧ A2.k < A2.l.length := ⟨GA2.k0, GA2.k1⟩
  have g4A2 : A2.l.length ≤ 400 := (tfC_zero GA2.right).1
  have gbA2 : Bytes rA2 ∧ rA2.length ≤ rA1.length := by
    obtain ⟨nn, _, n1, n2⟩ := GA2.rest
    simp only at n2
    rw [n2]
    exact ⟨bytes_dropN gbA1.1 nn, by rw [List.length_drop]; omega⟩
  have hcnA2 : Hid (∀ k, BkX pb g cA2 k → k < w.heap.size → BkX pb g c k) := Hid.mk (fun k h hk => hcnA1.out k (hcA2 k h (Nat.lt_of_lt_of_le hk S.size)) hk)
  have hfarA2 : Hid (∀ k, BkX pb g cA2 k → k ≠ P ∧ k ≠ w1.heap.size) := Hid.mk (fun k h => by
    rcases Nat.lt_or_ge k w1.heap.size with h1 | h1
    · rcases Nat.lt_or_ge k w.heap.size with h2 | h2
      · exact ⟨HX.out k (hcnA2.out k h h2), by omega⟩
      · exact ⟨by omega, by omega⟩
    · refine ⟨by omega, fun e => ?_⟩
      have h2 := hcA2 k h (by have := VT.1; omega)
      exact absurd e (hfarA1.out k h2).2)
  clear CT SA2 VT S R H hcA2
  have R := RA2
  have H := HA2
  have S := Sn
  have VT := VT2
  clear RA2 HA2 Sn VT2
  obtain ⟨s_VT, f_VT, z_VT⟩ := VT.open
  clear s_VT f_VT z_VT
  have VT0 := VT
  have hPT : P < w1.heap.size := hTB.out.1
  replace VT := VT.set (i := 1) (by simp) (.int .i64 A1.k)
  simp only [List.set_cons_zero, List.set_cons_succ] at VT
  replace R := R.sm (X := fun k => k = w1.heap.size) (Sm.cell (X := fun k => k = w1.heap.size) (p := ⟨w1.heap.size, 1, none⟩) rfl (.int .i64 A1.k)) (by omega) (by omega)
  replace H := H.sm (X := fun k => k = w1.heap.size) (Sm.cell (X := fun k => k = w1.heap.size) (p := ⟨w1.heap.size, 1, none⟩) rfl (.int .i64 A1.k)) (fun k e h => by rw [e] at h; exact absurd h (by exact fun e => (hfarA2.out _ e).2 rfl))
  replace S := S.newCell (p := ⟨w1.heap.size, 1, none⟩) (by simp only; omega) (.int .i64 A1.k)
  replace VT := VT.set (i := 2) (by simp) (.int .i64 A2.k)
  simp only [List.set_cons_zero, List.set_cons_succ] at VT
  replace R := R.sm (X := fun k => k = w1.heap.size) (Sm.cell (X := fun k => k = w1.heap.size) (p := ⟨w1.heap.size, 2, none⟩) rfl (.int .i64 A2.k)) (by omega) (by omega)
  replace H := H.sm (X := fun k => k = w1.heap.size) (Sm.cell (X := fun k => k = w1.heap.size) (p := ⟨w1.heap.size, 2, none⟩) rfl (.int .i64 A2.k)) (fun k e h => by rw [e] at h; exact absurd h (by exact fun e => (hfarA2.out _ e).2 rfl))
  replace S := S.newCell (p := ⟨w1.heap.size, 2, none⟩) (by simp only; omega) (.int .i64 A2.k)
  obtain ⟨s_VT, f_VT, z_VT⟩ := VT0.open
  go_upto_region 14 with fail
  clear s_VT f_VT z_VT VT0
  generalize (World.setCell (World.setCell wt2 ⟨w1.heap.size, 1, none⟩ (.int .i64 A1.k)) ⟨w1.heap.size, 2, none⟩ (.int .i64 A2.k)) = w3 at *
  have CU := fun w h => put_ok base pb g cA2 dA2 A2.l ⟨4, A1.k, A2.k, 0⟩ w h (okT_of (by decide) (by omega) (by omega) (by decide)) g4A2
  simp only at CU
  obtain ⟨Q, hQ⟩ : ∃ Q, put A2.l ⟨4, A1.k, A2.k, 0⟩ = Q := ⟨_, rfl⟩
  have HQ := Hid.mk hQ
  have HPL : Hid (putL A2.l ⟨4, A1.k, A2.k, 0⟩ = if Q.c = 0 then Q.l else A2.l) := Hid.mk (by unfold putL; rw [hQ])
  rw [hQ] at CU
  replace CU := Hid.mk CU
  clear hQ
  have hPf : ¬ BkX pb g cA2 P := fun h => (fun k h => (hfarA2.out k h).1) P h rfl
  have hTf : ¬ BkX pb g cA2 (w1.heap.size) := by intro e; exact absurd e (by exact fun e => (hfarA2.out _ e).2 rfl)
  have K : ∀ w' : World, Sm (BkX pb g cA2) w3 w' → (w'.cell? ⟨P, 1, none⟩ = some (.pointer (some ⟨pb, 0, none⟩)) ∧ w'.cell? ⟨w1.heap.size, 0, none⟩ = some (.int .i64 4) ∧ w'.cell? ⟨w1.heap.size, 1, none⟩ = some (.int .i64 A1.k) ∧ w'.cell? ⟨w1.heap.size, 2, none⟩ = some (.int .i64 A2.k) ∧ w'.cell? ⟨w1.heap.size, 3, none⟩ = some (.int .i64 0)) := fun w' h => ⟨(R.v.sm h hPf).2.1 1 (by simp), (VT.sm h hTf).2.1 0 (by simp), (VT.sm h hTf).2.1 1 (by simp), (VT.sm h hTf).2.1 2 (by simp), (VT.sm h hTf).2.1 3 (by simp)⟩
  have K := Hid.mk K
  have RR := Hid.mk R
  have HH := Hid.mk H
  have SS := Hid.mk S
  have VTT := Hid.mk VT
  have hPz := R.v.1
  clear R H S VT
  go_cut [4] (fun p wx => ∃ (PI : Nat) (c6 : Option Addr) (d6 : Nat), p = .pointer (some ⟨PI, 0, none⟩) ∧ V wx PI [.int .i64 Q.c, .int .i64 Q.k] ∧ Hid (Bk wx base pb g c6 d6 (putL A2.l ⟨4, A1.k, A2.k, 0⟩)) ∧ Hid (Rdr wx P (.pointer (some ⟨pb, 0, none⟩)) bx xA2 rA2.length eA2 rA2) ∧ Hid (Sm (fun k => k = P ∨ BkX pb g c k) w wx) ∧ Hid (∀ k, BkX pb g c6 k → k < w.heap.size → BkX pb g c k))
  case first =>
    refine wp_region_held_drew (S := (fun w' => w'.cell? ⟨P, 1, none⟩ = some (.pointer (some ⟨pb, 0, none⟩)) ∧ w'.cell? ⟨w1.heap.size, 0, none⟩ = some (.int .i64 4) ∧ w'.cell? ⟨w1.heap.size, 1, none⟩ = some (.int .i64 A1.k) ∧ w'.cell? ⟨w1.heap.size, 2, none⟩ = some (.int .i64 A2.k) ∧ w'.cell? ⟨w1.heap.size, 3, none⟩ = some (.int .i64 0))) (by kernel_rfl) (K.out _ (Sm.below (Below.refl _ _).drew)) (fun hHeld => ?_)
    have bd : Sm (BkX pb g cA2) w3 w3.drew := Sm.below (Below.refl _ _).drew
    have HBd := Hid.mk (HH.out.kept (Below.refl _ _).drew)
    have hd0 := Hid.mk (show w3.drew.heap.size = w3.heap.size from rfl)
    generalize w3.drew = wd at *
    refine wpAnyH_take (i := 0) (oi := _) (v := ?vtmt41) rfl (by kernel_rfl) (by kernel_rfl) (by kernel_rfl) (fun _ _ _ h => h) (Or.inl ⟨by kernel_rfl, ?hytmt41⟩) hHeld ?resttmt41
    case hytmt41 => (intro w hSw; (try dsimp only at hSw); go_simp; first | done | with_reducible rfl)
    try simp only [Act.put, List.getElem_toArray, List.getElem_cons_zero, List.setIfInBounds_toArray, List.set_cons_zero, List.set_cons_succ]
    refine wpAnyH_take (i := 1) (oi := _) (v := ?vtmt42) rfl (by kernel_rfl) (by kernel_rfl) (by kernel_rfl) (fun _ _ _ h => h) (Or.inl ⟨by kernel_rfl, ?hytmt42⟩) hHeld ?resttmt42
    case hytmt42 => (intro w hSw; (try dsimp only at hSw); go_simp; first | done | with_reducible rfl)
    try simp only [Act.put, List.getElem_toArray, List.getElem_cons_zero, List.getElem_cons_succ, List.setIfInBounds_toArray, List.set_cons_zero, List.set_cons_succ]
    refine wpAnyH_take (i := 2) (oi := _) (v := ?vtmt43) rfl (by kernel_rfl) (by kernel_rfl) (by kernel_rfl) (fun _ _ _ h => h) (Or.inl ⟨by kernel_rfl, ?hytmt43⟩) hHeld ?resttmt43
    case hytmt43 => (intro w hSw; (try dsimp only at hSw); go_simp; first | done | with_reducible rfl)
    try simp only [Act.put, List.getElem_toArray, List.getElem_cons_zero, List.getElem_cons_succ, List.setIfInBounds_toArray, List.set_cons_zero, List.set_cons_succ]
    refine wpAnyH_take (i := 3) (oi := _) (v := ?vtmt44) rfl (by kernel_rfl) (by kernel_rfl) (by kernel_rfl) (fun _ _ _ h => h) (Or.inl ⟨by kernel_rfl, ?hytmt44⟩) hHeld ?resttmt44
    case hytmt44 => (intro w hSw; (try dsimp only at hSw); go_simp; first | done | with_reducible rfl)
    try simp only [Act.put, List.getElem_toArray, List.getElem_cons_zero, List.getElem_cons_succ, List.setIfInBounds_toArray, List.set_cons_zero, List.set_cons_succ]
    refine wpAnyH_take (i := 4) (oi := _) (v := ?vtmt45) rfl (by kernel_rfl) (by kernel_rfl) (by kernel_rfl) (fun _ _ _ h => h) (Or.inl ⟨by kernel_rfl, ?hytmt45⟩) hHeld ?resttmt45
    case hytmt45 => (intro w hSw; (try dsimp only at hSw); go_simp; first | done | with_reducible rfl)
    try simp only [Act.put, List.getElem_toArray, List.getElem_cons_zero, List.getElem_cons_succ, List.setIfInBounds_toArray, List.set_cons_zero, List.set_cons_succ]
    refine wpAnyH_ready (rs := [5, 6]) (by kernel_rfl) (by simp) ?_
    refine AllReadyH.cons (o := _) rfl (fun K0 hK0 => ?_) (AllReadyH.cons (o := _) rfl (fun K0 hK0 => ?_) AllReadyH.nil)
    · skip
      have HB := HBd.out
      go_simp
      go_at_call 68
      refine (CU.out _ HB).mono ?_
      rintro e w6 ⟨c6, d6, rfl, H6, S6, hc6⟩
      have T6 := bd.trans S6
      have hz6 := S6.size
      refine hK0.out _ _ (K.out _ T6) (fun hHeld => ?_)
      clear hK0 K0
      try simp only [Act.put, List.getElem_toArray, List.getElem_cons_zero, List.getElem_cons_succ, List.setIfInBounds_toArray, List.set_cons_zero, List.set_cons_succ]
      refine wpAnyH_ready (rs := [6]) (by kernel_rfl) (by simp) ?_
      refine AllReadyH.cons (o := _) rfl (fun K0 hK0 => ?_) AllReadyH.nil
      go_simp
      have b7 := belowA w6 (.cells #[.int .i64 0, .int .i64 0] 37)
      have T7 := T6.trans (Sm.below b7)
      have VN : V (w6.alloc (.cells #[.int .i64 0, .int .i64 0] 37)) w6.heap.size [.int .i64 0, .int .i64 0] := V.new _ _ _
      have H7 := H6.kept b7
      refine hK0.out _ _ (K.out _ T7) (fun hHeld => ?_)
      clear hK0 K0
      try simp only [Act.put, List.getElem_toArray, List.getElem_cons_zero, List.getElem_cons_succ, List.setIfInBounds_toArray, List.set_cons_zero, List.set_cons_succ]
      have hz7 : (w6.alloc (.cells #[.int .i64 0, .int .i64 0] 37)).heap.size = w6.heap.size + 1 := World.size_alloc _ _
      have hB6 : ∀ k, BkX pb g c6 k → k ≠ w6.heap.size := fun k h => by have := (H6.lt k h).2; omega
      obtain ⟨PI, hPI⟩ : ∃ PI, w6.heap.size = PI := ⟨_, rfl⟩
      have hPIw : w3.heap.size ≤ PI := by have := hd0.out; omega
      generalize w6.alloc (.cells #[.int .i64 0, .int .i64 0] 37) = wn at *
      rw [hPI] at VN hB6 ⊢
      refine wpAnyH_ready (rs := [7]) (by kernel_rfl) (by simp) ?_
      refine AllReadyH.cons (o := _) rfl (fun K0 hK0 => ?_) AllReadyH.nil
      rw [if_pos (by rfl)]
      have hT := VN.there
      have VF := VN.filled [.int .i64 Q.c, .int .i64 Q.k] rfl
      have HF := H7.apart (B := PI) hB6 0 [.int .i64 Q.c, .int .i64 Q.k]
      have Tn : Sm (BkX pb g cA2) w3 (World.setCells wn PI 0 [.int .i64 Q.c, .int .i64 Q.k]) := Sm.newCells T7 hPIw 0 _
      have RF := RR.out.sm Tn hPf (fun h => by have := (HH.out.lt _ h).1; omega)
      have SF := Sm.less SS.out.size Tn (fun k hk hx => .inr (hcnA2.out k hx hk)) SS.out
      have CF : ∀ k, BkX pb g c6 k → k < w.heap.size → BkX pb g c k := fun k h hk => hcnA2.out k (hc6 k h (by have := SS.out.size; have := hd0.out; omega)) hk
      refine wp_store_mid _ _ _ rfl PI 0 #[.int .i64 Q.c, .int .i64 Q.k] rfl rfl hT (by kernel_rfl) (by kernel_rfl) ?_
      refine hK0.out _ _ (K.out _ Tn) (fun hHeld => ?_)
      clear hK0 K0
      refine wpAnyH_done (by kernel_rfl) ?_ _
      go_wp2_with fail
      go_meet
      exact ⟨PI, c6, d6, rfl, VF, Hid.mk HF, Hid.mk RF, Hid.mk SF, Hid.mk CF⟩
    · skip
      go_simp
      have b7 := belowA wd (.cells #[.int .i64 0, .int .i64 0] 37)
      have T7 := bd.trans (Sm.below b7)
      have VN0 : V (wd.alloc (.cells #[.int .i64 0, .int .i64 0] 37)) wd.heap.size [.int .i64 0, .int .i64 0] := V.new _ _ _
      have HB := HBd.out.kept b7
      have hz7 : (wd.alloc (.cells #[.int .i64 0, .int .i64 0] 37)).heap.size = wd.heap.size + 1 := World.size_alloc _ _
      refine hK0.out _ _ (K.out _ T7) (fun hHeld => ?_)
      clear hK0 K0
      try simp only [Act.put, List.getElem_toArray, List.getElem_cons_zero, List.getElem_cons_succ, List.setIfInBounds_toArray, List.set_cons_zero, List.set_cons_succ]
      have hBd : ∀ k, BkX pb g cA2 k → k ≠ wd.heap.size := fun k h => by have := (HBd.out.lt k h).2; omega
      obtain ⟨PI, hPI⟩ : ∃ PI, wd.heap.size = PI := ⟨_, rfl⟩
      have hPIw : w3.heap.size ≤ PI := by have := hd0.out; omega
      generalize wd.alloc (.cells #[.int .i64 0, .int .i64 0] 37) = wa at *
      rw [hPI] at VN0 hBd hz7 ⊢
      refine wpAnyH_ready (rs := [5]) (by kernel_rfl) (by simp) ?_
      refine AllReadyH.cons (o := _) rfl (fun K0 hK0 => ?_) AllReadyH.nil
      go_simp
      go_at_call 68
      refine (CU.out _ HB).mono ?_
      rintro e w6 ⟨c6, d6, rfl, H6, S6, hc6⟩
      have T6 := T7.trans S6
      have hz6 := S6.size
      refine hK0.out _ _ (K.out _ T6) (fun hHeld => ?_)
      clear hK0 K0
      try simp only [Act.put, List.getElem_toArray, List.getElem_cons_zero, List.getElem_cons_succ, List.setIfInBounds_toArray, List.set_cons_zero, List.set_cons_succ]
      have VN := VN0.sm S6 (fun h => hBd _ h rfl)
      have hB6 : ∀ k, BkX pb g c6 k → k ≠ PI := fun k h e => hBd k (hc6 k h (by omega)) e
      have hc6' : ∀ k, BkX pb g c6 k → k < wd.heap.size → BkX pb g cA2 k := fun k h hk => hc6 k h (by omega)
      clear hc6
      have hc6 := hc6'
      clear hc6'
      generalize w6 = wn at *
      refine wpAnyH_ready (rs := [7]) (by kernel_rfl) (by simp) ?_
      refine AllReadyH.cons (o := _) rfl (fun K0 hK0 => ?_) AllReadyH.nil
      rw [if_pos (by rfl)]
      have hT := VN.there
      have VF := VN.filled [.int .i64 Q.c, .int .i64 Q.k] rfl
      have HF := H6.apart (B := PI) hB6 0 [.int .i64 Q.c, .int .i64 Q.k]
      have Tn : Sm (BkX pb g cA2) w3 (World.setCells wn PI 0 [.int .i64 Q.c, .int .i64 Q.k]) := Sm.newCells T6 hPIw 0 _
      have RF := RR.out.sm Tn hPf (fun h => by have := (HH.out.lt _ h).1; omega)
      have SF := Sm.less SS.out.size Tn (fun k hk hx => .inr (hcnA2.out k hx hk)) SS.out
      have CF : ∀ k, BkX pb g c6 k → k < w.heap.size → BkX pb g c k := fun k h hk => hcnA2.out k (hc6 k h (by have := SS.out.size; have := hd0.out; omega)) hk
      refine wp_store_mid _ _ _ rfl PI 0 #[.int .i64 Q.c, .int .i64 Q.k] rfl rfl hT (by kernel_rfl) (by kernel_rfl) ?_
      refine hK0.out _ _ (K.out _ Tn) (fun hHeld => ?_)
      clear hK0 K0
      refine wpAnyH_done (by kernel_rfl) ?_ _
      go_wp2_with fail
      go_meet
      exact ⟨PI, c6, d6, rfl, VF, Hid.mk HF, Hid.mk RF, Hid.mk SF, Hid.mk CF⟩
  case rest =>
    clear K CU RR HH SS VTT
    obtain ⟨PI, c6, d6, rfl, VI, H6, R6, S6, C6⟩ := hcut
    obtain ⟨s_VI, f_VI, z_VI⟩ := VI.open
    by_cases hpc : Q.c = 0
    · have hpb : (Q.c == 0) = true := by simp [hpc]
      have e1 := HPL.out
      rw [if_pos hpc] at e1
      have E1 := Hid.mk e1
      have HPC := Hid.mk hpc
      clear e1 hpc
      go_wp2_with (go_at_call 43; refine (require_ok 5 _).mono ?_; rintro e wq ⟨rfl, rfl⟩)
      go_ret
      exact ⟨S6.out, .inr ⟨Q, rA2, by rw [rd1, if_neg (by decide), if_neg (by decide), if_pos (by decide), hA1]; dsimp only; rw [hA2]; dsimp only; rw [if_neg (by decide)]; unfold rdP; rw [HQ.out, if_pos HPC.out], rfl, ⟨c6, d6, by rw [← E1.out]; exact H6.out, C6.out⟩, xA2, eA2, R6.out⟩⟩
    · have hpb : (Q.c == 0) = false := by simp [hpc]
      have HPC := Hid.mk hpc
      clear hpc
      go_wp2_with (go_at_call 43; refine (require_no 5 _).mono ?_; rintro e wq ⟨rfl, rfl⟩)
      exact ⟨rfl, S6.out, .inl ⟨by rw [rd1, if_neg (by decide), if_neg (by decide), if_pos (by decide), hA1]; dsimp only; rw [hA2]; dsimp only; rw [if_neg (by decide)]; unfold rdP; rw [HQ.out, if_neg HPC.out], rfl⟩⟩

end Go.Proofs.YtfldgeokigcokaaGreat

/- The reader's 'term': what has two parts. -/
namespace Go.Proofs.YtfldgeokigcokaaGreat
open Go.RowKit

set_option maxRecDepth 20000 in
set_option maxHeartbeats 16000000 in
theorem term_two5 (f base P pb g bx : Nat) (xs : List T4) (r : List Int) (x : Option Addr) (m d : Nat) (c : Option Addr) (dd : Nat) (w : World) (ih : TermOk f base P pb g bx) (hl : (5 :: r).length ≤ f + 1) (R : Rdr w P (.pointer (some ⟨pb, 0, none⟩)) bx x m d (5 :: r)) (hb : Bytes (5 :: r)) (H : Bk w base pb g c dd xs) (ht : tfC xs = 0) (hP : ∀ k, BkX pb g c k → k ≠ P) (hbP : base ≤ P) (hbx : bx < base) :
    Calls Tryz.prog 42 #[.pointer (some ⟨P, 0, none⟩)] w (TermRead (f + 1) xs (5 :: r) base P pb g bx c w) := by
  have q1 := build_tmo
  unfold TermRead
  have hx4 := (tfC_zero ht).1
  have hml := R.len
  simp only [List.length_cons] at hml
  have hbr := bytes_tail hb
  have hne : bx ≠ P := by omega
  have CN := number_ok P (.pointer (some ⟨pb, 0, none⟩)) bx x m d (5 :: r) 1 w R hb (by decide) (by decide) (by omega) hne
  rw [takeN_head, show ((1 : Nat) : Int) = 1 from rfl, List.drop_succ_cons, List.drop_zero] at CN
  replace CN := Hid.mk CN
  have hPl := R.v.1
  have HX := Hid.mk hP
  have HLT := Hid.mk H.lt
  have HT := Hid.mk ht
  simp only [List.length_cons] at hl
  have hl' : r.length ≤ f := by omega
  go_enter Tryz.func42, Tryz.ntmps42
  go_wp2_with fail
  refine CN.out.mono ?_
  rintro e w1 ⟨rfl, S1, x1, R1⟩
  have H1 := H.sm S1 (fun k e => by subst e; exact fun h => HX.out _ h rfl)
  have S : Sm (fun k => k = P ∨ BkX pb g c k) w w1 := S1.more (fun k e => .inl e)
  have hs1 := S1.size
  have HC : Hid (∀ k, BkX pb g c k → k < w.heap.size → BkX pb g c k) := Hid.mk (fun k h _ => h)
  clear R H S1 CN
  have R := R1
  have H := H1
  clear R1 H1
  replace R := R.kept (belowA w1 (.cells #[.int .i64 5, .int .i64 0, .int .i64 0, .int .i64 0] 70))
  replace H := H.kept (belowA w1 (.cells #[.int .i64 5, .int .i64 0, .int .i64 0, .int .i64 0] 70))
  replace S := S.trans (Sm.below (belowA w1 (.cells #[.int .i64 5, .int .i64 0, .int .i64 0, .int .i64 0] 70)))
  have VT := V.new w1 [.int .i64 5, .int .i64 0, .int .i64 0, .int .i64 0] 70
  have hT1 : w.heap.size ≤ w1.heap.size := hs1
  have hTB : Hid (P < w1.heap.size ∧ ∀ k, BkX pb g c k → k < w1.heap.size) := Hid.mk ⟨by omega, fun k h => by have := (HLT.out k h).2; omega⟩
  obtain ⟨s_VT, f_VT, z_VT⟩ := VT.open
  clear s_VT f_VT z_VT
  have CT := Hid.mk (ih xs r x1 (m - 1) (d - 1) c dd _ (by omega) R hbr H HT.out HX.out hbP hbx)
  unfold TermRead at CT
  obtain ⟨s_VT, f_VT, z_VT⟩ := VT.open
  go_wp2_with fail
  refine CT.out.mono ?_
  rintro e wt1 ⟨SA1, ⟨hnA1, rfl⟩ | ⟨A1, rA1, hA1, rfl, ⟨cA1, dA1, HA1, hcA1⟩, xA1, eA1, RA1⟩⟩
  clear s_VT f_VT z_VT
  · exact ⟨rfl, Sm.less S.size SA1 (fun k hk hx => by rcases hx with e | e; exact .inl e; exact .inr (HC.out k e hk)) S, .inl ⟨by rw [rd1, if_neg (by decide), if_neg (by decide), if_pos (by decide), hnA1], rfl⟩⟩
  have hsA1 := SA1.size
  simp only [World.size_alloc] at hsA1
  have VT2 := VT.sm SA1 (by rintro (e | e); have := hTB.out.1; omega; exact absurd e (by exact fun e => by have := hTB.out.2 _ e; omega))
  have Sn : Sm (fun k => k = P ∨ BkX pb g c k) w wt1 := Sm.less S.size SA1 (fun k hk hx => by rcases hx with e | e; exact .inl e; exact .inr (HC.out k e hk)) S
  have GA1 := rd1_ok f _ _ _ HT.out hA1
  have gkA1 : 0 ≤ A1.k ∧ A1.k < A1.l.length := ⟨GA1.k0, GA1.k1⟩
  have g4A1 : A1.l.length ≤ 400 := (tfC_zero GA1.right).1
  have gbA1 : Bytes rA1 ∧ rA1.length ≤ r.length := by
    obtain ⟨nn, _, n1, n2⟩ := GA1.rest
    simp only at n2
    rw [n2]
    exact ⟨bytes_dropN hbr nn, by rw [List.length_drop]; omega⟩
  have hcnA1 : Hid (∀ k, BkX pb g cA1 k → k < w.heap.size → BkX pb g c k) := Hid.mk (fun k h hk => HC.out k (hcA1 k h (Nat.lt_of_lt_of_le hk S.size)) hk)
  have hfarA1 : Hid (∀ k, BkX pb g cA1 k → k ≠ P ∧ k ≠ w1.heap.size) := Hid.mk (fun k h => by
    rcases Nat.lt_or_ge k w1.heap.size with h1 | h1
    · rcases Nat.lt_or_ge k w.heap.size with h2 | h2
      · exact ⟨HX.out k (hcnA1.out k h h2), by omega⟩
      · exact ⟨by omega, by omega⟩
    · refine ⟨by omega, fun e => ?_⟩
      have h2 := hcA1 k h (by have := VT.1; omega)
      have := hTB.out.2 _ h2; omega)
  clear CT SA1 VT S R H hcA1
  have R := RA1
  have H := HA1
  have S := Sn
  have VT := VT2
  clear RA1 HA1 Sn VT2
  obtain ⟨s_VT, f_VT, z_VT⟩ := VT.open
  clear s_VT f_VT z_VT
  have CT := Hid.mk (ih A1.l rA1 xA1 rA1.length eA1 cA1 dA1 _ (by have := gbA1.2; omega) R gbA1.1 H GA1.right (fun k h => (hfarA1.out k h).1) hbP hbx)
  unfold TermRead at CT
  obtain ⟨s_VT, f_VT, z_VT⟩ := VT.open
  go_wp2_with fail
  refine CT.out.mono ?_
  rintro e wt2 ⟨SA2, ⟨hnA2, rfl⟩ | ⟨A2, rA2, hA2, rfl, ⟨cA2, dA2, HA2, hcA2⟩, xA2, eA2, RA2⟩⟩
  clear s_VT f_VT z_VT
  · exact ⟨rfl, Sm.less S.size SA2 (fun k hk hx => by rcases hx with e | e; exact .inl e; exact .inr (hcnA1.out k e hk)) S, .inl ⟨by rw [rd1, if_neg (by decide), if_neg (by decide), if_pos (by decide), hA1]; dsimp only; rw [hnA2], rfl⟩⟩
  have hsA2 := SA2.size
  have VT2 := VT.sm SA2 (by rintro (e | e); have := hTB.out.1; omega; exact absurd e (by exact fun e => (hfarA1.out _ e).2 rfl))
  have Sn : Sm (fun k => k = P ∨ BkX pb g c k) w wt2 := Sm.less S.size SA2 (fun k hk hx => by rcases hx with e | e; exact .inl e; exact .inr (hcnA1.out k e hk)) S
  have GA2 := rd1_ok f _ _ _ GA1.right hA2
  have gkA2 : 0 ≤ A2.k ∧ A2.k < A2.l.length := ⟨GA2.k0, GA2.k1⟩
  have g4A2 : A2.l.length ≤ 400 := (tfC_zero GA2.right).1
  have gbA2 : Bytes rA2 ∧ rA2.length ≤ rA1.length := by
    obtain ⟨nn, _, n1, n2⟩ := GA2.rest
    simp only at n2
    rw [n2]
    exact ⟨bytes_dropN gbA1.1 nn, by rw [List.length_drop]; omega⟩
  have hcnA2 : Hid (∀ k, BkX pb g cA2 k → k < w.heap.size → BkX pb g c k) := Hid.mk (fun k h hk => hcnA1.out k (hcA2 k h (Nat.lt_of_lt_of_le hk S.size)) hk)
  have hfarA2 : Hid (∀ k, BkX pb g cA2 k → k ≠ P ∧ k ≠ w1.heap.size) := Hid.mk (fun k h => by
    rcases Nat.lt_or_ge k w1.heap.size with h1 | h1
    · rcases Nat.lt_or_ge k w.heap.size with h2 | h2
      · exact ⟨HX.out k (hcnA2.out k h h2), by omega⟩
      · exact ⟨by omega, by omega⟩
    · refine ⟨by omega, fun e => ?_⟩
      have h2 := hcA2 k h (by have := VT.1; omega)
      exact absurd e (hfarA1.out k h2).2)
  clear CT SA2 VT S R H hcA2
  have R := RA2
  have H := HA2
  have S := Sn
  have VT := VT2
  clear RA2 HA2 Sn VT2
  obtain ⟨s_VT, f_VT, z_VT⟩ := VT.open
  clear s_VT f_VT z_VT
  have VT0 := VT
  have hPT : P < w1.heap.size := hTB.out.1
  replace VT := VT.set (i := 1) (by simp) (.int .i64 A1.k)
  simp only [List.set_cons_zero, List.set_cons_succ] at VT
  replace R := R.sm (X := fun k => k = w1.heap.size) (Sm.cell (X := fun k => k = w1.heap.size) (p := ⟨w1.heap.size, 1, none⟩) rfl (.int .i64 A1.k)) (by omega) (by omega)
  replace H := H.sm (X := fun k => k = w1.heap.size) (Sm.cell (X := fun k => k = w1.heap.size) (p := ⟨w1.heap.size, 1, none⟩) rfl (.int .i64 A1.k)) (fun k e h => by rw [e] at h; exact absurd h (by exact fun e => (hfarA2.out _ e).2 rfl))
  replace S := S.newCell (p := ⟨w1.heap.size, 1, none⟩) (by simp only; omega) (.int .i64 A1.k)
  replace VT := VT.set (i := 2) (by simp) (.int .i64 A2.k)
  simp only [List.set_cons_zero, List.set_cons_succ] at VT
  replace R := R.sm (X := fun k => k = w1.heap.size) (Sm.cell (X := fun k => k = w1.heap.size) (p := ⟨w1.heap.size, 2, none⟩) rfl (.int .i64 A2.k)) (by omega) (by omega)
  replace H := H.sm (X := fun k => k = w1.heap.size) (Sm.cell (X := fun k => k = w1.heap.size) (p := ⟨w1.heap.size, 2, none⟩) rfl (.int .i64 A2.k)) (fun k e h => by rw [e] at h; exact absurd h (by exact fun e => (hfarA2.out _ e).2 rfl))
  replace S := S.newCell (p := ⟨w1.heap.size, 2, none⟩) (by simp only; omega) (.int .i64 A2.k)
  obtain ⟨s_VT, f_VT, z_VT⟩ := VT0.open
  go_upto_region 14 with fail
  clear s_VT f_VT z_VT VT0
  generalize (World.setCell (World.setCell wt2 ⟨w1.heap.size, 1, none⟩ (.int .i64 A1.k)) ⟨w1.heap.size, 2, none⟩ (.int .i64 A2.k)) = w3 at *
  have CU := fun w h => put_ok base pb g cA2 dA2 A2.l ⟨5, A1.k, A2.k, 0⟩ w h (okT_of (by decide) (by omega) (by omega) (by decide)) g4A2
  simp only at CU
  obtain ⟨Q, hQ⟩ : ∃ Q, put A2.l ⟨5, A1.k, A2.k, 0⟩ = Q := ⟨_, rfl⟩
  have HQ := Hid.mk hQ
  have HPL : Hid (putL A2.l ⟨5, A1.k, A2.k, 0⟩ = if Q.c = 0 then Q.l else A2.l) := Hid.mk (by unfold putL; rw [hQ])
  rw [hQ] at CU
  replace CU := Hid.mk CU
  clear hQ
  have hPf : ¬ BkX pb g cA2 P := fun h => (fun k h => (hfarA2.out k h).1) P h rfl
  have hTf : ¬ BkX pb g cA2 (w1.heap.size) := by intro e; exact absurd e (by exact fun e => (hfarA2.out _ e).2 rfl)
  have K : ∀ w' : World, Sm (BkX pb g cA2) w3 w' → (w'.cell? ⟨P, 1, none⟩ = some (.pointer (some ⟨pb, 0, none⟩)) ∧ w'.cell? ⟨w1.heap.size, 0, none⟩ = some (.int .i64 5) ∧ w'.cell? ⟨w1.heap.size, 1, none⟩ = some (.int .i64 A1.k) ∧ w'.cell? ⟨w1.heap.size, 2, none⟩ = some (.int .i64 A2.k) ∧ w'.cell? ⟨w1.heap.size, 3, none⟩ = some (.int .i64 0)) := fun w' h => ⟨(R.v.sm h hPf).2.1 1 (by simp), (VT.sm h hTf).2.1 0 (by simp), (VT.sm h hTf).2.1 1 (by simp), (VT.sm h hTf).2.1 2 (by simp), (VT.sm h hTf).2.1 3 (by simp)⟩
  have K := Hid.mk K
  have RR := Hid.mk R
  have HH := Hid.mk H
  have SS := Hid.mk S
  have VTT := Hid.mk VT
  have hPz := R.v.1
  clear R H S VT
  go_cut [4] (fun p wx => ∃ (PI : Nat) (c6 : Option Addr) (d6 : Nat), p = .pointer (some ⟨PI, 0, none⟩) ∧ V wx PI [.int .i64 Q.c, .int .i64 Q.k] ∧ Hid (Bk wx base pb g c6 d6 (putL A2.l ⟨5, A1.k, A2.k, 0⟩)) ∧ Hid (Rdr wx P (.pointer (some ⟨pb, 0, none⟩)) bx xA2 rA2.length eA2 rA2) ∧ Hid (Sm (fun k => k = P ∨ BkX pb g c k) w wx) ∧ Hid (∀ k, BkX pb g c6 k → k < w.heap.size → BkX pb g c k))
  case first =>
    refine wp_region_held_drew (S := (fun w' => w'.cell? ⟨P, 1, none⟩ = some (.pointer (some ⟨pb, 0, none⟩)) ∧ w'.cell? ⟨w1.heap.size, 0, none⟩ = some (.int .i64 5) ∧ w'.cell? ⟨w1.heap.size, 1, none⟩ = some (.int .i64 A1.k) ∧ w'.cell? ⟨w1.heap.size, 2, none⟩ = some (.int .i64 A2.k) ∧ w'.cell? ⟨w1.heap.size, 3, none⟩ = some (.int .i64 0))) (by kernel_rfl) (K.out _ (Sm.below (Below.refl _ _).drew)) (fun hHeld => ?_)
    have bd : Sm (BkX pb g cA2) w3 w3.drew := Sm.below (Below.refl _ _).drew
    have HBd := Hid.mk (HH.out.kept (Below.refl _ _).drew)
    have hd0 := Hid.mk (show w3.drew.heap.size = w3.heap.size from rfl)
    generalize w3.drew = wd at *
    refine wpAnyH_take (i := 0) (oi := _) (v := ?vtmt51) rfl (by kernel_rfl) (by kernel_rfl) (by kernel_rfl) (fun _ _ _ h => h) (Or.inl ⟨by kernel_rfl, ?hytmt51⟩) hHeld ?resttmt51
    case hytmt51 => (intro w hSw; (try dsimp only at hSw); go_simp; first | done | with_reducible rfl)
    try simp only [Act.put, List.getElem_toArray, List.getElem_cons_zero, List.setIfInBounds_toArray, List.set_cons_zero, List.set_cons_succ]
    refine wpAnyH_take (i := 1) (oi := _) (v := ?vtmt52) rfl (by kernel_rfl) (by kernel_rfl) (by kernel_rfl) (fun _ _ _ h => h) (Or.inl ⟨by kernel_rfl, ?hytmt52⟩) hHeld ?resttmt52
    case hytmt52 => (intro w hSw; (try dsimp only at hSw); go_simp; first | done | with_reducible rfl)
    try simp only [Act.put, List.getElem_toArray, List.getElem_cons_zero, List.getElem_cons_succ, List.setIfInBounds_toArray, List.set_cons_zero, List.set_cons_succ]
    refine wpAnyH_take (i := 2) (oi := _) (v := ?vtmt53) rfl (by kernel_rfl) (by kernel_rfl) (by kernel_rfl) (fun _ _ _ h => h) (Or.inl ⟨by kernel_rfl, ?hytmt53⟩) hHeld ?resttmt53
    case hytmt53 => (intro w hSw; (try dsimp only at hSw); go_simp; first | done | with_reducible rfl)
    try simp only [Act.put, List.getElem_toArray, List.getElem_cons_zero, List.getElem_cons_succ, List.setIfInBounds_toArray, List.set_cons_zero, List.set_cons_succ]
    refine wpAnyH_take (i := 3) (oi := _) (v := ?vtmt54) rfl (by kernel_rfl) (by kernel_rfl) (by kernel_rfl) (fun _ _ _ h => h) (Or.inl ⟨by kernel_rfl, ?hytmt54⟩) hHeld ?resttmt54
    case hytmt54 => (intro w hSw; (try dsimp only at hSw); go_simp; first | done | with_reducible rfl)
    try simp only [Act.put, List.getElem_toArray, List.getElem_cons_zero, List.getElem_cons_succ, List.setIfInBounds_toArray, List.set_cons_zero, List.set_cons_succ]
    refine wpAnyH_take (i := 4) (oi := _) (v := ?vtmt55) rfl (by kernel_rfl) (by kernel_rfl) (by kernel_rfl) (fun _ _ _ h => h) (Or.inl ⟨by kernel_rfl, ?hytmt55⟩) hHeld ?resttmt55
    case hytmt55 => (intro w hSw; (try dsimp only at hSw); go_simp; first | done | with_reducible rfl)
    try simp only [Act.put, List.getElem_toArray, List.getElem_cons_zero, List.getElem_cons_succ, List.setIfInBounds_toArray, List.set_cons_zero, List.set_cons_succ]
    refine wpAnyH_ready (rs := [5, 6]) (by kernel_rfl) (by simp) ?_
    refine AllReadyH.cons (o := _) rfl (fun K0 hK0 => ?_) (AllReadyH.cons (o := _) rfl (fun K0 hK0 => ?_) AllReadyH.nil)
    · skip
      have HB := HBd.out
      go_simp
      go_at_call 68
      refine (CU.out _ HB).mono ?_
      rintro e w6 ⟨c6, d6, rfl, H6, S6, hc6⟩
      have T6 := bd.trans S6
      have hz6 := S6.size
      refine hK0.out _ _ (K.out _ T6) (fun hHeld => ?_)
      clear hK0 K0
      try simp only [Act.put, List.getElem_toArray, List.getElem_cons_zero, List.getElem_cons_succ, List.setIfInBounds_toArray, List.set_cons_zero, List.set_cons_succ]
      refine wpAnyH_ready (rs := [6]) (by kernel_rfl) (by simp) ?_
      refine AllReadyH.cons (o := _) rfl (fun K0 hK0 => ?_) AllReadyH.nil
      go_simp
      have b7 := belowA w6 (.cells #[.int .i64 0, .int .i64 0] 37)
      have T7 := T6.trans (Sm.below b7)
      have VN : V (w6.alloc (.cells #[.int .i64 0, .int .i64 0] 37)) w6.heap.size [.int .i64 0, .int .i64 0] := V.new _ _ _
      have H7 := H6.kept b7
      refine hK0.out _ _ (K.out _ T7) (fun hHeld => ?_)
      clear hK0 K0
      try simp only [Act.put, List.getElem_toArray, List.getElem_cons_zero, List.getElem_cons_succ, List.setIfInBounds_toArray, List.set_cons_zero, List.set_cons_succ]
      have hz7 : (w6.alloc (.cells #[.int .i64 0, .int .i64 0] 37)).heap.size = w6.heap.size + 1 := World.size_alloc _ _
      have hB6 : ∀ k, BkX pb g c6 k → k ≠ w6.heap.size := fun k h => by have := (H6.lt k h).2; omega
      obtain ⟨PI, hPI⟩ : ∃ PI, w6.heap.size = PI := ⟨_, rfl⟩
      have hPIw : w3.heap.size ≤ PI := by have := hd0.out; omega
      generalize w6.alloc (.cells #[.int .i64 0, .int .i64 0] 37) = wn at *
      rw [hPI] at VN hB6 ⊢
      refine wpAnyH_ready (rs := [7]) (by kernel_rfl) (by simp) ?_
      refine AllReadyH.cons (o := _) rfl (fun K0 hK0 => ?_) AllReadyH.nil
      rw [if_pos (by rfl)]
      have hT := VN.there
      have VF := VN.filled [.int .i64 Q.c, .int .i64 Q.k] rfl
      have HF := H7.apart (B := PI) hB6 0 [.int .i64 Q.c, .int .i64 Q.k]
      have Tn : Sm (BkX pb g cA2) w3 (World.setCells wn PI 0 [.int .i64 Q.c, .int .i64 Q.k]) := Sm.newCells T7 hPIw 0 _
      have RF := RR.out.sm Tn hPf (fun h => by have := (HH.out.lt _ h).1; omega)
      have SF := Sm.less SS.out.size Tn (fun k hk hx => .inr (hcnA2.out k hx hk)) SS.out
      have CF : ∀ k, BkX pb g c6 k → k < w.heap.size → BkX pb g c k := fun k h hk => hcnA2.out k (hc6 k h (by have := SS.out.size; have := hd0.out; omega)) hk
      refine wp_store_mid _ _ _ rfl PI 0 #[.int .i64 Q.c, .int .i64 Q.k] rfl rfl hT (by kernel_rfl) (by kernel_rfl) ?_
      refine hK0.out _ _ (K.out _ Tn) (fun hHeld => ?_)
      clear hK0 K0
      refine wpAnyH_done (by kernel_rfl) ?_ _
      go_wp2_with fail
      go_meet
      exact ⟨PI, c6, d6, rfl, VF, Hid.mk HF, Hid.mk RF, Hid.mk SF, Hid.mk CF⟩
    · skip
      go_simp
      have b7 := belowA wd (.cells #[.int .i64 0, .int .i64 0] 37)
      have T7 := bd.trans (Sm.below b7)
      have VN0 : V (wd.alloc (.cells #[.int .i64 0, .int .i64 0] 37)) wd.heap.size [.int .i64 0, .int .i64 0] := V.new _ _ _
      have HB := HBd.out.kept b7
      have hz7 : (wd.alloc (.cells #[.int .i64 0, .int .i64 0] 37)).heap.size = wd.heap.size + 1 := World.size_alloc _ _
      refine hK0.out _ _ (K.out _ T7) (fun hHeld => ?_)
      clear hK0 K0
      try simp only [Act.put, List.getElem_toArray, List.getElem_cons_zero, List.getElem_cons_succ, List.setIfInBounds_toArray, List.set_cons_zero, List.set_cons_succ]
      have hBd : ∀ k, BkX pb g cA2 k → k ≠ wd.heap.size := fun k h => by have := (HBd.out.lt k h).2; omega
      obtain ⟨PI, hPI⟩ : ∃ PI, wd.heap.size = PI := ⟨_, rfl⟩
      have hPIw : w3.heap.size ≤ PI := by have := hd0.out; omega
      generalize wd.alloc (.cells #[.int .i64 0, .int .i64 0] 37) = wa at *
      rw [hPI] at VN0 hBd hz7 ⊢
      refine wpAnyH_ready (rs := [5]) (by kernel_rfl) (by simp) ?_
      refine AllReadyH.cons (o := _) rfl (fun K0 hK0 => ?_) AllReadyH.nil
      go_simp
      go_at_call 68
      refine (CU.out _ HB).mono ?_
      rintro e w6 ⟨c6, d6, rfl, H6, S6, hc6⟩
      have T6 := T7.trans S6
      have hz6 := S6.size
      refine hK0.out _ _ (K.out _ T6) (fun hHeld => ?_)
      clear hK0 K0
      try simp only [Act.put, List.getElem_toArray, List.getElem_cons_zero, List.getElem_cons_succ, List.setIfInBounds_toArray, List.set_cons_zero, List.set_cons_succ]
      have VN := VN0.sm S6 (fun h => hBd _ h rfl)
      have hB6 : ∀ k, BkX pb g c6 k → k ≠ PI := fun k h e => hBd k (hc6 k h (by omega)) e
      have hc6' : ∀ k, BkX pb g c6 k → k < wd.heap.size → BkX pb g cA2 k := fun k h hk => hc6 k h (by omega)
      clear hc6
      have hc6 := hc6'
      clear hc6'
      generalize w6 = wn at *
      refine wpAnyH_ready (rs := [7]) (by kernel_rfl) (by simp) ?_
      refine AllReadyH.cons (o := _) rfl (fun K0 hK0 => ?_) AllReadyH.nil
      rw [if_pos (by rfl)]
      have hT := VN.there
      have VF := VN.filled [.int .i64 Q.c, .int .i64 Q.k] rfl
      have HF := H6.apart (B := PI) hB6 0 [.int .i64 Q.c, .int .i64 Q.k]
      have Tn : Sm (BkX pb g cA2) w3 (World.setCells wn PI 0 [.int .i64 Q.c, .int .i64 Q.k]) := Sm.newCells T6 hPIw 0 _
      have RF := RR.out.sm Tn hPf (fun h => by have := (HH.out.lt _ h).1; omega)
      have SF := Sm.less SS.out.size Tn (fun k hk hx => .inr (hcnA2.out k hx hk)) SS.out
      have CF : ∀ k, BkX pb g c6 k → k < w.heap.size → BkX pb g c k := fun k h hk => hcnA2.out k (hc6 k h (by have := SS.out.size; have := hd0.out; omega)) hk
      refine wp_store_mid _ _ _ rfl PI 0 #[.int .i64 Q.c, .int .i64 Q.k] rfl rfl hT (by kernel_rfl) (by kernel_rfl) ?_
      refine hK0.out _ _ (K.out _ Tn) (fun hHeld => ?_)
      clear hK0 K0
      refine wpAnyH_done (by kernel_rfl) ?_ _
      go_wp2_with fail
      go_meet
      exact ⟨PI, c6, d6, rfl, VF, Hid.mk HF, Hid.mk RF, Hid.mk SF, Hid.mk CF⟩
  case rest =>
    clear K CU RR HH SS VTT
    obtain ⟨PI, c6, d6, rfl, VI, H6, R6, S6, C6⟩ := hcut
    obtain ⟨s_VI, f_VI, z_VI⟩ := VI.open
    by_cases hpc : Q.c = 0
    · have hpb : (Q.c == 0) = true := by simp [hpc]
      have e1 := HPL.out
      rw [if_pos hpc] at e1
      have E1 := Hid.mk e1
      have HPC := Hid.mk hpc
      clear e1 hpc
      go_wp2_with (go_at_call 43; refine (require_ok 5 _).mono ?_; rintro e wq ⟨rfl, rfl⟩)
      go_ret
      exact ⟨S6.out, .inr ⟨Q, rA2, by rw [rd1, if_neg (by decide), if_neg (by decide), if_pos (by decide), hA1]; dsimp only; rw [hA2]; dsimp only; rw [if_neg (by decide)]; unfold rdP; rw [HQ.out, if_pos HPC.out], rfl, ⟨c6, d6, by rw [← E1.out]; exact H6.out, C6.out⟩, xA2, eA2, R6.out⟩⟩
    · have hpb : (Q.c == 0) = false := by simp [hpc]
      have HPC := Hid.mk hpc
      clear hpc
      go_wp2_with (go_at_call 43; refine (require_no 5 _).mono ?_; rintro e wq ⟨rfl, rfl⟩)
      exact ⟨rfl, S6.out, .inl ⟨by rw [rd1, if_neg (by decide), if_neg (by decide), if_pos (by decide), hA1]; dsimp only; rw [hA2]; dsimp only; rw [if_neg (by decide)]; unfold rdP; rw [HQ.out, if_neg HPC.out], rfl⟩⟩

set_option maxRecDepth 20000 in
set_option maxHeartbeats 16000000 in
theorem term_two7 (f base P pb g bx : Nat) (xs : List T4) (r : List Int) (x : Option Addr) (m d : Nat) (c : Option Addr) (dd : Nat) (w : World) (ih : TermOk f base P pb g bx) (hl : (7 :: r).length ≤ f + 1) (R : Rdr w P (.pointer (some ⟨pb, 0, none⟩)) bx x m d (7 :: r)) (hb : Bytes (7 :: r)) (H : Bk w base pb g c dd xs) (ht : tfC xs = 0) (hP : ∀ k, BkX pb g c k → k ≠ P) (hbP : base ≤ P) (hbx : bx < base) :
    Calls Tryz.prog 42 #[.pointer (some ⟨P, 0, none⟩)] w (TermRead (f + 1) xs (7 :: r) base P pb g bx c w) := by
  have q1 := build_tmo
  unfold TermRead
  have hx4 := (tfC_zero ht).1
  have hml := R.len
  simp only [List.length_cons] at hml
  have hbr := bytes_tail hb
  have hne : bx ≠ P := by omega
  have CN := number_ok P (.pointer (some ⟨pb, 0, none⟩)) bx x m d (7 :: r) 1 w R hb (by decide) (by decide) (by omega) hne
  rw [takeN_head, show ((1 : Nat) : Int) = 1 from rfl, List.drop_succ_cons, List.drop_zero] at CN
  replace CN := Hid.mk CN
  have hPl := R.v.1
  have HX := Hid.mk hP
  have HLT := Hid.mk H.lt
  have HT := Hid.mk ht
  simp only [List.length_cons] at hl
  have hl' : r.length ≤ f := by omega
  go_enter Tryz.func42, Tryz.ntmps42
  go_wp2_with fail
  refine CN.out.mono ?_
  rintro e w1 ⟨rfl, S1, x1, R1⟩
  have H1 := H.sm S1 (fun k e => by subst e; exact fun h => HX.out _ h rfl)
  have S : Sm (fun k => k = P ∨ BkX pb g c k) w w1 := S1.more (fun k e => .inl e)
  have hs1 := S1.size
  have HC : Hid (∀ k, BkX pb g c k → k < w.heap.size → BkX pb g c k) := Hid.mk (fun k h _ => h)
  clear R H S1 CN
  have R := R1
  have H := H1
  clear R1 H1
  replace R := R.kept (belowA w1 (.cells #[.int .i64 7, .int .i64 0, .int .i64 0, .int .i64 0] 70))
  replace H := H.kept (belowA w1 (.cells #[.int .i64 7, .int .i64 0, .int .i64 0, .int .i64 0] 70))
  replace S := S.trans (Sm.below (belowA w1 (.cells #[.int .i64 7, .int .i64 0, .int .i64 0, .int .i64 0] 70)))
  have VT := V.new w1 [.int .i64 7, .int .i64 0, .int .i64 0, .int .i64 0] 70
  have hT1 : w.heap.size ≤ w1.heap.size := hs1
  have hTB : Hid (P < w1.heap.size ∧ ∀ k, BkX pb g c k → k < w1.heap.size) := Hid.mk ⟨by omega, fun k h => by have := (HLT.out k h).2; omega⟩
  obtain ⟨s_VT, f_VT, z_VT⟩ := VT.open
  clear s_VT f_VT z_VT
  have CT := Hid.mk (ih xs r x1 (m - 1) (d - 1) c dd _ (by omega) R hbr H HT.out HX.out hbP hbx)
  unfold TermRead at CT
  obtain ⟨s_VT, f_VT, z_VT⟩ := VT.open
  go_wp2_with fail
  refine CT.out.mono ?_
  rintro e wt1 ⟨SA1, ⟨hnA1, rfl⟩ | ⟨A1, rA1, hA1, rfl, ⟨cA1, dA1, HA1, hcA1⟩, xA1, eA1, RA1⟩⟩
  clear s_VT f_VT z_VT
  · exact ⟨rfl, Sm.less S.size SA1 (fun k hk hx => by rcases hx with e | e; exact .inl e; exact .inr (HC.out k e hk)) S, .inl ⟨by rw [rd1, if_neg (by decide), if_neg (by decide), if_pos (by decide), hnA1], rfl⟩⟩
  have hsA1 := SA1.size
  simp only [World.size_alloc] at hsA1
  have VT2 := VT.sm SA1 (by rintro (e | e); have := hTB.out.1; omega; exact absurd e (by exact fun e => by have := hTB.out.2 _ e; omega))
  have Sn : Sm (fun k => k = P ∨ BkX pb g c k) w wt1 := Sm.less S.size SA1 (fun k hk hx => by rcases hx with e | e; exact .inl e; exact .inr (HC.out k e hk)) S
  have GA1 := rd1_ok f _ _ _ HT.out hA1
  have gkA1 : 0 ≤ A1.k ∧ A1.k < A1.l.length := ⟨GA1.k0, GA1.k1⟩
  have g4A1 : A1.l.length ≤ 400 := (tfC_zero GA1.right).1
  have gbA1 : Bytes rA1 ∧ rA1.length ≤ r.length := by
    obtain ⟨nn, _, n1, n2⟩ := GA1.rest
    simp only at n2
    rw [n2]
    exact ⟨bytes_dropN hbr nn, by rw [List.length_drop]; omega⟩
  have hcnA1 : Hid (∀ k, BkX pb g cA1 k → k < w.heap.size → BkX pb g c k) := Hid.mk (fun k h hk => HC.out k (hcA1 k h (Nat.lt_of_lt_of_le hk S.size)) hk)
  have hfarA1 : Hid (∀ k, BkX pb g cA1 k → k ≠ P ∧ k ≠ w1.heap.size) := Hid.mk (fun k h => by
    rcases Nat.lt_or_ge k w1.heap.size with h1 | h1
    · rcases Nat.lt_or_ge k w.heap.size with h2 | h2
      · exact ⟨HX.out k (hcnA1.out k h h2), by omega⟩
      · exact ⟨by omega, by omega⟩
    · refine ⟨by omega, fun e => ?_⟩
      have h2 := hcA1 k h (by have := VT.1; omega)
      have := hTB.out.2 _ h2; omega)
  clear CT SA1 VT S R H hcA1
  have R := RA1
  have H := HA1
  have S := Sn
  have VT := VT2
  clear RA1 HA1 Sn VT2
  obtain ⟨s_VT, f_VT, z_VT⟩ := VT.open
  clear s_VT f_VT z_VT
  have CT := Hid.mk (ih A1.l rA1 xA1 rA1.length eA1 cA1 dA1 _ (by have := gbA1.2; omega) R gbA1.1 H GA1.right (fun k h => (hfarA1.out k h).1) hbP hbx)
  unfold TermRead at CT
  obtain ⟨s_VT, f_VT, z_VT⟩ := VT.open
  go_wp2_with fail
  refine CT.out.mono ?_
  rintro e wt2 ⟨SA2, ⟨hnA2, rfl⟩ | ⟨A2, rA2, hA2, rfl, ⟨cA2, dA2, HA2, hcA2⟩, xA2, eA2, RA2⟩⟩
  clear s_VT f_VT z_VT
  · exact ⟨rfl, Sm.less S.size SA2 (fun k hk hx => by rcases hx with e | e; exact .inl e; exact .inr (hcnA1.out k e hk)) S, .inl ⟨by rw [rd1, if_neg (by decide), if_neg (by decide), if_pos (by decide), hA1]; dsimp only; rw [hnA2], rfl⟩⟩
  have hsA2 := SA2.size
  have VT2 := VT.sm SA2 (by rintro (e | e); have := hTB.out.1; omega; exact absurd e (by exact fun e => (hfarA1.out _ e).2 rfl))
  have Sn : Sm (fun k => k = P ∨ BkX pb g c k) w wt2 := Sm.less S.size SA2 (fun k hk hx => by rcases hx with e | e; exact .inl e; exact .inr (hcnA1.out k e hk)) S
  have GA2 := rd1_ok f _ _ _ GA1.right hA2
  have gkA2 : 0 ≤ A2.k ∧ A2.k < A2.l.length := ⟨GA2.k0, GA2.k1⟩
  have g4A2 : A2.l.length ≤ 400 := (tfC_zero GA2.right).1
  have gbA2 : Bytes rA2 ∧ rA2.length ≤ rA1.length := by
    obtain ⟨nn, _, n1, n2⟩ := GA2.rest
    simp only at n2
    rw [n2]
    exact ⟨bytes_dropN gbA1.1 nn, by rw [List.length_drop]; omega⟩
  have hcnA2 : Hid (∀ k, BkX pb g cA2 k → k < w.heap.size → BkX pb g c k) := Hid.mk (fun k h hk => hcnA1.out k (hcA2 k h (Nat.lt_of_lt_of_le hk S.size)) hk)
  have hfarA2 : Hid (∀ k, BkX pb g cA2 k → k ≠ P ∧ k ≠ w1.heap.size) := Hid.mk (fun k h => by
    rcases Nat.lt_or_ge k w1.heap.size with h1 | h1
    · rcases Nat.lt_or_ge k w.heap.size with h2 | h2
      · exact ⟨HX.out k (hcnA2.out k h h2), by omega⟩
      · exact ⟨by omega, by omega⟩
    · refine ⟨by omega, fun e => ?_⟩
      have h2 := hcA2 k h (by have := VT.1; omega)
      exact absurd e (hfarA1.out k h2).2)
  clear CT SA2 VT S R H hcA2
  have R := RA2
  have H := HA2
  have S := Sn
  have VT := VT2
  clear RA2 HA2 Sn VT2
  obtain ⟨s_VT, f_VT, z_VT⟩ := VT.open
  go_wp2_with fail
  refine (bothOf_ok A1.k A2.k _).mono ?_
  rintro e w8 ⟨rfl, b8⟩
  clear s_VT f_VT z_VT
  replace VT := VT.kept b8
  replace R := R.kept b8
  replace H := H.kept b8
  replace S := S.trans (Sm.below b8)
  clear b8
  have hPT : P < w1.heap.size := hTB.out.1
  have HT4 := Hid.mk VT.there
  have VTo := VT
  replace VT := VT.filled [.int .i64 7, .int .i64 (min A1.k A2.k), .int .i64 (max A1.k A2.k), .int .i64 0] rfl
  have S9 : Sm (fun k => k = w1.heap.size) w8 (World.setCells w8 w1.heap.size 0 [.int .i64 7, .int .i64 (min A1.k A2.k), .int .i64 (max A1.k A2.k), .int .i64 0]) := Sm.cells (X := fun k => k = w1.heap.size) rfl 0 _
  replace R := R.sm S9 (by omega) (by omega)
  replace H := H.sm S9 (fun k e h => by rw [e] at h; exact absurd h (by exact fun e => (hfarA2.out _ e).2 rfl))
  replace S := Sm.newCells S (show w.heap.size ≤ w1.heap.size by omega) 0 [.int .i64 7, .int .i64 (min A1.k A2.k), .int .i64 (max A1.k A2.k), .int .i64 0]
  obtain ⟨w9, hw9⟩ : ∃ w9, World.setCells w8 w1.heap.size 0 [.int .i64 7, .int .i64 (min A1.k A2.k), .int .i64 (max A1.k A2.k), .int .i64 0] = w9 := ⟨_, rfl⟩
  rw [hw9] at VT R H S
  replace hw9 := Hid.mk hw9
  clear S9
  have VTk := Hid.mk VT
  have Rk := Hid.mk R
  have Hk := Hid.mk H
  have Sk := Hid.mk S
  clear VT R H S
  obtain ⟨s_VT, f_VT, z_VT⟩ := VTo.open
  go_upto_region 14 with (refine wpList_stroke w9 rfl 70 _ _ rfl w1.heap.size 0 #[.int .i64 7, .int .i64 (min A1.k A2.k), .int .i64 (max A1.k A2.k), .int .i64 0] rfl rfl HT4.out (by kernel_rfl) (by kernel_rfl) hw9.out ?_)
  try go_simp
  clear s_VT f_VT z_VT VTo
  have VT := VTk.out
  have R := Rk.out
  have H := Hk.out
  have S := Sk.out
  clear VTk Rk Hk Sk
  have CU := fun w h => put_ok base pb g cA2 dA2 A2.l ⟨7, min A1.k A2.k, max A1.k A2.k, 0⟩ w h (okT_of (by decide) (by omega) (by omega) (by decide)) g4A2
  simp only at CU
  obtain ⟨Q, hQ⟩ : ∃ Q, put A2.l ⟨7, min A1.k A2.k, max A1.k A2.k, 0⟩ = Q := ⟨_, rfl⟩
  have HQ := Hid.mk hQ
  have HPL : Hid (putL A2.l ⟨7, min A1.k A2.k, max A1.k A2.k, 0⟩ = if Q.c = 0 then Q.l else A2.l) := Hid.mk (by unfold putL; rw [hQ])
  rw [hQ] at CU
  replace CU := Hid.mk CU
  clear hQ
  have hPf : ¬ BkX pb g cA2 P := fun h => (fun k h => (hfarA2.out k h).1) P h rfl
  have hTf : ¬ BkX pb g cA2 (w1.heap.size) := by intro e; exact absurd e (by exact fun e => (hfarA2.out _ e).2 rfl)
  have K : ∀ w' : World, Sm (BkX pb g cA2) w9 w' → (w'.cell? ⟨P, 1, none⟩ = some (.pointer (some ⟨pb, 0, none⟩)) ∧ w'.cell? ⟨w1.heap.size, 0, none⟩ = some (.int .i64 7) ∧ w'.cell? ⟨w1.heap.size, 1, none⟩ = some (.int .i64 (min A1.k A2.k)) ∧ w'.cell? ⟨w1.heap.size, 2, none⟩ = some (.int .i64 (max A1.k A2.k)) ∧ w'.cell? ⟨w1.heap.size, 3, none⟩ = some (.int .i64 0)) := fun w' h => ⟨(R.v.sm h hPf).2.1 1 (by simp), (VT.sm h hTf).2.1 0 (by simp), (VT.sm h hTf).2.1 1 (by simp), (VT.sm h hTf).2.1 2 (by simp), (VT.sm h hTf).2.1 3 (by simp)⟩
  have K := Hid.mk K
  have RR := Hid.mk R
  have HH := Hid.mk H
  have SS := Hid.mk S
  have VTT := Hid.mk VT
  have hPz := R.v.1
  clear R H S VT
  go_cut [4] (fun p wx => ∃ (PI : Nat) (c6 : Option Addr) (d6 : Nat), p = .pointer (some ⟨PI, 0, none⟩) ∧ V wx PI [.int .i64 Q.c, .int .i64 Q.k] ∧ Hid (Bk wx base pb g c6 d6 (putL A2.l ⟨7, min A1.k A2.k, max A1.k A2.k, 0⟩)) ∧ Hid (Rdr wx P (.pointer (some ⟨pb, 0, none⟩)) bx xA2 rA2.length eA2 rA2) ∧ Hid (Sm (fun k => k = P ∨ BkX pb g c k) w wx) ∧ Hid (∀ k, BkX pb g c6 k → k < w.heap.size → BkX pb g c k))
  case first =>
    refine wp_region_held_drew (S := (fun w' => w'.cell? ⟨P, 1, none⟩ = some (.pointer (some ⟨pb, 0, none⟩)) ∧ w'.cell? ⟨w1.heap.size, 0, none⟩ = some (.int .i64 7) ∧ w'.cell? ⟨w1.heap.size, 1, none⟩ = some (.int .i64 (min A1.k A2.k)) ∧ w'.cell? ⟨w1.heap.size, 2, none⟩ = some (.int .i64 (max A1.k A2.k)) ∧ w'.cell? ⟨w1.heap.size, 3, none⟩ = some (.int .i64 0))) (by kernel_rfl) (K.out _ (Sm.below (Below.refl _ _).drew)) (fun hHeld => ?_)
    have bd : Sm (BkX pb g cA2) w9 w9.drew := Sm.below (Below.refl _ _).drew
    have HBd := Hid.mk (HH.out.kept (Below.refl _ _).drew)
    have hd0 := Hid.mk (show w9.drew.heap.size = w9.heap.size from rfl)
    generalize w9.drew = wd at *
    refine wpAnyH_take (i := 0) (oi := _) (v := ?vtmt71) rfl (by kernel_rfl) (by kernel_rfl) (by kernel_rfl) (fun _ _ _ h => h) (Or.inl ⟨by kernel_rfl, ?hytmt71⟩) hHeld ?resttmt71
    case hytmt71 => (intro w hSw; (try dsimp only at hSw); go_simp; first | done | with_reducible rfl)
    try simp only [Act.put, List.getElem_toArray, List.getElem_cons_zero, List.setIfInBounds_toArray, List.set_cons_zero, List.set_cons_succ]
    refine wpAnyH_take (i := 1) (oi := _) (v := ?vtmt72) rfl (by kernel_rfl) (by kernel_rfl) (by kernel_rfl) (fun _ _ _ h => h) (Or.inl ⟨by kernel_rfl, ?hytmt72⟩) hHeld ?resttmt72
    case hytmt72 => (intro w hSw; (try dsimp only at hSw); go_simp; first | done | with_reducible rfl)
    try simp only [Act.put, List.getElem_toArray, List.getElem_cons_zero, List.getElem_cons_succ, List.setIfInBounds_toArray, List.set_cons_zero, List.set_cons_succ]
    refine wpAnyH_take (i := 2) (oi := _) (v := ?vtmt73) rfl (by kernel_rfl) (by kernel_rfl) (by kernel_rfl) (fun _ _ _ h => h) (Or.inl ⟨by kernel_rfl, ?hytmt73⟩) hHeld ?resttmt73
    case hytmt73 => (intro w hSw; (try dsimp only at hSw); go_simp; first | done | with_reducible rfl)
    try simp only [Act.put, List.getElem_toArray, List.getElem_cons_zero, List.getElem_cons_succ, List.setIfInBounds_toArray, List.set_cons_zero, List.set_cons_succ]
    refine wpAnyH_take (i := 3) (oi := _) (v := ?vtmt74) rfl (by kernel_rfl) (by kernel_rfl) (by kernel_rfl) (fun _ _ _ h => h) (Or.inl ⟨by kernel_rfl, ?hytmt74⟩) hHeld ?resttmt74
    case hytmt74 => (intro w hSw; (try dsimp only at hSw); go_simp; first | done | with_reducible rfl)
    try simp only [Act.put, List.getElem_toArray, List.getElem_cons_zero, List.getElem_cons_succ, List.setIfInBounds_toArray, List.set_cons_zero, List.set_cons_succ]
    refine wpAnyH_take (i := 4) (oi := _) (v := ?vtmt75) rfl (by kernel_rfl) (by kernel_rfl) (by kernel_rfl) (fun _ _ _ h => h) (Or.inl ⟨by kernel_rfl, ?hytmt75⟩) hHeld ?resttmt75
    case hytmt75 => (intro w hSw; (try dsimp only at hSw); go_simp; first | done | with_reducible rfl)
    try simp only [Act.put, List.getElem_toArray, List.getElem_cons_zero, List.getElem_cons_succ, List.setIfInBounds_toArray, List.set_cons_zero, List.set_cons_succ]
    refine wpAnyH_ready (rs := [5, 6]) (by kernel_rfl) (by simp) ?_
    refine AllReadyH.cons (o := _) rfl (fun K0 hK0 => ?_) (AllReadyH.cons (o := _) rfl (fun K0 hK0 => ?_) AllReadyH.nil)
    · skip
      have HB := HBd.out
      go_simp
      go_at_call 68
      refine (CU.out _ HB).mono ?_
      rintro e w6 ⟨c6, d6, rfl, H6, S6, hc6⟩
      have T6 := bd.trans S6
      have hz6 := S6.size
      refine hK0.out _ _ (K.out _ T6) (fun hHeld => ?_)
      clear hK0 K0
      try simp only [Act.put, List.getElem_toArray, List.getElem_cons_zero, List.getElem_cons_succ, List.setIfInBounds_toArray, List.set_cons_zero, List.set_cons_succ]
      refine wpAnyH_ready (rs := [6]) (by kernel_rfl) (by simp) ?_
      refine AllReadyH.cons (o := _) rfl (fun K0 hK0 => ?_) AllReadyH.nil
      go_simp
      have b7 := belowA w6 (.cells #[.int .i64 0, .int .i64 0] 37)
      have T7 := T6.trans (Sm.below b7)
      have VN : V (w6.alloc (.cells #[.int .i64 0, .int .i64 0] 37)) w6.heap.size [.int .i64 0, .int .i64 0] := V.new _ _ _
      have H7 := H6.kept b7
      refine hK0.out _ _ (K.out _ T7) (fun hHeld => ?_)
      clear hK0 K0
      try simp only [Act.put, List.getElem_toArray, List.getElem_cons_zero, List.getElem_cons_succ, List.setIfInBounds_toArray, List.set_cons_zero, List.set_cons_succ]
      have hz7 : (w6.alloc (.cells #[.int .i64 0, .int .i64 0] 37)).heap.size = w6.heap.size + 1 := World.size_alloc _ _
      have hB6 : ∀ k, BkX pb g c6 k → k ≠ w6.heap.size := fun k h => by have := (H6.lt k h).2; omega
      obtain ⟨PI, hPI⟩ : ∃ PI, w6.heap.size = PI := ⟨_, rfl⟩
      have hPIw : w9.heap.size ≤ PI := by have := hd0.out; omega
      generalize w6.alloc (.cells #[.int .i64 0, .int .i64 0] 37) = wn at *
      rw [hPI] at VN hB6 ⊢
      refine wpAnyH_ready (rs := [7]) (by kernel_rfl) (by simp) ?_
      refine AllReadyH.cons (o := _) rfl (fun K0 hK0 => ?_) AllReadyH.nil
      rw [if_pos (by rfl)]
      have hT := VN.there
      have VF := VN.filled [.int .i64 Q.c, .int .i64 Q.k] rfl
      have HF := H7.apart (B := PI) hB6 0 [.int .i64 Q.c, .int .i64 Q.k]
      have Tn : Sm (BkX pb g cA2) w9 (World.setCells wn PI 0 [.int .i64 Q.c, .int .i64 Q.k]) := Sm.newCells T7 hPIw 0 _
      have RF := RR.out.sm Tn hPf (fun h => by have := (HH.out.lt _ h).1; omega)
      have SF := Sm.less SS.out.size Tn (fun k hk hx => .inr (hcnA2.out k hx hk)) SS.out
      have CF : ∀ k, BkX pb g c6 k → k < w.heap.size → BkX pb g c k := fun k h hk => hcnA2.out k (hc6 k h (by have := SS.out.size; have := hd0.out; omega)) hk
      refine wp_store_mid _ _ _ rfl PI 0 #[.int .i64 Q.c, .int .i64 Q.k] rfl rfl hT (by kernel_rfl) (by kernel_rfl) ?_
      refine hK0.out _ _ (K.out _ Tn) (fun hHeld => ?_)
      clear hK0 K0
      refine wpAnyH_done (by kernel_rfl) ?_ _
      go_wp2_with fail
      go_meet
      exact ⟨PI, c6, d6, rfl, VF, Hid.mk HF, Hid.mk RF, Hid.mk SF, Hid.mk CF⟩
    · skip
      go_simp
      have b7 := belowA wd (.cells #[.int .i64 0, .int .i64 0] 37)
      have T7 := bd.trans (Sm.below b7)
      have VN0 : V (wd.alloc (.cells #[.int .i64 0, .int .i64 0] 37)) wd.heap.size [.int .i64 0, .int .i64 0] := V.new _ _ _
      have HB := HBd.out.kept b7
      have hz7 : (wd.alloc (.cells #[.int .i64 0, .int .i64 0] 37)).heap.size = wd.heap.size + 1 := World.size_alloc _ _
      refine hK0.out _ _ (K.out _ T7) (fun hHeld => ?_)
      clear hK0 K0
      try simp only [Act.put, List.getElem_toArray, List.getElem_cons_zero, List.getElem_cons_succ, List.setIfInBounds_toArray, List.set_cons_zero, List.set_cons_succ]
      have hBd : ∀ k, BkX pb g cA2 k → k ≠ wd.heap.size := fun k h => by have := (HBd.out.lt k h).2; omega
      obtain ⟨PI, hPI⟩ : ∃ PI, wd.heap.size = PI := ⟨_, rfl⟩
      have hPIw : w9.heap.size ≤ PI := by have := hd0.out; omega
      generalize wd.alloc (.cells #[.int .i64 0, .int .i64 0] 37) = wa at *
      rw [hPI] at VN0 hBd hz7 ⊢
      refine wpAnyH_ready (rs := [5]) (by kernel_rfl) (by simp) ?_
      refine AllReadyH.cons (o := _) rfl (fun K0 hK0 => ?_) AllReadyH.nil
      go_simp
      go_at_call 68
      refine (CU.out _ HB).mono ?_
      rintro e w6 ⟨c6, d6, rfl, H6, S6, hc6⟩
      have T6 := T7.trans S6
      have hz6 := S6.size
      refine hK0.out _ _ (K.out _ T6) (fun hHeld => ?_)
      clear hK0 K0
      try simp only [Act.put, List.getElem_toArray, List.getElem_cons_zero, List.getElem_cons_succ, List.setIfInBounds_toArray, List.set_cons_zero, List.set_cons_succ]
      have VN := VN0.sm S6 (fun h => hBd _ h rfl)
      have hB6 : ∀ k, BkX pb g c6 k → k ≠ PI := fun k h e => hBd k (hc6 k h (by omega)) e
      have hc6' : ∀ k, BkX pb g c6 k → k < wd.heap.size → BkX pb g cA2 k := fun k h hk => hc6 k h (by omega)
      clear hc6
      have hc6 := hc6'
      clear hc6'
      generalize w6 = wn at *
      refine wpAnyH_ready (rs := [7]) (by kernel_rfl) (by simp) ?_
      refine AllReadyH.cons (o := _) rfl (fun K0 hK0 => ?_) AllReadyH.nil
      rw [if_pos (by rfl)]
      have hT := VN.there
      have VF := VN.filled [.int .i64 Q.c, .int .i64 Q.k] rfl
      have HF := H6.apart (B := PI) hB6 0 [.int .i64 Q.c, .int .i64 Q.k]
      have Tn : Sm (BkX pb g cA2) w9 (World.setCells wn PI 0 [.int .i64 Q.c, .int .i64 Q.k]) := Sm.newCells T6 hPIw 0 _
      have RF := RR.out.sm Tn hPf (fun h => by have := (HH.out.lt _ h).1; omega)
      have SF := Sm.less SS.out.size Tn (fun k hk hx => .inr (hcnA2.out k hx hk)) SS.out
      have CF : ∀ k, BkX pb g c6 k → k < w.heap.size → BkX pb g c k := fun k h hk => hcnA2.out k (hc6 k h (by have := SS.out.size; have := hd0.out; omega)) hk
      refine wp_store_mid _ _ _ rfl PI 0 #[.int .i64 Q.c, .int .i64 Q.k] rfl rfl hT (by kernel_rfl) (by kernel_rfl) ?_
      refine hK0.out _ _ (K.out _ Tn) (fun hHeld => ?_)
      clear hK0 K0
      refine wpAnyH_done (by kernel_rfl) ?_ _
      go_wp2_with fail
      go_meet
      exact ⟨PI, c6, d6, rfl, VF, Hid.mk HF, Hid.mk RF, Hid.mk SF, Hid.mk CF⟩
  case rest =>
    clear K CU RR HH SS VTT
    obtain ⟨PI, c6, d6, rfl, VI, H6, R6, S6, C6⟩ := hcut
    obtain ⟨s_VI, f_VI, z_VI⟩ := VI.open
    by_cases hpc : Q.c = 0
    · have hpb : (Q.c == 0) = true := by simp [hpc]
      have e1 := HPL.out
      rw [if_pos hpc] at e1
      have E1 := Hid.mk e1
      have HPC := Hid.mk hpc
      clear e1 hpc
      go_wp2_with (go_at_call 43; refine (require_ok 5 _).mono ?_; rintro e wq ⟨rfl, rfl⟩)
      go_ret
      exact ⟨S6.out, .inr ⟨Q, rA2, by rw [rd1, if_neg (by decide), if_neg (by decide), if_pos (by decide), hA1]; dsimp only; rw [hA2]; dsimp only; rw [if_pos rfl, show bothT A1.k A2.k = ⟨7, min A1.k A2.k, max A1.k A2.k, 0⟩ from by unfold bothT; rfl]; unfold rdP; rw [HQ.out, if_pos HPC.out], rfl, ⟨c6, d6, by rw [← E1.out]; exact H6.out, C6.out⟩, xA2, eA2, R6.out⟩⟩
    · have hpb : (Q.c == 0) = false := by simp [hpc]
      have HPC := Hid.mk hpc
      clear hpc
      go_wp2_with (go_at_call 43; refine (require_no 5 _).mono ?_; rintro e wq ⟨rfl, rfl⟩)
      exact ⟨rfl, S6.out, .inl ⟨by rw [rd1, if_neg (by decide), if_neg (by decide), if_pos (by decide), hA1]; dsimp only; rw [hA2]; dsimp only; rw [if_pos rfl, show bothT A1.k A2.k = ⟨7, min A1.k A2.k, max A1.k A2.k, 0⟩ from by unfold bothT; rfl]; unfold rdP; rw [HQ.out, if_neg HPC.out], rfl⟩⟩

end Go.Proofs.YtfldgeokigcokaaGreat

/- The reader's 'term', whole. -/
namespace Go.Proofs.YtfldgeokigcokaaGreat
open Go.RowKit

theorem rd1_nil (f : Nat) (xs : List T4) : rd1 f xs [] = none := by
  cases f with
  | zero => rfl
  | succ f => rfl

set_option maxRecDepth 20000 in
set_option maxHeartbeats 4000000 in
theorem term_nil (f base P pb g bx : Nat) (xs : List T4) (x : Option Addr) (m d : Nat) (c : Option Addr) (w : World) (R : Rdr w P (.pointer (some ⟨pb, 0, none⟩)) bx x m d []) :
    Calls Tryz.prog 42 #[.pointer (some ⟨P, 0, none⟩)] w (TermRead f xs [] base P pb g bx c w) := by
  have hm := R.len
  simp only [List.length_nil] at hm
  have CN := number_no P (.pointer (some ⟨pb, 0, none⟩)) bx x m d [] 1 w R (fun z hz => by simp at hz) (by omega)
  rw [show ((1 : Nat) : Int) = 1 from rfl] at CN
  replace CN := Hid.mk CN
  clear hm R
  unfold TermRead
  go_enter Tryz.func42, Tryz.ntmps42
  go_wp2_with fail
  refine CN.out.mono ?_
  rintro e w1 ⟨rfl, b1⟩
  exact ⟨rfl, Sm.below b1, .inl ⟨rd1_nil f xs, rfl⟩⟩

theorem term_ok (base P pb g bx : Nat) : ∀ f, TermOk f base P pb g bx := by
  intro f
  induction f with
  | zero =>
    intro xs ds x m d c dd w hl R hb H ht hP hbP hbx
    obtain rfl : ds = [] := List.eq_nil_of_length_eq_zero (by omega)
    exact term_nil 0 base P pb g bx xs x m d c w R
  | succ f ih =>
    intro xs ds x m d c dd w hl R hb H ht hP hbP hbx
    cases ds with
    | nil => exact term_nil (f + 1) base P pb g bx xs x m d c w R
    | cons o r =>
      by_cases ho : 1 ≤ o ∧ o ≤ 7
      · have h7 : o = 1 ∨ o = 2 ∨ o = 3 ∨ o = 4 ∨ o = 5 ∨ o = 6 ∨ o = 7 := by omega
        rcases h7 with rfl | rfl | rfl | rfl | rfl | rfl | rfl
        · exact term_leaf1 f base P pb g bx xs r x m d c dd w R hb H ht hP hbP hbx
        · exact term_leaf2 f base P pb g bx xs r x m d c dd w R hb H ht hP hbP hbx
        · exact term_two3 f base P pb g bx xs r x m d c dd w ih hl R hb H ht hP hbP hbx
        · exact term_two4 f base P pb g bx xs r x m d c dd w ih hl R hb H ht hP hbP hbx
        · exact term_two5 f base P pb g bx xs r x m d c dd w ih hl R hb H ht hP hbP hbx
        · exact term_half f base P pb g bx xs r x m d c dd w ih hl R hb H ht hP hbP hbx
        · exact term_two7 f base P pb g bx xs r x m d c dd w ih hl R hb H ht hP hbP hbx
      · exact term_other f base P pb g bx xs r o ho x m d c dd w R hb H ht hP hbP hbx

end Go.Proofs.YtfldgeokigcokaaGreat
