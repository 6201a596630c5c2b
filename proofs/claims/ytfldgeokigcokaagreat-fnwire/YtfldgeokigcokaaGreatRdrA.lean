/- A reader of bytes: 'number'. -/
import Derived.Test.YtfldgeokigcokaaGreatPrA
import Derived.Test.YtfldgeokigcokaaGreatTmI
import Derived.Test.YtfldgeokigcokaaGreatWrQ
namespace Go.Proofs.YtfldgeokigcokaaGreat
open Go.RowKit

/-- The reader at P: what is left of its bytes, in the block bx; beside it 'bk'. -/
structure Rdr (w : World) (P : Nat) (bk : Value) (bx : Nat) (x : Option Addr) (m d : Nat) (ds : List Int) : Prop where
  v : V w P [.slice x m d, bk]
  rd : Rd .u8 w x ds
  len : ds.length = m
  cap : m ≤ d
  big : m ≤ 1048576
  lies : ∀ b : Addr, x = some b → b.block = bx
  nil : x = none → ds = []

theorem Rdr.sm {X : Nat → Prop} {w w' : World} {P : Nat} {bk : Value} {bx : Nat} {x : Option Addr} {m d : Nat} {ds : List Int} (h : Rdr w P bk bx x m d ds) (s : Sm X w w') (hP : ¬ X P) (hb : ¬ X bx) : Rdr w' P bk bx x m d ds :=
  ⟨h.v.sm s hP, h.rd.sm s (fun b hx e => hb (by rw [← h.lies b hx]; exact e)), h.len, h.cap, h.big, h.lies, h.nil⟩

theorem Rdr.kept {w w' : World} {P : Nat} {bk : Value} {bx : Nat} {x : Option Addr} {m d : Nat} {ds : List Int} (h : Rdr w P bk bx x m d ds) (b : Below w.heap.size w w') : Rdr w' P bk bx x m d ds :=
  ⟨h.v.kept b, h.rd.kept b, h.len, h.cap, h.big, h.lies, h.nil⟩

set_option maxRecDepth 20000 in
set_option maxHeartbeats 4000000 in
theorem number_no (P : Nat) (bk : Value) (bx : Nat) (x : Option Addr) (m d : Nat) (ds : List Int) (s : Nat) (w : World) (R : Rdr w P bk bx x m d ds) (hb : Bytes ds) (hs : m < s) :
    Calls Tryz.prog 66 #[.pointer (some ⟨P, 0, none⟩), .int .i64 (s : Int)] w fun e w' => e = stop 5 ∧ Below w.heap.size w w' := by
  have CR := readNumber_no x m d 0 s ds w R.rd hb R.len R.big R.cap (by omega)
  rw [show ((0 : Nat) : Int) = 0 from rfl] at CR
  replace CR := Hid.mk CR
  obtain ⟨s_V, f_V, z_V⟩ := R.v.open
  go_enter Tryz.func66, Tryz.ntmps66
  go_wp2_with fail
  refine CR.out.mono ?_
  rintro e w1 ⟨rfl, b1⟩
  exact ⟨rfl, rfl, b1⟩

set_option maxRecDepth 20000 in
set_option maxHeartbeats 4000000 in
theorem number_some (P : Nat) (bk : Value) (bx : Nat) (x : Option Addr) (m d : Nat) (ds : List Int) (s : Nat) (w : World) (R : Rdr w P bk bx x m d ds) (hb : Bytes ds) (h1 : 1 ≤ s) (h7 : s ≤ 7) (hs : s ≤ m) (hne : bx ≠ P) :
    Calls Tryz.prog 66 #[.pointer (some ⟨P, 0, none⟩), .int .i64 (s : Int)] w fun e w' => e = .returned (.int .i64 (takeN ds 0 s)) ∧ Sm (fun k => k = P) w w' ∧ ∃ x', Rdr w' P bk bx x' (m - s) (d - s) (ds.drop s) ∧ x' ≠ none := by
  have CR := readNumber_ok x m d 0 s ds w R.rd hb R.len R.big R.cap h1 h7 (by omega)
  rw [show ((0 : Nat) : Int) = 0 from rfl] at CR
  replace CR := Hid.mk CR
  have hcap := R.cap
  have hbig := R.big
  obtain ⟨b2, o2, rfl, hcell⟩ : ∃ b2 o2, x = some ⟨b2, o2, none⟩ ∧ ∀ i, i < ds.length → w.cell? ⟨b2, o2 + i, none⟩ = some (.int .u8 (ds.getD i 0)) := by
    rcases R.rd with h | ⟨b2, o2, rfl, hcell⟩
    · have := R.len; rw [h] at this; simp at this; omega
    · exact ⟨_, _, rfl, hcell⟩
  have hbx := R.lies _ rfl
  simp only at hbx
  subst hbx
  have HR := Hid.mk R
  obtain ⟨tk, htk⟩ : ∃ t, takeN ds 0 s = t := ⟨_, rfl⟩
  rw [htk] at CR ⊢
  have k1 : (s : Int) ≤ (m : Int) := by omega
  have k2 : (m : Int) ≤ (d : Int) := by omega
  have k3 : (s : Int) ≤ (d : Int) := by omega
  have key : ∀ (w1 : World) (x' : Option Addr), Below w.heap.size w w1 → (x' = some ⟨b2, o2 + s, none⟩ ∨ (m = s ∧ x' = some ⟨b2, o2, none⟩)) → Sm (fun k => k = P) w (w1.setCell ⟨P, 0, none⟩ (.slice x' (m - s) (d - s))) ∧ ∃ x2, Rdr (w1.setCell ⟨P, 0, none⟩ (.slice x' (m - s) (d - s))) P bk b2 x2 (m - s) (d - s) (ds.drop s) ∧ x2 ≠ none := by
    intro w1 x' b1 hx'
    have R1 := HR.out.kept b1
    have S1 : Sm (fun k => k = P) w1 (w1.setCell ⟨P, 0, none⟩ (.slice x' (m - s) (d - s))) := Sm.cell (X := fun k => k = P) rfl _
    refine ⟨(Sm.below b1).trans S1, x', ?_⟩
    have hV := R1.v.set (i := 0) (by simp) (.slice x' (m - s) (d - s))
    simp only [List.set_cons_zero] at hV
    have hlen : (ds.drop s).length = m - s := by rw [List.length_drop, R1.len]
    have hrd : Rd .u8 w1 x' (ds.drop s) := by
      rcases hx' with rfl | ⟨h, rfl⟩
      · refine .inr ⟨b2, o2 + s, rfl, fun i hi => ?_⟩
        have h2 := R1.rd
        rcases h2 with h2 | ⟨b3, o3, e3, h2⟩
        · rw [h2] at hi; simp at hi
        · simp only [Option.some.injEq, Addr.mk.injEq, and_true] at e3
          obtain ⟨rfl, rfl⟩ := e3
          have h3 := h2 (s + i) (by rw [List.length_drop] at hi; omega)
          rw [getD_drop, ← h3, Nat.add_assoc]
      · exact .inl (List.eq_nil_of_length_eq_zero (by omega))
    refine ⟨⟨hV, hrd.sm S1 (fun b hb' e => ?_), hlen, by omega, by omega, fun b hb' => ?_, fun h => ?_⟩, fun h => ?_⟩
    · rcases hx' with rfl | ⟨_, rfl⟩ <;> simp only [Option.some.injEq] at hb' <;> subst hb' <;> exact hne e
    · rcases hx' with rfl | ⟨_, rfl⟩ <;> simp only [Option.some.injEq] at hb' <;> subst hb' <;> rfl
    · rcases hx' with rfl | ⟨_, rfl⟩ <;> cases h
    · rcases hx' with rfl | ⟨_, rfl⟩ <;> cases h
  have KEY := Hid.mk key
  have hVh := Hid.mk R.v
  clear key hcell R
  obtain ⟨s_V, f_V, z_V⟩ := hVh.out.open
  rcases Nat.lt_or_ge s d with hd | hd
  · have k4 : (s : Int) < (d : Int) := by omega
    have k5 : ¬ d = s := by omega
    have k6 : d - s ≠ 0 := by omega
    go_enter Tryz.func66, Tryz.ntmps66
    go_wp2_with fail
    refine CR.out.mono ?_
    rintro e w1 ⟨rfl, b1⟩
    have KK := Hid.mk (KEY.out w1 (some ⟨b2, o2 + s, none⟩) b1 (.inl rfl))
    have hv1 := hVh.out.kept b1
    clear s_V f_V z_V
    obtain ⟨s_V, f_V, z_V⟩ := hv1.open
    have hms : m - s = m - s := rfl
    go_wp2
    go_ret
    exact ⟨rfl, KK.out⟩
  · obtain rfl : m = s := by omega
    obtain rfl : d = m := by omega
    go_enter Tryz.func66, Tryz.ntmps66
    go_wp2_with fail
    refine CR.out.mono ?_
    rintro e w1 ⟨rfl, b1⟩
    have KK := Hid.mk (KEY.out w1 (some ⟨b2, o2, none⟩) b1 (.inr (by simp)))
    have hv1 := hVh.out.kept b1
    clear s_V f_V z_V
    obtain ⟨s_V, f_V, z_V⟩ := hv1.open
    go_wp2
    go_ret
    have h := KK.out
    simp only [Nat.sub_self] at h ⊢
    exact ⟨rfl, h⟩

theorem number_ok (P : Nat) (bk : Value) (bx : Nat) (x : Option Addr) (m d : Nat) (ds : List Int) (s : Nat) (w : World) (R : Rdr w P bk bx x m d ds) (hb : Bytes ds) (h1 : 1 ≤ s) (h7 : s ≤ 7) (hs : s ≤ m) (hne : bx ≠ P) :
    Calls Tryz.prog 66 #[.pointer (some ⟨P, 0, none⟩), .int .i64 (s : Int)] w fun e w' => e = .returned (.int .i64 (takeN ds 0 s)) ∧ Sm (fun k => k = P) w w' ∧ ∃ x', Rdr w' P bk bx x' (m - s) (d - s) (ds.drop s) :=
  (number_some P bk bx x m d ds s w R hb h1 h7 hs hne).mono fun _ _ ⟨h, S, x', R', _⟩ => ⟨h, S, x', R'⟩

end Go.Proofs.YtfldgeokigcokaaGreat
