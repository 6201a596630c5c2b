/- A row of marks; what is known of a book of terms. What somebody can make of a term: the program's small functions. What is known of a table; what can be made: the program. -/
import Derived.Test.YteeoodbmgheikaaTmT
import Derived.Test.YteeoodbmgheikaaKA
import Derived.Maps.OwnSet
import Derived.Test.YteeoodbmgheikaaTmW
namespace Go.Proofs.Yteeoodbmgheikaa
section
open Go.RowKit

theorem Try.infoMark : (Try.prog.info? 4).map (fun i => (i.zero, i.size, i.bytes)) = some (some (.bool false), 1, 1) := by kernel_rfl

/-- A row of marks of its own. -/
def Fl (w : World) (base Q n : Nat) (M : List Bool) : Prop := M.length = n ∧ w.ownsRow base 4 1 (.slice (some ⟨Q, 0, none⟩) n n) n (M.map Value.bool)

theorem Fl.lt {w : World} {base Q n : Nat} {M : List Bool} (h : Fl w base Q n M) : base ≤ Q ∧ Q < w.heap.size := World.ownsRow.lt h.2 Q (by simp [Value.ownBlock])

theorem Fl.cell {w : World} {base Q n : Nat} {M : List Bool} (h : Fl w base Q n M) {j : Nat} (hj : j < n) : w.cell? ⟨Q, j, none⟩ = some (.bool (M.getD j false)) := by
  rw [World.ownsRow.cellAt h.2 j (by omega)]
  have hl := h.1
  simp [List.getD, show j < M.length by omega]

theorem Fl.frozen {w : World} {base Q n : Nat} {M : List Bool} (h : Fl w base Q n M) (j : Nat) : w.frozen? ⟨Q, j, none⟩ = false := World.ownsRow.frozenAt h.2 j

theorem Fl.kept {w w' : World} {base Q n : Nat} {M : List Bool} (h : Fl w base Q n M) (hb : Below w.heap.size w w') : Fl w' base Q n M := ⟨h.1, World.ownsRow.kept h.2 (Below.grownBy hb none) (.inr (by simp [Value.ownBlock]))⟩

theorem Fl.sm {X : Nat → Prop} {w w' : World} {base Q n : Nat} {M : List Bool} (h : Fl w base Q n M) (s : Sm X w w') (hx : ¬ X Q) : Fl w' base Q n M :=
  ⟨h.1, ownsRow_sm h.2 s (fun k e => by simp [Value.ownBlock] at e; subst e; exact hx)⟩

theorem Fl.mono {w : World} {base base' Q n : Nat} {M : List Bool} (h : Fl w base Q n M) (hb : base' ≤ base) : Fl w base' Q n M := by
  refine ⟨h.1, ?_⟩
  rcases h.2 with ⟨h1, h2⟩
  refine ⟨h1, ?_⟩
  rcases h2 with h2 | ⟨g, cap, cur, e, h3, r⟩
  · exact .inl h2
  · exact .inr ⟨g, cap, cur, e, by omega, r⟩

theorem Fl.set {w : World} {base Q n : Nat} {M : List Bool} (h : Fl w base Q n M) (j : Nat) (b : Bool) : Fl (w.setCell ⟨Q, j, none⟩ (.bool b)) base Q n (M.set j b) := by
  refine ⟨by rw [List.length_set]; exact h.1, ?_⟩
  have := (World.ownsRow.stored h.2 j (.bool b)).1
  rw [List.map_set]
  exact this

theorem Fl.other {w : World} {base Q n : Nat} {M : List Bool} (h : Fl w base Q n M) {p : Addr} (hp : p.block ≠ Q) (v : Value) : Fl (w.setCell p v) base Q n M := h.sm (X := fun k => k = p.block) (Sm.cell (X := fun k => k = p.block) rfl v) (fun e => hp e.symm)

/-- Marks that are made. -/
theorem Fl.made {w : World} {base Q n : Nat} (h : w.ownsRow base 4 1 (.slice (some ⟨Q, 0, none⟩) n n) n (List.replicate n (Value.bool false))) : Fl w base Q n (List.replicate n false) := ⟨by simp, by simpa using h⟩

/-- Somebody's knowledge of a book: block kb; its marks lie in block Q. -/
structure Kn (w : World) (base kb p g : Nat) (c : Option Addr) (d Q : Nat) (xs : List T4) (M : List Bool) : Prop where
  bk : Bk w base p g c d xs
  v : V w kb [.pointer (some ⟨p, 0, none⟩), .slice (some ⟨Q, 0, none⟩) xs.length xs.length]
  f : Fl w base Q xs.length M
  bb : base ≤ kb
  kx : ¬ BkX p g c kb
  qx : ¬ BkX p g c Q
  ne : Q ≠ kb

theorem Kn.kept {w w' : World} {base kb p g : Nat} {c : Option Addr} {d Q : Nat} {xs : List T4} {M : List Bool} (h : Kn w base kb p g c d Q xs M) (hb : Below w.heap.size w w') : Kn w' base kb p g c d Q xs M :=
  ⟨h.bk.kept hb, h.v.kept hb, h.f.kept hb, h.bb, h.kx, h.qx, h.ne⟩

/-- A mark more. -/
theorem Kn.set {w : World} {base kb p g : Nat} {c : Option Addr} {d Q : Nat} {xs : List T4} {M : List Bool} (h : Kn w base kb p g c d Q xs M) (j : Nat) (b : Bool) : Kn (w.setCell ⟨Q, j, none⟩ (.bool b)) base kb p g c d Q xs (M.set j b) :=
  have s : Sm (fun k => k = Q) w (w.setCell ⟨Q, j, none⟩ (.bool b))   := Sm.cell (X := fun k => k = Q) rfl _
  ⟨h.bk.sm s (fun k e => by subst e; exact h.qx), h.v.sm s (fun e => h.ne e.symm), h.f.set j b, h.bb, h.kx, h.qx, h.ne⟩

theorem Kn.sm {X : Nat → Prop} {w w' : World} {base kb p g : Nat} {c : Option Addr} {d Q : Nat} {xs : List T4} {M : List Bool} (h : Kn w base kb p g c d Q xs M) (s : Sm X w w') (hx : ∀ k, X k → w.heap.size ≤ k) : Kn w' base kb p g c d Q xs M :=
  ⟨h.bk.sm s (fun k hk e => by have := (h.bk.lt k e).2; have := hx k hk; omega), h.v.sm s (fun e => by have := h.v.1; have := hx _ e; omega), h.f.sm s (fun e => by have := h.f.lt.2; have := hx _ e; omega), h.bb, h.kx, h.qx, h.ne⟩

theorem okT_half {j : Int} (h0 : -1000 ≤ j) (h1 : j ≤ 1000) : okT ⟨6, j, 0, 0⟩ :=
  ⟨okI_of (by simp only; omega) (by simp only; omega), okI_of (by simp only; omega) (by simp only; omega), okI_of (by simp only; omega) (by simp only; omega), okI_of (by simp only; omega) (by simp only; omega)⟩
end

section
open Go.RowKit

theorem flg_btw {M : List Bool} {q : Int} (h : btw q 0 ((M.length : Int) - 1) = false) : flg M q = false := by
  cases hf : flg M q with
  | false => rfl
  | true =>
    have := flg_in hf
    rw [show btw q 0 ((M.length : Int) - 1) = true from btw_iff.2 (by omega)] at h
    cases h

set_option maxHeartbeats 1000000 in
theorem has_ok (base Q n : Nat) (M : List Bool) (q : Int) (w : World) (h : Fl w base Q n M) (hn : n ≤ 1000) :
    Calls Try.prog 45 #[.slice (some ⟨Q, 0, none⟩) n n, .int .i64 q] w fun e w' => e = .returned (.bool (flg M q)) ∧ w' = w := by
  have CI := Hid.mk (isBetween_ok q 0 ((n : Int) - 1))
  have hl := h.1
  cases hb : btw q 0 ((n : Int) - 1)
  · have hr : flg M q = false := flg_btw (by rw [hl]; exact hb)
    rw [hr]
    rw [hb] at CI
    clear hb hr
    go_enter Try.func45, Try.ntmps45
    go_wp2_with fail
    refine (CI.out _).mono ?_
    rintro e w1 ⟨rfl, rfl⟩
    go_wp2
    go_ret
    exact ⟨rfl, rfl⟩
  · obtain ⟨h0, h1⟩ := btw_iff.1 hb
    obtain ⟨j, rfl⟩ := Int.eq_ofNat_of_zero_le h0
    have hj : j < n := by omega
    have p0 := h.cell hj
    have hr : flg M j = M.getD j false := flg_nat M j
    rw [hr]
    rw [hb] at CI
    have hj1 : (j : Int) < (n : Int) := by omega
    clear hb hr h1
    generalize M.getD j false = v at *
    go_enter Try.func45, Try.ntmps45
    go_wp2_with fail
    refine (CI.out _).mono ?_
    rintro e w1 ⟨rfl, rfl⟩
    go_wp2
    go_ret
    exact ⟨rfl, rfl⟩

theorem hlf_no {xs : List T4} {M : List Bool} {j : Int} (h : (⟨6, j, 0, 0⟩ : T4) ∉ xs) : hlf xs M j = false := by unfold hlf; simp [h]

theorem hlf_yes {xs : List T4} {M : List Bool} {j : Int} (h : (⟨6, j, 0, 0⟩ : T4) ∈ xs) : hlf xs M j = M.getD (tmIdx xs ⟨6, j, 0, 0⟩) false := by unfold hlf; simp [h]

theorem build_half (j : Int) (w : World) : (Instr.build 34 #[(0, .int .i64 6), (1, .int .i64 j)]).run Try.prog w = .ok (.agg #[.int .i64 6, .int .i64 j, .int .i64 0, .int .i64 0]) w := run_build w 34 _ _ (by kernel_rfl)

/-- What hasHalf asks. -/
theorem lk_half {w : World} {base kb p g : Nat} {c : Option Addr} {d Q : Nat} {xs : List T4} {M : List Bool} (H : Kn w base kb p g c d Q xs M) {j : Nat} (hj : j ≤ 1000) (n : Nat) :
    (Instr.lookup 76 (.map (some g)) (.agg #[.int .i64 6, .int .i64 (j : Int), .int .i64 0, .int .i64 0]) true).run Try.prog (w.drewN n) = .ok (.tuple #[.int .i64 ((tmM xs ⟨6, j, 0, 0⟩).getD 0), .bool (tmM xs ⟨6, j, 0, 0⟩).isSome]) (w.drewN n) :=
  H.bk.m.look (okT_half (j := (j : Int)) (by omega) (by omega)) n

set_option maxRecDepth 20000 in
set_option maxHeartbeats 2000000 in
theorem hasHalf_ok (base kb p g : Nat) (c : Option Addr) (d Q m base2 Q2 : Nat) (xs : List T4) (M L : List Bool) (j : Nat) (w : World) (H : Kn w base kb p g c d Q xs M) (hm : xs.length = m) (hL : Fl w base2 Q2 m L) (hn : m ≤ 400) (hj : j < m) :
    Calls Try.prog 80 #[.pointer (some ⟨kb, 0, none⟩), .int .i64 j, .slice (some ⟨Q2, 0, none⟩) m m] w fun e w' => e = .returned (.bool (L.getD j false || hlf xs M j)) ∧ Below w.heap.size w w' := by
  have VK := H.v
  have VP := H.bk.v
  have q1 := build_half
  have LK := lk_half H (j := j) (by omega) 0
  rw [show w.drewN 0 = w from rfl] at LK
  have hj1 : (j : Int) < (m : Int) := by omega
  have hF := H.f
  rw [hm] at VK VP hF
  by_cases hx : (⟨6, (j : Int), 0, 0⟩ : T4) ∈ xs
  · have HM : tmM xs ⟨6, j, 0, 0⟩ = some ((tmIdx xs ⟨6, j, 0, 0⟩ : Nat) : Int) := by unfold tmM; rw [if_pos hx]
    rw [HM] at LK
    have hi := tmIdx_lt hx
    rw [hlf_yes hx]
    generalize tmIdx xs ⟨6, j, 0, 0⟩ = i at *
    have hi1 : (i : Int) < (m : Int) := by omega
    have hi2 : i < m := by omega
    simp only [Option.getD_some, Option.isSome_some] at LK
    clear hx HM hi H hm hn
    obtain ⟨s_VK, f_VK, z_VK⟩ := VK.open
    obtain ⟨s_VP, f_VP, z_VP⟩ := VP.open
    have p9 := hL.cell hj
    have p8 := hF.cell hi2
    clear hF hL VK VP hi2 hj
    generalize M.getD i false = v1 at *
    generalize L.getD j false = v2 at *
    cases v2
    all_goals
      go_enter Try.func80, Try.ntmps80
      go_wp2
      go_ret
      exact ⟨ret_bool (by simp), Below.refl _ _⟩
  · have HM : tmM xs ⟨6, j, 0, 0⟩ = none := by unfold tmM; rw [if_neg hx]
    rw [HM] at LK
    rw [hlf_no hx]
    simp only [Option.getD_none, Option.isSome_none] at LK
    clear hx HM hF H hm hn
    obtain ⟨s_VK, f_VK, z_VK⟩ := VK.open
    obtain ⟨s_VP, f_VP, z_VP⟩ := VP.open
    have p9 := hL.cell hj
    clear hL VK VP hj
    generalize L.getD j false = v2 at *
    cases v2
    all_goals
      go_enter Try.func80, Try.ntmps80
      go_wp2
      go_ret
      exact ⟨ret_bool (by simp), Below.refl _ _⟩

theorem atB_nat (L : List Bool) (j : Nat) : atB L (j : Int) = L.getD j false := by unfold atB; rw [Int.toNat_natCast]

theorem comes_1 (H : Int → Bool) (L : List Bool) {t : T4} (h : t.o = 1) : comes H L t = true := by unfold comes; rw [if_pos h]

theorem comes_2 (H : Int → Bool) (L : List Bool) {t : T4} (h : t.o = 2) : comes H L t = false := by unfold comes; simp [h]

theorem comes_6 (H : Int → Bool) (L : List Bool) {t : T4} (h : t.o = 6) : comes H L t = atB L t.a := by unfold comes; simp [h]

theorem comes_7 (H : Int → Bool) (L : List Bool) {t : T4} (h : t.o = 7) : comes H L t = ((atB L t.a && (atB L t.b || H t.b)) || (atB L t.b && (atB L t.a || H t.a))) := by unfold comes; simp [h]

theorem comes_3 (H : Int → Bool) (L : List Bool) {t : T4} (h : t.o = 3 ∨ t.o = 4 ∨ t.o = 5) : comes H L t = (atB L t.a && atB L t.b) := by
  unfold comes
  rw [if_neg (by omega), if_neg (by omega), if_neg (by omega), if_neg (by omega)]

set_option maxRecDepth 20000 in
set_option maxHeartbeats 4000000 in
theorem comesOf_ok (base kb p g : Nat) (c : Option Addr) (d Q m base2 Q2 : Nat) (xs : List T4) (M L : List Bool) (t : T4) (w : World) (H : Kn w base kb p g c d Q xs M) (hm : xs.length = m) (hL : Fl w base2 Q2 m L) (hn : m ≤ 400)
    (ho : 1 ≤ t.o ∧ t.o ≤ 7) (pa : 0 < kids t.o → 0 ≤ t.a ∧ t.a < m) (pb : 1 < kids t.o → 0 ≤ t.b ∧ t.b < m) :
    Calls Try.prog 66 #[.pointer (some ⟨kb, 0, none⟩), .agg #[.int .i64 t.o, .int .i64 t.a, .int .i64 t.b, .int .i64 t.n], .slice (some ⟨Q2, 0, none⟩) m m] w fun e w' => e = .returned (.bool (comes (hlf xs M) L t)) ∧ Below w.heap.size w w' := by
  have k6 := kids6
  have k7 := kids7
  have VX := V.new w [.int .i64 t.o, .int .i64 t.a, .int .i64 t.b, .int .i64 t.n] 34
  have bb := belowA w (.cells #[.int .i64 t.o, .int .i64 t.a, .int .i64 t.b, .int .i64 t.n] 34)
  replace H := H.kept bb
  replace hL := hL.kept bb
  have CH := Hid.mk (fun j hj => hasHalf_ok base kb p g c d Q m base2 Q2 xs M L j _ H hm hL hn hj)
  rcases Int.lt_or_le t.o 6 with h6 | h6
  · rcases Int.lt_or_le t.o 3 with h3 | h3
    · clear CH pa pb hL H
      rcases (show t.o = 1 ∨ t.o = 2 by omega) with e | e
      · rw [comes_1 _ _ e]
        rw [e] at VX bb ⊢
        obtain ⟨s_VX, f_VX, z_VX⟩ := VX.open
        clear ho h6 h3 e
        go_enter Try.func66, Try.ntmps66
        go_wp2
        go_ret
        exact ⟨rfl, bb⟩
      · rw [comes_2 _ _ e]
        rw [e] at VX bb ⊢
        obtain ⟨s_VX, f_VX, z_VX⟩ := VX.open
        clear ho h6 h3 e
        go_enter Try.func66, Try.ntmps66
        go_wp2
        go_ret
        exact ⟨rfl, bb⟩
    · have e : t.o = 3 ∨ t.o = 4 ∨ t.o = 5 := by omega
      rw [comes_3 _ _ e]
      have kk : kids t.o = 2 := by rcases e with e | e | e <;> rw [e] <;> first | exact kids3 | exact kids4 | exact kids5
      have pa := pa (by omega)
      have pb := pb (by omega)
      obtain ⟨ja, hja⟩ : ∃ j : Nat, t.a = (j : Int) := ⟨t.a.toNat, by omega⟩
      obtain ⟨jb, hjb⟩ : ∃ j : Nat, t.b = (j : Int) := ⟨t.b.toNat, by omega⟩
      rw [hja, hjb] at VX bb ⊢
      have ca := hL.cell (j := ja) (by omega)
      have cb := hL.cell (j := jb) (by omega)
      have la : (ja : Int) < (m : Int) := by omega
      have lb : (jb : Int) < (m : Int) := by omega
      rw [hja, hjb] at ca cb
      rw [atB_nat, atB_nat]
      have e1 : (t.o == 1) = false := by simp; omega
      have e2 : (t.o == 2) = false := by simp; omega
      have e6 : (t.o == 6) = false := by simp; omega
      have e7 : (t.o == 7) = false := by simp; omega
      clear CH hL H e ho h6 h3 kk pa pb hja hjb k6 k7
      generalize L.getD ja false = va at *
      generalize L.getD jb false = vb at *
      obtain ⟨s_VX, f_VX, z_VX⟩ := VX.open
      cases va
      all_goals
        go_enter Try.func66, Try.ntmps66
        go_wp2
        go_ret
        exact ⟨ret_bool (by simp), bb⟩
  · rcases (show t.o = 6 ∨ t.o = 7 by omega) with e | e
    · rw [comes_6 _ _ e]
      have pa := pa (by rw [e, k6]; decide)
      obtain ⟨ja, hja⟩ : ∃ j : Nat, t.a = (j : Int) := ⟨t.a.toNat, by omega⟩
      rw [e, hja] at VX bb ⊢
      have ca := hL.cell (j := ja) (by omega)
      have la : (ja : Int) < (m : Int) := by omega
      rw [e, hja] at ca
      rw [atB_nat]
      clear CH hL H e ho h6 pa pb hja k6 k7
      generalize L.getD ja false = va at *
      obtain ⟨s_VX, f_VX, z_VX⟩ := VX.open
      go_enter Try.func66, Try.ntmps66
      go_wp2
      go_ret
      exact ⟨rfl, bb⟩
    · rw [comes_7 _ _ e]
      have pa := pa (by rw [e, k7]; decide)
      have pb := pb (by rw [e, k7]; decide)
      obtain ⟨ja, hja⟩ : ∃ j : Nat, t.a = (j : Int) := ⟨t.a.toNat, by omega⟩
      obtain ⟨jb, hjb⟩ : ∃ j : Nat, t.b = (j : Int) := ⟨t.b.toNat, by omega⟩
      have ca := hL.cell (j := ja) (by omega)
      have cb := hL.cell (j := jb) (by omega)
      have CA := CH.out ja (by omega)
      have CB := CH.out jb (by omega)
      have lQ0 := hL.lt.2
      have la : (ja : Int) < (m : Int) := by omega
      have lb : (jb : Int) < (m : Int) := by omega
      rw [e, hja, hjb] at VX bb ca cb CA CB lQ0 ⊢
      rw [atB_nat, atB_nat]
      clear CH hL H e ho h6 pa pb hja hjb k6 k7
      generalize L.getD ja false = va at *
      generalize L.getD jb false = vb at *
      generalize hlf xs M ja = ha at *
      generalize hlf xs M jb = hb at *
      replace CA := Hid.mk CA
      replace CB := Hid.mk CB
      obtain ⟨s_VX, f_VX, z_VX⟩ := VX.open
      cases va
      · cases vb
        · go_enter Try.func66, Try.ntmps66
          go_wp2
          go_ret
          exact ⟨rfl, bb⟩
        · go_enter Try.func66, Try.ntmps66
          go_wp2_with (go_at_call 80; refine CA.out.mono ?_; rintro e wq ⟨rfl, bq⟩)
          go_ret
          exact ⟨ret_bool (by simp), thenB bb bq⟩
      · cases hv : (vb || hb)
        · rw [hv] at CB
          obtain ⟨rfl, rfl⟩ : vb = false ∧ hb = false := by simpa using hv
          go_enter Try.func66, Try.ntmps66
          have lQ : Q2 < (w.alloc (.cells #[.int .i64 7, .int .i64 (ja : Int), .int .i64 (jb : Int), .int .i64 t.n] 34)).heap.size := lQ0
          go_wp2_with (go_at_call 80; refine CB.out.mono ?_; rintro e wq ⟨rfl, bq⟩; have cb2 := ((bcell bq).1 Q2 jb lQ).trans cb; obtain ⟨s_VY, f_VY, z_VY⟩ := (VX.kept bq).open)
          go_ret
          exact ⟨ret_bool (by simp), thenB bb bq⟩
        · rw [hv] at CB
          go_enter Try.func66, Try.ntmps66
          go_wp2_with (go_at_call 80; refine CB.out.mono ?_; rintro e wq ⟨rfl, bq⟩)
          go_ret
          exact ⟨ret_bool (by simp), thenB bb bq⟩

theorem told_3 (C : List Bool) {t : T4} (h : t.o = 3) : told C t = [t.a, t.b] := by unfold told; rw [if_pos h]

theorem told_5 (C : List Bool) {t : T4} (h : t.o = 5) : told C t = if atB C t.a = true then [t.b] else [] := by unfold told; simp [h]

theorem told_no (C : List Bool) {t : T4} (h3 : t.o ≠ 3) (h5 : t.o ≠ 5) : told C t = [] := by unfold told; simp [h3, h5]

set_option maxRecDepth 20000 in
set_option maxHeartbeats 4000000 in
theorem partsTold_ok (m base2 Q2 : Nat) (L : List Bool) (t : T4) (w : World) (hL : Fl w base2 Q2 m L) (_hn : m ≤ 400) (pa : t.o = 5 → 0 ≤ t.a ∧ t.a < m) :
    Calls Try.prog 72 #[.agg #[.int .i64 t.o, .int .i64 t.a, .int .i64 t.b, .int .i64 t.n], .slice (some ⟨Q2, 0, none⟩) m m] w fun e w' => ∃ c k d, e = .returned (.slice c k d) ∧ (told L t).length = k ∧ Own .i64 2 w' w.heap.size c d (told L t) ∧ Below w.heap.size w w' := by
  have VX := V.new w [.int .i64 t.o, .int .i64 t.a, .int .i64 t.b, .int .i64 t.n] 34
  have bb := belowA w (.cells #[.int .i64 t.o, .int .i64 t.a, .int .i64 t.b, .int .i64 t.n] 34)
  replace hL := hL.kept bb
  by_cases h3 : t.o = 3
  · rw [told_3 _ h3]
    rw [h3] at VX bb ⊢
    have hR := (OwnI.lit (w.alloc (.cells #[.int .i64 3, .int .i64 t.a, .int .i64 t.b, .int .i64 t.n] 34)) [t.a, t.b] [.int .i64 t.a, .int .i64 t.b] rfl (by unfold maxLen; simp)).mono (show w.heap.size ≤ _ by rw [World.size_alloc]; exact Nat.le_succ _)
    rw [World.size_alloc] at hR
    have b2 := thenB bb (belowA _ (.cells #[.int .i64 t.a, .int .i64 t.b] 2))
    clear hL pa h3
    obtain ⟨s_VX, f_VX, z_VX⟩ := VX.open
    go_enter Try.func72, Try.ntmps72
    go_wp2
    go_ret
    exact ⟨_, _, _, rfl, rfl, hR, b2⟩
  · have e3 : (t.o == 3) = false := by simp [h3]
    by_cases h5 : t.o = 5
    · have pa := pa h5
      obtain ⟨ja, hja⟩ : ∃ j : Nat, t.a = (j : Int) := ⟨t.a.toNat, by omega⟩
      rw [told_5 _ h5, hja, atB_nat]
      rw [h5, hja] at VX bb
      rw [h5]
      have ca := hL.cell (j := ja) (by omega)
      rw [h5, hja] at ca
      have la : (ja : Int) < (m : Int) := by omega
      clear hL pa h3 e3
      generalize L.getD ja false = v at *
      obtain ⟨s_VX, f_VX, z_VX⟩ := VX.open
      cases v
      · simp only [Bool.false_eq_true, if_false]
        go_enter Try.func72, Try.ntmps72
        go_wp2
        go_ret
        exact ⟨_, _, _, rfl, rfl, own_none, bb⟩
      · simp only [if_true]
        have hR := (OwnI.lit (w.alloc (.cells #[.int .i64 5, .int .i64 (ja : Int), .int .i64 t.b, .int .i64 t.n] 34)) [t.b] [.int .i64 t.b] rfl (by unfold maxLen; simp)).mono (show w.heap.size ≤ _ by rw [World.size_alloc]; exact Nat.le_succ _)
        rw [World.size_alloc] at hR
        have b2 := thenB bb (belowA _ (.cells #[.int .i64 t.b] 2))
        go_enter Try.func72, Try.ntmps72
        go_wp2
        go_ret
        exact ⟨_, _, _, rfl, rfl, hR, b2⟩
    · have e5 : (t.o == 5) = false := by simp [h5]
      rw [told_no _ h3 h5]
      clear hL pa h3 h5
      obtain ⟨s_VX, f_VX, z_VX⟩ := VX.open
      go_enter Try.func72, Try.ntmps72
      go_wp2
      go_ret
      exact ⟨_, _, _, rfl, rfl, own_none, bb⟩
end

section
open Go.RowKit

theorem knC_tf {xs : List T4} (kn : List Int) (h : tfC xs ≠ 0) : knC xs kn = tfC xs := by unfold knC; rw [if_pos h]

theorem knC_many {xs : List T4} {kn : List Int} (h : tfC xs = 0) (h2 : 400 < kn.length) : knC xs kn = 2 := by unfold knC; rw [if_neg (by simp [h]), if_pos h2]

theorem knC_k {xs : List T4} {kn : List Int} (h : tfC xs = 0) (h2 : ¬ 400 < kn.length) : knC xs kn = knK xs.length kn 0 := by unfold knC; rw [if_neg (by simp [h]), if_neg h2]

theorem build_know (p Q n : Nat) (w : World) : (Instr.build 57 #[(0, .pointer (some ⟨p, 0, none⟩)), (1, .slice (some ⟨Q, 0, none⟩) n n)]).run Try.prog w = .ok (.agg #[.pointer (some ⟨p, 0, none⟩), .slice (some ⟨Q, 0, none⟩) n n]) w := run_build w 57 _ _ (by kernel_rfl)

/-- What comes of looking at what is known. -/
def KnOf (xs : List T4) (kn : List Int) (w : World) (v : Value) (w' : World) : Prop :=
  (knC xs kn ≠ 0 ∧ v = .pointer none) ∨ (knC xs kn = 0 ∧ ∃ (kb p g : Nat) (c : Option Addr) (d Q : Nat), v = .pointer (some ⟨kb, 0, none⟩) ∧ Kn w' w.heap.size kb p g c d Q xs (mrk xs.length kn))

theorem arePlaces_one (a : Option Addr) (m ca : Nat) (c : Option Addr) (d : Nat) (q : Int) (w : World) (hm : m ≤ maxLen) (hR : Rd .i64 w c [q]) :
    Calls Try.prog 46 #[.slice a m ca, .slice c 1 d] w fun e w' => e = .returned (.bool (btw q 0 ((m : Int) - 1))) ∧ w' = w := by
  rw [← plsOk_one]
  exact arePlaces_ok a m ca c 1 d [q] w hR rfl hm (by unfold maxLen; omega)

set_option maxRecDepth 20000 in
set_option maxHeartbeats 8000000 in
theorem knowledgeOf_ok (a : Option Addr) (n ca : Nat) (xs : List T4) (a2 : Option Addr) (n2 ca2 : Nat) (kn : List Int) (w : World) (ha : RdTerm w a xs) (hn : xs.length = n) (hx : n ≤ maxLen) (hok : ∀ t ∈ xs, okT t) (ha2 : Rd .i64 w a2 kn) (hn2 : kn.length = n2) (hx2 : n2 ≤ maxLen) :
    Calls Try.prog 39 #[.slice a n ca, .slice a2 n2 ca2] w fun e w' => ∃ (v : Value) (k : Int), e = .returned (.tuple #[v, .int .i64 k]) ∧ knC xs kn = k ∧ Below w.heap.size w w' ∧ KnOf xs kn w v w' := by
  unfold maxLen at hx2
  unfold KnOf
  by_cases ht : tfC xs = 0
  rotate_left
  · have CB := Hid.mk (bookOf_no a n ca xs w ha hn hx hok ht)
    have hr := knC_tf kn ht
    rw [hr]
    have h2 : (tfC xs != 0) = true := by simp [ht]
    have HT := Hid.mk ht
    clear hr ht ha ha2
    generalize tfC xs = kk at *
    go_enter Try.func39, Try.ntmps39
    go_wp2_with fail
    refine CB.out.mono ?_
    rintro e w1 ⟨rfl, b1⟩
    go_wp2
    refine bodyPost_ret (v := .tuple #[.pointer none, .int .i64 kk]) (by simp [results, Try.results39, go_sem]) rfl ⟨_, _, rfl, rfl, b1, .inl ⟨HT.out, rfl⟩⟩
  have CB := Hid.mk (bookOf_yes a n ca xs w ha hn hx hok ht)
  have hn4 : n ≤ 400 := by have := (tfC_zero ht).1; omega
  by_cases h2 : 400 < n2
  · have hr := knC_many (kn := kn) ht (by omega)
    rw [hr]
    have d2 : decide ((400 : Int) < n2) = true := by simp; omega
    clear hr ht ha ha2 h2
    go_enter Try.func39, Try.ntmps39
    go_wp2_with fail
    refine CB.out.mono ?_
    rintro e w1 ⟨p, g, c, d, rfl, H, b1⟩
    clear H
    go_wp2
    refine bodyPost_ret (v := .tuple #[.pointer none, .int .i64 2]) (by simp [results, Try.results39, go_sem]) rfl ⟨_, _, rfl, rfl, b1, .inl ⟨by decide, rfl⟩⟩
  have d2 : decide ((400 : Int) < n2) = false := by simp; omega
  have hr := knC_k (kn := kn) ht (by omega)
  rw [hn] at hr
  rw [hr]
  clear hr
  obtain ⟨F, hF⟩ : ∃ F, knK (n : Int) kn 0 = F := ⟨_, rfl⟩
  rw [hF, hn]
  replace hF := Hid.mk hF
  replace ha2 := Hid.mk ha2
  have CP := Hid.mk (fun c d q w c2 d2 h => arePlaces_one c n d c2 d2 q w hx h)
  obtain ⟨i0, hi, hz0, hz1, hz2⟩ := info_parts Try.infoMark
  have hbd := build_know
  clear ha
  go_enter Try.func39, Try.ntmps39
  go_wp2_with fail
  refine CB.out.mono ?_
  rintro e w1 ⟨p, g, c, d, rfl, H, b1⟩
  clear CB
  have VP := H.v
  rw [hn] at VP
  obtain ⟨s_VP, f_VP, z_VP⟩ := VP.open
  go_wp2_with (at_make; go_loud (refine wpList_make_full _ rfl _ _ 55 rfl w1.heap.size 4 i0 (.bool false) 1 Try.underlying55 hi hz0 hz1 .i64 .i64 _ _ n rfl rfl (by omega) (by omega) (by rw [hz2]; omega) (by unfold maxLen; omega) (Nat.le_refl _) ?_))
  intro w2 hown hgrow
  have hmade : Fl w2 w1.heap.size w1.heap.size n (List.replicate n false) := Fl.made (by simpa [toList_madeCells_one] using hown)
  have B12 : Below w1.heap.size w1 w2 := (Below.refl _ w1).grown hgrow (Nat.le_refl _) (by intro k hk; cases hk)
  have b2 := thenB b1 B12
  have hQ2 := hmade.lt.2
  have hbs := b1.size
  have hlt := H.lt
  have HK0 : Kn (w2.alloc (.cells #[.pointer (some ⟨p, 0, none⟩), .slice (some ⟨w1.heap.size, 0, none⟩) n n] 57)) w.heap.size w2.heap.size p g c d w1.heap.size xs (mrk n (kn.take 0)) :=
    ⟨(H.kept B12).kept (belowA _ _), by rw [hn]; exact V.new w2 _ _, by rw [hn, List.take_zero, mrk_nil]; exact (hmade.mono hbs).kept (belowA _ _), by omega, fun e => by have := (hlt _ e).2; omega, fun e => by have := (hlt _ e).2; omega, by omega⟩
  have b3 := thenB b2 (belowA w2 (.cells #[.pointer (some ⟨p, 0, none⟩), .slice (some ⟨w1.heap.size, 0, none⟩) n n] 57))
  replace HK0 := Hid.mk HK0
  replace b3 := Hid.mk b3
  clear hown hmade B12 b2 hlt H hgrow hi hz0 hz1 hz2 VP s_VP f_VP z_VP
  generalize w1.heap.size = Q at *
  generalize hkb : w2.heap.size = kb at *
  go_wp2
  clear d2 hbd hkb
  go_loopw [33] (fun i wr => ∃ (k : Nat), k ≤ n2 ∧ i = .int .i64 k ∧ Hid (knK n kn k = F) ∧ Kn wr w.heap.size kb p g c d Q xs (mrk n (kn.take k)) ∧ Below w.heap.size w wr) (fun i _ => n2 - (intOf i).toNat)
  case atStart => exact ⟨0, Nat.zero_le _, rfl, hF, HK0.out, b3.out⟩
  case round =>
    clear HK0 b3 hF b1 hbs hQ2
    obtain ⟨k, hk, rfl, hdr, H, B⟩ := hrel
    by_cases hlt : k < n2
    · obtain ⟨z, hz⟩ : ∃ z, kn.getD k 0 = z := ⟨_, rfl⟩
      have hk1 : (k : Int) < (n2 : Int) := by omega
      have hs := knK_step (n := (n : Int)) (kn := kn) (k := k) (by omega) hz
      rw [hdr.out] at hs
      have ht2 : kn.take k ++ [z] = kn.take (k + 1) := by rw [take_snoc kn k (by omega), hz]
      rcases ha2.out.kept B with h0 | ⟨b4, o4, rfl, hca⟩
      · rw [h0] at hn2; simp at hn2; omega
      have p0 := hca k (by omega)
      rw [hz] at p0
      have pm := hca (k - 1) (by omega)
      replace hca := Hid.mk hca
      have hR := (OwnI.lit wr [z] [.int .i64 z] rfl (by unfold maxLen; simp)).rd
      have bA := belowA wr (.cells #[.int .i64 z] 2)
      have VK := H.v
      have VP := H.bk.v
      rw [hn] at VK VP
      obtain ⟨s_VK, f_VK, z_VK⟩ := VK.open
      obtain ⟨s_VP, f_VP, z_VP⟩ := VP.open
      cases hb : btw z 0 ((n : Int) - 1)
      · rw [if_pos (by rw [← Bool.not_eq_true] at hb; rw [btw_iff] at hb; omega)] at hs
        have HS := Hid.mk hs
        have B2 := thenB B bA
        clear hs pm
        go_wp2_with fail
        refine (CP.out _ _ _ _ _ _ hR).mono ?_
        rintro e wq ⟨rfl, rfl⟩
        rw [hb]
        go_wp2
        refine bodyPost_ret (v := .tuple #[.pointer none, .int .i64 3]) (by simp [results, Try.results39, go_sem]) rfl ⟨_, _, rfl, HS.out, B2, .inl ⟨by rw [HS.out]; decide, rfl⟩⟩
      · have hzr := btw_iff.1 hb
        rw [if_neg (by omega)] at hs
        obtain ⟨jz, rfl⟩ := Int.eq_ofNat_of_zero_le hzr.1
        have hjz : jz < n := by omega
        have hjz1 : (jz : Int) < (n : Int) := by omega
        have hf := H.f
        rw [hn] at hf
        have cz := hf.cell hjz
        have fz := hf.frozen jz
        have sQ := hf.lt.2
        have sb4 := World.block_lt_of_cell? _ _ p0
        simp only at sb4
        have ht3 := mrk_snoc (l := kn.take k) hjz
        rw [ht2] at ht3
        have H2 := Hid.mk ((H.set jz true).kept (belowA _ (.cells #[.int .i64 (jz : Int)] 2)))
        rw [← ht3] at H2
        have B2 := Hid.mk (thenB (B.setCell (p := ⟨Q, jz, none⟩) (hf.lt.1) (.bool true)) (belowA _ (.cells #[.int .i64 (jz : Int)] 2)))
        clear hca hf VK VP ht2 ht3 hzr H hz
        rcases Nat.eq_zero_or_pos k with h0 | h0
        · rw [if_neg (by omega)] at hs
          have HS := Hid.mk hs
          have d0 : decide (0 < k) = false := by simp; omega
          clear hs pm h0
          go_wp2_with fail
          refine (CP.out _ _ _ _ _ _ hR).mono ?_
          rintro e wq ⟨rfl, rfl⟩
          rw [hb]
          go_wp2
          go_roundw
          case rel => exact ⟨k + 1, by omega, by go_num, Hid.mk HS.out.symm, H2.out, B2.out⟩
          case measure => first | (simp [intOf]; done) | (simp [intOf]; omega)
        · obtain ⟨j, hj⟩ : ∃ j, k - 1 = j := ⟨_, rfl⟩
          rw [hj] at pm hs
          have hkm : (k : Int) - 1 = (j : Int) := by omega
          have hj1 : (j : Int) < (n2 : Int) := by omega
          have d0 : decide (0 < k) = true := by simp; omega
          generalize kn.getD j 0 = v at *
          by_cases hv : (jz : Int) ≤ v
          · rw [if_pos ⟨h0, hv⟩] at hs
            have HS := Hid.mk hs
            have dv : decide ((jz : Int) ≤ v) = true := by simp; omega
            have B3 := Hid.mk (thenB B bA)
            clear hs h0 hj hv H2 B2 cz fz
            go_wp2_with fail
            refine (CP.out _ _ _ _ _ _ hR).mono ?_
            rintro e wq ⟨rfl, rfl⟩
            rw [hb]
            go_wp2
            refine bodyPost_ret (v := .tuple #[.pointer none, .int .i64 1]) (by simp [results, Try.results39, go_sem]) rfl ⟨_, _, rfl, HS.out, B3.out, .inl ⟨by rw [HS.out]; decide, rfl⟩⟩
          · rw [if_neg (by omega)] at hs
            have HS := Hid.mk hs
            have dv : decide ((jz : Int) ≤ v) = false := by simp; omega
            clear hs h0 hj hv
            go_wp2_with fail
            refine (CP.out _ _ _ _ _ _ hR).mono ?_
            rintro e wq ⟨rfl, rfl⟩
            rw [hb]
            go_wp2
            go_roundw
            case rel => exact ⟨k + 1, by omega, by go_num, Hid.mk HS.out.symm, H2.out, B2.out⟩
            case measure => first | (simp [intOf]; done) | (simp [intOf]; omega)
    · obtain rfl : k = n2 := by omega
      rw [knK_end (by omega)] at hdr
      have hF0 := hdr.out
      have hk2 : kn.take k = kn := List.take_of_length_le (by omega)
      rw [hk2] at H
      replace H := Hid.mk H
      go_wp2
      refine bodyPost_ret (v := .tuple #[.pointer (some ⟨kb, 0, none⟩), .int .i64 0]) (by simp [results, Try.results39, go_sem]) rfl ⟨_, _, rfl, hF0.symm, B, .inr ⟨hF0.symm, kb, p, g, c, d, Q, rfl, H.out⟩⟩

theorem ownT_cells {w : World} {base : Nat} {c : Option Addr} {d : Nat} {xs : List T4} (h : OwnTerm w base c d xs) : xs = [] ∨ ∃ b o, c = some ⟨b, o, none⟩ ∧ b < w.heap.size ∧ ∀ k, k < xs.length → ∀ x, xs.getD k zTerm = x → w.cell? ⟨b, o + k * 4, none⟩ = some (.int .i64 x.o) ∧ w.cell? ⟨b, o + k * 4 + 1, none⟩ = some (.int .i64 x.a) ∧ w.cell? ⟨b, o + k * 4 + 2, none⟩ = some (.int .i64 x.b) ∧ w.cell? ⟨b, o + k * 4 + 3, none⟩ = some (.int .i64 x.n) := by
  rcases h.rd with h0 | ⟨b, o, rfl, hca⟩
  · exact .inl h0
  · refine .inr ⟨b, o, rfl, (h.lt _ rfl).2, fun k hk x hx => RdTerm.cells hca k hk x hx⟩

set_option maxRecDepth 20000 in
set_option maxHeartbeats 8000000 in
theorem makeable_ok (base kb p g : Nat) (c : Option Addr) (d Q n : Nat) (xs : List T4) (M : List Bool) (w : World) (H : Kn w base kb p g c d Q xs M) (hn : xs.length = n) (ht : tfC xs = 0) :
    Calls Try.prog 53 #[.pointer (some ⟨kb, 0, none⟩)] w fun e w' => ∃ Q2, e = .returned (.slice (some ⟨Q2, 0, none⟩) n n) ∧ Fl w' w.heap.size Q2 n (canL xs (flg M)) ∧ Below w.heap.size w w' := by
  have hn4 : n ≤ 400 := by have := (tfC_zero ht).1; omega
  obtain ⟨i0, hi, hz0, hz1, hz2⟩ := info_parts Try.infoMark
  have H0 := Hid.mk H
  have VK := H.v
  have VP := H.bk.v
  rw [hn] at VK VP
  obtain ⟨s_VK, f_VK, z_VK⟩ := VK.open
  obtain ⟨s_VP, f_VP, z_VP⟩ := VP.open
  go_enter Try.func53, Try.ntmps53
  go_wp2_with (at_make; go_loud (refine wpList_make_full _ rfl _ _ 55 rfl w.heap.size 4 i0 (.bool false) 1 Try.underlying55 hi hz0 hz1 .i64 .i64 _ _ n rfl rfl (by omega) (by omega) (by rw [hz2]; omega) (by unfold maxLen; omega) (Nat.le_refl _) ?_))
  intro w2 hown hgrow
  have hmade : Fl w2 w.heap.size w.heap.size n (mkA xs M 0) := by rw [mkA_zero, hn]; exact Fl.made (by simpa [toList_madeCells_one] using hown)
  have B2 : Below w.heap.size w w2 := (Below.refl _ w).grown hgrow (Nat.le_refl _) (by intro k hk; cases hk)
  replace VK := VK.kept B2
  replace VP := VP.kept B2
  replace H := H.kept B2
  clear s_VK f_VK z_VK s_VP f_VP z_VP hown hgrow hi hz0 hz1 hz2
  obtain ⟨s_VK, f_VK, z_VK⟩ := VK.open
  obtain ⟨s_VP, f_VP, z_VP⟩ := VP.open
  go_wp2
  clear s_VK f_VK z_VK s_VP f_VP z_VP VK VP
  go_loopw [23] (fun i wr => ∃ (k : Nat), k ≤ n ∧ i = .int .i64 k ∧ Fl wr w.heap.size w.heap.size n (mkA xs M k) ∧ Below w.heap.size w wr) (fun i _ => n - (intOf i).toNat)
  case atStart => exact ⟨0, Nat.zero_le _, rfl, hmade, B2⟩
  case round =>
    clear hmade H B2
    obtain ⟨k, hk, rfl, HF, B⟩ := hrel
    have H := H0.out.kept B
    by_cases hlt : k < n
    · obtain ⟨x, hx⟩ : ∃ x, xs.getD k zTerm = x := ⟨_, rfl⟩
      have hk1 : (k : Int) < (n : Int) := by omega
      have hs := mkA_step ht (M := M) (k := k) (by omega) hx
      obtain ⟨ho1, ho7⟩ := op_in ht (k := k) (by omega) hx
      obtain ⟨pa, pb⟩ := tfC_ahead ht k (by omega)
      rw [hx] at pa pb
      have VK := H.v
      have VP := H.bk.v
      rw [hn] at VK VP
      have hq := H.f
      rw [hn] at hq
      have p9 := hq.cell (j := k) hlt
      have sQ := hq.lt.2
      have c2 := HF.cell (j := k) hlt
      have z2 := HF.frozen k
      have s2 := HF.lt.2
      rcases ownT_cells H.bk.o with h0 | ⟨b1, o1, rfl, s1, hca⟩
      · rw [h0] at hn; simp at hn; omega
      obtain ⟨q0, q1, q2, q3⟩ := hca k (by omega) x hx
      obtain ⟨s_VK, f_VK, z_VK⟩ := VK.open
      obtain ⟨s_VP, f_VP, z_VP⟩ := VP.open
      clear hca hq VK VP
      cases hm : M.getD k false
      · rw [hm] at p9 hs
        have bA := belowA wr (.cells #[.int .i64 x.o, .int .i64 x.a, .int .i64 x.b, .int .i64 x.n] 34)
        have CC := Hid.mk (comesOf_ok base kb p g _ d Q n _ _ xs M (mkA xs M k) x _ (H.kept bA) hn (HF.kept bA) hn4 ⟨ho1, ho7⟩ (fun q => by have := pa q; omega) (fun q => by have := pb q; omega))
        have HFA := HF.kept bA
        replace B := thenB B bA
        have hs2 := Hid.mk hs
        clear hs pa pb ho1 ho7 H HF c2 z2 bA hm
        rw [Bool.false_or] at hs2
        generalize comes (hlf xs M) (mkA xs M k) x = v at *
        go_wp2_with (go_at_call 66; refine CC.out.mono ?_; rintro e w3 ⟨rfl, b3⟩; have HF3 := HFA.kept b3; have c3 := HF3.cell (j := k) hlt; have z3 := HF3.frozen k)
        have HF4 := HF3.set k v
        rw [← hs2.out] at HF4
        have B4 := (thenB B b3).setCell (p := ⟨w.heap.size, k, none⟩) (Nat.le_refl _) (.bool v)
        go_roundw
        case rel => exact ⟨k + 1, by omega, by go_num, HF4, B4⟩
        case measure => first | (simp [intOf]; done) | (simp [intOf]; omega)
      · rw [hm, Bool.true_or] at hs
        rw [hm] at p9
        have HF2 := HF.set k true
        rw [← hs] at HF2
        replace HF2 := HF2.kept (belowA _ (.cells #[.int .i64 x.o, .int .i64 x.a, .int .i64 x.b, .int .i64 x.n] 34))
        have B2 := thenB (B.setCell (p := ⟨w.heap.size, k, none⟩) (Nat.le_refl _) (.bool true)) (belowA _ (.cells #[.int .i64 x.o, .int .i64 x.a, .int .i64 x.b, .int .i64 x.n] 34))
        replace HF2 := Hid.mk HF2
        replace B2 := Hid.mk B2
        clear hs pa pb ho1 ho7 H HF B hm
        go_wp2
        go_roundw
        case rel => exact ⟨k + 1, by omega, by go_num, HF2.out, B2.out⟩
        case measure => first | (simp [intOf]; done) | (simp [intOf]; omega)
    · obtain rfl : k = n := by omega
      have he := mkA_end xs M
      rw [hn] at he
      rw [he] at HF
      replace HF := Hid.mk HF
      replace H := Hid.mk H
      go_wp2
      go_ret
      exact ⟨_, rfl, HF.out, B⟩
end

end Go.Proofs.Yteeoodbmgheikaa
