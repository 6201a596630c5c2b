/- The draws of the laws: a source of bytes, a number below a bound, one of a list; by contracts that tell the bounds alone. -/
import Derived.Test.YthjaehcfakjemaaDoorProg
import Derived.Test.YthjaehcfakjemaaDoorBase
namespace Go.Proofs.YthjaehcfakjemaaDoor
open Go.RowKit

/-- A source at block B: the slice of the code, and how far it is read. -/
def Src (w : World) (B : Nat) (a : Option Addr) (n ca : Nat) (zs : List Int) (t : Nat) : Prop :=
  At w B [.slice a n ca, .int .i64 t] ∧ w.frozen? ⟨B, 1, none⟩ = false ∧ Rd .u8 w a zs ∧ (zs = [] ∨ ∀ b, a = some b → b.block < B)

theorem Src.kept {w w' : World} {B : Nat} {a : Option Addr} {n ca : Nat} {zs : List Int} {t : Nat} (h : Src w B a n ca zs t) (hb : Below w.heap.size w w') : Src w' B a n ca zs t :=
  ⟨h.1.kept hb, (hb.frozen (p := ⟨B, 1, none⟩) h.1.1).trans h.2.1, h.2.2.1.kept hb, h.2.2.2⟩

theorem Rd.grown {k : IntKind} {w w' : World} {a : Option Addr} {zs : List Int} {row : Option Nat} (h : Rd k w a zs) (hg : w.grownBy w' row) (hne : zs = [] ∨ ∀ b, a = some b → row ≠ some b.block) : Rd k w' a zs := by
  rcases h with h | ⟨b, off, rfl, hc⟩
  · exact .inl h
  · rcases hne with hne | hne
    · exact .inl hne
    · exact .inr ⟨b, off, rfl, fun i hi => hg.cell (hc i hi) fun e => hne _ rfl e.symm⟩

/-- What a step of the source leaves. -/
theorem Src.step {w : World} {B : Nat} {a : Option Addr} {n ca : Nat} {zs : List Int} {t : Nat} (h : Src w B a n ca zs t) :
    Src (w.setCell ⟨B, 1, none⟩ (.int .i64 ((t : Int) + 1))) B a n ca zs (t + 1) ∧ w.grownBy (w.setCell ⟨B, 1, none⟩ (.int .i64 ((t : Int) + 1))) (some B) := by
  have hg : w.grownBy (w.setCell ⟨B, 1, none⟩ (.int .i64 ((t : Int) + 1))) (some B) :=
    ⟨rfl, rfl, rfl, by simp [World.setCell], fun k _ hk => Below.heap_setCell _ _ _ _ (fun e => hk (by simp [e]))⟩
  obtain ⟨f1, f2, f3⟩ := h.1.two
  refine ⟨⟨⟨Nat.lt_of_lt_of_le f3 hg.size, fun i v hi => ?_⟩, (World.frozen?_setCell _ _ _ _).trans h.2.1, h.2.2.1.grown hg (h.2.2.2.imp id fun hh b hb e => ?_), h.2.2.2⟩, hg⟩
  · match i, hi with
    | 0, hi =>
      rw [World.cell?_setCell_other _ _ _ _ (by simp)]
      rw [f1]; simpa using hi
    | 1, hi =>
      rw [World.cell?_setCell_same _ _ _ f2]
      simpa using hi
  · have := hh b hb
    simp at e
    omega

theorem grownN {w w' : World} {row : Option Nat} (h : w.grownBy w' row) (q : Nat) : w.grownBy (w'.drewN q) row := ⟨h.os, h.tape, h.output, h.size, h.block⟩

theorem Src.drewN {w : World} {B : Nat} {a : Option Addr} {n ca : Nat} {zs : List Int} {t : Nat} (h : Src w B a n ca zs t) (q : Nat) : Src (w.drewN q) B a n ca zs t :=
  h.kept (belowN (Below.refl _ _) q)

set_option maxHeartbeats 1000000 in
theorem l1Next_ok (B : Nat) (a : Option Addr) (n ca : Nat) (zs : List Int) (t : Nat) (m : Int) (w : World) (hs : Src w B a n ca zs t) (hb : Bytes zs) (hn : zs.length = n) (hx : n ≤ 1048577) (ht : t ≤ 1000000) (hm : m ≤ 9223372036854775807) :
    Calls Tryd.prog 42 #[.pointer (some ⟨B, 0, none⟩), .int .i64 m] w fun e w' => ∃ v : Int, e = .returned (.int .i64 v) ∧ (1 ≤ m → 0 ≤ v ∧ v < m) ∧ (m < 1 → v = 0) ∧ Src w' B a n ca zs (t + 1) ∧ w.grownBy w' (some B) := by
  obtain ⟨f1, f2, f3⟩ := hs.1.two
  have ff := hs.2.1
  have HS := Hid.mk hs.step
  by_cases h1 : m < 1
  · clear hs
    go_enter Tryd.func42, Tryd.ntmps42
    go_wp2
    go_ret
    exact ⟨0, rfl, fun h => by omega, fun _ => rfl, HS.out⟩
  · have h2 : 1 ≤ m := by omega
    by_cases h3 : n = 0
    · subst h3
      have hmod : 0 ≤ (t : Int) * 7 % m ∧ (t : Int) * 7 % m < m := ⟨Int.emod_nonneg _ (by omega), Int.emod_lt_of_pos _ (by omega)⟩
      have hz : (((0 : Nat) : Int) == 0) = true := rfl
      clear hs h1
      go_enter Tryd.func42, Tryd.ntmps42
      go_wp2
      go_ret
      exact ⟨(t : Int) * 7 % m, rfl, fun _ => hmod, fun h => by omega, HS.out⟩
    · rcases hs.2.2.1 with h0 | ⟨b1, o1, rfl, hc⟩
      · simp [h0] at hn; omega
      have hlt : b1 < B := by
        rcases hs.2.2.2 with h0 | h0
        · simp [h0] at hn; omega
        · exact h0 _ rfl
      have hnz : (((n : Nat) : Int) == 0) = false := by simp; omega
      have hnp : (1 : Int) ≤ (n : Int) := by omega
      have m1 : t % n < n := Nat.mod_lt _ (by omega)
      have m2 : (t + 1) % n < n := Nat.mod_lt _ (by omega)
      have c1 := hc (t % n) (by omega)
      have c2 := hc ((t + 1) % n) (by omega)
      obtain ⟨z1, z2⟩ := hb.at (t % n)
      obtain ⟨y1, y2⟩ := hb.at ((t + 1) % n)
      generalize zs.getD (t % n) 0 = z at *
      generalize zs.getD ((t + 1) % n) 0 = y at *
      have q1 : 0 ≤ (t : Int) / (n : Int) := Int.ediv_nonneg (by omega) (by omega)
      have q2 : (t : Int) / (n : Int) ≤ 1000000 := Int.le_trans (Int.ediv_le_self _ (by omega)) (by omega)
      have i1 : (0 : Int) ≤ (t : Int) % (n : Int) := Int.emod_nonneg _ (by omega)
      have i2 : (t : Int) % (n : Int) < (n : Int) := Int.emod_lt_of_pos _ (by omega)
      have i3 : (0 : Int) ≤ ((t : Int) + 1) % (n : Int) := Int.emod_nonneg _ (by omega)
      have i4 : ((t : Int) + 1) % (n : Int) < (n : Int) := Int.emod_lt_of_pos _ (by omega)
      clear hc hs h3
      by_cases h4 : 200 < m
      · go_enter Tryd.func42, Tryd.ntmps42
        go_wp2
        go_quiet (fail)
        go_wp2
        go_quiet (fail)
        go_wp2
        go_ret
        refine ⟨_, rfl, fun _ => ⟨Int.emod_nonneg _ (by omega), Int.emod_lt_of_pos _ (by omega)⟩, fun h => by omega, HS.out.1.drewN _, grownN HS.out.2 _⟩
      · have h5 : m ≤ 200 := by omega
        clear h4
        go_enter Tryd.func42, Tryd.ntmps42
        go_wp2
        go_quiet (fail)
        go_wp2
        go_ret
        refine ⟨_, rfl, fun _ => ⟨Int.emod_nonneg _ (by omega), Int.emod_lt_of_pos _ (by omega)⟩, fun h => by omega, HS.out.1.drewN _, grownN HS.out.2 _⟩

set_option maxHeartbeats 1000000 in
theorem l1Pick_ok (B : Nat) (a : Option Addr) (n ca : Nat) (zs : List Int) (t : Nat) (b l cl : Nat) (ns : List Int) (w : World) (hs : Src w B a n ca zs t) (hb : Bytes zs) (hn : zs.length = n) (hx : n ≤ 1048577) (ht : t ≤ 1000000)
    (hl : ns.length = l) (hp : 0 < l) (hq : l ≤ 1000000) (hc : ∀ i, i < l → w.cell? ⟨b, i, none⟩ = some (.int .i64 (ns.getD i 0))) (hB : b ≠ B) :
    Calls Tryd.prog 41 #[.pointer (some ⟨B, 0, none⟩), .slice (some ⟨b, 0, none⟩) l cl] w fun e w' => ∃ v : Int, e = .returned (.int .i64 v) ∧ v ∈ ns ∧ Src w' B a n ca zs (t + 1) ∧ w.grownBy w' (some B) := by
  go_enter Tryd.func41, Tryd.ntmps41
  go_wp2_with fail
  refine (l1Next_ok B a n ca zs t (l : Int) _ hs hb hn hx ht (by omega)).mono ?_
  rintro e w1 ⟨v, rfl, hv, _, s1, g1⟩
  obtain ⟨v1, v2⟩ := hv (by omega)
  obtain ⟨i, rfl⟩ := Int.eq_ofNat_of_zero_le v1
  have hi : i < l := by omega
  have c1 := g1.cell (hc i hi) (by simpa using hB)
  have hm : ns.getD i 0 ∈ ns := by rw [getD_eq ns i (by omega)]; exact List.getElem_mem _
  clear hc
  generalize ns.getD i 0 = x at *
  go_wp2
  go_ret
  exact ⟨x, rfl, hm, s1, g1⟩

end Go.Proofs.YthjaehcfakjemaaDoor
