/- Put together: MvA, MvB, MvC, MvD, MvE, MvF. -/
import Derived.Test.YtedippfnlaiapaaTmD
import Derived.Test.YtedippfnlaiapaaTmU
import Derived.Test.YtedippfnlaiapaaTmZ
import Derived.Test.YtedippfnlaiapaaTmK
import Derived.Test.YtedippfnlaiapaaOcB
import Derived.Test.YtedippfnlaiapaaTmF
import Derived.Test.YtedippfnlaiapaaTmT
import Derived.Test.YtedippfnlaiapaaTmW
import Derived.Test.YtedippfnlaiapaaTmS
import Derived.Test.YtedippfnlaiapaaTpA

/- Terms moved into another table: the sums of it. -/
namespace Go.Proofs.Ytedippfnlaiapaa
open Go.RowKit

/-- A number for each of so many places. -/
def tab (L : Nat) (f : Int → Int) : List Int := (List.range L).map fun i : Nat => f (i : Int)

theorem tab_len (L : Nat) (f : Int → Int) : (tab L f).length = L := by simp [tab]

theorem tab_at {L : Nat} (f : Int → Int) {i : Nat} (h : i < L) : (tab L f).getD i 0 = f i := by simp [tab, List.getD, h]

theorem tab_zero (L : Nat) : tab L (fun _ => 0) = List.replicate L 0 := by
  unfold tab
  rw [List.map_const']
  simp

def updP (f : Int → Int) (p v : Int) : Int → Int := fun i => if i = p then v else f i

theorem tab_set {L : Nat} (f : Int → Int) {k : Nat} (v : Int) : (tab L f).set k v = tab L (updP f k v) := by
  apply List.ext_getElem
  · simp [tab]
  · intro i h1 h2
    simp only [tab, List.length_set, List.length_map, List.length_range] at h1
    rw [List.getElem_set]
    simp only [tab, updP, List.getElem_map, List.getElem_range]
    by_cases h : k = i
    · rw [if_pos h, if_pos (by omega)]
    · rw [if_neg h, if_neg (by omega)]

/-- What has come of a table when so many terms were moved into it. -/
structure Mv where
  c : Int
  pl : Int → Int
  tb : List T4

def mvR (fr : List T4) : List Int → (Int → Int) → List T4 → Mv
  | [], pl, tb => ⟨0, pl, tb⟩
  | p :: ps, pl, tb => if (put tb (mvT (tmAt fr p) pl)).c = 0 then mvR fr ps (updP pl p (put tb (mvT (tmAt fr p) pl)).k) (put tb (mvT (tmAt fr p) pl)).l else ⟨(put tb (mvT (tmAt fr p) pl)).c, pl, tb⟩

theorem mvR_drop (fr : List T4) (zs : List Int) (pl : Int → Int) (tb : List T4) (k : Nat) (h : k < zs.length) {p : Int} (hp : zs.getD k 0 = p) :
    mvR fr (zs.drop k) pl tb = if (put tb (mvT (tmAt fr p) pl)).c = 0 then mvR fr (zs.drop (k + 1)) (updP pl p (put tb (mvT (tmAt fr p) pl)).k) (put tb (mvT (tmAt fr p) pl)).l else ⟨(put tb (mvT (tmAt fr p) pl)).c, pl, tb⟩ := by
  rw [List.drop_eq_getElem_cons h, mvR]
  have e : zs[k] = p := by rw [← hp]; simp [List.getD, h]
  rw [e]

theorem mvR_end (fr : List T4) (zs : List Int) (pl : Int → Int) (tb : List T4) (k : Nat) (h : zs.length ≤ k) : mvR fr (zs.drop k) pl tb = ⟨0, pl, tb⟩ := by
  rw [List.drop_of_length_le h, mvR]

def PlOk (pl : Int → Int) : Prop := ∀ i, 0 ≤ pl i ∧ pl i ≤ 400

theorem PlOk.zero : PlOk (fun _ => 0) := fun _ => ⟨Int.le_refl 0, (by decide : (0 : Int) ≤ 400)⟩

theorem PlOk.upd {pl : Int → Int} (h : PlOk pl) {p v : Int} (hv : 0 ≤ v ∧ v ≤ 400) : PlOk (updP pl p v) := by
  intro i
  unfold updP
  split
  · exact hv
  · exact h i

theorem PlOk.ok {pl : Int → Int} (h : PlOk pl) (i : Int) : okI (pl i) := okI_of (by have := (h i).1; omega) (by have := (h i).2; omega)

theorem mvT_ok {t : T4} (ht : okT t) {pl : Int → Int} (h : PlOk pl) : okT (mvT t pl) := by
  have z : okI 0 := okI_of (by decide) (by decide)
  unfold mvT
  split
  · exact ht
  · split
    · exact ⟨(okI_of (by decide) (by decide) : okI 6), h.ok _, z, z⟩
    · split
      · exact ⟨(okI_of (by decide) (by decide) : okI 7), okI_min (h.ok _) (h.ok _), okI_max (h.ok _) (h.ok _), z⟩
      · exact ⟨ht.1, h.ok _, h.ok _, z⟩

theorem mvT_both {t : T4} {pl : Int → Int} (h : t.o = 7) : mvT t pl = bothT (pl t.a) (pl t.b) := by
  unfold mvT bothT
  rw [h, kids7]
  simp

theorem mvT_ways {t : T4} (h : 1 ≤ t.o ∧ t.o ≤ 7) (pl : Int → Int) : (t.o = 1 ∧ mvT t pl = t) ∨ ((t.o == 1) = false ∧ t.o = 2 ∧ mvT t pl = t) ∨ ((t.o == 1) = false ∧ (t.o == 2) = false ∧ t.o = 6 ∧ 0 < kids t.o ∧ mvT t pl = ⟨6, pl t.a, 0, 0⟩)
    ∨ ((t.o == 1) = false ∧ (t.o == 2) = false ∧ (t.o == 6) = false ∧ t.o = 7 ∧ 1 < kids t.o ∧ mvT t pl = ⟨7, min (pl t.a) (pl t.b), max (pl t.a) (pl t.b), 0⟩)
    ∨ ((t.o == 1) = false ∧ (t.o == 2) = false ∧ (t.o == 6) = false ∧ (t.o == 7) = false ∧ 1 < kids t.o ∧ mvT t pl = ⟨t.o, pl t.a, pl t.b, 0⟩) := by
  simp only [beq_eq_false_iff_ne]
  unfold mvT
  rcases kids_ways t.o with ⟨e, hk⟩ | ⟨e, hk⟩ | ⟨e, hk⟩ | ⟨e, hk⟩ | ⟨e, hk⟩ | ⟨h3, h4, h5, h7, h6, hk⟩
  iterate 3
    · exact .inr (.inr (.inr (.inr ⟨by omega, by omega, by omega, by omega, by omega, by rw [if_neg (by omega), if_neg (by omega), if_neg (by omega)]⟩)))
  · exact .inr (.inr (.inr (.inl ⟨by omega, by omega, by omega, e, by omega, by rw [if_neg (by omega), if_neg (by omega), if_pos e]⟩)))
  · exact .inr (.inr (.inl ⟨by omega, by omega, e, by omega, by rw [if_neg (by omega), if_pos e]⟩))
  · have e : t.o = 1 ∨ t.o = 2 := by omega
    rcases e with e | e
    · exact .inl ⟨e, by rw [if_pos hk]⟩
    · exact .inr (.inl ⟨by omega, e, by rw [if_pos hk]⟩)

/-- What comes of moving a term of one table into another. -/
@[irreducible] def mvP (fr : List T4) (q : Int) (tb : List T4) : Put :=
  if (mvR fr (prL fr q.toNat) (fun _ => 0) tb).c = 0 then ⟨0, (mvR fr (prL fr q.toNat) (fun _ => 0) tb).pl q, (mvR fr (prL fr q.toNat) (fun _ => 0) tb).tb⟩ else ⟨(mvR fr (prL fr q.toNat) (fun _ => 0) tb).c, 0, []⟩

@[irreducible] def mvF (fr : List T4) (q : Int) (tb : List T4) : Put :=
  if tfC fr = 0 then (if tfC tb = 0 then (if btw q 0 ((fr.length : Int) - 1) = true then mvP fr q tb else ⟨3, 0, []⟩) else ⟨tfC tb, 0, []⟩) else ⟨tfC fr, 0, []⟩

theorem mvF_ways (fr : List T4) (q : Int) (tb : List T4) : (tfC fr ≠ 0 ∧ mvF fr q tb = ⟨tfC fr, 0, []⟩) ∨ (tfC fr = 0 ∧ tfC tb ≠ 0 ∧ mvF fr q tb = ⟨tfC tb, 0, []⟩)
    ∨ (tfC fr = 0 ∧ tfC tb = 0 ∧ btw q 0 ((fr.length : Int) - 1) = false ∧ mvF fr q tb = ⟨3, 0, []⟩) ∨ (tfC fr = 0 ∧ tfC tb = 0 ∧ btw q 0 ((fr.length : Int) - 1) = true ∧ mvF fr q tb = mvP fr q tb) := by
  unfold mvF
  by_cases h1 : tfC fr = 0
  · by_cases h2 : tfC tb = 0
    · cases h3 : btw q 0 ((fr.length : Int) - 1)
      · exact .inr (.inr (.inl ⟨h1, h2, rfl, by rw [if_pos h1, if_pos h2, if_neg (by simp)]⟩))
      · exact .inr (.inr (.inr ⟨h1, h2, rfl, by rw [if_pos h1, if_pos h2, if_pos rfl]⟩))
    · exact .inr (.inl ⟨h1, h2, by rw [if_pos h1, if_neg h2]⟩)
  · exact .inl ⟨h1, by rw [if_neg h1]⟩

theorem mvR_len (fr : List T4) : ∀ (zs : List Int) (pl : Int → Int) (tb : List T4), tb.length ≤ 400 → (mvR fr zs pl tb).tb.length ≤ 400
  | [], pl, tb, h => h
  | p :: ps, pl, tb, h => by
    rw [mvR]
    split
    · exact mvR_len fr ps _ _ (put_len h)
    · exact h

theorem mvP_len {fr : List T4} {q : Int} {tb : List T4} (h : tb.length ≤ 400) : (mvP fr q tb).l.length ≤ 400 := by
  unfold mvP
  split
  · exact mvR_len _ _ _ _ h
  · exact Nat.zero_le _

theorem mvF_len (fr : List T4) (q : Int) (tb : List T4) : (mvF fr q tb).l.length ≤ 400 := by
  rcases mvF_ways fr q tb with ⟨_, h⟩ | ⟨_, _, h⟩ | ⟨_, _, _, h⟩ | ⟨_, h1, _, h⟩
  · rw [h]; exact Nat.zero_le _
  · rw [h]; exact Nat.zero_le _
  · rw [h]; exact Nat.zero_le _
  · rw [h]; exact mvP_len (tfC_zero h1).1

end Go.Proofs.Ytedippfnlaiapaa

/- withPlaces. -/
namespace Go.Proofs.Ytedippfnlaiapaa
open Go.RowKit

set_option maxRecDepth 20000 in
set_option maxHeartbeats 4000000 in
theorem withPlaces_ok (t : T4) (h : 1 ≤ t.o ∧ t.o ≤ 7) (pl : Int → Int) (L : Nat) (c : Option Addr) (d : Nat) (w : World) (hR : Rd .i64 w c (tab L pl)) (ha : 0 < kids t.o → 0 ≤ t.a ∧ t.a < L) (hb : 1 < kids t.o → 0 ≤ t.b ∧ t.b < L) :
    Calls Try.prog 92 #[.agg #[.int .i64 t.o, .int .i64 t.a, .int .i64 t.b, .int .i64 t.n], .slice c L d] w fun e w' => ∃ r : T4, r = mvT t pl ∧ e = .returned (.agg #[.int .i64 r.o, .int .i64 r.a, .int .i64 r.b, .int .i64 r.n]) ∧ Below w.heap.size w w' := by
  have q2 := build_t2
  have q3 := build_t3
  have hRl : ∀ i : Nat, i < L → ∃ b o, c = some ⟨b, o, none⟩ ∧ w.cell? ⟨b, o + i, none⟩ = some (.int .i64 (pl i)) := fun i hi => by
    rcases hR with hR | ⟨b, o, rfl, hca⟩
    · have := tab_len L pl; rw [hR] at this; simp at this; omega
    · have := hca i (by rw [tab_len]; exact hi)
      rw [tab_at pl hi] at this
      exact ⟨b, o, rfl, this⟩
  rcases mvT_ways h pl with ⟨h1, hr⟩ | ⟨h1, h2, hr⟩ | ⟨h1, h2, h3, hk, hr⟩ | ⟨h1, h2, h3, h4, hk, hr⟩ | ⟨h1, h2, h3, h4, hk, hr⟩
  · rw [hr]
    obtain ⟨o, a, b, n⟩ := t
    simp only at *
    subst h1
    clear hRl hR ha hb h
    go_enter Try.func92, Try.ntmps92
    go_wp2
    refine bodyPost_ret (v := .agg #[.int .i64 1, .int .i64 a, .int .i64 b, .int .i64 n]) (by simp [results, Try.results92, go_sem]) rfl ⟨⟨1, a, b, n⟩, rfl, rfl, ?_⟩
    repeat' (first | exact Below.refl _ _ | refine Below.alloc ?_ (by simp) _ | refine Below.setCell ?_ (by simp) _ | refine Below.drew ?_)
  · rw [hr]
    obtain ⟨o, a, b, n⟩ := t
    simp only at *
    subst h2
    clear hRl hR ha hb h
    go_enter Try.func92, Try.ntmps92
    go_wp2
    refine bodyPost_ret (v := .agg #[.int .i64 2, .int .i64 a, .int .i64 b, .int .i64 n]) (by simp [results, Try.results92, go_sem]) rfl ⟨⟨2, a, b, n⟩, rfl, rfl, ?_⟩
    repeat' (first | exact Below.refl _ _ | refine Below.alloc ?_ (by simp) _ | refine Below.setCell ?_ (by simp) _ | refine Below.drew ?_)
  · rw [hr]
    obtain ⟨o, a, b, n⟩ := t
    simp only at *
    obtain ⟨a0, a1⟩ := ha (by omega)
    obtain ⟨i, rfl⟩ : ∃ i : Nat, a = (i : Int) := ⟨a.toNat, by omega⟩
    obtain ⟨bl, off, rfl, p0⟩ := hRl i (by omega)
    subst h3
    clear hr hRl hR ha hb h hk
    generalize pl i = v at *
    go_enter Try.func92, Try.ntmps92
    have B := Below.refl w.heap.size w
    replace B := thenB B (belowA w (.cells #[.int .i64 6, .int .i64 i, .int .i64 b, .int .i64 n] 26))
    have VX := V.new w [.int .i64 6, .int .i64 i, .int .i64 b, .int .i64 n] 26
    replace VX := VX.kept (belowA (w.alloc (.cells #[.int .i64 6, .int .i64 i, .int .i64 b, .int .i64 n] 26)) (.cells #[.int .i64 0, .int .i64 0, .int .i64 0, .int .i64 0] 26))
    replace B := thenB B (belowA (w.alloc (.cells #[.int .i64 6, .int .i64 i, .int .i64 b, .int .i64 n] 26)) (.cells #[.int .i64 0, .int .i64 0, .int .i64 0, .int .i64 0] 26))
    have VR : V ((w.alloc (.cells #[.int .i64 6, .int .i64 i, .int .i64 b, .int .i64 n] 26)).alloc (.cells #[.int .i64 0, .int .i64 0, .int .i64 0, .int .i64 0] 26)) (w.heap.size + 1) [.int .i64 0, .int .i64 0, .int .i64 0, .int .i64 0] := V.newAt _ _ _ _ (by simp)
    obtain ⟨s_VX, f_VX, z_VX⟩ := VX.open
    obtain ⟨s_VR, f_VR, z_VR⟩ := VR.open
    have Bo := B
    have hbl : bl < w.heap.size := World.block_lt_of_cell? _ _ p0
    replace p0 := ((bcell (belowA2 w (.cells #[.int .i64 6, .int .i64 i, .int .i64 b, .int .i64 n] 26) (.cells #[.int .i64 0, .int .i64 0, .int .i64 0, .int .i64 0] 26))).1 bl (off + i) hbl).trans p0
    have hi2 : i < L := by omega
    clear s_VX f_VX z_VX s_VR f_VR z_VR
    have K : ∀ w' : World, Below ((w.alloc (.cells #[.int .i64 6, .int .i64 i, .int .i64 b, .int .i64 n] 26)).alloc (.cells #[.int .i64 0, .int .i64 0, .int .i64 0, .int .i64 0] 26)).heap.size ((w.alloc (.cells #[.int .i64 6, .int .i64 i, .int .i64 b, .int .i64 n] 26)).alloc (.cells #[.int .i64 0, .int .i64 0, .int .i64 0, .int .i64 0] 26)) w' → (w'.cell? ⟨w.heap.size, 0, none⟩ = some (.int .i64 6) ∧ w'.cell? ⟨w.heap.size, 1, none⟩ = some (.int .i64 i) ∧ w'.cell? ⟨w.heap.size, 2, none⟩ = some (.int .i64 b) ∧ w'.cell? ⟨w.heap.size, 3, none⟩ = some (.int .i64 n) ∧ w'.cell? ⟨bl, off + i, none⟩ = some (.int .i64 v)) := fun w' h => ⟨(VX.kept h).2.1 0 (by simp), (VX.kept h).2.1 1 (by simp), (VX.kept h).2.1 2 (by simp), (VX.kept h).2.1 3 (by simp), ((bcell h).1 _ _ (by simp only [World.size_alloc]; omega)).trans p0⟩
    have K := Hid.mk K
    obtain ⟨s_VX, f_VX, z_VX⟩ := VX.open
    obtain ⟨s_VR, f_VR, z_VR⟩ := VR.open
    go_wp2_with fail
    clear s_VX f_VX z_VX s_VR f_VR z_VR
    refine wp_region_held_drew (S := (fun w' => w'.cell? ⟨w.heap.size, 0, none⟩ = some (.int .i64 6) ∧ w'.cell? ⟨w.heap.size, 1, none⟩ = some (.int .i64 i) ∧ w'.cell? ⟨w.heap.size, 2, none⟩ = some (.int .i64 b) ∧ w'.cell? ⟨w.heap.size, 3, none⟩ = some (.int .i64 n) ∧ w'.cell? ⟨bl, off + i, none⟩ = some (.int .i64 v))) (by kernel_rfl) (K.out _ (Below.refl _ _).drew) (fun hHeld => ?_)
    refine wpAnyH_take (i := 0) (oi := _) (v := ?vg1u1) rfl (by kernel_rfl) (by kernel_rfl) (by kernel_rfl) (fun _ _ _ h => h) (Or.inl ⟨by rfl, ?hyg1u1⟩) hHeld ?restg1u1
    case hyg1u1 => (intro w hSw; (try dsimp only at hSw); go_simp; first | done | with_reducible rfl)
    try simp only [Act.put, List.getElem_toArray, List.getElem_cons_zero, List.setIfInBounds_toArray, List.set_cons_zero, List.set_cons_succ]
    refine wpAnyH_take (i := 1) (oi := _) (v := ?vg1u2) rfl (by kernel_rfl) (by kernel_rfl) (by kernel_rfl) (fun _ _ _ h => h) (Or.inl ⟨by rfl, ?hyg1u2⟩) hHeld ?restg1u2
    case hyg1u2 => (intro w hSw; (try dsimp only at hSw); go_simp; first | done | with_reducible rfl)
    try simp only [Act.put, List.getElem_toArray, List.getElem_cons_zero, List.getElem_cons_succ, List.setIfInBounds_toArray, List.set_cons_zero, List.set_cons_succ]
    refine wpAnyH_take (i := 2) (oi := _) (v := ?vg1u3) rfl (by kernel_rfl) (by kernel_rfl) (by kernel_rfl) (fun _ _ _ h => h) (Or.inl ⟨by rfl, ?hyg1u3⟩) hHeld ?restg1u3
    case hyg1u3 => (intro w hSw; (try dsimp only at hSw); go_simp; first | done | with_reducible rfl)
    try simp only [Act.put, List.getElem_toArray, List.getElem_cons_zero, List.getElem_cons_succ, List.setIfInBounds_toArray, List.set_cons_zero, List.set_cons_succ]
    refine wpAnyH_take (i := 3) (oi := _) (v := ?vg1u4) rfl (by kernel_rfl) (by kernel_rfl) (by kernel_rfl) (fun _ _ _ h => h) (Or.inl ⟨by rfl, ?hyg1u4⟩) hHeld ?restg1u4
    case hyg1u4 => (intro w hSw; (try dsimp only at hSw); go_simp; first | done | with_reducible rfl)
    try simp only [Act.put, List.getElem_toArray, List.getElem_cons_zero, List.getElem_cons_succ, List.setIfInBounds_toArray, List.set_cons_zero, List.set_cons_succ]
    refine wpAnyH_take (i := 4) (oi := _) (v := ?vg1u5) rfl (by kernel_rfl) (by kernel_rfl) (by kernel_rfl) (fun _ _ _ h => h) (Or.inl ⟨by rfl, ?hyg1u5⟩) hHeld ?restg1u5
    case hyg1u5 => (intro w hSw; (try dsimp only at hSw); go_simp; first | done | with_reducible rfl)
    try simp only [Act.put, List.getElem_toArray, List.getElem_cons_zero, List.getElem_cons_succ, List.setIfInBounds_toArray, List.set_cons_zero, List.set_cons_succ]
    refine wpAnyH_take (i := 5) (oi := _) (v := ?vg1u6) rfl (by kernel_rfl) (by kernel_rfl) (by kernel_rfl) (fun _ _ _ h => h) (Or.inl ⟨by rfl, ?hyg1u6⟩) hHeld ?restg1u6
    case hyg1u6 => (intro w hSw; (try dsimp only at hSw); go_simp; first | done | with_reducible rfl)
    try simp only [Act.put, List.getElem_toArray, List.getElem_cons_zero, List.getElem_cons_succ, List.setIfInBounds_toArray, List.set_cons_zero, List.set_cons_succ]
    refine wpAnyH_take (i := 6) (oi := _) (v := ?vg1u7) rfl (by kernel_rfl) (by kernel_rfl) (by kernel_rfl) (fun _ _ _ h => h) (Or.inl ⟨by rfl, ?hyg1u7⟩) hHeld ?restg1u7
    case hyg1u7 => (intro w hSw; (try dsimp only at hSw); go_simp; first | done | with_reducible rfl)
    try simp only [Act.put, List.getElem_toArray, List.getElem_cons_zero, List.getElem_cons_succ, List.setIfInBounds_toArray, List.set_cons_zero, List.set_cons_succ]
    refine wpAnyH_take (i := 7) (oi := _) (v := ?vg1u8) rfl (by kernel_rfl) (by kernel_rfl) (by kernel_rfl) (fun _ _ _ h => h) (Or.inl ⟨by rfl, ?hyg1u8⟩) hHeld ?restg1u8
    case hyg1u8 => (intro w hSw; (try dsimp only at hSw); go_simp; first | done | with_reducible rfl)
    try simp only [Act.put, List.getElem_toArray, List.getElem_cons_zero, List.getElem_cons_succ, List.setIfInBounds_toArray, List.set_cons_zero, List.set_cons_succ]
    have bacc : Below ((w.alloc (.cells #[.int .i64 6, .int .i64 i, .int .i64 b, .int .i64 n] 26)).alloc (.cells #[.int .i64 0, .int .i64 0, .int .i64 0, .int .i64 0] 26)).heap.size ((w.alloc (.cells #[.int .i64 6, .int .i64 i, .int .i64 b, .int .i64 n] 26)).alloc (.cells #[.int .i64 0, .int .i64 0, .int .i64 0, .int .i64 0] 26)) _ := (Below.refl _ _).drew
    replace VX := VX.kept bacc
    replace VR := VR.kept bacc
    replace B := thenB B bacc
    have Sz1 := bacc.size
    simp only [World.size_alloc] at Sz1
    have HT := Hid.mk VR.there
    have VF := VR.filled [.int .i64 6, .int .i64 v, .int .i64 0, .int .i64 0] rfl
    have KA : (World.setCells (((w.alloc (.cells #[.int .i64 6, .int .i64 i, .int .i64 b, .int .i64 n] 26)).alloc (.cells #[.int .i64 0, .int .i64 0, .int .i64 0, .int .i64 0] 26)).drew) (w.heap.size + 1) 0 [.int .i64 6, .int .i64 v, .int .i64 0, .int .i64 0]).cell? ⟨w.heap.size, 0, none⟩ = some (.int .i64 6) ∧ (World.setCells (((w.alloc (.cells #[.int .i64 6, .int .i64 i, .int .i64 b, .int .i64 n] 26)).alloc (.cells #[.int .i64 0, .int .i64 0, .int .i64 0, .int .i64 0] 26)).drew) (w.heap.size + 1) 0 [.int .i64 6, .int .i64 v, .int .i64 0, .int .i64 0]).cell? ⟨w.heap.size, 1, none⟩ = some (.int .i64 i) ∧ (World.setCells (((w.alloc (.cells #[.int .i64 6, .int .i64 i, .int .i64 b, .int .i64 n] 26)).alloc (.cells #[.int .i64 0, .int .i64 0, .int .i64 0, .int .i64 0] 26)).drew) (w.heap.size + 1) 0 [.int .i64 6, .int .i64 v, .int .i64 0, .int .i64 0]).cell? ⟨w.heap.size, 2, none⟩ = some (.int .i64 b) ∧ (World.setCells (((w.alloc (.cells #[.int .i64 6, .int .i64 i, .int .i64 b, .int .i64 n] 26)).alloc (.cells #[.int .i64 0, .int .i64 0, .int .i64 0, .int .i64 0] 26)).drew) (w.heap.size + 1) 0 [.int .i64 6, .int .i64 v, .int .i64 0, .int .i64 0]).cell? ⟨w.heap.size, 3, none⟩ = some (.int .i64 n) ∧ (World.setCells (((w.alloc (.cells #[.int .i64 6, .int .i64 i, .int .i64 b, .int .i64 n] 26)).alloc (.cells #[.int .i64 0, .int .i64 0, .int .i64 0, .int .i64 0] 26)).drew) (w.heap.size + 1) 0 [.int .i64 6, .int .i64 v, .int .i64 0, .int .i64 0]).cell? ⟨bl, off + i, none⟩ = some (.int .i64 v) := ⟨(VX.apart (B := w.heap.size + 1) (by first | omega | (simp; omega)) 0 [.int .i64 6, .int .i64 v, .int .i64 0, .int .i64 0]).2.1 0 (by simp), (VX.apart (B := w.heap.size + 1) (by first | omega | (simp; omega)) 0 [.int .i64 6, .int .i64 v, .int .i64 0, .int .i64 0]).2.1 1 (by simp), (VX.apart (B := w.heap.size + 1) (by first | omega | (simp; omega)) 0 [.int .i64 6, .int .i64 v, .int .i64 0, .int .i64 0]).2.1 2 (by simp), (VX.apart (B := w.heap.size + 1) (by first | omega | (simp; omega)) 0 [.int .i64 6, .int .i64 v, .int .i64 0, .int .i64 0]).2.1 3 (by simp), (cells_far (by omega) 0 [.int .i64 6, .int .i64 v, .int .i64 0, .int .i64 0]).trans (((bcell bacc).1 _ _ (by simp only [World.size_alloc]; omega)).trans p0)⟩
    have BR := belowCells B (show w.heap.size ≤ w.heap.size + 1 by (first | omega | (simp; done) | (simp; omega))) 0 [.int .i64 6, .int .i64 v, .int .i64 0, .int .i64 0]
    obtain ⟨w6, hw6⟩ : ∃ w6, World.setCells (((w.alloc (.cells #[.int .i64 6, .int .i64 i, .int .i64 b, .int .i64 n] 26)).alloc (.cells #[.int .i64 0, .int .i64 0, .int .i64 0, .int .i64 0] 26)).drew) (w.heap.size + 1) 0 [.int .i64 6, .int .i64 v, .int .i64 0, .int .i64 0] = w6 := ⟨_, rfl⟩
    rw [hw6] at VF BR KA
    replace hw6 := Hid.mk hw6
    replace VF := Hid.mk VF
    replace KA := Hid.mk KA
    replace BR := Hid.mk BR
    refine wpAnyH_ready (rs := [8]) (by kernel_rfl) (by simp) ?_
    refine AllReadyH.cons (o := _) rfl (fun K0 hK0 => ?_) AllReadyH.nil
    rw [if_pos (by rfl)]
    refine wp_stroke w6 26 _ _ rfl (w.heap.size + 1) 0 #[.int .i64 6, .int .i64 v, .int .i64 0, .int .i64 0] rfl rfl HT.out (by kernel_rfl) (by kernel_rfl) hw6.out ?_
    refine hK0.out _ _ KA.out (fun hHeld => ?_)
    clear hK0 K0 hHeld KA HT
    refine wpAnyH_done (by kernel_rfl) ?_ _
    go_wp2
    refine bodyPost_ret (v := .agg #[.int .i64 6, .int .i64 v, .int .i64 0, .int .i64 0]) (results_row Try.results92 _ _ (w.heap.size + 1) [.int .i64 6, .int .i64 v, .int .i64 0, .int .i64 0] _ rfl VF.out Try.underlying26 rfl (by kernel_rfl)) rfl ⟨⟨6, v, 0, 0⟩, rfl, rfl, BR.out⟩
  · rw [hr]
    obtain ⟨o, a, b, n⟩ := t
    simp only at *
    obtain ⟨a0, a1⟩ := ha (by omega)
    obtain ⟨i, rfl⟩ : ∃ i : Nat, a = (i : Int) := ⟨a.toNat, by omega⟩
    obtain ⟨bl, off, rfl, p0⟩ := hRl i (by omega)
    obtain ⟨b0, b1⟩ := hb (by omega)
    obtain ⟨j, rfl⟩ : ∃ j : Nat, b = (j : Int) := ⟨b.toNat, by omega⟩
    obtain ⟨bl', off', e9, p1⟩ := hRl j (by omega)
    simp only [Option.some.injEq, Addr.mk.injEq, and_true] at e9
    obtain ⟨rfl, rfl⟩ := e9
    subst h4
    clear hr hRl hR ha hb h hk
    generalize pl i = v at *
    generalize pl j = u at *
    have CB := Hid.mk (bothOf_ok v u)
    generalize min v u = v' at *
    generalize max v u = u' at *
    go_enter Try.func92, Try.ntmps92
    have B := Below.refl w.heap.size w
    replace B := thenB B (belowA w (.cells #[.int .i64 7, .int .i64 i, .int .i64 j, .int .i64 n] 26))
    have VX := V.new w [.int .i64 7, .int .i64 i, .int .i64 j, .int .i64 n] 26
    replace VX := VX.kept (belowA (w.alloc (.cells #[.int .i64 7, .int .i64 i, .int .i64 j, .int .i64 n] 26)) (.cells #[.int .i64 0, .int .i64 0, .int .i64 0, .int .i64 0] 26))
    replace B := thenB B (belowA (w.alloc (.cells #[.int .i64 7, .int .i64 i, .int .i64 j, .int .i64 n] 26)) (.cells #[.int .i64 0, .int .i64 0, .int .i64 0, .int .i64 0] 26))
    have VR : V ((w.alloc (.cells #[.int .i64 7, .int .i64 i, .int .i64 j, .int .i64 n] 26)).alloc (.cells #[.int .i64 0, .int .i64 0, .int .i64 0, .int .i64 0] 26)) (w.heap.size + 1) [.int .i64 0, .int .i64 0, .int .i64 0, .int .i64 0] := V.newAt _ _ _ _ (by simp)
    obtain ⟨s_VX, f_VX, z_VX⟩ := VX.open
    obtain ⟨s_VR, f_VR, z_VR⟩ := VR.open
    have Bo := B
    have hbl : bl < w.heap.size := World.block_lt_of_cell? _ _ p0
    replace p0 := ((bcell (belowA2 w (.cells #[.int .i64 7, .int .i64 i, .int .i64 j, .int .i64 n] 26) (.cells #[.int .i64 0, .int .i64 0, .int .i64 0, .int .i64 0] 26))).1 bl (off + i) hbl).trans p0
    replace p1 := ((bcell (belowA2 w (.cells #[.int .i64 7, .int .i64 i, .int .i64 j, .int .i64 n] 26) (.cells #[.int .i64 0, .int .i64 0, .int .i64 0, .int .i64 0] 26))).1 bl (off + j) hbl).trans p1
    have hi2 : i < L := by omega
    have hj2 : j < L := by omega
    clear s_VX f_VX z_VX s_VR f_VR z_VR
    have K : ∀ w' : World, Below ((w.alloc (.cells #[.int .i64 7, .int .i64 i, .int .i64 j, .int .i64 n] 26)).alloc (.cells #[.int .i64 0, .int .i64 0, .int .i64 0, .int .i64 0] 26)).heap.size ((w.alloc (.cells #[.int .i64 7, .int .i64 i, .int .i64 j, .int .i64 n] 26)).alloc (.cells #[.int .i64 0, .int .i64 0, .int .i64 0, .int .i64 0] 26)) w' → (w'.cell? ⟨w.heap.size, 0, none⟩ = some (.int .i64 7) ∧ w'.cell? ⟨w.heap.size, 1, none⟩ = some (.int .i64 i) ∧ w'.cell? ⟨w.heap.size, 2, none⟩ = some (.int .i64 j) ∧ w'.cell? ⟨w.heap.size, 3, none⟩ = some (.int .i64 n) ∧ w'.cell? ⟨bl, off + i, none⟩ = some (.int .i64 v) ∧ w'.cell? ⟨bl, off + j, none⟩ = some (.int .i64 u)) := fun w' h => ⟨(VX.kept h).2.1 0 (by simp), (VX.kept h).2.1 1 (by simp), (VX.kept h).2.1 2 (by simp), (VX.kept h).2.1 3 (by simp), ((bcell h).1 _ _ (by simp only [World.size_alloc]; omega)).trans p0, ((bcell h).1 _ _ (by simp only [World.size_alloc]; omega)).trans p1⟩
    have K := Hid.mk K
    obtain ⟨s_VX, f_VX, z_VX⟩ := VX.open
    obtain ⟨s_VR, f_VR, z_VR⟩ := VR.open
    go_wp2_with fail
    clear s_VX f_VX z_VX s_VR f_VR z_VR
    refine wp_region_held_drew (S := (fun w' => w'.cell? ⟨w.heap.size, 0, none⟩ = some (.int .i64 7) ∧ w'.cell? ⟨w.heap.size, 1, none⟩ = some (.int .i64 i) ∧ w'.cell? ⟨w.heap.size, 2, none⟩ = some (.int .i64 j) ∧ w'.cell? ⟨w.heap.size, 3, none⟩ = some (.int .i64 n) ∧ w'.cell? ⟨bl, off + i, none⟩ = some (.int .i64 v) ∧ w'.cell? ⟨bl, off + j, none⟩ = some (.int .i64 u))) (by kernel_rfl) (K.out _ (Below.refl _ _).drew) (fun hHeld => ?_)
    refine wpAnyH_take (i := 0) (oi := _) (v := ?vg21u1) rfl (by kernel_rfl) (by kernel_rfl) (by kernel_rfl) (fun _ _ _ h => h) (Or.inl ⟨by rfl, ?hyg21u1⟩) hHeld ?restg21u1
    case hyg21u1 => (intro w hSw; (try dsimp only at hSw); go_simp; first | done | with_reducible rfl)
    try simp only [Act.put, List.getElem_toArray, List.getElem_cons_zero, List.setIfInBounds_toArray, List.set_cons_zero, List.set_cons_succ]
    refine wpAnyH_take (i := 1) (oi := _) (v := ?vg21u2) rfl (by kernel_rfl) (by kernel_rfl) (by kernel_rfl) (fun _ _ _ h => h) (Or.inl ⟨by rfl, ?hyg21u2⟩) hHeld ?restg21u2
    case hyg21u2 => (intro w hSw; (try dsimp only at hSw); go_simp; first | done | with_reducible rfl)
    try simp only [Act.put, List.getElem_toArray, List.getElem_cons_zero, List.getElem_cons_succ, List.setIfInBounds_toArray, List.set_cons_zero, List.set_cons_succ]
    refine wpAnyH_take (i := 2) (oi := _) (v := ?vg21u3) rfl (by kernel_rfl) (by kernel_rfl) (by kernel_rfl) (fun _ _ _ h => h) (Or.inl ⟨by rfl, ?hyg21u3⟩) hHeld ?restg21u3
    case hyg21u3 => (intro w hSw; (try dsimp only at hSw); go_simp; first | done | with_reducible rfl)
    try simp only [Act.put, List.getElem_toArray, List.getElem_cons_zero, List.getElem_cons_succ, List.setIfInBounds_toArray, List.set_cons_zero, List.set_cons_succ]
    refine wpAnyH_take (i := 3) (oi := _) (v := ?vg21u4) rfl (by kernel_rfl) (by kernel_rfl) (by kernel_rfl) (fun _ _ _ h => h) (Or.inl ⟨by rfl, ?hyg21u4⟩) hHeld ?restg21u4
    case hyg21u4 => (intro w hSw; (try dsimp only at hSw); go_simp; first | done | with_reducible rfl)
    try simp only [Act.put, List.getElem_toArray, List.getElem_cons_zero, List.getElem_cons_succ, List.setIfInBounds_toArray, List.set_cons_zero, List.set_cons_succ]
    refine wpAnyH_take (i := 4) (oi := _) (v := ?vg21u5) rfl (by kernel_rfl) (by kernel_rfl) (by kernel_rfl) (fun _ _ _ h => h) (Or.inl ⟨by rfl, ?hyg21u5⟩) hHeld ?restg21u5
    case hyg21u5 => (intro w hSw; (try dsimp only at hSw); go_simp; first | done | with_reducible rfl)
    try simp only [Act.put, List.getElem_toArray, List.getElem_cons_zero, List.getElem_cons_succ, List.setIfInBounds_toArray, List.set_cons_zero, List.set_cons_succ]
    refine wpAnyH_take (i := 5) (oi := _) (v := ?vg21u6) rfl (by kernel_rfl) (by kernel_rfl) (by kernel_rfl) (fun _ _ _ h => h) (Or.inl ⟨by rfl, ?hyg21u6⟩) hHeld ?restg21u6
    case hyg21u6 => (intro w hSw; (try dsimp only at hSw); go_simp; first | done | with_reducible rfl)
    try simp only [Act.put, List.getElem_toArray, List.getElem_cons_zero, List.getElem_cons_succ, List.setIfInBounds_toArray, List.set_cons_zero, List.set_cons_succ]
    refine wpAnyH_take (i := 6) (oi := _) (v := ?vg21u7) rfl (by kernel_rfl) (by kernel_rfl) (by kernel_rfl) (fun _ _ _ h => h) (Or.inl ⟨by rfl, ?hyg21u7⟩) hHeld ?restg21u7
    case hyg21u7 => (intro w hSw; (try dsimp only at hSw); go_simp; first | done | with_reducible rfl)
    try simp only [Act.put, List.getElem_toArray, List.getElem_cons_zero, List.getElem_cons_succ, List.setIfInBounds_toArray, List.set_cons_zero, List.set_cons_succ]
    refine wpAnyH_take (i := 7) (oi := _) (v := ?vg21u8) rfl (by kernel_rfl) (by kernel_rfl) (by kernel_rfl) (fun _ _ _ h => h) (Or.inl ⟨by rfl, ?hyg21u8⟩) hHeld ?restg21u8
    case hyg21u8 => (intro w hSw; (try dsimp only at hSw); go_simp; first | done | with_reducible rfl)
    try simp only [Act.put, List.getElem_toArray, List.getElem_cons_zero, List.getElem_cons_succ, List.setIfInBounds_toArray, List.set_cons_zero, List.set_cons_succ]
    refine wpAnyH_take (i := 8) (oi := _) (v := ?vg21u9) rfl (by kernel_rfl) (by kernel_rfl) (by kernel_rfl) (fun _ _ _ h => h) (Or.inl ⟨by rfl, ?hyg21u9⟩) hHeld ?restg21u9
    case hyg21u9 => (intro w hSw; (try dsimp only at hSw); go_simp; first | done | with_reducible rfl)
    try simp only [Act.put, List.getElem_toArray, List.getElem_cons_zero, List.getElem_cons_succ, List.setIfInBounds_toArray, List.set_cons_zero, List.set_cons_succ]
    refine wpAnyH_take (i := 9) (oi := _) (v := ?vg21u10) rfl (by kernel_rfl) (by kernel_rfl) (by kernel_rfl) (fun _ _ _ h => h) (Or.inl ⟨by rfl, ?hyg21u10⟩) hHeld ?restg21u10
    case hyg21u10 => (intro w hSw; (try dsimp only at hSw); go_simp; first | done | with_reducible rfl)
    try simp only [Act.put, List.getElem_toArray, List.getElem_cons_zero, List.getElem_cons_succ, List.setIfInBounds_toArray, List.set_cons_zero, List.set_cons_succ]
    refine wpAnyH_ready (rs := [10]) (by kernel_rfl) (by simp) ?_
    refine AllReadyH.cons (o := _) rfl (fun K0 hK0 => ?_) AllReadyH.nil
    go_simp
    go_at_call 64
    refine (CB.out _).mono ?_
    rintro e wg21v11 ⟨rfl, bg21v11⟩
    refine hK0.out _ _ (K.out _ (thenB (Below.refl _ _).drew bg21v11)) (fun hHeld => ?_)
    clear hK0 K0
    try simp only [Act.put, List.getElem_toArray, List.getElem_cons_zero, List.getElem_cons_succ, List.setIfInBounds_toArray, List.set_cons_zero, List.set_cons_succ]
    have bacc : Below ((w.alloc (.cells #[.int .i64 7, .int .i64 i, .int .i64 j, .int .i64 n] 26)).alloc (.cells #[.int .i64 0, .int .i64 0, .int .i64 0, .int .i64 0] 26)).heap.size ((w.alloc (.cells #[.int .i64 7, .int .i64 i, .int .i64 j, .int .i64 n] 26)).alloc (.cells #[.int .i64 0, .int .i64 0, .int .i64 0, .int .i64 0] 26)) _ := (thenB (Below.refl _ _).drew bg21v11)
    replace VX := VX.kept bacc
    replace VR := VR.kept bacc
    replace B := thenB B bacc
    have Sz21 := bacc.size
    simp only [World.size_alloc] at Sz21
    have HT := Hid.mk VR.there
    have VF := VR.filled [.int .i64 7, .int .i64 v', .int .i64 u', .int .i64 0] rfl
    have KA : (World.setCells wg21v11 (w.heap.size + 1) 0 [.int .i64 7, .int .i64 v', .int .i64 u', .int .i64 0]).cell? ⟨w.heap.size, 0, none⟩ = some (.int .i64 7) ∧ (World.setCells wg21v11 (w.heap.size + 1) 0 [.int .i64 7, .int .i64 v', .int .i64 u', .int .i64 0]).cell? ⟨w.heap.size, 1, none⟩ = some (.int .i64 i) ∧ (World.setCells wg21v11 (w.heap.size + 1) 0 [.int .i64 7, .int .i64 v', .int .i64 u', .int .i64 0]).cell? ⟨w.heap.size, 2, none⟩ = some (.int .i64 j) ∧ (World.setCells wg21v11 (w.heap.size + 1) 0 [.int .i64 7, .int .i64 v', .int .i64 u', .int .i64 0]).cell? ⟨w.heap.size, 3, none⟩ = some (.int .i64 n) ∧ (World.setCells wg21v11 (w.heap.size + 1) 0 [.int .i64 7, .int .i64 v', .int .i64 u', .int .i64 0]).cell? ⟨bl, off + i, none⟩ = some (.int .i64 v) ∧ (World.setCells wg21v11 (w.heap.size + 1) 0 [.int .i64 7, .int .i64 v', .int .i64 u', .int .i64 0]).cell? ⟨bl, off + j, none⟩ = some (.int .i64 u) := ⟨(VX.apart (B := w.heap.size + 1) (by first | omega | (simp; omega)) 0 [.int .i64 7, .int .i64 v', .int .i64 u', .int .i64 0]).2.1 0 (by simp), (VX.apart (B := w.heap.size + 1) (by first | omega | (simp; omega)) 0 [.int .i64 7, .int .i64 v', .int .i64 u', .int .i64 0]).2.1 1 (by simp), (VX.apart (B := w.heap.size + 1) (by first | omega | (simp; omega)) 0 [.int .i64 7, .int .i64 v', .int .i64 u', .int .i64 0]).2.1 2 (by simp), (VX.apart (B := w.heap.size + 1) (by first | omega | (simp; omega)) 0 [.int .i64 7, .int .i64 v', .int .i64 u', .int .i64 0]).2.1 3 (by simp), (cells_far (by omega) 0 [.int .i64 7, .int .i64 v', .int .i64 u', .int .i64 0]).trans (((bcell bacc).1 _ _ (by simp only [World.size_alloc]; omega)).trans p0), (cells_far (by omega) 0 [.int .i64 7, .int .i64 v', .int .i64 u', .int .i64 0]).trans (((bcell bacc).1 _ _ (by simp only [World.size_alloc]; omega)).trans p1)⟩
    have BR := belowCells B (show w.heap.size ≤ w.heap.size + 1 by (first | omega | (simp; done) | (simp; omega))) 0 [.int .i64 7, .int .i64 v', .int .i64 u', .int .i64 0]
    obtain ⟨w6, hw6⟩ : ∃ w6, World.setCells wg21v11 (w.heap.size + 1) 0 [.int .i64 7, .int .i64 v', .int .i64 u', .int .i64 0] = w6 := ⟨_, rfl⟩
    rw [hw6] at VF BR KA
    replace hw6 := Hid.mk hw6
    replace VF := Hid.mk VF
    replace KA := Hid.mk KA
    replace BR := Hid.mk BR
    refine wpAnyH_ready (rs := [11]) (by kernel_rfl) (by simp) ?_
    refine AllReadyH.cons (o := _) rfl (fun K0 hK0 => ?_) AllReadyH.nil
    rw [if_pos (by rfl)]
    refine wp_stroke w6 26 _ _ rfl (w.heap.size + 1) 0 #[.int .i64 7, .int .i64 v', .int .i64 u', .int .i64 0] rfl rfl HT.out (by kernel_rfl) (by kernel_rfl) hw6.out ?_
    refine hK0.out _ _ KA.out (fun hHeld => ?_)
    clear hK0 K0 hHeld KA HT
    refine wpAnyH_done (by kernel_rfl) ?_ _
    go_wp2
    refine bodyPost_ret (v := .agg #[.int .i64 7, .int .i64 v', .int .i64 u', .int .i64 0]) (results_row Try.results92 _ _ (w.heap.size + 1) [.int .i64 7, .int .i64 v', .int .i64 u', .int .i64 0] _ rfl VF.out Try.underlying26 rfl (by kernel_rfl)) rfl ⟨⟨7, v', u', 0⟩, rfl, rfl, BR.out⟩
  · rw [hr]
    obtain ⟨o, a, b, n⟩ := t
    simp only at *
    obtain ⟨a0, a1⟩ := ha (by omega)
    obtain ⟨i, rfl⟩ : ∃ i : Nat, a = (i : Int) := ⟨a.toNat, by omega⟩
    obtain ⟨bl, off, rfl, p0⟩ := hRl i (by omega)
    obtain ⟨b0, b1⟩ := hb (by omega)
    obtain ⟨j, rfl⟩ : ∃ j : Nat, b = (j : Int) := ⟨b.toNat, by omega⟩
    obtain ⟨bl', off', e9, p1⟩ := hRl j (by omega)
    simp only [Option.some.injEq, Addr.mk.injEq, and_true] at e9
    obtain ⟨rfl, rfl⟩ := e9
    clear hr hRl hR ha hb h hk
    generalize pl i = v at *
    generalize pl j = u at *
    go_enter Try.func92, Try.ntmps92
    have B := Below.refl w.heap.size w
    replace B := thenB B (belowA w (.cells #[.int .i64 o, .int .i64 i, .int .i64 j, .int .i64 n] 26))
    have VX := V.new w [.int .i64 o, .int .i64 i, .int .i64 j, .int .i64 n] 26
    replace VX := VX.kept (belowA (w.alloc (.cells #[.int .i64 o, .int .i64 i, .int .i64 j, .int .i64 n] 26)) (.cells #[.int .i64 0, .int .i64 0, .int .i64 0, .int .i64 0] 26))
    replace B := thenB B (belowA (w.alloc (.cells #[.int .i64 o, .int .i64 i, .int .i64 j, .int .i64 n] 26)) (.cells #[.int .i64 0, .int .i64 0, .int .i64 0, .int .i64 0] 26))
    have VR : V ((w.alloc (.cells #[.int .i64 o, .int .i64 i, .int .i64 j, .int .i64 n] 26)).alloc (.cells #[.int .i64 0, .int .i64 0, .int .i64 0, .int .i64 0] 26)) (w.heap.size + 1) [.int .i64 0, .int .i64 0, .int .i64 0, .int .i64 0] := V.newAt _ _ _ _ (by simp)
    obtain ⟨s_VX, f_VX, z_VX⟩ := VX.open
    obtain ⟨s_VR, f_VR, z_VR⟩ := VR.open
    have Bo := B
    have hbl : bl < w.heap.size := World.block_lt_of_cell? _ _ p0
    replace p0 := ((bcell (belowA2 w (.cells #[.int .i64 o, .int .i64 i, .int .i64 j, .int .i64 n] 26) (.cells #[.int .i64 0, .int .i64 0, .int .i64 0, .int .i64 0] 26))).1 bl (off + i) hbl).trans p0
    replace p1 := ((bcell (belowA2 w (.cells #[.int .i64 o, .int .i64 i, .int .i64 j, .int .i64 n] 26) (.cells #[.int .i64 0, .int .i64 0, .int .i64 0, .int .i64 0] 26))).1 bl (off + j) hbl).trans p1
    have hi2 : i < L := by omega
    have hj2 : j < L := by omega
    clear s_VX f_VX z_VX s_VR f_VR z_VR
    have K : ∀ w' : World, Below ((w.alloc (.cells #[.int .i64 o, .int .i64 i, .int .i64 j, .int .i64 n] 26)).alloc (.cells #[.int .i64 0, .int .i64 0, .int .i64 0, .int .i64 0] 26)).heap.size ((w.alloc (.cells #[.int .i64 o, .int .i64 i, .int .i64 j, .int .i64 n] 26)).alloc (.cells #[.int .i64 0, .int .i64 0, .int .i64 0, .int .i64 0] 26)) w' → (w'.cell? ⟨w.heap.size, 0, none⟩ = some (.int .i64 o) ∧ w'.cell? ⟨w.heap.size, 1, none⟩ = some (.int .i64 i) ∧ w'.cell? ⟨w.heap.size, 2, none⟩ = some (.int .i64 j) ∧ w'.cell? ⟨w.heap.size, 3, none⟩ = some (.int .i64 n) ∧ w'.cell? ⟨bl, off + i, none⟩ = some (.int .i64 v) ∧ w'.cell? ⟨bl, off + j, none⟩ = some (.int .i64 u)) := fun w' h => ⟨(VX.kept h).2.1 0 (by simp), (VX.kept h).2.1 1 (by simp), (VX.kept h).2.1 2 (by simp), (VX.kept h).2.1 3 (by simp), ((bcell h).1 _ _ (by simp only [World.size_alloc]; omega)).trans p0, ((bcell h).1 _ _ (by simp only [World.size_alloc]; omega)).trans p1⟩
    have K := Hid.mk K
    obtain ⟨s_VX, f_VX, z_VX⟩ := VX.open
    obtain ⟨s_VR, f_VR, z_VR⟩ := VR.open
    go_wp2_with fail
    clear s_VX f_VX z_VX s_VR f_VR z_VR
    refine wp_region_held_drew (S := (fun w' => w'.cell? ⟨w.heap.size, 0, none⟩ = some (.int .i64 o) ∧ w'.cell? ⟨w.heap.size, 1, none⟩ = some (.int .i64 i) ∧ w'.cell? ⟨w.heap.size, 2, none⟩ = some (.int .i64 j) ∧ w'.cell? ⟨w.heap.size, 3, none⟩ = some (.int .i64 n) ∧ w'.cell? ⟨bl, off + i, none⟩ = some (.int .i64 v) ∧ w'.cell? ⟨bl, off + j, none⟩ = some (.int .i64 u))) (by kernel_rfl) (K.out _ (Below.refl _ _).drew) (fun hHeld => ?_)
    refine wpAnyH_take (i := 0) (oi := _) (v := ?vg41u1) rfl (by kernel_rfl) (by kernel_rfl) (by kernel_rfl) (fun _ _ _ h => h) (Or.inl ⟨by rfl, ?hyg41u1⟩) hHeld ?restg41u1
    case hyg41u1 => (intro w hSw; (try dsimp only at hSw); go_simp; first | done | with_reducible rfl)
    try simp only [Act.put, List.getElem_toArray, List.getElem_cons_zero, List.setIfInBounds_toArray, List.set_cons_zero, List.set_cons_succ]
    refine wpAnyH_take (i := 1) (oi := _) (v := ?vg41u2) rfl (by kernel_rfl) (by kernel_rfl) (by kernel_rfl) (fun _ _ _ h => h) (Or.inl ⟨by rfl, ?hyg41u2⟩) hHeld ?restg41u2
    case hyg41u2 => (intro w hSw; (try dsimp only at hSw); go_simp; first | done | with_reducible rfl)
    try simp only [Act.put, List.getElem_toArray, List.getElem_cons_zero, List.getElem_cons_succ, List.setIfInBounds_toArray, List.set_cons_zero, List.set_cons_succ]
    refine wpAnyH_take (i := 2) (oi := _) (v := ?vg41u3) rfl (by kernel_rfl) (by kernel_rfl) (by kernel_rfl) (fun _ _ _ h => h) (Or.inl ⟨by rfl, ?hyg41u3⟩) hHeld ?restg41u3
    case hyg41u3 => (intro w hSw; (try dsimp only at hSw); go_simp; first | done | with_reducible rfl)
    try simp only [Act.put, List.getElem_toArray, List.getElem_cons_zero, List.getElem_cons_succ, List.setIfInBounds_toArray, List.set_cons_zero, List.set_cons_succ]
    refine wpAnyH_take (i := 3) (oi := _) (v := ?vg41u4) rfl (by kernel_rfl) (by kernel_rfl) (by kernel_rfl) (fun _ _ _ h => h) (Or.inl ⟨by rfl, ?hyg41u4⟩) hHeld ?restg41u4
    case hyg41u4 => (intro w hSw; (try dsimp only at hSw); go_simp; first | done | with_reducible rfl)
    try simp only [Act.put, List.getElem_toArray, List.getElem_cons_zero, List.getElem_cons_succ, List.setIfInBounds_toArray, List.set_cons_zero, List.set_cons_succ]
    refine wpAnyH_take (i := 4) (oi := _) (v := ?vg41u5) rfl (by kernel_rfl) (by kernel_rfl) (by kernel_rfl) (fun _ _ _ h => h) (Or.inl ⟨by rfl, ?hyg41u5⟩) hHeld ?restg41u5
    case hyg41u5 => (intro w hSw; (try dsimp only at hSw); go_simp; first | done | with_reducible rfl)
    try simp only [Act.put, List.getElem_toArray, List.getElem_cons_zero, List.getElem_cons_succ, List.setIfInBounds_toArray, List.set_cons_zero, List.set_cons_succ]
    refine wpAnyH_take (i := 5) (oi := _) (v := ?vg41u6) rfl (by kernel_rfl) (by kernel_rfl) (by kernel_rfl) (fun _ _ _ h => h) (Or.inl ⟨by rfl, ?hyg41u6⟩) hHeld ?restg41u6
    case hyg41u6 => (intro w hSw; (try dsimp only at hSw); go_simp; first | done | with_reducible rfl)
    try simp only [Act.put, List.getElem_toArray, List.getElem_cons_zero, List.getElem_cons_succ, List.setIfInBounds_toArray, List.set_cons_zero, List.set_cons_succ]
    refine wpAnyH_take (i := 6) (oi := _) (v := ?vg41u7) rfl (by kernel_rfl) (by kernel_rfl) (by kernel_rfl) (fun _ _ _ h => h) (Or.inl ⟨by rfl, ?hyg41u7⟩) hHeld ?restg41u7
    case hyg41u7 => (intro w hSw; (try dsimp only at hSw); go_simp; first | done | with_reducible rfl)
    try simp only [Act.put, List.getElem_toArray, List.getElem_cons_zero, List.getElem_cons_succ, List.setIfInBounds_toArray, List.set_cons_zero, List.set_cons_succ]
    refine wpAnyH_take (i := 7) (oi := _) (v := ?vg41u8) rfl (by kernel_rfl) (by kernel_rfl) (by kernel_rfl) (fun _ _ _ h => h) (Or.inl ⟨by rfl, ?hyg41u8⟩) hHeld ?restg41u8
    case hyg41u8 => (intro w hSw; (try dsimp only at hSw); go_simp; first | done | with_reducible rfl)
    try simp only [Act.put, List.getElem_toArray, List.getElem_cons_zero, List.getElem_cons_succ, List.setIfInBounds_toArray, List.set_cons_zero, List.set_cons_succ]
    refine wpAnyH_take (i := 8) (oi := _) (v := ?vg41u9) rfl (by kernel_rfl) (by kernel_rfl) (by kernel_rfl) (fun _ _ _ h => h) (Or.inl ⟨by rfl, ?hyg41u9⟩) hHeld ?restg41u9
    case hyg41u9 => (intro w hSw; (try dsimp only at hSw); go_simp; first | done | with_reducible rfl)
    try simp only [Act.put, List.getElem_toArray, List.getElem_cons_zero, List.getElem_cons_succ, List.setIfInBounds_toArray, List.set_cons_zero, List.set_cons_succ]
    refine wpAnyH_take (i := 9) (oi := _) (v := ?vg41u10) rfl (by kernel_rfl) (by kernel_rfl) (by kernel_rfl) (fun _ _ _ h => h) (Or.inl ⟨by rfl, ?hyg41u10⟩) hHeld ?restg41u10
    case hyg41u10 => (intro w hSw; (try dsimp only at hSw); go_simp; first | done | with_reducible rfl)
    try simp only [Act.put, List.getElem_toArray, List.getElem_cons_zero, List.getElem_cons_succ, List.setIfInBounds_toArray, List.set_cons_zero, List.set_cons_succ]
    refine wpAnyH_take (i := 10) (oi := _) (v := ?vg41u11) rfl (by kernel_rfl) (by kernel_rfl) (by kernel_rfl) (fun _ _ _ h => h) (Or.inl ⟨by rfl, ?hyg41u11⟩) hHeld ?restg41u11
    case hyg41u11 => (intro w hSw; (try dsimp only at hSw); go_simp; first | done | with_reducible rfl)
    try simp only [Act.put, List.getElem_toArray, List.getElem_cons_zero, List.getElem_cons_succ, List.setIfInBounds_toArray, List.set_cons_zero, List.set_cons_succ]
    refine wpAnyH_take (i := 11) (oi := _) (v := ?vg41u12) rfl (by kernel_rfl) (by kernel_rfl) (by kernel_rfl) (fun _ _ _ h => h) (Or.inl ⟨by rfl, ?hyg41u12⟩) hHeld ?restg41u12
    case hyg41u12 => (intro w hSw; (try dsimp only at hSw); go_simp; first | done | with_reducible rfl)
    try simp only [Act.put, List.getElem_toArray, List.getElem_cons_zero, List.getElem_cons_succ, List.setIfInBounds_toArray, List.set_cons_zero, List.set_cons_succ]
    refine wpAnyH_take (i := 12) (oi := _) (v := ?vg41u13) rfl (by kernel_rfl) (by kernel_rfl) (by kernel_rfl) (fun _ _ _ h => h) (Or.inl ⟨by rfl, ?hyg41u13⟩) hHeld ?restg41u13
    case hyg41u13 => (intro w hSw; (try dsimp only at hSw); go_simp; first | done | with_reducible rfl)
    try simp only [Act.put, List.getElem_toArray, List.getElem_cons_zero, List.getElem_cons_succ, List.setIfInBounds_toArray, List.set_cons_zero, List.set_cons_succ]
    have bacc : Below ((w.alloc (.cells #[.int .i64 o, .int .i64 i, .int .i64 j, .int .i64 n] 26)).alloc (.cells #[.int .i64 0, .int .i64 0, .int .i64 0, .int .i64 0] 26)).heap.size ((w.alloc (.cells #[.int .i64 o, .int .i64 i, .int .i64 j, .int .i64 n] 26)).alloc (.cells #[.int .i64 0, .int .i64 0, .int .i64 0, .int .i64 0] 26)) _ := (Below.refl _ _).drew
    replace VX := VX.kept bacc
    replace VR := VR.kept bacc
    replace B := thenB B bacc
    have Sz41 := bacc.size
    simp only [World.size_alloc] at Sz41
    have HT := Hid.mk VR.there
    have VF := VR.filled [.int .i64 o, .int .i64 v, .int .i64 u, .int .i64 0] rfl
    have KA : (World.setCells (((w.alloc (.cells #[.int .i64 o, .int .i64 i, .int .i64 j, .int .i64 n] 26)).alloc (.cells #[.int .i64 0, .int .i64 0, .int .i64 0, .int .i64 0] 26)).drew) (w.heap.size + 1) 0 [.int .i64 o, .int .i64 v, .int .i64 u, .int .i64 0]).cell? ⟨w.heap.size, 0, none⟩ = some (.int .i64 o) ∧ (World.setCells (((w.alloc (.cells #[.int .i64 o, .int .i64 i, .int .i64 j, .int .i64 n] 26)).alloc (.cells #[.int .i64 0, .int .i64 0, .int .i64 0, .int .i64 0] 26)).drew) (w.heap.size + 1) 0 [.int .i64 o, .int .i64 v, .int .i64 u, .int .i64 0]).cell? ⟨w.heap.size, 1, none⟩ = some (.int .i64 i) ∧ (World.setCells (((w.alloc (.cells #[.int .i64 o, .int .i64 i, .int .i64 j, .int .i64 n] 26)).alloc (.cells #[.int .i64 0, .int .i64 0, .int .i64 0, .int .i64 0] 26)).drew) (w.heap.size + 1) 0 [.int .i64 o, .int .i64 v, .int .i64 u, .int .i64 0]).cell? ⟨w.heap.size, 2, none⟩ = some (.int .i64 j) ∧ (World.setCells (((w.alloc (.cells #[.int .i64 o, .int .i64 i, .int .i64 j, .int .i64 n] 26)).alloc (.cells #[.int .i64 0, .int .i64 0, .int .i64 0, .int .i64 0] 26)).drew) (w.heap.size + 1) 0 [.int .i64 o, .int .i64 v, .int .i64 u, .int .i64 0]).cell? ⟨w.heap.size, 3, none⟩ = some (.int .i64 n) ∧ (World.setCells (((w.alloc (.cells #[.int .i64 o, .int .i64 i, .int .i64 j, .int .i64 n] 26)).alloc (.cells #[.int .i64 0, .int .i64 0, .int .i64 0, .int .i64 0] 26)).drew) (w.heap.size + 1) 0 [.int .i64 o, .int .i64 v, .int .i64 u, .int .i64 0]).cell? ⟨bl, off + i, none⟩ = some (.int .i64 v) ∧ (World.setCells (((w.alloc (.cells #[.int .i64 o, .int .i64 i, .int .i64 j, .int .i64 n] 26)).alloc (.cells #[.int .i64 0, .int .i64 0, .int .i64 0, .int .i64 0] 26)).drew) (w.heap.size + 1) 0 [.int .i64 o, .int .i64 v, .int .i64 u, .int .i64 0]).cell? ⟨bl, off + j, none⟩ = some (.int .i64 u) := ⟨(VX.apart (B := w.heap.size + 1) (by first | omega | (simp; omega)) 0 [.int .i64 o, .int .i64 v, .int .i64 u, .int .i64 0]).2.1 0 (by simp), (VX.apart (B := w.heap.size + 1) (by first | omega | (simp; omega)) 0 [.int .i64 o, .int .i64 v, .int .i64 u, .int .i64 0]).2.1 1 (by simp), (VX.apart (B := w.heap.size + 1) (by first | omega | (simp; omega)) 0 [.int .i64 o, .int .i64 v, .int .i64 u, .int .i64 0]).2.1 2 (by simp), (VX.apart (B := w.heap.size + 1) (by first | omega | (simp; omega)) 0 [.int .i64 o, .int .i64 v, .int .i64 u, .int .i64 0]).2.1 3 (by simp), (cells_far (by omega) 0 [.int .i64 o, .int .i64 v, .int .i64 u, .int .i64 0]).trans (((bcell bacc).1 _ _ (by simp only [World.size_alloc]; omega)).trans p0), (cells_far (by omega) 0 [.int .i64 o, .int .i64 v, .int .i64 u, .int .i64 0]).trans (((bcell bacc).1 _ _ (by simp only [World.size_alloc]; omega)).trans p1)⟩
    have BR := belowCells B (show w.heap.size ≤ w.heap.size + 1 by (first | omega | (simp; done) | (simp; omega))) 0 [.int .i64 o, .int .i64 v, .int .i64 u, .int .i64 0]
    obtain ⟨w6, hw6⟩ : ∃ w6, World.setCells (((w.alloc (.cells #[.int .i64 o, .int .i64 i, .int .i64 j, .int .i64 n] 26)).alloc (.cells #[.int .i64 0, .int .i64 0, .int .i64 0, .int .i64 0] 26)).drew) (w.heap.size + 1) 0 [.int .i64 o, .int .i64 v, .int .i64 u, .int .i64 0] = w6 := ⟨_, rfl⟩
    rw [hw6] at VF BR KA
    replace hw6 := Hid.mk hw6
    replace VF := Hid.mk VF
    replace KA := Hid.mk KA
    replace BR := Hid.mk BR
    refine wpAnyH_ready (rs := [13]) (by kernel_rfl) (by simp) ?_
    refine AllReadyH.cons (o := _) rfl (fun K0 hK0 => ?_) AllReadyH.nil
    rw [if_pos (by rfl)]
    refine wp_stroke w6 26 _ _ rfl (w.heap.size + 1) 0 #[.int .i64 o, .int .i64 v, .int .i64 u, .int .i64 0] rfl rfl HT.out (by kernel_rfl) (by kernel_rfl) hw6.out ?_
    refine hK0.out _ _ KA.out (fun hHeld => ?_)
    clear hK0 K0 hHeld KA HT
    refine wpAnyH_done (by kernel_rfl) ?_ _
    go_wp2
    refine bodyPost_ret (v := .agg #[.int .i64 o, .int .i64 v, .int .i64 u, .int .i64 0]) (results_row Try.results92 _ _ (w.heap.size + 1) [.int .i64 o, .int .i64 v, .int .i64 u, .int .i64 0] _ rfl VF.out Try.underlying26 rfl (by kernel_rfl)) rfl ⟨⟨o, v, u, 0⟩, rfl, rfl, BR.out⟩

end Go.Proofs.Ytedippfnlaiapaa

/- takeOver. -/
namespace Go.Proofs.Ytedippfnlaiapaa
open Go.RowKit

theorem tab_cell {w : World} {Q L : Nat} {pl : Int → Int} (h : Own .i64 2 w Q (some ⟨Q, 0, none⟩) L (tab L pl)) {i : Nat} (hi : i < L) : w.cell? ⟨Q, i, none⟩ = some (.int .i64 (pl i)) := by
  rcases h.rd with h1 | ⟨b3, o3, e3, h1⟩
  · have := tab_len L pl; rw [h1] at this; simp at this; omega
  · simp only [Option.some.injEq, Addr.mk.injEq, and_true] at e3
    obtain ⟨rfl, rfl⟩ := e3
    have h2 := h1 i (by rw [tab_len]; exact hi)
    rw [Nat.zero_add, tab_at pl hi] at h2
    exact h2

theorem tab_frozen {w : World} {Q L : Nat} {pl : Int → Int} (h : Own .i64 2 w Q (some ⟨Q, 0, none⟩) L (tab L pl)) (i : Nat) : w.frozen? ⟨Q, i, none⟩ = false := (h.row (tab_len L pl)).frozenAt i

theorem tab_store {w : World} {Q L : Nat} {pl : Int → Int} (h : Own .i64 2 w Q (some ⟨Q, 0, none⟩) L (tab L pl)) (i : Nat) (v : Int) : Own .i64 2 (w.setCell ⟨Q, i, none⟩ (.int .i64 v)) Q (some ⟨Q, 0, none⟩) L (tab L (updP pl i v)) := by
  have hs := (h.row (tab_len L pl)).stored i (.int .i64 v)
  rw [set_map, tab_set] at hs
  exact Own.mk hs.1 (tab_len _ _)

/-- What a call of 'takeOver' leaves. -/
def TkOver (M : Mv) (m base p g : Nat) (c : Option Addr) (w : World) (e : Ending) (w' : World) : Prop :=
  ∃ c' d', e = .returned (.agg #[.int .i64 M.c, .int .i64 (if M.c = 0 then M.pl m else 0)]) ∧ Bk w' base p g c' d' M.tb ∧ Sm (BkX p g c) w w' ∧ ∀ k, BkX p g c' k → k < w.heap.size → BkX p g c k

set_option maxRecDepth 20000 in
set_option maxHeartbeats 8000000 in
theorem takeOver_ok (base p g : Nat) (c : Option Addr) (d : Nat) (xs : List T4) (base' ps gs : Nat) (cs : Option Addr) (ds : Nat) (fr : List T4) (n m : Nat) (w : World)
    (H : Bk w base p g c d xs) (Hs : Bk w base' ps gs cs ds fr) (hn : fr.length = n) (hv : tfC fr = 0) (hok : ∀ t ∈ fr, okT t) (hm : m < n) (hl : xs.length ≤ 400) (hd : ∀ k, BkX p g c k → ¬ BkX ps gs cs k) (M : Mv) (hM : mvR fr (prL fr m) (fun _ => 0) xs = M) :
    Calls Try.prog 79 #[.pointer (some ⟨p, 0, none⟩), .pointer (some ⟨ps, 0, none⟩), .int .i64 m] w (TkOver M m base p g c w) := by
  have q2 := build_irv
  have hn4 : n ≤ 400 := by have := (tfC_zero hv).1; omega
  have CP := Hid.mk (fun w' h => partsOf_ok base' ps gs cs ds fr n m w' h hn hv hok hm)
  have HAh := Hid.mk (tfC_ahead hv)
  have HV := Hid.mk hv
  have HOK := Hid.mk hok
  have HD := Hid.mk hd
  have HLT := Hid.mk H.lt
  have HLS := Hid.mk Hs.lt
  have HML := Hid.mk (show ∀ z ∈ prL fr m, 0 ≤ z ∧ z ≤ m from fun z hz => prL_range hz)
  have hlz := prL_len fr m
  obtain ⟨zs, hzs⟩ : ∃ zs, prL fr m = zs := ⟨_, rfl⟩
  rw [hzs] at hM CP HML hlz
  have hM0 : Hid (mvR fr (zs.drop 0) (fun _ => 0) xs = M ∧ PlOk (fun _ => 0) ∧ xs.length ≤ 400) := Hid.mk ⟨by rw [List.drop_zero]; exact hM, PlOk.zero, hl⟩
  have hm1 : (m : Int) < (n : Int) := by omega
  have HN := Hid.mk hn
  have VS := Hs.v
  rw [hn] at VS
  obtain ⟨i0, hi, hz0, hz1, hz2⟩ := info_parts Try.infoI64
  clear hv hok hd hM hzs hl
  go_enter Try.func79, Try.ntmps79
  have B := Below.refl w.heap.size w
  replace VS := VS.kept (belowA w (.cells #[.int .i64 0, .int .i64 0] 53))
  replace H := H.kept (belowA w (.cells #[.int .i64 0, .int .i64 0] 53))
  replace Hs := Hs.kept (belowA w (.cells #[.int .i64 0, .int .i64 0] 53))
  replace B := thenB B (belowA w (.cells #[.int .i64 0, .int .i64 0] 53))
  have VR := V.new w [.int .i64 0, .int .i64 0] 53
  obtain ⟨s_VS, f_VS, z_VS⟩ := VS.open
  obtain ⟨s_VR, f_VR, z_VR⟩ := VR.open
  have Bo := B
  go_wp2_with (at_make; go_loud (refine wpList_make_full _ rfl _ _ 46 rfl (w.alloc (.cells #[.int .i64 0, .int .i64 0] 53)).heap.size 2 i0 (.int .i64 0) 1 Try.underlying46 hi hz0 hz1 .i64 .i64 _ _ n rfl rfl (by omega) (by omega) (by rw [hz2]; omega) (by unfold maxLen; omega) (Nat.le_refl _) ?_))
  intro w2 hown hgrow
  have O0 : Own .i64 2 w2 (w.alloc (.cells #[.int .i64 0, .int .i64 0] 53)).heap.size (some ⟨(w.alloc (.cells #[.int .i64 0, .int .i64 0] 53)).heap.size, 0, none⟩) n (tab n (fun _ => 0)) := by
    refine Own.mk ?_ (tab_len _ _)
    rw [tab_zero]
    simpa [toList_madeCells_one] using hown
  have bg : Below (w.alloc (.cells #[.int .i64 0, .int .i64 0] 53)).heap.size (w.alloc (.cells #[.int .i64 0, .int .i64 0] 53)) w2 := (Sm.grown (X := fun _ => False) hgrow (fun k e => by cases e)).below' (Below.refl _ _) (Nat.le_refl _) (fun k e => e.elim)
  clear s_VS f_VS z_VS s_VR f_VR z_VR
  replace VS := VS.kept bg
  replace VR := VR.kept bg
  replace H := H.kept bg
  replace Hs := Hs.kept bg
  replace B := thenB B bg
  have hQ1 : (w.alloc (.cells #[.int .i64 0, .int .i64 0] 53)).heap.size = w.heap.size + 1 := World.size_alloc _ _
  rw [hQ1] at O0
  have hS2 : w.heap.size + 1 < w2.heap.size := by have := O0.lt _ rfl; simp only at this; omega
  clear hown hgrow bg hi hz0 hz1 hz2
  obtain ⟨s_VS, f_VS, z_VS⟩ := VS.open
  obtain ⟨s_VR, f_VR, z_VR⟩ := VR.open
  have Bo := B
  go_wp2_with fail
  refine (CP.out _ Hs).mono ?_
  rintro e w1 ⟨g4, d4, l, rfl, hk, OP, b1⟩
  clear s_VS f_VS z_VS s_VR f_VR z_VR
  have S1 := b1.size
  replace VS := VS.kept b1
  replace VR := VR.kept b1
  replace H := H.kept b1
  replace Hs := Hs.kept b1
  replace O0 := O0.kept b1
  replace B := thenB B b1
  clear b1
  obtain ⟨s_VS, f_VS, z_VS⟩ := VS.open
  obtain ⟨s_VR, f_VR, z_VR⟩ := VR.open
  have Bo := B
  have hg4 := OP.lt _ rfl
  simp only at hg4
  clear s_VS f_VS z_VS s_VR f_VR z_VR
  have RP := Hid.mk OP.rd
  have HK := Hid.mk hk
  have hl5 : l ≤ 401 := by have := HK.out; omega
  clear hlz
  have hS4 := Hid.mk (show w2.heap.size ≤ w1.heap.size by omega)
  obtain ⟨Z, hZ⟩ : ∃ Z, w1.heap.size = Z := ⟨_, rfl⟩
  have hW := Hid.mk (show Z ≤ w1.heap.size ∧ ∀ k, BkX p g c k → BkX p g c k ∨ Z ≤ k from ⟨by omega, fun k hk => .inl hk⟩)
  have S0 := Hid.mk (Sm.below (X := BkX p g c) B)
  have hZ1 : w.heap.size + 1 < Z ∧ g4 < Z ∧ w.heap.size + 1 < g4 := by omega
  have H0 := Hid.mk H
  have Hs0 := Hid.mk Hs
  have O1 := Hid.mk O0
  have VR0 := Hid.mk VR
  clear H Hs O0 VR VS OP B Bo hS4 hZ hg4
  go_wp2
  go_loopw [21] (fun i wr => ∃ (k : Nat) (c' : Option Addr) (d' : Nat) (pl : Int → Int) (tb : List T4), k ≤ l ∧ i = .int .i64 k ∧ Hid (mvR fr (zs.drop k) pl tb = M ∧ PlOk pl ∧ tb.length ≤ 400) ∧ Bk wr base p g c' d' tb ∧ Bk wr base' ps gs cs ds fr ∧ Own .i64 2 wr (w.heap.size + 1) (some ⟨w.heap.size + 1, 0, none⟩) n (tab n pl) ∧ Rd .i64 wr (some ⟨g4, 0, none⟩) zs ∧ V wr w.heap.size [.int .i64 0, .int .i64 0] ∧ Sm (BkX p g c) w wr ∧ Hid (Z ≤ wr.heap.size ∧ ∀ k, BkX p g c' k → BkX p g c k ∨ Z ≤ k)) (fun i _ => l - (intOf i).toNat)
  case atStart => exact ⟨0, c, d, fun _ => 0, xs, Nat.zero_le _, rfl, hM0, H0.out, Hs0.out, O1.out, RP.out, VR0.out, S0.out, hW⟩
  case round =>
    clear hM0 H0 Hs0 O1 RP VR0 S0 hW
    obtain ⟨k, c1, d1, pl, tb, hk1, rfl, hdr, H, Hs, O, RP, VR, S, hW⟩ := hrel
    have hDJ : Hid (∀ k, BkX p g c1 k → ¬ BkX ps gs cs k ∧ k ≠ w.heap.size ∧ k ≠ w.heap.size + 1 ∧ k ≠ g4) := Hid.mk (fun k hk => by
      have h1 := hW.out.2 k hk
      rcases h1 with h1 | h1
      · have h2 := (HLT.out k h1).2
        exact ⟨HD.out k h1, by omega, by omega, by omega⟩
      · exact ⟨fun e => by have := (HLS.out k e).2; omega, by omega, by omega, by omega⟩)
    by_cases hlt : k < l
    · obtain ⟨z, hz⟩ : ∃ z, zs.getD k 0 = z := ⟨_, rfl⟩
      have hk2 : (k : Int) < (l : Int) := by omega
      have hzm := HML.out z (by rw [← hz]; exact igetD_mem (by rw [HK.out]; exact hlt))
      obtain ⟨u, rfl⟩ : ∃ u : Nat, z = (u : Int) := ⟨z.toNat, by omega⟩
      have hun : u < n := by omega
      have hun1 : (u : Int) < (n : Int) := by omega
      obtain ⟨x, hx1⟩ : ∃ x, fr.getD u zTerm = x := ⟨_, rfl⟩
      have hs := mvR_drop fr zs pl tb k (by rw [HK.out]; exact hlt) hz
      have htm : tmAt fr (u : Int) = x := by unfold tmAt; rw [Int.toNat_natCast]; exact hx1
      rw [htm, hdr.out.1] at hs
      obtain ⟨r, hr⟩ : ∃ r, mvT x pl = r := ⟨_, rfl⟩
      rw [hr] at hs
      have hxo : okT x := HOK.out x (by rw [← hx1]; exact getDTerm_mem (by rw [HN.out]; exact hun))
      have hro : okT r := by rw [← hr]; exact mvT_ok hxo hdr.out.2.1
      have hop := op_right HV.out u (by rw [HN.out]; exact hun) hx1
      obtain ⟨ha1, hb1⟩ := HAh.out u (by rw [HN.out]; exact hun)
      rw [hx1] at ha1 hb1
      have CW := Hid.mk (fun w' h => withPlaces_ok x hop pl n (some ⟨w.heap.size + 1, 0, none⟩) n w' h (fun e => by have := ha1 e; omega) (fun e => by have := hb1 e; omega))
      have CU := Hid.mk (fun w h => put_ok base p g c1 d1 tb r w h hro hdr.out.2.2)
      have HR := Hid.mk hr
      have HPO := Hid.mk hdr.out.2.1
      have hput := put_len (xs := tb) (t := r) hdr.out.2.2
      have hpk := put_k (xs := tb) (t := r) hdr.out.2.2
      have h0 : Hid (tb.length ≤ 400) := Hid.mk hdr.out.2.2
      rcases Hs.o.rd with h9 | ⟨b1, o1, rfl, hca⟩
      · have := HN.out; rw [h9] at this; simp at this; omega
      obtain ⟨p0, p1, p2, p3⟩ := RdTerm.cells hca u (by rw [HN.out]; exact hun) x hx1
      have RPh := Hid.mk RP
      rcases RP with h9 | ⟨b2, o2, e2, hcp⟩
      · have := HK.out; rw [h9] at this; simp at this; omega
      simp only [Option.some.injEq, Addr.mk.injEq, and_true] at e2
      obtain ⟨rfl, rfl⟩ := e2
      have pz := hcp k (by rw [HK.out]; exact hlt)
      rw [hz, Nat.zero_add] at pz
      have VS := Hs.v
      rw [HN.out] at VS
      have RP := RPh.out
      clear RPh hca hcp hz hx1 htm hr hxo hro hop ha1 hb1 hdr hzm
      by_cases hc : (put tb r).c = 0
      · rw [if_pos hc] at hs
        have e1 : putL tb r = (put tb r).l := by unfold putL; rw [if_pos hc]
        rw [e1] at CU
        have HS := Hid.mk hs
        clear hs e1
        generalize put tb r = P at *
        obtain ⟨kc, kk, ls⟩ := P
        simp only at hc hput hpk CU HS
        subst hc
        replace hput := Hid.mk hput
        obtain ⟨s_VR, f_VR, z_VR⟩ := VR.open
        obtain ⟨s_VS, f_VS, z_VS⟩ := VS.open
        go_wp2_with fail
        refine (CW.out _ O.rd).mono ?_
        rintro e w21 ⟨r', hr', rfl, b21⟩
        clear s_VR f_VR z_VR s_VS f_VS z_VS
        have S21 := b21.size
        replace VR := VR.kept b21
        replace VS := VS.kept b21
        replace H := H.kept b21
        replace Hs := Hs.kept b21
        replace O := O.kept b21
        replace RP := RP.kept b21
        replace S := S.trans (Sm.below b21)
        clear b21
        obtain ⟨s_VR, f_VR, z_VR⟩ := VR.open
        obtain ⟨s_VS, f_VS, z_VS⟩ := VS.open
        rw [HR.out] at hr'
        subst hr'
        go_wp2_with fail
        refine (CU.out _ H).mono ?_
        rintro e w6 ⟨c6, d6, rfl, H6, S6, hc6⟩
        clear s_VR f_VR z_VR s_VS f_VS z_VS
        have hsz6 := S6.size
        have hsz5 := S.size
        replace hc6 := Hid.mk hc6
        have hNB : Hid (∀ k, BkX p g c1 k → ¬ BkX ps gs (some ⟨b1, o1, none⟩) k ∧ k ≠ w.heap.size ∧ k ≠ w.heap.size + 1 ∧ k ≠ g4) := hDJ
        replace Hs := Hs.sm S6 (fun k e => (hDJ.out k e).1)
        replace O := O.sm S6 (fun b hb e => by simp only [Option.some.injEq] at hb; subst hb; exact (hDJ.out _ e).2.2.1 rfl)
        replace RP := RP.sm S6 (fun b hb e => by simp only [Option.some.injEq] at hb; subst hb; exact (hDJ.out _ e).2.2.2 rfl)
        replace VR := VR.sm S6 (fun e => (hDJ.out _ e).2.1 rfl)
        replace VS := VS.sm S6 (fun e => (hDJ.out _ e).1 (.inl rfl))
        have hZw : Hid (Z ≤ w6.heap.size) := Hid.mk (by have := hW.out.1; omega)
        have hW6 : Hid (∀ k, BkX p g c6 k → BkX p g c k ∨ Z ≤ k) := Hid.mk (fun k hk => by
          by_cases hkk : k < w21.heap.size
          · exact hW.out.2 k (hc6.out k hk hkk)
          · have := hW.out.1; exact .inr (by omega))
        replace S := Sm.less S.size S6 (fun k hk hx => by rcases hW.out.2 k hx with h | h; exact h; have := hW.out.1; omega) S
        clear S6 H hNB
        have H := H6
        clear H6
        have b7 := belowA w6 (.cells #[.int .i64 0, .int .i64 kk] 53)
        replace VR := VR.kept b7
        replace VS := VS.kept b7
        replace H := H.kept b7
        replace Hs := Hs.kept b7
        replace O := O.kept b7
        replace RP := RP.kept b7
        replace S := S.trans (Sm.below b7)
        clear b7
        have SQ : Sm (fun q => q = w.heap.size + 1) (w6.alloc (.cells #[.int .i64 0, .int .i64 kk] 53)) ((w6.alloc (.cells #[.int .i64 0, .int .i64 kk] 53)).setCell ⟨w.heap.size + 1, u, none⟩ (.int .i64 kk)) := Sm.cell (X := fun q => q = w.heap.size + 1) rfl _
        have hQc := tab_cell O hun
        have hQf := tab_frozen O u
        have H8 := Hid.mk (H.sm SQ (fun k e h2 => by subst e; rcases hW6.out _ h2 with h3 | h3; have := (HLT.out _ h3).2; omega; omega))
        have Hs8 := Hid.mk (Hs.sm SQ (fun k e h2 => by subst e; have := (HLS.out _ h2).2; omega))
        have O8 := Hid.mk (tab_store O u kk)
        have RP8 := Hid.mk (RP.sm SQ (fun b hb e => by simp only [Option.some.injEq] at hb; subst hb; simp only at e; omega))
        have VR8 := Hid.mk (VR.sm SQ (by omega))
        have S8 := Hid.mk (S.newCell (p := ⟨w.heap.size + 1, u, none⟩) (by simp only; omega) (.int .i64 kk))
        have hW8 : Hid (Z ≤ ((w6.alloc (.cells #[.int .i64 0, .int .i64 kk] 53)).setCell ⟨w.heap.size + 1, u, none⟩ (.int .i64 kk)).heap.size ∧ ∀ k, BkX p g c6 k → BkX p g c k ∨ Z ≤ k) := Hid.mk ⟨by have h1 := SQ.size; have h2 : (w6.alloc (.cells #[.int .i64 0, .int .i64 kk] 53)).heap.size = w6.heap.size + 1 := World.size_alloc _ _; have := hZw.out; omega, hW6.out⟩
        have hdr8 : Hid (mvR fr (zs.drop (k + 1)) (updP pl u kk) ls = M ∧ PlOk (updP pl u kk) ∧ ls.length ≤ 400) := Hid.mk ⟨HS.out.symm, HPO.out.upd hpk, hput.out⟩
        clear H Hs O RP VR VS S SQ p0 p1 p2 p3 pz
        go_wp2
        go_roundw
        case rel => exact ⟨k + 1, c6, d6, updP pl u kk, ls, by omega, by go_num, hdr8, H8.out, Hs8.out, O8.out, RP8.out, VR8.out, S8.out, hW8⟩
        case measure => (simp [intOf]; omega)
      · rw [if_neg hc] at hs
        have e1 : putL tb r = tb := by unfold putL; rw [if_neg hc]
        have hcc : ((put tb r).c != 0) = true := by simp [hc]
        obtain ⟨e2, e3⟩ := put_no hc
        rw [e1, e2] at CU
        have HS := Hid.mk hs
        have HC := Hid.mk hc
        clear hs e1 e2 e3 hput hpk hc
        generalize (put tb r).c = kc at *
        obtain ⟨s_VR, f_VR, z_VR⟩ := VR.open
        obtain ⟨s_VS, f_VS, z_VS⟩ := VS.open
        go_wp2_with fail
        refine (CW.out _ O.rd).mono ?_
        rintro e w41 ⟨r', hr', rfl, b41⟩
        clear s_VR f_VR z_VR s_VS f_VS z_VS
        have S41 := b41.size
        replace VR := VR.kept b41
        replace VS := VS.kept b41
        replace H := H.kept b41
        replace Hs := Hs.kept b41
        replace O := O.kept b41
        replace RP := RP.kept b41
        replace S := S.trans (Sm.below b41)
        clear b41
        obtain ⟨s_VR, f_VR, z_VR⟩ := VR.open
        obtain ⟨s_VS, f_VS, z_VS⟩ := VS.open
        rw [HR.out] at hr'
        subst hr'
        go_wp2_with fail
        refine (CU.out _ H).mono ?_
        rintro e w6 ⟨c6, d6, rfl, H6, S6, hc6⟩
        clear s_VR f_VR z_VR s_VS f_VS z_VS
        have hsz6 := S6.size
        have hsz5 := S.size
        replace hc6 := Hid.mk hc6
        have hNB : Hid (∀ k, BkX p g c1 k → ¬ BkX ps gs (some ⟨b1, o1, none⟩) k ∧ k ≠ w.heap.size ∧ k ≠ w.heap.size + 1 ∧ k ≠ g4) := hDJ
        replace Hs := Hs.sm S6 (fun k e => (hDJ.out k e).1)
        replace O := O.sm S6 (fun b hb e => by simp only [Option.some.injEq] at hb; subst hb; exact (hDJ.out _ e).2.2.1 rfl)
        replace RP := RP.sm S6 (fun b hb e => by simp only [Option.some.injEq] at hb; subst hb; exact (hDJ.out _ e).2.2.2 rfl)
        replace VR := VR.sm S6 (fun e => (hDJ.out _ e).2.1 rfl)
        replace VS := VS.sm S6 (fun e => (hDJ.out _ e).1 (.inl rfl))
        have hZw : Hid (Z ≤ w6.heap.size) := Hid.mk (by have := hW.out.1; omega)
        have hW6 : Hid (∀ k, BkX p g c6 k → BkX p g c k ∨ Z ≤ k) := Hid.mk (fun k hk => by
          by_cases hkk : k < w41.heap.size
          · exact hW.out.2 k (hc6.out k hk hkk)
          · have := hW.out.1; exact .inr (by omega))
        replace S := Sm.less S.size S6 (fun k hk hx => by rcases hW.out.2 k hx with h | h; exact h; have := hW.out.1; omega) S
        clear S6 H hNB
        have H := H6
        clear H6
        replace VR := VR.kept (belowA w6 (.cells #[.int .i64 kc, .int .i64 0] 53))
        replace VS := VS.kept (belowA w6 (.cells #[.int .i64 kc, .int .i64 0] 53))
        replace H := H.kept (belowA w6 (.cells #[.int .i64 kc, .int .i64 0] 53))
        replace Hs := Hs.kept (belowA w6 (.cells #[.int .i64 kc, .int .i64 0] 53))
        replace O := O.kept (belowA w6 (.cells #[.int .i64 kc, .int .i64 0] 53))
        replace RP := RP.kept (belowA w6 (.cells #[.int .i64 kc, .int .i64 0] 53))
        replace S := S.trans (Sm.below (belowA w6 (.cells #[.int .i64 kc, .int .i64 0] 53)))
        have VX := V.new w6 [.int .i64 kc, .int .i64 0] 53
        obtain ⟨s_VR, f_VR, z_VR⟩ := VR.open
        obtain ⟨s_VS, f_VS, z_VS⟩ := VS.open
        obtain ⟨s_VX, f_VX, z_VX⟩ := VX.open
        clear s_VR f_VR z_VR s_VS f_VS z_VS s_VX f_VX z_VX
        have VF := Hid.mk (VR.filled [.int .i64 kc, .int .i64 0] rfl)
        have HT := Hid.mk VR.there
        have SR := Hid.mk (Sm.newCells S (show w.heap.size ≤ w.heap.size by (first | omega | (simp; done) | (simp; omega))) 0 [.int .i64 kc, .int .i64 0])
        have HO : Hid (Bk _ base p g c6 d6 M.tb) := Hid.mk (by have h5 := H.apart (B := w.heap.size) (fun k hk e => by subst e; rcases hW6.out _ hk with h3 | h3; have := (HLT.out _ h3).2; omega; omega) 0 [.int .i64 kc, .int .i64 0]; rw [HS.out]; exact h5)
        obtain ⟨s_VR, f_VR, z_VR⟩ := VR.open
        obtain ⟨s_VS, f_VS, z_VS⟩ := VS.open
        obtain ⟨s_VX, f_VX, z_VX⟩ := VX.open
        go_wp2_with (refine wpList_store_mid rfl 53 _ _ rfl (w.heap.size) 0 #[.int .i64 kc, .int .i64 0] rfl rfl HT.out (by kernel_rfl) (by kernel_rfl) ?_)
        refine bodyPost_ret (v := .agg #[.int .i64 kc, .int .i64 0]) (results_row Try.results79 _ _ (w.heap.size) [.int .i64 kc, .int .i64 0] _ rfl VF.out Try.underlying53 rfl (by kernel_rfl)) rfl ⟨c6, d6, by rw [HS.out, if_neg HC.out], HO.out, SR.out, fun k hk hlt => by rcases hW6.out k hk with h | h; exact h; omega⟩
    · obtain rfl : k = l := by omega
      have hMM := hdr.out.1
      rw [mvR_end fr zs pl tb k (by rw [HK.out]; exact Nat.le_refl _)] at hMM
      have HM := Hid.mk hMM
      have pm := tab_cell O hm
      clear hMM hdr
      obtain ⟨s_VR, f_VR, z_VR⟩ := VR.open
      clear s_VR f_VR z_VR
      have VF := Hid.mk (VR.filled [.int .i64 0, .int .i64 (pl m)] rfl)
      have HT := Hid.mk VR.there
      have SR := Hid.mk (Sm.newCells S (show w.heap.size ≤ w.heap.size by (first | omega | (simp; done) | (simp; omega))) 0 [.int .i64 0, .int .i64 (pl m)])
      have HO : Hid (Bk _ base p g c1 d1 M.tb) := Hid.mk (by have h5 := H.apart (B := w.heap.size) (fun k hk e => (hDJ.out k hk).2.1 e) 0 [.int .i64 0, .int .i64 (pl m)]; rw [← HM.out]; exact h5)
      obtain ⟨s_VR, f_VR, z_VR⟩ := VR.open
      go_wp2_with (refine wpList_store_mid rfl 53 _ _ rfl (w.heap.size) 0 #[.int .i64 0, .int .i64 (pl m)] rfl rfl HT.out (by kernel_rfl) (by kernel_rfl) ?_)
      refine bodyPost_ret (v := .agg #[.int .i64 0, .int .i64 (pl m)]) (results_row Try.results79 _ _ (w.heap.size) [.int .i64 0, .int .i64 (pl m)] _ rfl VF.out Try.underlying53 rfl (by kernel_rfl)) rfl ⟨c1, d1, by rw [← HM.out]; rfl, HO.out, SR.out, fun k hk hlt => by rcases hW.out.2 k hk with h | h; exact h; omega⟩

end Go.Proofs.Ytedippfnlaiapaa

/- MoveTerm: the program. -/
namespace Go.Proofs.Ytedippfnlaiapaa
open Go.RowKit

theorem mvP_ways (fr : List T4) (q : Int) (tb : List T4) : ((mvR fr (prL fr q.toNat) (fun _ => 0) tb).c = 0 ∧ mvP fr q tb = ⟨0, (mvR fr (prL fr q.toNat) (fun _ => 0) tb).pl q, (mvR fr (prL fr q.toNat) (fun _ => 0) tb).tb⟩) ∨ ((mvR fr (prL fr q.toNat) (fun _ => 0) tb).c ≠ 0 ∧ mvP fr q tb = ⟨(mvR fr (prL fr q.toNat) (fun _ => 0) tb).c, 0, []⟩) := by
  unfold mvP
  by_cases h : (mvR fr (prL fr q.toNat) (fun _ => 0) tb).c = 0
  · exact .inl ⟨h, by rw [if_pos h]⟩
  · exact .inr ⟨h, by rw [if_neg h]⟩

set_option maxRecDepth 20000 in
set_option maxHeartbeats 4000000 in
theorem implMoveTerm_ok (a : Option Addr) (n ca : Nat) (fr : List T4) (q : Int) (b : Option Addr) (nb cb : Nat) (tb : List T4) (w : World) (ha : RdTerm w a fr) (hn : fr.length = n) (hx : n ≤ 1048576) (hok : ∀ t ∈ fr, okT t) (hb : RdTerm w b tb) (hnb : tb.length = nb) (hxb : nb ≤ 1048576) (hokb : ∀ t ∈ tb, okT t) :
    Calls Try.prog 45 #[.slice a n ca, .int .i64 q, .slice b nb cb] w fun e w' => ∃ c d, e = .returned (.agg #[.int .i64 (mvF fr q tb).c, .int .i64 (mvF fr q tb).k, .slice c (mvF fr q tb).l.length d]) ∧ OwnTerm w' w.heap.size c d (mvF fr q tb).l ∧ Below w.heap.size w w' := by
  have q1 := build_tr0'
  have HW := mvF_ways fr q tb
  rw [hn] at HW
  rcases HW with ⟨h1, hr⟩ | ⟨h1, h2, hr⟩ | ⟨h1, h2, h3, hr⟩ | ⟨h1, h2, h3, hr⟩
  · have h2 : (tfC fr != 0) = true := by simp [h1]
    have CB := Hid.mk (fun w h => bookOf_no a n ca fr w h hn (by unfold maxLen; omega) hok h1)
    rw [hr]
    clear hr h1
    generalize tfC fr = kk at *
    go_enter Try.func45, Try.ntmps45
    have B := Below.refl w.heap.size w
    replace ha := ha.kept (belowA w (.cells #[.int .i64 0, .int .i64 0, .slice none 0 0] 30))
    replace hb := hb.kept (belowA w (.cells #[.int .i64 0, .int .i64 0, .slice none 0 0] 30))
    replace B := thenB B (belowA w (.cells #[.int .i64 0, .int .i64 0, .slice none 0 0] 30))
    have VR := V.new w [.int .i64 0, .int .i64 0, .slice none 0 0] 30
    obtain ⟨s_VR, f_VR, z_VR⟩ := VR.open
    have Bo := B
    go_wp2_with fail
    refine (CB.out _ ha).mono ?_
    rintro e w1 ⟨rfl, b1⟩
    clear s_VR f_VR z_VR
    have S1 := b1.size
    simp only [World.size_alloc] at S1
    replace VR := VR.kept b1
    replace ha := ha.kept b1
    replace hb := hb.kept b1
    replace B := thenB B b1
    clear b1
    obtain ⟨s_VR, f_VR, z_VR⟩ := VR.open
    have Bo := B
    clear s_VR f_VR z_VR
    have VF := Hid.mk (VR.filled [.int .i64 kk, .int .i64 0, .slice none 0 0] rfl)
    have HT := Hid.mk VR.there
    have BR := belowCells B (show w.heap.size ≤ w.heap.size by (first | omega | (simp; done) | (simp; omega))) 0 [.int .i64 kk, .int .i64 0, .slice none 0 0]
    replace BR := Hid.mk BR
    obtain ⟨s_VR, f_VR, z_VR⟩ := VR.open
    go_wp2_with (refine wpList_store_mid rfl 30 _ _ rfl (w.heap.size) 0 #[.int .i64 kk, .int .i64 0, .slice none 0 0] rfl rfl HT.out (by kernel_rfl) (by kernel_rfl) ?_)
    refine bodyPost_ret (v := .agg #[.int .i64 kk, .int .i64 0, .slice none 0 0]) (results_row Try.results45 _ _ (w.heap.size) [.int .i64 kk, .int .i64 0, .slice none 0 0] _ rfl VF.out Try.underlying30 rfl (by kernel_rfl)) rfl ⟨none, 0, rfl, OwnTerm.none, BR.out⟩
  · have h3 : (tfC tb != 0) = true := by simp [h2]
    have CB := Hid.mk (fun w h => bookOf_yes a n ca fr w h hn (by unfold maxLen; omega) hok h1)
    have CB2 := Hid.mk (fun w h => bookOf_no b nb cb tb w h hnb (by unfold maxLen; omega) hokb h2)
    rw [hr]
    clear hr h1 h2
    generalize tfC tb = kk at *
    go_enter Try.func45, Try.ntmps45
    have B := Below.refl w.heap.size w
    replace ha := ha.kept (belowA w (.cells #[.int .i64 0, .int .i64 0, .slice none 0 0] 30))
    replace hb := hb.kept (belowA w (.cells #[.int .i64 0, .int .i64 0, .slice none 0 0] 30))
    replace B := thenB B (belowA w (.cells #[.int .i64 0, .int .i64 0, .slice none 0 0] 30))
    have VR := V.new w [.int .i64 0, .int .i64 0, .slice none 0 0] 30
    obtain ⟨s_VR, f_VR, z_VR⟩ := VR.open
    have Bo := B
    go_wp2_with fail
    refine (CB.out _ ha).mono ?_
    rintro e w11 ⟨p, g, c0, d0, rfl, H, b11⟩
    clear s_VR f_VR z_VR
    have S11 := b11.size
    simp only [World.size_alloc] at S11
    replace VR := VR.kept b11
    replace ha := ha.kept b11
    replace hb := hb.kept b11
    replace B := thenB B b11
    clear b11
    obtain ⟨s_VR, f_VR, z_VR⟩ := VR.open
    have Bo := B
    go_wp2_with fail
    refine (CB2.out _ hb).mono ?_
    rintro e w12 ⟨rfl, b12⟩
    clear s_VR f_VR z_VR
    have S12 := b12.size
    replace VR := VR.kept b12
    replace ha := ha.kept b12
    replace hb := hb.kept b12
    replace H := H.kept b12
    replace B := thenB B b12
    clear b12
    obtain ⟨s_VR, f_VR, z_VR⟩ := VR.open
    have Bo := B
    clear s_VR f_VR z_VR
    have VF := Hid.mk (VR.filled [.int .i64 kk, .int .i64 0, .slice none 0 0] rfl)
    have HT := Hid.mk VR.there
    have BR := belowCells B (show w.heap.size ≤ w.heap.size by (first | omega | (simp; done) | (simp; omega))) 0 [.int .i64 kk, .int .i64 0, .slice none 0 0]
    replace BR := Hid.mk BR
    obtain ⟨s_VR, f_VR, z_VR⟩ := VR.open
    go_wp2_with (refine wpList_store_mid rfl 30 _ _ rfl (w.heap.size) 0 #[.int .i64 kk, .int .i64 0, .slice none 0 0] rfl rfl HT.out (by kernel_rfl) (by kernel_rfl) ?_)
    refine bodyPost_ret (v := .agg #[.int .i64 kk, .int .i64 0, .slice none 0 0]) (results_row Try.results45 _ _ (w.heap.size) [.int .i64 kk, .int .i64 0, .slice none 0 0] _ rfl VF.out Try.underlying30 rfl (by kernel_rfl)) rfl ⟨none, 0, rfl, OwnTerm.none, BR.out⟩
  · rw [hr]
    have CB := Hid.mk (fun w h => bookOf_yes a n ca fr w h hn (by unfold maxLen; omega) hok h1)
    have CB2 := Hid.mk (fun w h => bookOf_yes b nb cb tb w h hnb (by unfold maxLen; omega) hokb h2)
    have CA := Hid.mk (fun w c0 d0 c1 d1 h => arePlaces_ok c0 n d0 c1 1 d1 [q] w h rfl (by unfold maxLen; omega) (by unfold maxLen; omega))
    rw [plsOk_one, h3] at CA
    clear hr h1 h2 h3
    go_enter Try.func45, Try.ntmps45
    have B := Below.refl w.heap.size w
    replace ha := ha.kept (belowA w (.cells #[.int .i64 0, .int .i64 0, .slice none 0 0] 30))
    replace hb := hb.kept (belowA w (.cells #[.int .i64 0, .int .i64 0, .slice none 0 0] 30))
    replace B := thenB B (belowA w (.cells #[.int .i64 0, .int .i64 0, .slice none 0 0] 30))
    have VR := V.new w [.int .i64 0, .int .i64 0, .slice none 0 0] 30
    obtain ⟨s_VR, f_VR, z_VR⟩ := VR.open
    have Bo := B
    go_wp2_with fail
    refine (CB.out _ ha).mono ?_
    rintro e w21 ⟨p, g, c0, d0, rfl, H, b21⟩
    clear s_VR f_VR z_VR
    have S21 := b21.size
    simp only [World.size_alloc] at S21
    replace VR := VR.kept b21
    replace ha := ha.kept b21
    replace hb := hb.kept b21
    replace B := thenB B b21
    clear b21
    obtain ⟨s_VR, f_VR, z_VR⟩ := VR.open
    have Bo := B
    have HLT1 := Hid.mk H.lt
    have hvr := Hid.mk VR.1
    go_wp2_with fail
    refine (CB2.out _ hb).mono ?_
    rintro e w22 ⟨p2, g2, c2, d2, rfl, H2, b22⟩
    clear s_VR f_VR z_VR
    have S22 := b22.size
    replace VR := VR.kept b22
    replace ha := ha.kept b22
    replace hb := hb.kept b22
    replace H := H.kept b22
    replace B := thenB B b22
    clear b22
    obtain ⟨s_VR, f_VR, z_VR⟩ := VR.open
    have Bo := B
    have HLT2 := Hid.mk H2.lt
    have VP := H.v
    rw [hn] at VP
    clear s_VR f_VR z_VR
    obtain ⟨s_VR, f_VR, z_VR⟩ := VR.open
    obtain ⟨s_VP, f_VP, z_VP⟩ := VP.open
    have Bo := B
    have hR1 := (OwnI.lit w22 [q] [.int .i64 q] rfl (by unfold maxLen; simp)).rd
    go_wp2_with fail
    refine (CA.out _ _ _ _ _ hR1).mono ?_
    rintro e wq ⟨rfl, rfl⟩
    clear s_VR f_VR z_VR s_VP f_VP z_VP
    replace VR := VR.kept (belowA w22 (.cells #[.int .i64 q] 2))
    replace VP := VP.kept (belowA w22 (.cells #[.int .i64 q] 2))
    replace ha := ha.kept (belowA w22 (.cells #[.int .i64 q] 2))
    replace hb := hb.kept (belowA w22 (.cells #[.int .i64 q] 2))
    replace H := H.kept (belowA w22 (.cells #[.int .i64 q] 2))
    replace H2 := H2.kept (belowA w22 (.cells #[.int .i64 q] 2))
    replace B := thenB B (belowA w22 (.cells #[.int .i64 q] 2))
    obtain ⟨s_VR, f_VR, z_VR⟩ := VR.open
    obtain ⟨s_VP, f_VP, z_VP⟩ := VP.open
    have Bo := B
    clear s_VR f_VR z_VR s_VP f_VP z_VP
    have VF := Hid.mk (VR.filled [.int .i64 3, .int .i64 0, .slice none 0 0] rfl)
    have HT := Hid.mk VR.there
    have BR := belowCells B (show w.heap.size ≤ w.heap.size by (first | omega | (simp; done) | (simp; omega))) 0 [.int .i64 3, .int .i64 0, .slice none 0 0]
    replace BR := Hid.mk BR
    obtain ⟨s_VR, f_VR, z_VR⟩ := VR.open
    obtain ⟨s_VP, f_VP, z_VP⟩ := VP.open
    go_wp2_with (refine wpList_store_mid rfl 30 _ _ rfl (w.heap.size) 0 #[.int .i64 3, .int .i64 0, .slice none 0 0] rfl rfl HT.out (by kernel_rfl) (by kernel_rfl) ?_)
    refine bodyPost_ret (v := .agg #[.int .i64 3, .int .i64 0, .slice none 0 0]) (results_row Try.results45 _ _ (w.heap.size) [.int .i64 3, .int .i64 0, .slice none 0 0] _ rfl VF.out Try.underlying30 rfl (by kernel_rfl)) rfl ⟨none, 0, rfl, OwnTerm.none, BR.out⟩
  · rw [hr]
    have CB := Hid.mk (fun w h => bookOf_yes a n ca fr w h hn (by unfold maxLen; omega) hok h1)
    have CB2 := Hid.mk (fun w h => bookOf_yes b nb cb tb w h hnb (by unfold maxLen; omega) hokb h2)
    have CA := Hid.mk (fun w c0 d0 c1 d1 h => arePlaces_ok c0 n d0 c1 1 d1 [q] w h rfl (by unfold maxLen; omega) (by unfold maxLen; omega))
    rw [plsOk_one, h3] at CA
    have HV := h1
    have hl4 := (tfC_zero h2).1
    obtain ⟨hq0, hq1⟩ := btw_iff.1 h3
    obtain ⟨m, rfl⟩ : ∃ m : Nat, q = (m : Int) := ⟨q.toNat, by omega⟩
    have hm : m < n := by omega
    have CT := Hid.mk (fun base p g c d base' ps gs cs ds M hM w H Hs hd => takeOver_ok base p g c d tb base' ps gs cs ds fr n m w H Hs hn HV hok hm hl4 hd M hM)
    obtain ⟨M, hM⟩ : ∃ M, mvR fr (prL fr m) (fun _ => 0) tb = M := ⟨_, rfl⟩
    have hP := mvP_ways fr (m : Int) tb
    rw [Int.toNat_natCast, hM] at hP
    replace hM := Hid.mk hM
    clear hr h1 h2 h3 hq0 hq1 HV
    rcases hP with ⟨hc, hr⟩ | ⟨hc, hr⟩
    · rw [hr]
      obtain ⟨kl, hkl⟩ : ∃ l, M.tb.length = l := ⟨_, rfl⟩
      rw [hkl]
      replace hkl := Hid.mk hkl
      obtain ⟨kk, hkk⟩ : ∃ k, M.pl m = k := ⟨_, rfl⟩
      replace CT : Hid _ := CT
      rw [hkk]
      have hif : (if M.c = 0 then M.pl m else 0) = kk := by rw [if_pos hc, hkk]
      clear hkk hr
      go_enter Try.func45, Try.ntmps45
      have B := Below.refl w.heap.size w
      replace ha := ha.kept (belowA w (.cells #[.int .i64 0, .int .i64 0, .slice none 0 0] 30))
      replace hb := hb.kept (belowA w (.cells #[.int .i64 0, .int .i64 0, .slice none 0 0] 30))
      replace B := thenB B (belowA w (.cells #[.int .i64 0, .int .i64 0, .slice none 0 0] 30))
      have VR := V.new w [.int .i64 0, .int .i64 0, .slice none 0 0] 30
      obtain ⟨s_VR, f_VR, z_VR⟩ := VR.open
      have Bo := B
      go_wp2_with fail
      refine (CB.out _ ha).mono ?_
      rintro e w31 ⟨p, g, c0, d0, rfl, H, b31⟩
      clear s_VR f_VR z_VR
      have S31 := b31.size
      simp only [World.size_alloc] at S31
      replace VR := VR.kept b31
      replace ha := ha.kept b31
      replace hb := hb.kept b31
      replace B := thenB B b31
      clear b31
      obtain ⟨s_VR, f_VR, z_VR⟩ := VR.open
      have Bo := B
      have HLT1 := Hid.mk H.lt
      have hvr := Hid.mk VR.1
      go_wp2_with fail
      refine (CB2.out _ hb).mono ?_
      rintro e w32 ⟨p2, g2, c2, d2, rfl, H2, b32⟩
      clear s_VR f_VR z_VR
      have S32 := b32.size
      replace VR := VR.kept b32
      replace ha := ha.kept b32
      replace hb := hb.kept b32
      replace H := H.kept b32
      replace B := thenB B b32
      clear b32
      obtain ⟨s_VR, f_VR, z_VR⟩ := VR.open
      have Bo := B
      have HLT2 := Hid.mk H2.lt
      have VP := H.v
      rw [hn] at VP
      clear s_VR f_VR z_VR
      obtain ⟨s_VR, f_VR, z_VR⟩ := VR.open
      obtain ⟨s_VP, f_VP, z_VP⟩ := VP.open
      have Bo := B
      have hR1 := (OwnI.lit w32 [(m : Int)] [.int .i64 m] rfl (by unfold maxLen; simp)).rd
      go_wp2_with fail
      refine (CA.out _ _ _ _ _ hR1).mono ?_
      rintro e wq ⟨rfl, rfl⟩
      clear s_VR f_VR z_VR s_VP f_VP z_VP
      replace VR := VR.kept (belowA w32 (.cells #[.int .i64 m] 2))
      replace VP := VP.kept (belowA w32 (.cells #[.int .i64 m] 2))
      replace ha := ha.kept (belowA w32 (.cells #[.int .i64 m] 2))
      replace hb := hb.kept (belowA w32 (.cells #[.int .i64 m] 2))
      replace H := H.kept (belowA w32 (.cells #[.int .i64 m] 2))
      replace H2 := H2.kept (belowA w32 (.cells #[.int .i64 m] 2))
      replace B := thenB B (belowA w32 (.cells #[.int .i64 m] 2))
      obtain ⟨s_VR, f_VR, z_VR⟩ := VR.open
      obtain ⟨s_VP, f_VP, z_VP⟩ := VP.open
      have Bo := B
      go_wp2_with fail
      refine (CT.out _ p2 g2 c2 d2 _ p g c0 d0 M hM.out _ H2 H (fun k hk e => by have h1 := (HLT2.out k hk).1; have h2 := (HLT1.out k e).2; omega)).mono ?_
      rintro e w9 ⟨c, d, rfl, H9, S9, -⟩
      rw [hif, hc]
      clear s_VR f_VR z_VR s_VP f_VP z_VP
      have hvb := hvr.out
      have VRN : Hid (¬ BkX p2 g2 c2 w.heap.size) := Hid.mk (fun e => by have := (HLT2.out _ e).1; (try simp at *); omega)
      replace VR := VR.sm S9 VRN.out
      have B9 := S9.below' B (by have := B.size; omega) (fun j hj => by have := (HLT2.out j hj).1; have := hvr.out; omega)
      clear S9 H H2 VP ha hb B Bo hR1
      have B := B9
      clear B9
      have VP := H9.v
      rw [hkl.out] at VP
      have CN := Hid.mk (fun w h => answer_yes p2 g2 c kl d kk w h)
      obtain ⟨s_VR, f_VR, z_VR⟩ := VR.open
      have Bo := B
      go_wp2_with fail
      refine (CN.out _ VP).mono ?_
      rintro e w33 ⟨rfl, b33⟩
      clear s_VR f_VR z_VR
      have S33 := b33.size
      replace VR := VR.kept b33
      replace H9 := H9.kept b33
      replace B := thenB B b33
      clear b33
      obtain ⟨s_VR, f_VR, z_VR⟩ := VR.open
      have Bo := B
      have OL := Hid.mk (fun b hb => (H9.o.lt b hb).1)
      have hQW := hvr.out
      clear s_VR f_VR z_VR
      have VF := Hid.mk (VR.filled [.int .i64 0, .int .i64 kk, .slice c kl d] rfl)
      have HT := Hid.mk VR.there
      have BR := belowCells B (show w.heap.size ≤ w.heap.size by (first | omega | (simp; done) | (simp; omega))) 0 [.int .i64 0, .int .i64 kk, .slice c kl d]
      replace BR := Hid.mk BR
      have HO := Hid.mk ((H9.o.mono (show w.heap.size ≤ _ by first | omega | (simp; done) | (simp; omega))).apart (B := w.heap.size) (by intro b hb; have := OL.out b hb; first | omega | (simp at this; omega)) 0 [.int .i64 0, .int .i64 kk, .slice c kl d])
      obtain ⟨s_VR, f_VR, z_VR⟩ := VR.open
      go_wp2_with (refine wpList_store_mid rfl 30 _ _ rfl (w.heap.size) 0 #[.int .i64 0, .int .i64 kk, .slice c kl d] rfl rfl HT.out (by kernel_rfl) (by kernel_rfl) ?_)
      refine bodyPost_ret (v := .agg #[.int .i64 0, .int .i64 kk, .slice c kl d]) (results_row Try.results45 _ _ (w.heap.size) [.int .i64 0, .int .i64 kk, .slice c kl d] _ rfl VF.out Try.underlying30 rfl (by kernel_rfl)) rfl ⟨c, d, rfl, HO.out, BR.out⟩
    · rw [hr]
      have HC := Hid.mk hc
      have hif : (if M.c = 0 then M.pl m else 0) = 0 := by rw [if_neg hc]
      obtain ⟨kc, hkc⟩ : ∃ k, M.c = k := ⟨_, rfl⟩
      rw [hkc] at HC ⊢
      clear hr hc
      go_enter Try.func45, Try.ntmps45
      have B := Below.refl w.heap.size w
      replace ha := ha.kept (belowA w (.cells #[.int .i64 0, .int .i64 0, .slice none 0 0] 30))
      replace hb := hb.kept (belowA w (.cells #[.int .i64 0, .int .i64 0, .slice none 0 0] 30))
      replace B := thenB B (belowA w (.cells #[.int .i64 0, .int .i64 0, .slice none 0 0] 30))
      have VR := V.new w [.int .i64 0, .int .i64 0, .slice none 0 0] 30
      obtain ⟨s_VR, f_VR, z_VR⟩ := VR.open
      have Bo := B
      go_wp2_with fail
      refine (CB.out _ ha).mono ?_
      rintro e w61 ⟨p, g, c0, d0, rfl, H, b61⟩
      clear s_VR f_VR z_VR
      have S61 := b61.size
      simp only [World.size_alloc] at S61
      replace VR := VR.kept b61
      replace ha := ha.kept b61
      replace hb := hb.kept b61
      replace B := thenB B b61
      clear b61
      obtain ⟨s_VR, f_VR, z_VR⟩ := VR.open
      have Bo := B
      have HLT1 := Hid.mk H.lt
      have hvr := Hid.mk VR.1
      go_wp2_with fail
      refine (CB2.out _ hb).mono ?_
      rintro e w62 ⟨p2, g2, c2, d2, rfl, H2, b62⟩
      clear s_VR f_VR z_VR
      have S62 := b62.size
      replace VR := VR.kept b62
      replace ha := ha.kept b62
      replace hb := hb.kept b62
      replace H := H.kept b62
      replace B := thenB B b62
      clear b62
      obtain ⟨s_VR, f_VR, z_VR⟩ := VR.open
      have Bo := B
      have HLT2 := Hid.mk H2.lt
      have VP := H.v
      rw [hn] at VP
      clear s_VR f_VR z_VR
      obtain ⟨s_VR, f_VR, z_VR⟩ := VR.open
      obtain ⟨s_VP, f_VP, z_VP⟩ := VP.open
      have Bo := B
      have hR1 := (OwnI.lit w62 [(m : Int)] [.int .i64 m] rfl (by unfold maxLen; simp)).rd
      go_wp2_with fail
      refine (CA.out _ _ _ _ _ hR1).mono ?_
      rintro e wq ⟨rfl, rfl⟩
      clear s_VR f_VR z_VR s_VP f_VP z_VP
      replace VR := VR.kept (belowA w62 (.cells #[.int .i64 m] 2))
      replace VP := VP.kept (belowA w62 (.cells #[.int .i64 m] 2))
      replace ha := ha.kept (belowA w62 (.cells #[.int .i64 m] 2))
      replace hb := hb.kept (belowA w62 (.cells #[.int .i64 m] 2))
      replace H := H.kept (belowA w62 (.cells #[.int .i64 m] 2))
      replace H2 := H2.kept (belowA w62 (.cells #[.int .i64 m] 2))
      replace B := thenB B (belowA w62 (.cells #[.int .i64 m] 2))
      obtain ⟨s_VR, f_VR, z_VR⟩ := VR.open
      obtain ⟨s_VP, f_VP, z_VP⟩ := VP.open
      have Bo := B
      go_wp2_with fail
      refine (CT.out _ p2 g2 c2 d2 _ p g c0 d0 M hM.out _ H2 H (fun k hk e => by have h1 := (HLT2.out k hk).1; have h2 := (HLT1.out k e).2; omega)).mono ?_
      rintro e w9 ⟨c, d, rfl, H9, S9, -⟩
      rw [hif, hkc]
      clear s_VR f_VR z_VR s_VP f_VP z_VP
      have hvb := hvr.out
      have VRN : Hid (¬ BkX p2 g2 c2 w.heap.size) := Hid.mk (fun e => by have := (HLT2.out _ e).1; (try simp at *); omega)
      replace VR := VR.sm S9 VRN.out
      have B9 := S9.below' B (by have := B.size; omega) (fun j hj => by have := (HLT2.out j hj).1; have := hvr.out; omega)
      clear S9 H H2 VP ha hb B Bo hR1
      have B := B9
      clear B9
      have VP := H9.v
      have CN := Hid.mk (fun w h => answer_no p2 g2 c M.tb.length d kc HC.out w h)
      have HC2 := HC.out
      obtain ⟨s_VR, f_VR, z_VR⟩ := VR.open
      have Bo := B
      go_wp2_with fail
      refine (CN.out _ VP).mono ?_
      rintro e w63 ⟨rfl, b63⟩
      clear s_VR f_VR z_VR
      have S63 := b63.size
      replace VR := VR.kept b63
      replace B := thenB B b63
      clear b63
      obtain ⟨s_VR, f_VR, z_VR⟩ := VR.open
      have Bo := B
      clear s_VR f_VR z_VR
      have VF := Hid.mk (VR.filled [.int .i64 kc, .int .i64 0, .slice none 0 0] rfl)
      have HT := Hid.mk VR.there
      have BR := belowCells B (show w.heap.size ≤ w.heap.size by (first | omega | (simp; done) | (simp; omega))) 0 [.int .i64 kc, .int .i64 0, .slice none 0 0]
      replace BR := Hid.mk BR
      obtain ⟨s_VR, f_VR, z_VR⟩ := VR.open
      go_wp2_with (refine wpList_store_mid rfl 30 _ _ rfl (w.heap.size) 0 #[.int .i64 kc, .int .i64 0, .slice none 0 0] rfl rfl HT.out (by kernel_rfl) (by kernel_rfl) ?_)
      refine bodyPost_ret (v := .agg #[.int .i64 kc, .int .i64 0, .slice none 0 0]) (results_row Try.results45 _ _ (w.heap.size) [.int .i64 kc, .int .i64 0, .slice none 0 0] _ rfl VF.out Try.underlying30 rfl (by kernel_rfl)) rfl ⟨none, 0, rfl, OwnTerm.none, BR.out⟩

end Go.Proofs.Ytedippfnlaiapaa

/- Terms moved: the model. -/
namespace Go.Proofs.Ytedippfnlaiapaa
open Go.RowKit

theorem mv_ways {x : T4} (h : 1 ≤ x.o ∧ x.o ≤ 7) (B : Bare x) (pl : Int → Int) : (kids x.o = 0 ∧ (x.o == 7) = false ∧ mvT x pl = ⟨x.o, 0, 0, x.n⟩) ∨ (kids x.o = 1 ∧ (x.o == 7) = false ∧ mvT x pl = ⟨x.o, pl x.a, 0, x.n⟩)
    ∨ (kids x.o = 2 ∧ (x.o == 7) = false ∧ mvT x pl = ⟨x.o, pl x.a, pl x.b, x.n⟩) ∨ (kids x.o = 2 ∧ x.o = 7 ∧ mvT x pl = bothT (pl x.a) (pl x.b)) := by
  obtain ⟨o, a, b, n⟩ := x
  unfold Bare at B
  simp only [beq_eq_false_iff_ne] at *
  rcases mvT_ways (t := ⟨o, a, b, n⟩) h pl with ⟨e, hr⟩ | ⟨_, e, hr⟩ | ⟨_, _, e, hk, hr⟩ | ⟨_, _, _, e, hk, hr⟩ | ⟨e1, e2, e3, e4, hk, hr⟩
  · simp only at e hr; subst e
    rw [kids1] at B
    rw [hr, B.2.1 (by decide), B.2.2 (by decide)]
    exact .inl ⟨kids1, by decide, rfl⟩
  · simp only at e hr; subst e
    rw [kids2] at B
    rw [hr, B.2.1 (by decide), B.2.2 (by decide)]
    exact .inl ⟨kids2, by decide, rfl⟩
  · simp only at e hr; subst e
    rw [kids6] at B
    rw [hr, B.1 (by decide)]
    exact .inr (.inl ⟨kids6, by decide, rfl⟩)
  · simp only at e hr; subst e
    rw [hr]
    exact .inr (.inr (.inr ⟨kids7, rfl, by unfold bothT; rfl⟩))
  · simp only [beq_eq_false_iff_ne] at *
    have hk2 : kids o = 2 := by rcases kids_cases o with h | h | h <;> omega
    rw [hr, B.1 (by omega)]
    exact .inr (.inr (.inl ⟨hk2, e4, rfl⟩))

theorem World.size_setCells (w : World) (B o : Nat) (vs : List Value) : (w.setCells B o vs).heap.size = w.heap.size := by
  induction vs generalizing w o with
  | nil => rfl
  | cons v vs ih => exact (ih _ _).trans (by simp [World.setCell])

/-- What a call of 'l5Move' leaves. -/
def MoveAt (M : Mv) (m : Nat) (w : World) (e : Ending) (w' : World) : Prop :=
  ∃ c d, e = .returned (.agg #[.int .i64 M.c, .int .i64 (if M.c = 0 then M.pl m else 0), .slice c (if M.c = 0 then M.tb else []).length d]) ∧ OwnTerm w' w.heap.size c d (if M.c = 0 then M.tb else []) ∧ Below w.heap.size w w'

theorem MoveAt.bad {M : Mv} {m : Nat} {w w' : World} {e : Ending} {kc : Int} {pl : Int → Int} {tb : List T4} (h : M = ⟨kc, pl, tb⟩) (hc : kc ≠ 0) (he : e = .returned (.agg #[.int .i64 kc, .int .i64 0, .slice none 0 0])) (B : Below w.heap.size w w') : MoveAt M m w e w' := by
  subst h
  subst he
  unfold MoveAt
  dsimp only
  rw [if_neg hc, if_neg hc]
  exact ⟨none, 0, rfl, OwnTerm.none, B⟩

theorem MoveAt.good {M : Mv} {m L : Nat} {w w' : World} {e : Ending} {pl : Int → Int} {tb : List T4} {c : Option Addr} {d : Nat} (h : ⟨0, pl, tb⟩ = M) (hL : tb.length = L) (he : e = .returned (.agg #[.int .i64 0, .int .i64 (pl m), .slice c L d])) (O : OwnTerm w' w.heap.size c d tb) (B : Below w.heap.size w w') : MoveAt M m w e w' := by
  subst h
  subst he
  subst hL
  unfold MoveAt
  dsimp only
  rw [if_pos rfl, if_pos rfl]
  exact ⟨c, d, rfl, O, B⟩

set_option maxRecDepth 20000 in
set_option maxHeartbeats 8000000 in
theorem l5Move_ok (a : Option Addr) (n ca : Nat) (fr : List T4) (m : Nat) (b : Option Addr) (nb cb : Nat) (tb : List T4) (w : World) (ha : RdTerm w a fr) (hn : fr.length = n) (hv : tfC fr = 0) (hm : m < n) (hlow : Hid (∀ b : Addr, a = some b → b.block < w.heap.size))
    (hb : RdTerm w b tb) (hnb : tb.length = nb) (hl : nb ≤ 400) (hcb : b = none → cb = 0) (M : Mv) (hM : mvR fr (prL fr m) (fun _ => 0) tb = M) :
    Calls Try.prog 78 #[.slice a n ca, .int .i64 m, .slice b nb cb] w (MoveAt M m w) := by
  have q1 := build_t1
  have q2 := build_tr12
  have q3 := build_tr0'
  have hn4 : n ≤ 400 := by have := (tfC_zero hv).1; omega
  have CP := Hid.mk (fun w h hl => l5Parts_ok a n ca fr m w h hn hv hm hl)
  have CC := Hid.mk (fun w h => l5Copy_ok b nb cb tb w h hnb (by omega) hcb)
  have HAh := Hid.mk (tfC_ahead hv)
  have HV := Hid.mk hv
  have HML := Hid.mk (show ∀ z ∈ prL fr m, 0 ≤ z ∧ z ≤ m from fun z hz => prL_range hz)
  have hlz := prL_len fr m
  obtain ⟨zs, hzs⟩ : ∃ zs, prL fr m = zs := ⟨_, rfl⟩
  rw [hzs] at hM CP HML hlz
  have hM0 : Hid (mvR fr (zs.drop 0) (fun _ => 0) tb = M ∧ PlOk (fun _ => 0) ∧ tb.length ≤ 400) := Hid.mk ⟨by rw [List.drop_zero]; exact hM, PlOk.zero, by omega⟩
  have HN := Hid.mk hn
  have HNB := Hid.mk hnb
  obtain ⟨i0, hi, hz0, hz1, hz2⟩ := info_parts Try.infoI64
  clear hv hM hzs hcb
  go_enter Try.func78, Try.ntmps78
  have B := Below.refl w.heap.size w
  replace ha := ha.kept (belowA w (.cells #[.int .i64 0, .int .i64 0, .slice none 0 0] 30))
  replace hb := hb.kept (belowA w (.cells #[.int .i64 0, .int .i64 0, .slice none 0 0] 30))
  replace B := thenB B (belowA w (.cells #[.int .i64 0, .int .i64 0, .slice none 0 0] 30))
  have VR := V.new w [.int .i64 0, .int .i64 0, .slice none 0 0] 30
  obtain ⟨s_VR, f_VR, z_VR⟩ := VR.open
  have Bo := B
  go_wp2_with fail
  refine (CP.out _ ha (Hid.mk (fun b' hb' => by have := hlow.out b' hb'; have := B.size; omega))).mono ?_
  rintro e w1 ⟨c3, d3, l, rfl, hk, OP, b1⟩
  clear s_VR f_VR z_VR
  have S1 := b1.size
  simp only [World.size_alloc] at S1
  replace VR := VR.kept b1
  replace ha := ha.kept b1
  replace hb := hb.kept b1
  replace B := thenB B b1
  clear b1
  obtain ⟨s_VR, f_VR, z_VR⟩ := VR.open
  have Bo := B
  have HPl := Hid.mk (fun ad (hq : c3 = some ad) => (OP.lt ad hq))
  go_wp2_with (at_make; go_loud (refine wpList_make_full _ rfl _ _ 46 rfl w1.heap.size 2 i0 (.int .i64 0) 1 Try.underlying46 hi hz0 hz1 .i64 .i64 _ _ (m + 1) rfl rfl (by omega) (by omega) (by rw [hz2]; omega) (by unfold maxLen; omega) (Nat.le_refl _) ?_))
  intro w2 hown hgrow
  have O0 : Own .i64 2 w2 w1.heap.size (some ⟨w1.heap.size, 0, none⟩) (m + 1) (tab (m + 1) (fun _ => 0)) := by
    refine Own.mk ?_ (tab_len _ _)
    rw [tab_zero]
    simpa [toList_madeCells_one] using hown
  have bg : Below w1.heap.size w1 w2 := (Sm.grown (X := fun _ => False) hgrow (fun k e => by cases e)).below' (Below.refl _ _) (Nat.le_refl _) (fun k e => e.elim)
  clear s_VR f_VR z_VR
  replace VR := VR.kept bg
  replace ha := ha.kept bg
  replace hb := hb.kept bg
  replace OP := OP.kept bg
  replace B := thenB B bg
  have hS2 : w1.heap.size < w2.heap.size := by have := O0.lt _ rfl; simp only at this; omega
  have hQ2 : w.heap.size < w1.heap.size := by have := S1; (try simp only [World.size_alloc] at this); omega
  clear hown hgrow bg hi hz0 hz1 hz2
  obtain ⟨Q, hQ⟩ : ∃ Q, w1.heap.size = Q := ⟨_, rfl⟩
  rw [hQ] at O0 hS2 hQ2 HPl ⊢
  replace HPl : Hid (∀ ad : Addr, c3 = some ad → w.heap.size < ad.block ∧ ad.block < Q) := Hid.mk (fun ad hq => by have h := HPl.out ad hq; (try simp only [World.size_alloc] at h); omega)
  clear hQ S1
  obtain ⟨s_VR, f_VR, z_VR⟩ := VR.open
  have Bo := B
  go_wp2_with fail
  refine (CC.out _ hb).mono ?_
  rintro e w2 ⟨c4, d4, rfl, OC, b2⟩
  clear s_VR f_VR z_VR
  have S2 := b2.size
  replace VR := VR.kept b2
  replace ha := ha.kept b2
  replace hb := hb.kept b2
  replace OP := OP.kept b2
  replace O0 := O0.kept b2
  replace B := thenB B b2
  clear b2
  obtain ⟨s_VR, f_VR, z_VR⟩ := VR.open
  have Bo := B
  clear s_VR f_VR z_VR
  have OC0 := OC.mono (base' := w.heap.size) (by omega)
  have hOQ := Hid.mk (fun ad (hq : c4 = some ad) => (OC.lt ad hq).1)
  have RP := Hid.mk OP.rd
  have HK := Hid.mk hk
  have hl5 : l ≤ 401 := by have := HK.out; omega
  clear hlz
  have B0 := Hid.mk B
  have O1 := Hid.mk O0
  have OC1 := Hid.mk OC0
  have VR0 := Hid.mk VR
  have HA := Hid.mk ha
  have hQZ := Hid.mk (show Q < w2.heap.size by omega)
  have hCQ : Hid (∀ ad : Addr, c4 = some ad → ad.block ≠ Q ∧ ad.block ≠ w.heap.size) := Hid.mk (fun ad hq => by have := hOQ.out ad hq; omega)
  clear ha hb O0 OC0 OC VR OP B Bo hk hOQ
  go_wp2
  go_loopw [9, 10] (fun s i wr => ∃ (k : Nat) (c' : Option Addr) (d' L : Nat) (pl : Int → Int) (tb : List T4), k ≤ l ∧ i = .int .i64 k ∧ s = .slice c' L d' ∧ Hid (tb.length = L) ∧ Hid (mvR fr (zs.drop k) pl tb = M ∧ PlOk pl ∧ tb.length ≤ 400) ∧ OwnTerm wr w.heap.size c' d' tb ∧ RdTerm wr a fr ∧ Own .i64 2 wr Q (some ⟨Q, 0, none⟩) (m + 1) (tab (m + 1) pl) ∧ Rd .i64 wr c3 zs ∧ V wr w.heap.size [.int .i64 0, .int .i64 0, .slice none 0 0] ∧ Below w.heap.size w wr ∧ Hid (Q < wr.heap.size) ∧ Hid (∀ ad : Addr, c' = some ad → ad.block ≠ Q ∧ ad.block ≠ w.heap.size)) (fun _ i _ => l - (intOf i).toNat)
  case atStart => exact ⟨0, c4, d4, nb, fun _ => 0, tb, Nat.zero_le _, rfl, rfl, HNB, hM0, OC1.out, HA.out, O1.out, RP.out, VR0.out, B0.out, hQZ, hCQ⟩
  case round =>
    clear hM0 O1 OC1 RP VR0 B0 hQZ HA hCQ
    obtain ⟨k, c1, d1, L, pl, tb, hk1, rfl, rfl, hL, hdr, OT, ha, O, RP, VR, B0, hQZ, hCQ⟩ := hrel
    by_cases hlt : k < l
    · obtain ⟨z, hz⟩ : ∃ z, zs.getD k 0 = z := ⟨_, rfl⟩
      have hk2 : (k : Int) < (l : Int) := by omega
      have hzm := HML.out z (by rw [← hz]; exact igetD_mem (by rw [HK.out]; exact hlt))
      obtain ⟨u, rfl⟩ : ∃ u : Nat, z = (u : Int) := ⟨z.toNat, by omega⟩
      have hum : u < m + 1 := by omega
      have hum1 : (u : Int) < (m : Int) + 1 := by omega
      have hun1 : (u : Int) < (n : Int) := by omega
      obtain ⟨x, hx1⟩ : ∃ x, fr.getD u zTerm = x := ⟨_, rfl⟩
      have hs := mvR_drop fr zs pl tb k (by rw [HK.out]; exact hlt) hz
      have htm : tmAt fr (u : Int) = x := by unfold tmAt; rw [Int.toNat_natCast]; exact hx1
      rw [htm, hdr.out.1] at hs
      have hBare := (tfC_nice HV.out).bare u (by rw [HN.out]; omega)
      rw [hx1] at hBare
      have hop := op_right HV.out u (by rw [HN.out]; omega) hx1
      obtain ⟨ha1, hb1⟩ := HAh.out u (by rw [HN.out]; omega)
      rw [hx1] at ha1 hb1
      have hL4 : L ≤ 400 := by have := hdr.out.2.2; have := hL.out; omega
      have CPP := Hid.mk (fun t c d w h hc => l5Put_ok c L d tb t w h hL.out (by omega) hc)
      have CB := Hid.mk (fun x y c d w h hc => l5Both_ok c L d tb x y w h hL.out (by omega) hc)
      have HPO := Hid.mk hdr.out.2.1
      have hput := put_len (xs := tb) (t := mvT x pl) hdr.out.2.2
      have hpk := put_k (xs := tb) (t := mvT x pl) hdr.out.2.2
      have HW := mv_ways hop hBare pl
      have hnc := Hid.mk (ownTerm_nocap OT)
      have HOT := Hid.mk OT
      have HO := Hid.mk O
      have HRP := Hid.mk RP
      have HVR := Hid.mk VR
      have HA := Hid.mk ha
      rcases ha with h9 | ⟨b1, o1, rfl, hca⟩
      · have := HN.out; rw [h9] at this; simp at this; omega
      obtain ⟨p0, p1, p2, p3⟩ := RdTerm.cells hca u (by rw [HN.out]; omega) x hx1
      rcases RP with h9 | ⟨g4, o4, rfl, hcp⟩
      · have := HK.out; rw [h9] at this; simp at this; omega
      have pz := hcp k (by rw [HK.out]; exact hlt)
      rw [hz] at pz
      have hg4 := HPl.out _ rfl
      simp only at hg4
      have hQw := hQZ.out
      have VRl := VR.1
      have hQc := tab_cell O hum
      have hQf := tab_frozen O u
      clear hca hcp hz hx1 htm hop hBare hdr hzm OT VR
      obtain ⟨xo, xa, xb, xn⟩ := x
      simp only at *
      rcases HW with ⟨hk, h7, hr⟩ | ⟨hk, h7, hr⟩ | ⟨hk, h7, hr⟩ | ⟨hk, h7, hr⟩
      · skip
        rw [hk] at ha1 hb1
        have CK := Hid.mk (fun w => l5Kids_ok xo w)
        rw [hk] at CK
        rw [hr] at hs hput hpk
        replace CPP := Hid.mk (fun c d w h hc => CPP.out ⟨xo, 0, 0, xn⟩ c d w h hc)
        generalize put tb ⟨xo, 0, 0, xn⟩ = P at *
        obtain ⟨kc, kk, ls⟩ := P
        simp only at *
        obtain ⟨kl, hkl⟩ : ∃ q, ls.length = q := ⟨_, rfl⟩
        rw [hkl] at CPP hput
        replace hkl := Hid.mk hkl
        clear O
        by_cases hc : kc = 0
        · skip
          subst hc
          rw [if_pos rfl] at hs
          have HS := Hid.mk hs
          clear hs
          have B := Below.refl wr.heap.size wr
          replace B := thenB B (belowA wr (.cells #[.int .i64 xo, .int .i64 xa, .int .i64 xb, .int .i64 xn] 26))
          have VX := V.new wr [.int .i64 xo, .int .i64 xa, .int .i64 xb, .int .i64 xn] 26
          obtain ⟨s_VX, f_VX, z_VX⟩ := VX.open
          have Bo := B
          go_wp2_with fail
          refine (CK.out _).mono ?_
          rintro e wq ⟨rfl, rfl⟩
          go_wp2_with fail
          refine (CK.out _).mono ?_
          rintro e wq ⟨rfl, rfl⟩
          go_wp2_with fail
          replace VX := VX.kept (belowA (wr.alloc (.cells #[.int .i64 xo, .int .i64 xa, .int .i64 xb, .int .i64 xn] 26)) (.cells #[.int .i64 xo, .int .i64 0, .int .i64 0, .int .i64 xn] 26))
          replace B := thenB B (belowA (wr.alloc (.cells #[.int .i64 xo, .int .i64 xa, .int .i64 xb, .int .i64 xn] 26)) (.cells #[.int .i64 xo, .int .i64 0, .int .i64 0, .int .i64 xn] 26))
          have VY : V ((wr.alloc (.cells #[.int .i64 xo, .int .i64 xa, .int .i64 xb, .int .i64 xn] 26)).alloc (.cells #[.int .i64 xo, .int .i64 0, .int .i64 0, .int .i64 xn] 26)) (wr.heap.size + 1) [.int .i64 xo, .int .i64 0, .int .i64 0, .int .i64 xn] := V.newAt _ _ _ _ (by simp)
          refine (CPP.out _ _ _ (HOT.out.kept B).rd hnc.out).mono ?_
          rintro e w101 ⟨c6, d6, rfl, O6, b101⟩
          clear s_VX f_VX z_VX
          have S101 := b101.size
          simp only [World.size_alloc] at S101
          replace VX := VX.kept b101
          replace VY := VY.kept b101
          replace B := thenB B b101
          clear b101
          obtain ⟨s_VX, f_VX, z_VX⟩ := VX.open
          obtain ⟨s_VY, f_VY, z_VY⟩ := VY.open
          have Bo := B
          replace VX := VX.kept (belowA w101 (.cells #[.int .i64 0, .int .i64 kk, .slice c6 kl d6] 30))
          replace VY := VY.kept (belowA w101 (.cells #[.int .i64 0, .int .i64 kk, .slice c6 kl d6] 30))
          replace O6 := O6.kept (belowA w101 (.cells #[.int .i64 0, .int .i64 kk, .slice c6 kl d6] 30))
          replace B := thenB B (belowA w101 (.cells #[.int .i64 0, .int .i64 kk, .slice c6 kl d6] 30))
          have VW := V.new w101 [.int .i64 0, .int .i64 kk, .slice c6 kl d6] 30
          clear s_VX f_VX z_VX s_VY f_VY z_VY
          obtain ⟨s_VX, f_VX, z_VX⟩ := VX.open
          obtain ⟨s_VY, f_VY, z_VY⟩ := VY.open
          obtain ⟨s_VW, f_VW, z_VW⟩ := VW.open
          have Bo := B
          clear s_VX f_VX z_VX s_VY f_VY z_VY s_VW f_VW z_VW
          have hgz := ((bcell B).1 _ _ (show g4 < wr.heap.size by omega)).trans pz
          have hQc2 := ((bcell B).1 _ _ (show Q < wr.heap.size by omega)).trans hQc
          have hQf2 := ((bcell B).2 _ _ (show Q < wr.heap.size by omega)).trans hQf
          have hsB := B.size
          have hVWl := VW.1
          have hVWQ : w101.heap.size ≠ Q := by (try simp); omega
          have hg4Q : g4 ≠ Q := by omega
          have K : ∀ w' : World, Below (w101.alloc (.cells #[.int .i64 0, .int .i64 kk, .slice c6 kl d6] 30)).heap.size (w101.alloc (.cells #[.int .i64 0, .int .i64 kk, .slice c6 kl d6] 30)) w' → (w'.cell? ⟨w101.heap.size, 0, none⟩ = some (.int .i64 0) ∧ w'.cell? ⟨w101.heap.size, 1, none⟩ = some (.int .i64 kk) ∧ w'.cell? ⟨w101.heap.size, 2, none⟩ = some (.slice c6 kl d6) ∧ w'.cell? ⟨g4, o4 + k, none⟩ = some (.int .i64 u)) := fun w' h => ⟨(VW.kept h).2.1 0 (by simp), (VW.kept h).2.1 1 (by simp), (VW.kept h).2.1 2 (by simp), ((bcell h).1 _ _ (by omega)).trans hgz⟩
          have K := Hid.mk K
          have BD : Below wr.heap.size wr (w101.alloc (.cells #[.int .i64 0, .int .i64 kk, .slice c6 kl d6] 30)).drew := thenB B (Below.refl _ _).drew
          have SQ : Sm (fun q => q = Q) (w101.alloc (.cells #[.int .i64 0, .int .i64 kk, .slice c6 kl d6] 30)).drew ((w101.alloc (.cells #[.int .i64 0, .int .i64 kk, .slice c6 kl d6] 30)).drew.setCell ⟨Q, u, none⟩ (.int .i64 kk)) := Sm.cell (X := fun q => q = Q) rfl _
          have O8 := Hid.mk (tab_store (HO.out.kept BD) u kk)
          have RP8 := Hid.mk ((HRP.out.kept BD).sm SQ (fun b hb e => by simp only [Option.some.injEq] at hb; subst hb; simp only at e; omega))
          have VR8 := Hid.mk ((HVR.out.kept BD).sm SQ (by omega))
          have A8 := Hid.mk ((HA.out.kept BD).sm SQ (fun b hb e => by simp only [Option.some.injEq] at hb; subst hb; have := hlow.out _ rfl; simp only at e this; omega))
          have hOl := Hid.mk (fun b (hb : c6 = some b) => (O6.lt b hb).1)
          have hNQ : Hid (∀ ad : Addr, c6 = some ad → ad.block ≠ Q ∧ ad.block ≠ w.heap.size) := Hid.mk (fun ad hq => by have := hOl.out ad hq; first | omega | (simp at this; omega))
          have OT8 := Hid.mk (((O6.kept (Below.refl _ _).drew).mono (base' := w.heap.size) (by first | omega | (simp; omega))).sm SQ (fun b hb e => (hNQ.out b hb).1 e))
          have B8 := Hid.mk ((thenB B0 BD).setCell (p := ⟨Q, u, none⟩) (by simp only; omega) (.int .i64 kk))
          have Q8 : Hid (Q < ((w101.alloc (.cells #[.int .i64 0, .int .i64 kk, .slice c6 kl d6] 30)).drew.setCell ⟨Q, u, none⟩ (.int .i64 kk)).heap.size) := Hid.mk (by have h1 := SQ.size; have h2 := BD.size; omega)
          have D8 : Hid (mvR fr (zs.drop (k + 1)) (updP pl u kk) ls = M ∧ PlOk (updP pl u kk) ∧ ls.length ≤ 400) := Hid.mk ⟨HS.out.symm, HPO.out.upd hpk, by rw [hkl.out]; exact hput⟩
          clear SQ BD B
          obtain ⟨s_VX, f_VX, z_VX⟩ := VX.open
          obtain ⟨s_VY, f_VY, z_VY⟩ := VY.open
          obtain ⟨s_VW, f_VW, z_VW⟩ := VW.open
          go_wp2_with fail
          clear s_VX f_VX z_VX s_VY f_VY z_VY s_VW f_VW z_VW
          refine wp_region_held_drew (S := (fun w' => w'.cell? ⟨w101.heap.size, 0, none⟩ = some (.int .i64 0) ∧ w'.cell? ⟨w101.heap.size, 1, none⟩ = some (.int .i64 kk) ∧ w'.cell? ⟨w101.heap.size, 2, none⟩ = some (.slice c6 kl d6) ∧ w'.cell? ⟨g4, o4 + k, none⟩ = some (.int .i64 u))) (by kernel_rfl) (K.out _ (Below.refl _ _).drew) (fun hHeld => ?_)
          refine wpAnyH_take (i := 0) (oi := _) (v := ?vmv100u1) rfl (by kernel_rfl) (by kernel_rfl) (by kernel_rfl) (fun _ _ _ h => h) (Or.inl ⟨by rfl, ?hymv100u1⟩) hHeld ?restmv100u1
          case hymv100u1 => (intro w hSw; (try dsimp only at hSw); go_simp; first | done | with_reducible rfl)
          try simp only [Act.put, List.getElem_toArray, List.getElem_cons_zero, List.setIfInBounds_toArray, List.set_cons_zero, List.set_cons_succ]
          refine wpAnyH_take (i := 1) (oi := _) (v := ?vmv100u2) rfl (by kernel_rfl) (by kernel_rfl) (by kernel_rfl) (fun _ _ _ h => h) (Or.inl ⟨by rfl, ?hymv100u2⟩) hHeld ?restmv100u2
          case hymv100u2 => (intro w hSw; (try dsimp only at hSw); go_simp; first | done | with_reducible rfl)
          try simp only [Act.put, List.getElem_toArray, List.getElem_cons_zero, List.getElem_cons_succ, List.setIfInBounds_toArray, List.set_cons_zero, List.set_cons_succ]
          refine wpAnyH_take (i := 2) (oi := _) (v := ?vmv100u3) rfl (by kernel_rfl) (by kernel_rfl) (by kernel_rfl) (fun _ _ _ h => h) (Or.inl ⟨by rfl, ?hymv100u3⟩) hHeld ?restmv100u3
          case hymv100u3 => (intro w hSw; (try dsimp only at hSw); go_simp; first | done | with_reducible rfl)
          try simp only [Act.put, List.getElem_toArray, List.getElem_cons_zero, List.getElem_cons_succ, List.setIfInBounds_toArray, List.set_cons_zero, List.set_cons_succ]
          refine wpAnyH_take (i := 3) (oi := _) (v := ?vmv100u4) rfl (by kernel_rfl) (by kernel_rfl) (by kernel_rfl) (fun _ _ _ h => h) (Or.inl ⟨by rfl, ?hymv100u4⟩) hHeld ?restmv100u4
          case hymv100u4 => (intro w hSw; (try dsimp only at hSw); go_simp; first | done | with_reducible rfl)
          try simp only [Act.put, List.getElem_toArray, List.getElem_cons_zero, List.getElem_cons_succ, List.setIfInBounds_toArray, List.set_cons_zero, List.set_cons_succ]
          refine wpAnyH_take (i := 4) (oi := _) (v := ?vmv100u5) rfl (by kernel_rfl) (by kernel_rfl) (by kernel_rfl) (fun _ _ _ h => h) (Or.inl ⟨by rfl, ?hymv100u5⟩) hHeld ?restmv100u5
          case hymv100u5 => (intro w hSw; (try dsimp only at hSw); go_simp; first | done | with_reducible rfl)
          try simp only [Act.put, List.getElem_toArray, List.getElem_cons_zero, List.getElem_cons_succ, List.setIfInBounds_toArray, List.set_cons_zero, List.set_cons_succ]
          refine wpAnyH_take (i := 5) (oi := _) (v := ?vmv100u6) rfl (by kernel_rfl) (by kernel_rfl) (by kernel_rfl) (fun _ _ _ h => h) (Or.inl ⟨by rfl, ?hymv100u6⟩) hHeld ?restmv100u6
          case hymv100u6 => (intro w hSw; (try dsimp only at hSw); go_simp; first | done | with_reducible rfl)
          try simp only [Act.put, List.getElem_toArray, List.getElem_cons_zero, List.getElem_cons_succ, List.setIfInBounds_toArray, List.set_cons_zero, List.set_cons_succ]
          refine wpAnyH_take (i := 6) (oi := _) (v := ?vmv100u7) rfl (by kernel_rfl) (by kernel_rfl) (by kernel_rfl) (fun _ _ _ h => h) (Or.inl ⟨by rfl, ?hymv100u7⟩) hHeld ?restmv100u7
          case hymv100u7 => (intro w hSw; (try dsimp only at hSw); go_simp; first | done | with_reducible rfl)
          try simp only [Act.put, List.getElem_toArray, List.getElem_cons_zero, List.getElem_cons_succ, List.setIfInBounds_toArray, List.set_cons_zero, List.set_cons_succ]
          refine wpAnyH_take (i := 7) (oi := _) (v := ?vmv100u8) rfl (by kernel_rfl) (by kernel_rfl) (by kernel_rfl) (fun _ _ _ h => h) (Or.inl ⟨by rfl, ?hymv100u8⟩) hHeld ?restmv100u8
          case hymv100u8 => (intro w hSw; (try dsimp only at hSw); go_simp; first | done | with_reducible rfl)
          try simp only [Act.put, List.getElem_toArray, List.getElem_cons_zero, List.getElem_cons_succ, List.setIfInBounds_toArray, List.set_cons_zero, List.set_cons_succ]
          have hd0 := (Below.refl (w101.alloc (.cells #[.int .i64 0, .int .i64 kk, .slice c6 kl d6] 30)).heap.size (w101.alloc (.cells #[.int .i64 0, .int .i64 kk, .slice c6 kl d6] 30))).drew
          have qc := ((bcell hd0).1 _ _ (show Q < (w101.alloc (.cells #[.int .i64 0, .int .i64 kk, .slice c6 kl d6] 30)).heap.size by omega)).trans hQc2
          have qf := ((bcell hd0).2 _ _ (show Q < (w101.alloc (.cells #[.int .i64 0, .int .i64 kk, .slice c6 kl d6] 30)).heap.size by omega)).trans hQf2
          have hH2 := hHeld
          try dsimp only at hH2
          obtain ⟨e1, e2, e3, e4⟩ := hH2
          refine wpAnyH_ready (rs := [8]) (by kernel_rfl) (by simp) ?_
          refine AllReadyH.cons (o := _) rfl (fun K0 hK0 => ?_) AllReadyH.nil
          go_simp
          refine hK0.out _ _ (⟨(cell_far hVWQ _).trans e1, (cell_far hVWQ _).trans e2, (cell_far hVWQ _).trans e3, (cell_far hg4Q _).trans e4⟩) (fun hHeld => ?_)
          clear hK0 K0
          try simp only [Act.put, List.getElem_toArray, List.getElem_cons_zero, List.getElem_cons_succ, List.setIfInBounds_toArray, List.set_cons_zero, List.set_cons_succ]
          refine wpAnyH_done (by kernel_rfl) ?_ _
          go_wp2
          go_roundw
          case rel => exact ⟨k + 1, c6, d6, kl, updP pl u kk, ls, by omega, by go_num, rfl, hkl, D8, OT8.out, A8.out, O8.out, RP8.out, VR8.out, B8.out, Q8, hNQ⟩
          case measure => (simp [intOf]; omega)
        · skip
          rw [if_neg hc] at hs
          have hcc : (kc != 0) = true := by simp [hc]
          have HS := Hid.mk hs
          have HC := Hid.mk hc
          clear hs hc
          have B := Below.refl wr.heap.size wr
          replace B := thenB B (belowA wr (.cells #[.int .i64 xo, .int .i64 xa, .int .i64 xb, .int .i64 xn] 26))
          have VX := V.new wr [.int .i64 xo, .int .i64 xa, .int .i64 xb, .int .i64 xn] 26
          obtain ⟨s_VX, f_VX, z_VX⟩ := VX.open
          have Bo := B
          go_wp2_with fail
          refine (CK.out _).mono ?_
          rintro e wq ⟨rfl, rfl⟩
          go_wp2_with fail
          refine (CK.out _).mono ?_
          rintro e wq ⟨rfl, rfl⟩
          go_wp2_with fail
          replace VX := VX.kept (belowA (wr.alloc (.cells #[.int .i64 xo, .int .i64 xa, .int .i64 xb, .int .i64 xn] 26)) (.cells #[.int .i64 xo, .int .i64 0, .int .i64 0, .int .i64 xn] 26))
          replace B := thenB B (belowA (wr.alloc (.cells #[.int .i64 xo, .int .i64 xa, .int .i64 xb, .int .i64 xn] 26)) (.cells #[.int .i64 xo, .int .i64 0, .int .i64 0, .int .i64 xn] 26))
          have VY : V ((wr.alloc (.cells #[.int .i64 xo, .int .i64 xa, .int .i64 xb, .int .i64 xn] 26)).alloc (.cells #[.int .i64 xo, .int .i64 0, .int .i64 0, .int .i64 xn] 26)) (wr.heap.size + 1) [.int .i64 xo, .int .i64 0, .int .i64 0, .int .i64 xn] := V.newAt _ _ _ _ (by simp)
          refine (CPP.out _ _ _ (HOT.out.kept B).rd hnc.out).mono ?_
          rintro e w111 ⟨c6, d6, rfl, O6, b111⟩
          clear s_VX f_VX z_VX
          have S111 := b111.size
          simp only [World.size_alloc] at S111
          replace VX := VX.kept b111
          replace VY := VY.kept b111
          replace B := thenB B b111
          clear b111
          obtain ⟨s_VX, f_VX, z_VX⟩ := VX.open
          obtain ⟨s_VY, f_VY, z_VY⟩ := VY.open
          have Bo := B
          replace VX := VX.kept (belowA w111 (.cells #[.int .i64 kc, .int .i64 kk, .slice c6 kl d6] 30))
          replace VY := VY.kept (belowA w111 (.cells #[.int .i64 kc, .int .i64 kk, .slice c6 kl d6] 30))
          replace O6 := O6.kept (belowA w111 (.cells #[.int .i64 kc, .int .i64 kk, .slice c6 kl d6] 30))
          replace B := thenB B (belowA w111 (.cells #[.int .i64 kc, .int .i64 kk, .slice c6 kl d6] 30))
          have VW := V.new w111 [.int .i64 kc, .int .i64 kk, .slice c6 kl d6] 30
          clear s_VX f_VX z_VX s_VY f_VY z_VY
          obtain ⟨s_VX, f_VX, z_VX⟩ := VX.open
          obtain ⟨s_VY, f_VY, z_VY⟩ := VY.open
          obtain ⟨s_VW, f_VW, z_VW⟩ := VW.open
          have Bo := B
          clear s_VX f_VX z_VX s_VY f_VY z_VY s_VW f_VW z_VW
          have VR := HVR.out.kept B
          replace B := thenB B0 B
          obtain ⟨s_VX, f_VX, z_VX⟩ := VX.open
          obtain ⟨s_VW, f_VW, z_VW⟩ := VW.open
          obtain ⟨s_VR, f_VR, z_VR⟩ := VR.open
          have Bo := B
          clear s_VX f_VX z_VX s_VW f_VW z_VW s_VR f_VR z_VR
          have VF := Hid.mk (VR.filled [.int .i64 kc, .int .i64 0, .slice none 0 0] rfl)
          have HT := Hid.mk VR.there
          have BR := belowCells B (show w.heap.size ≤ w.heap.size by (first | omega | (simp; done) | (simp; omega))) 0 [.int .i64 kc, .int .i64 0, .slice none 0 0]
          replace BR := Hid.mk BR
          obtain ⟨s_VX, f_VX, z_VX⟩ := VX.open
          obtain ⟨s_VW, f_VW, z_VW⟩ := VW.open
          obtain ⟨s_VR, f_VR, z_VR⟩ := VR.open
          go_wp2_with (refine wpList_store_mid rfl 30 _ _ rfl (w.heap.size) 0 #[.int .i64 kc, .int .i64 0, .slice none 0 0] rfl rfl HT.out (by kernel_rfl) (by kernel_rfl) ?_)
          refine bodyPost_ret (v := .agg #[.int .i64 kc, .int .i64 0, .slice none 0 0]) (results_row Try.results78 _ _ (w.heap.size) [.int .i64 kc, .int .i64 0, .slice none 0 0] _ rfl VF.out Try.underlying30 rfl (by kernel_rfl)) rfl (MoveAt.bad HS.out HC.out rfl BR.out)
      · skip
        rw [hk] at ha1 hb1
        obtain ⟨a0, a1⟩ := ha1 (by decide)
        obtain ⟨i, rfl⟩ : ∃ i : Nat, xa = (i : Int) := ⟨xa.toNat, by omega⟩
        have him : (i : Int) < (m : Int) + 1 := by omega
        have hQa := tab_cell O (i := i) (by omega)
        have CK := Hid.mk (fun w => l5Kids_ok xo w)
        rw [hk] at CK
        rw [hr] at hs hput hpk
        obtain ⟨va, hva⟩ : ∃ v, pl i = v := ⟨_, rfl⟩
        rw [hva] at hQa hs hput hpk
        replace CPP := Hid.mk (fun c d w h hc => CPP.out ⟨xo, va, 0, xn⟩ c d w h hc)
        generalize put tb ⟨xo, va, 0, xn⟩ = P at *
        obtain ⟨kc, kk, ls⟩ := P
        simp only at *
        obtain ⟨kl, hkl⟩ : ∃ q, ls.length = q := ⟨_, rfl⟩
        rw [hkl] at CPP hput
        replace hkl := Hid.mk hkl
        clear O
        by_cases hc : kc = 0
        · skip
          subst hc
          rw [if_pos rfl] at hs
          have HS := Hid.mk hs
          clear hs
          have B := Below.refl wr.heap.size wr
          replace B := thenB B (belowA wr (.cells #[.int .i64 xo, .int .i64 i, .int .i64 xb, .int .i64 xn] 26))
          have VX := V.new wr [.int .i64 xo, .int .i64 i, .int .i64 xb, .int .i64 xn] 26
          obtain ⟨s_VX, f_VX, z_VX⟩ := VX.open
          have Bo := B
          go_wp2_with fail
          refine (CK.out _).mono ?_
          rintro e wq ⟨rfl, rfl⟩
          go_wp2_with fail
          refine (CK.out _).mono ?_
          rintro e wq ⟨rfl, rfl⟩
          go_wp2_with fail
          replace VX := VX.kept (belowA (wr.alloc (.cells #[.int .i64 xo, .int .i64 i, .int .i64 xb, .int .i64 xn] 26)) (.cells #[.int .i64 xo, .int .i64 va, .int .i64 0, .int .i64 xn] 26))
          replace B := thenB B (belowA (wr.alloc (.cells #[.int .i64 xo, .int .i64 i, .int .i64 xb, .int .i64 xn] 26)) (.cells #[.int .i64 xo, .int .i64 va, .int .i64 0, .int .i64 xn] 26))
          have VY : V ((wr.alloc (.cells #[.int .i64 xo, .int .i64 i, .int .i64 xb, .int .i64 xn] 26)).alloc (.cells #[.int .i64 xo, .int .i64 va, .int .i64 0, .int .i64 xn] 26)) (wr.heap.size + 1) [.int .i64 xo, .int .i64 va, .int .i64 0, .int .i64 xn] := V.newAt _ _ _ _ (by simp)
          refine (CPP.out _ _ _ (HOT.out.kept B).rd hnc.out).mono ?_
          rintro e w201 ⟨c6, d6, rfl, O6, b201⟩
          clear s_VX f_VX z_VX
          have S201 := b201.size
          simp only [World.size_alloc] at S201
          replace VX := VX.kept b201
          replace VY := VY.kept b201
          replace B := thenB B b201
          clear b201
          obtain ⟨s_VX, f_VX, z_VX⟩ := VX.open
          obtain ⟨s_VY, f_VY, z_VY⟩ := VY.open
          have Bo := B
          replace VX := VX.kept (belowA w201 (.cells #[.int .i64 0, .int .i64 kk, .slice c6 kl d6] 30))
          replace VY := VY.kept (belowA w201 (.cells #[.int .i64 0, .int .i64 kk, .slice c6 kl d6] 30))
          replace O6 := O6.kept (belowA w201 (.cells #[.int .i64 0, .int .i64 kk, .slice c6 kl d6] 30))
          replace B := thenB B (belowA w201 (.cells #[.int .i64 0, .int .i64 kk, .slice c6 kl d6] 30))
          have VW := V.new w201 [.int .i64 0, .int .i64 kk, .slice c6 kl d6] 30
          clear s_VX f_VX z_VX s_VY f_VY z_VY
          obtain ⟨s_VX, f_VX, z_VX⟩ := VX.open
          obtain ⟨s_VY, f_VY, z_VY⟩ := VY.open
          obtain ⟨s_VW, f_VW, z_VW⟩ := VW.open
          have Bo := B
          clear s_VX f_VX z_VX s_VY f_VY z_VY s_VW f_VW z_VW
          have hgz := ((bcell B).1 _ _ (show g4 < wr.heap.size by omega)).trans pz
          have hQc2 := ((bcell B).1 _ _ (show Q < wr.heap.size by omega)).trans hQc
          have hQf2 := ((bcell B).2 _ _ (show Q < wr.heap.size by omega)).trans hQf
          have hsB := B.size
          have hVWl := VW.1
          have hVWQ : w201.heap.size ≠ Q := by (try simp); omega
          have hg4Q : g4 ≠ Q := by omega
          have K : ∀ w' : World, Below (w201.alloc (.cells #[.int .i64 0, .int .i64 kk, .slice c6 kl d6] 30)).heap.size (w201.alloc (.cells #[.int .i64 0, .int .i64 kk, .slice c6 kl d6] 30)) w' → (w'.cell? ⟨w201.heap.size, 0, none⟩ = some (.int .i64 0) ∧ w'.cell? ⟨w201.heap.size, 1, none⟩ = some (.int .i64 kk) ∧ w'.cell? ⟨w201.heap.size, 2, none⟩ = some (.slice c6 kl d6) ∧ w'.cell? ⟨g4, o4 + k, none⟩ = some (.int .i64 u)) := fun w' h => ⟨(VW.kept h).2.1 0 (by simp), (VW.kept h).2.1 1 (by simp), (VW.kept h).2.1 2 (by simp), ((bcell h).1 _ _ (by omega)).trans hgz⟩
          have K := Hid.mk K
          have BD : Below wr.heap.size wr (w201.alloc (.cells #[.int .i64 0, .int .i64 kk, .slice c6 kl d6] 30)).drew := thenB B (Below.refl _ _).drew
          have SQ : Sm (fun q => q = Q) (w201.alloc (.cells #[.int .i64 0, .int .i64 kk, .slice c6 kl d6] 30)).drew ((w201.alloc (.cells #[.int .i64 0, .int .i64 kk, .slice c6 kl d6] 30)).drew.setCell ⟨Q, u, none⟩ (.int .i64 kk)) := Sm.cell (X := fun q => q = Q) rfl _
          have O8 := Hid.mk (tab_store (HO.out.kept BD) u kk)
          have RP8 := Hid.mk ((HRP.out.kept BD).sm SQ (fun b hb e => by simp only [Option.some.injEq] at hb; subst hb; simp only at e; omega))
          have VR8 := Hid.mk ((HVR.out.kept BD).sm SQ (by omega))
          have A8 := Hid.mk ((HA.out.kept BD).sm SQ (fun b hb e => by simp only [Option.some.injEq] at hb; subst hb; have := hlow.out _ rfl; simp only at e this; omega))
          have hOl := Hid.mk (fun b (hb : c6 = some b) => (O6.lt b hb).1)
          have hNQ : Hid (∀ ad : Addr, c6 = some ad → ad.block ≠ Q ∧ ad.block ≠ w.heap.size) := Hid.mk (fun ad hq => by have := hOl.out ad hq; first | omega | (simp at this; omega))
          have OT8 := Hid.mk (((O6.kept (Below.refl _ _).drew).mono (base' := w.heap.size) (by first | omega | (simp; omega))).sm SQ (fun b hb e => (hNQ.out b hb).1 e))
          have B8 := Hid.mk ((thenB B0 BD).setCell (p := ⟨Q, u, none⟩) (by simp only; omega) (.int .i64 kk))
          have Q8 : Hid (Q < ((w201.alloc (.cells #[.int .i64 0, .int .i64 kk, .slice c6 kl d6] 30)).drew.setCell ⟨Q, u, none⟩ (.int .i64 kk)).heap.size) := Hid.mk (by have h1 := SQ.size; have h2 := BD.size; omega)
          have D8 : Hid (mvR fr (zs.drop (k + 1)) (updP pl u kk) ls = M ∧ PlOk (updP pl u kk) ∧ ls.length ≤ 400) := Hid.mk ⟨HS.out.symm, HPO.out.upd hpk, by rw [hkl.out]; exact hput⟩
          clear SQ BD B
          obtain ⟨s_VX, f_VX, z_VX⟩ := VX.open
          obtain ⟨s_VY, f_VY, z_VY⟩ := VY.open
          obtain ⟨s_VW, f_VW, z_VW⟩ := VW.open
          go_wp2_with fail
          clear s_VX f_VX z_VX s_VY f_VY z_VY s_VW f_VW z_VW
          refine wp_region_held_drew (S := (fun w' => w'.cell? ⟨w201.heap.size, 0, none⟩ = some (.int .i64 0) ∧ w'.cell? ⟨w201.heap.size, 1, none⟩ = some (.int .i64 kk) ∧ w'.cell? ⟨w201.heap.size, 2, none⟩ = some (.slice c6 kl d6) ∧ w'.cell? ⟨g4, o4 + k, none⟩ = some (.int .i64 u))) (by kernel_rfl) (K.out _ (Below.refl _ _).drew) (fun hHeld => ?_)
          refine wpAnyH_take (i := 0) (oi := _) (v := ?vmv200u1) rfl (by kernel_rfl) (by kernel_rfl) (by kernel_rfl) (fun _ _ _ h => h) (Or.inl ⟨by rfl, ?hymv200u1⟩) hHeld ?restmv200u1
          case hymv200u1 => (intro w hSw; (try dsimp only at hSw); go_simp; first | done | with_reducible rfl)
          try simp only [Act.put, List.getElem_toArray, List.getElem_cons_zero, List.setIfInBounds_toArray, List.set_cons_zero, List.set_cons_succ]
          refine wpAnyH_take (i := 1) (oi := _) (v := ?vmv200u2) rfl (by kernel_rfl) (by kernel_rfl) (by kernel_rfl) (fun _ _ _ h => h) (Or.inl ⟨by rfl, ?hymv200u2⟩) hHeld ?restmv200u2
          case hymv200u2 => (intro w hSw; (try dsimp only at hSw); go_simp; first | done | with_reducible rfl)
          try simp only [Act.put, List.getElem_toArray, List.getElem_cons_zero, List.getElem_cons_succ, List.setIfInBounds_toArray, List.set_cons_zero, List.set_cons_succ]
          refine wpAnyH_take (i := 2) (oi := _) (v := ?vmv200u3) rfl (by kernel_rfl) (by kernel_rfl) (by kernel_rfl) (fun _ _ _ h => h) (Or.inl ⟨by rfl, ?hymv200u3⟩) hHeld ?restmv200u3
          case hymv200u3 => (intro w hSw; (try dsimp only at hSw); go_simp; first | done | with_reducible rfl)
          try simp only [Act.put, List.getElem_toArray, List.getElem_cons_zero, List.getElem_cons_succ, List.setIfInBounds_toArray, List.set_cons_zero, List.set_cons_succ]
          refine wpAnyH_take (i := 3) (oi := _) (v := ?vmv200u4) rfl (by kernel_rfl) (by kernel_rfl) (by kernel_rfl) (fun _ _ _ h => h) (Or.inl ⟨by rfl, ?hymv200u4⟩) hHeld ?restmv200u4
          case hymv200u4 => (intro w hSw; (try dsimp only at hSw); go_simp; first | done | with_reducible rfl)
          try simp only [Act.put, List.getElem_toArray, List.getElem_cons_zero, List.getElem_cons_succ, List.setIfInBounds_toArray, List.set_cons_zero, List.set_cons_succ]
          refine wpAnyH_take (i := 4) (oi := _) (v := ?vmv200u5) rfl (by kernel_rfl) (by kernel_rfl) (by kernel_rfl) (fun _ _ _ h => h) (Or.inl ⟨by rfl, ?hymv200u5⟩) hHeld ?restmv200u5
          case hymv200u5 => (intro w hSw; (try dsimp only at hSw); go_simp; first | done | with_reducible rfl)
          try simp only [Act.put, List.getElem_toArray, List.getElem_cons_zero, List.getElem_cons_succ, List.setIfInBounds_toArray, List.set_cons_zero, List.set_cons_succ]
          refine wpAnyH_take (i := 5) (oi := _) (v := ?vmv200u6) rfl (by kernel_rfl) (by kernel_rfl) (by kernel_rfl) (fun _ _ _ h => h) (Or.inl ⟨by rfl, ?hymv200u6⟩) hHeld ?restmv200u6
          case hymv200u6 => (intro w hSw; (try dsimp only at hSw); go_simp; first | done | with_reducible rfl)
          try simp only [Act.put, List.getElem_toArray, List.getElem_cons_zero, List.getElem_cons_succ, List.setIfInBounds_toArray, List.set_cons_zero, List.set_cons_succ]
          refine wpAnyH_take (i := 6) (oi := _) (v := ?vmv200u7) rfl (by kernel_rfl) (by kernel_rfl) (by kernel_rfl) (fun _ _ _ h => h) (Or.inl ⟨by rfl, ?hymv200u7⟩) hHeld ?restmv200u7
          case hymv200u7 => (intro w hSw; (try dsimp only at hSw); go_simp; first | done | with_reducible rfl)
          try simp only [Act.put, List.getElem_toArray, List.getElem_cons_zero, List.getElem_cons_succ, List.setIfInBounds_toArray, List.set_cons_zero, List.set_cons_succ]
          refine wpAnyH_take (i := 7) (oi := _) (v := ?vmv200u8) rfl (by kernel_rfl) (by kernel_rfl) (by kernel_rfl) (fun _ _ _ h => h) (Or.inl ⟨by rfl, ?hymv200u8⟩) hHeld ?restmv200u8
          case hymv200u8 => (intro w hSw; (try dsimp only at hSw); go_simp; first | done | with_reducible rfl)
          try simp only [Act.put, List.getElem_toArray, List.getElem_cons_zero, List.getElem_cons_succ, List.setIfInBounds_toArray, List.set_cons_zero, List.set_cons_succ]
          have hd0 := (Below.refl (w201.alloc (.cells #[.int .i64 0, .int .i64 kk, .slice c6 kl d6] 30)).heap.size (w201.alloc (.cells #[.int .i64 0, .int .i64 kk, .slice c6 kl d6] 30))).drew
          have qc := ((bcell hd0).1 _ _ (show Q < (w201.alloc (.cells #[.int .i64 0, .int .i64 kk, .slice c6 kl d6] 30)).heap.size by omega)).trans hQc2
          have qf := ((bcell hd0).2 _ _ (show Q < (w201.alloc (.cells #[.int .i64 0, .int .i64 kk, .slice c6 kl d6] 30)).heap.size by omega)).trans hQf2
          have hH2 := hHeld
          try dsimp only at hH2
          obtain ⟨e1, e2, e3, e4⟩ := hH2
          refine wpAnyH_ready (rs := [8]) (by kernel_rfl) (by simp) ?_
          refine AllReadyH.cons (o := _) rfl (fun K0 hK0 => ?_) AllReadyH.nil
          go_simp
          refine hK0.out _ _ (⟨(cell_far hVWQ _).trans e1, (cell_far hVWQ _).trans e2, (cell_far hVWQ _).trans e3, (cell_far hg4Q _).trans e4⟩) (fun hHeld => ?_)
          clear hK0 K0
          try simp only [Act.put, List.getElem_toArray, List.getElem_cons_zero, List.getElem_cons_succ, List.setIfInBounds_toArray, List.set_cons_zero, List.set_cons_succ]
          refine wpAnyH_done (by kernel_rfl) ?_ _
          go_wp2
          go_roundw
          case rel => exact ⟨k + 1, c6, d6, kl, updP pl u kk, ls, by omega, by go_num, rfl, hkl, D8, OT8.out, A8.out, O8.out, RP8.out, VR8.out, B8.out, Q8, hNQ⟩
          case measure => (simp [intOf]; omega)
        · skip
          rw [if_neg hc] at hs
          have hcc : (kc != 0) = true := by simp [hc]
          have HS := Hid.mk hs
          have HC := Hid.mk hc
          clear hs hc
          have B := Below.refl wr.heap.size wr
          replace B := thenB B (belowA wr (.cells #[.int .i64 xo, .int .i64 i, .int .i64 xb, .int .i64 xn] 26))
          have VX := V.new wr [.int .i64 xo, .int .i64 i, .int .i64 xb, .int .i64 xn] 26
          obtain ⟨s_VX, f_VX, z_VX⟩ := VX.open
          have Bo := B
          go_wp2_with fail
          refine (CK.out _).mono ?_
          rintro e wq ⟨rfl, rfl⟩
          go_wp2_with fail
          refine (CK.out _).mono ?_
          rintro e wq ⟨rfl, rfl⟩
          go_wp2_with fail
          replace VX := VX.kept (belowA (wr.alloc (.cells #[.int .i64 xo, .int .i64 i, .int .i64 xb, .int .i64 xn] 26)) (.cells #[.int .i64 xo, .int .i64 va, .int .i64 0, .int .i64 xn] 26))
          replace B := thenB B (belowA (wr.alloc (.cells #[.int .i64 xo, .int .i64 i, .int .i64 xb, .int .i64 xn] 26)) (.cells #[.int .i64 xo, .int .i64 va, .int .i64 0, .int .i64 xn] 26))
          have VY : V ((wr.alloc (.cells #[.int .i64 xo, .int .i64 i, .int .i64 xb, .int .i64 xn] 26)).alloc (.cells #[.int .i64 xo, .int .i64 va, .int .i64 0, .int .i64 xn] 26)) (wr.heap.size + 1) [.int .i64 xo, .int .i64 va, .int .i64 0, .int .i64 xn] := V.newAt _ _ _ _ (by simp)
          refine (CPP.out _ _ _ (HOT.out.kept B).rd hnc.out).mono ?_
          rintro e w211 ⟨c6, d6, rfl, O6, b211⟩
          clear s_VX f_VX z_VX
          have S211 := b211.size
          simp only [World.size_alloc] at S211
          replace VX := VX.kept b211
          replace VY := VY.kept b211
          replace B := thenB B b211
          clear b211
          obtain ⟨s_VX, f_VX, z_VX⟩ := VX.open
          obtain ⟨s_VY, f_VY, z_VY⟩ := VY.open
          have Bo := B
          replace VX := VX.kept (belowA w211 (.cells #[.int .i64 kc, .int .i64 kk, .slice c6 kl d6] 30))
          replace VY := VY.kept (belowA w211 (.cells #[.int .i64 kc, .int .i64 kk, .slice c6 kl d6] 30))
          replace O6 := O6.kept (belowA w211 (.cells #[.int .i64 kc, .int .i64 kk, .slice c6 kl d6] 30))
          replace B := thenB B (belowA w211 (.cells #[.int .i64 kc, .int .i64 kk, .slice c6 kl d6] 30))
          have VW := V.new w211 [.int .i64 kc, .int .i64 kk, .slice c6 kl d6] 30
          clear s_VX f_VX z_VX s_VY f_VY z_VY
          obtain ⟨s_VX, f_VX, z_VX⟩ := VX.open
          obtain ⟨s_VY, f_VY, z_VY⟩ := VY.open
          obtain ⟨s_VW, f_VW, z_VW⟩ := VW.open
          have Bo := B
          clear s_VX f_VX z_VX s_VY f_VY z_VY s_VW f_VW z_VW
          have VR := HVR.out.kept B
          replace B := thenB B0 B
          obtain ⟨s_VX, f_VX, z_VX⟩ := VX.open
          obtain ⟨s_VW, f_VW, z_VW⟩ := VW.open
          obtain ⟨s_VR, f_VR, z_VR⟩ := VR.open
          have Bo := B
          clear s_VX f_VX z_VX s_VW f_VW z_VW s_VR f_VR z_VR
          have VF := Hid.mk (VR.filled [.int .i64 kc, .int .i64 0, .slice none 0 0] rfl)
          have HT := Hid.mk VR.there
          have BR := belowCells B (show w.heap.size ≤ w.heap.size by (first | omega | (simp; done) | (simp; omega))) 0 [.int .i64 kc, .int .i64 0, .slice none 0 0]
          replace BR := Hid.mk BR
          obtain ⟨s_VX, f_VX, z_VX⟩ := VX.open
          obtain ⟨s_VW, f_VW, z_VW⟩ := VW.open
          obtain ⟨s_VR, f_VR, z_VR⟩ := VR.open
          go_wp2_with (refine wpList_store_mid rfl 30 _ _ rfl (w.heap.size) 0 #[.int .i64 kc, .int .i64 0, .slice none 0 0] rfl rfl HT.out (by kernel_rfl) (by kernel_rfl) ?_)
          refine bodyPost_ret (v := .agg #[.int .i64 kc, .int .i64 0, .slice none 0 0]) (results_row Try.results78 _ _ (w.heap.size) [.int .i64 kc, .int .i64 0, .slice none 0 0] _ rfl VF.out Try.underlying30 rfl (by kernel_rfl)) rfl (MoveAt.bad HS.out HC.out rfl BR.out)
      · skip
        rw [hk] at ha1 hb1
        obtain ⟨a0, a1⟩ := ha1 (by decide)
        obtain ⟨i, rfl⟩ : ∃ i : Nat, xa = (i : Int) := ⟨xa.toNat, by omega⟩
        have him : (i : Int) < (m : Int) + 1 := by omega
        have hQa := tab_cell O (i := i) (by omega)
        obtain ⟨b0, b9⟩ := hb1 (by decide)
        obtain ⟨j, rfl⟩ : ∃ j : Nat, xb = (j : Int) := ⟨xb.toNat, by omega⟩
        have hjm : (j : Int) < (m : Int) + 1 := by omega
        have hQb := tab_cell O (i := j) (by omega)
        have CK := Hid.mk (fun w => l5Kids_ok xo w)
        rw [hk] at CK
        rw [hr] at hs hput hpk
        obtain ⟨va, hva⟩ : ∃ v, pl i = v := ⟨_, rfl⟩
        rw [hva] at hQa hs hput hpk
        obtain ⟨vb, hvb⟩ : ∃ v, pl j = v := ⟨_, rfl⟩
        rw [hvb] at hQb hs hput hpk
        replace CPP := Hid.mk (fun c d w h hc => CPP.out ⟨xo, va, vb, xn⟩ c d w h hc)
        generalize put tb ⟨xo, va, vb, xn⟩ = P at *
        obtain ⟨kc, kk, ls⟩ := P
        simp only at *
        obtain ⟨kl, hkl⟩ : ∃ q, ls.length = q := ⟨_, rfl⟩
        rw [hkl] at CPP hput
        replace hkl := Hid.mk hkl
        clear O
        by_cases hc : kc = 0
        · skip
          subst hc
          rw [if_pos rfl] at hs
          have HS := Hid.mk hs
          clear hs
          have B := Below.refl wr.heap.size wr
          replace B := thenB B (belowA wr (.cells #[.int .i64 xo, .int .i64 i, .int .i64 j, .int .i64 xn] 26))
          have VX := V.new wr [.int .i64 xo, .int .i64 i, .int .i64 j, .int .i64 xn] 26
          obtain ⟨s_VX, f_VX, z_VX⟩ := VX.open
          have Bo := B
          go_wp2_with fail
          refine (CK.out _).mono ?_
          rintro e wq ⟨rfl, rfl⟩
          go_wp2_with fail
          refine (CK.out _).mono ?_
          rintro e wq ⟨rfl, rfl⟩
          go_wp2_with fail
          replace VX := VX.kept (belowA (wr.alloc (.cells #[.int .i64 xo, .int .i64 i, .int .i64 j, .int .i64 xn] 26)) (.cells #[.int .i64 xo, .int .i64 va, .int .i64 vb, .int .i64 xn] 26))
          replace B := thenB B (belowA (wr.alloc (.cells #[.int .i64 xo, .int .i64 i, .int .i64 j, .int .i64 xn] 26)) (.cells #[.int .i64 xo, .int .i64 va, .int .i64 vb, .int .i64 xn] 26))
          have VY : V ((wr.alloc (.cells #[.int .i64 xo, .int .i64 i, .int .i64 j, .int .i64 xn] 26)).alloc (.cells #[.int .i64 xo, .int .i64 va, .int .i64 vb, .int .i64 xn] 26)) (wr.heap.size + 1) [.int .i64 xo, .int .i64 va, .int .i64 vb, .int .i64 xn] := V.newAt _ _ _ _ (by simp)
          refine (CPP.out _ _ _ (HOT.out.kept B).rd hnc.out).mono ?_
          rintro e w301 ⟨c6, d6, rfl, O6, b301⟩
          clear s_VX f_VX z_VX
          have S301 := b301.size
          simp only [World.size_alloc] at S301
          replace VX := VX.kept b301
          replace VY := VY.kept b301
          replace B := thenB B b301
          clear b301
          obtain ⟨s_VX, f_VX, z_VX⟩ := VX.open
          obtain ⟨s_VY, f_VY, z_VY⟩ := VY.open
          have Bo := B
          replace VX := VX.kept (belowA w301 (.cells #[.int .i64 0, .int .i64 kk, .slice c6 kl d6] 30))
          replace VY := VY.kept (belowA w301 (.cells #[.int .i64 0, .int .i64 kk, .slice c6 kl d6] 30))
          replace O6 := O6.kept (belowA w301 (.cells #[.int .i64 0, .int .i64 kk, .slice c6 kl d6] 30))
          replace B := thenB B (belowA w301 (.cells #[.int .i64 0, .int .i64 kk, .slice c6 kl d6] 30))
          have VW := V.new w301 [.int .i64 0, .int .i64 kk, .slice c6 kl d6] 30
          clear s_VX f_VX z_VX s_VY f_VY z_VY
          obtain ⟨s_VX, f_VX, z_VX⟩ := VX.open
          obtain ⟨s_VY, f_VY, z_VY⟩ := VY.open
          obtain ⟨s_VW, f_VW, z_VW⟩ := VW.open
          have Bo := B
          clear s_VX f_VX z_VX s_VY f_VY z_VY s_VW f_VW z_VW
          have hgz := ((bcell B).1 _ _ (show g4 < wr.heap.size by omega)).trans pz
          have hQc2 := ((bcell B).1 _ _ (show Q < wr.heap.size by omega)).trans hQc
          have hQf2 := ((bcell B).2 _ _ (show Q < wr.heap.size by omega)).trans hQf
          have hsB := B.size
          have hVWl := VW.1
          have hVWQ : w301.heap.size ≠ Q := by (try simp); omega
          have hg4Q : g4 ≠ Q := by omega
          have K : ∀ w' : World, Below (w301.alloc (.cells #[.int .i64 0, .int .i64 kk, .slice c6 kl d6] 30)).heap.size (w301.alloc (.cells #[.int .i64 0, .int .i64 kk, .slice c6 kl d6] 30)) w' → (w'.cell? ⟨w301.heap.size, 0, none⟩ = some (.int .i64 0) ∧ w'.cell? ⟨w301.heap.size, 1, none⟩ = some (.int .i64 kk) ∧ w'.cell? ⟨w301.heap.size, 2, none⟩ = some (.slice c6 kl d6) ∧ w'.cell? ⟨g4, o4 + k, none⟩ = some (.int .i64 u)) := fun w' h => ⟨(VW.kept h).2.1 0 (by simp), (VW.kept h).2.1 1 (by simp), (VW.kept h).2.1 2 (by simp), ((bcell h).1 _ _ (by omega)).trans hgz⟩
          have K := Hid.mk K
          have BD : Below wr.heap.size wr (w301.alloc (.cells #[.int .i64 0, .int .i64 kk, .slice c6 kl d6] 30)).drew := thenB B (Below.refl _ _).drew
          have SQ : Sm (fun q => q = Q) (w301.alloc (.cells #[.int .i64 0, .int .i64 kk, .slice c6 kl d6] 30)).drew ((w301.alloc (.cells #[.int .i64 0, .int .i64 kk, .slice c6 kl d6] 30)).drew.setCell ⟨Q, u, none⟩ (.int .i64 kk)) := Sm.cell (X := fun q => q = Q) rfl _
          have O8 := Hid.mk (tab_store (HO.out.kept BD) u kk)
          have RP8 := Hid.mk ((HRP.out.kept BD).sm SQ (fun b hb e => by simp only [Option.some.injEq] at hb; subst hb; simp only at e; omega))
          have VR8 := Hid.mk ((HVR.out.kept BD).sm SQ (by omega))
          have A8 := Hid.mk ((HA.out.kept BD).sm SQ (fun b hb e => by simp only [Option.some.injEq] at hb; subst hb; have := hlow.out _ rfl; simp only at e this; omega))
          have hOl := Hid.mk (fun b (hb : c6 = some b) => (O6.lt b hb).1)
          have hNQ : Hid (∀ ad : Addr, c6 = some ad → ad.block ≠ Q ∧ ad.block ≠ w.heap.size) := Hid.mk (fun ad hq => by have := hOl.out ad hq; first | omega | (simp at this; omega))
          have OT8 := Hid.mk (((O6.kept (Below.refl _ _).drew).mono (base' := w.heap.size) (by first | omega | (simp; omega))).sm SQ (fun b hb e => (hNQ.out b hb).1 e))
          have B8 := Hid.mk ((thenB B0 BD).setCell (p := ⟨Q, u, none⟩) (by simp only; omega) (.int .i64 kk))
          have Q8 : Hid (Q < ((w301.alloc (.cells #[.int .i64 0, .int .i64 kk, .slice c6 kl d6] 30)).drew.setCell ⟨Q, u, none⟩ (.int .i64 kk)).heap.size) := Hid.mk (by have h1 := SQ.size; have h2 := BD.size; omega)
          have D8 : Hid (mvR fr (zs.drop (k + 1)) (updP pl u kk) ls = M ∧ PlOk (updP pl u kk) ∧ ls.length ≤ 400) := Hid.mk ⟨HS.out.symm, HPO.out.upd hpk, by rw [hkl.out]; exact hput⟩
          clear SQ BD B
          obtain ⟨s_VX, f_VX, z_VX⟩ := VX.open
          obtain ⟨s_VY, f_VY, z_VY⟩ := VY.open
          obtain ⟨s_VW, f_VW, z_VW⟩ := VW.open
          go_wp2_with fail
          clear s_VX f_VX z_VX s_VY f_VY z_VY s_VW f_VW z_VW
          refine wp_region_held_drew (S := (fun w' => w'.cell? ⟨w301.heap.size, 0, none⟩ = some (.int .i64 0) ∧ w'.cell? ⟨w301.heap.size, 1, none⟩ = some (.int .i64 kk) ∧ w'.cell? ⟨w301.heap.size, 2, none⟩ = some (.slice c6 kl d6) ∧ w'.cell? ⟨g4, o4 + k, none⟩ = some (.int .i64 u))) (by kernel_rfl) (K.out _ (Below.refl _ _).drew) (fun hHeld => ?_)
          refine wpAnyH_take (i := 0) (oi := _) (v := ?vmv300u1) rfl (by kernel_rfl) (by kernel_rfl) (by kernel_rfl) (fun _ _ _ h => h) (Or.inl ⟨by rfl, ?hymv300u1⟩) hHeld ?restmv300u1
          case hymv300u1 => (intro w hSw; (try dsimp only at hSw); go_simp; first | done | with_reducible rfl)
          try simp only [Act.put, List.getElem_toArray, List.getElem_cons_zero, List.setIfInBounds_toArray, List.set_cons_zero, List.set_cons_succ]
          refine wpAnyH_take (i := 1) (oi := _) (v := ?vmv300u2) rfl (by kernel_rfl) (by kernel_rfl) (by kernel_rfl) (fun _ _ _ h => h) (Or.inl ⟨by rfl, ?hymv300u2⟩) hHeld ?restmv300u2
          case hymv300u2 => (intro w hSw; (try dsimp only at hSw); go_simp; first | done | with_reducible rfl)
          try simp only [Act.put, List.getElem_toArray, List.getElem_cons_zero, List.getElem_cons_succ, List.setIfInBounds_toArray, List.set_cons_zero, List.set_cons_succ]
          refine wpAnyH_take (i := 2) (oi := _) (v := ?vmv300u3) rfl (by kernel_rfl) (by kernel_rfl) (by kernel_rfl) (fun _ _ _ h => h) (Or.inl ⟨by rfl, ?hymv300u3⟩) hHeld ?restmv300u3
          case hymv300u3 => (intro w hSw; (try dsimp only at hSw); go_simp; first | done | with_reducible rfl)
          try simp only [Act.put, List.getElem_toArray, List.getElem_cons_zero, List.getElem_cons_succ, List.setIfInBounds_toArray, List.set_cons_zero, List.set_cons_succ]
          refine wpAnyH_take (i := 3) (oi := _) (v := ?vmv300u4) rfl (by kernel_rfl) (by kernel_rfl) (by kernel_rfl) (fun _ _ _ h => h) (Or.inl ⟨by rfl, ?hymv300u4⟩) hHeld ?restmv300u4
          case hymv300u4 => (intro w hSw; (try dsimp only at hSw); go_simp; first | done | with_reducible rfl)
          try simp only [Act.put, List.getElem_toArray, List.getElem_cons_zero, List.getElem_cons_succ, List.setIfInBounds_toArray, List.set_cons_zero, List.set_cons_succ]
          refine wpAnyH_take (i := 4) (oi := _) (v := ?vmv300u5) rfl (by kernel_rfl) (by kernel_rfl) (by kernel_rfl) (fun _ _ _ h => h) (Or.inl ⟨by rfl, ?hymv300u5⟩) hHeld ?restmv300u5
          case hymv300u5 => (intro w hSw; (try dsimp only at hSw); go_simp; first | done | with_reducible rfl)
          try simp only [Act.put, List.getElem_toArray, List.getElem_cons_zero, List.getElem_cons_succ, List.setIfInBounds_toArray, List.set_cons_zero, List.set_cons_succ]
          refine wpAnyH_take (i := 5) (oi := _) (v := ?vmv300u6) rfl (by kernel_rfl) (by kernel_rfl) (by kernel_rfl) (fun _ _ _ h => h) (Or.inl ⟨by rfl, ?hymv300u6⟩) hHeld ?restmv300u6
          case hymv300u6 => (intro w hSw; (try dsimp only at hSw); go_simp; first | done | with_reducible rfl)
          try simp only [Act.put, List.getElem_toArray, List.getElem_cons_zero, List.getElem_cons_succ, List.setIfInBounds_toArray, List.set_cons_zero, List.set_cons_succ]
          refine wpAnyH_take (i := 6) (oi := _) (v := ?vmv300u7) rfl (by kernel_rfl) (by kernel_rfl) (by kernel_rfl) (fun _ _ _ h => h) (Or.inl ⟨by rfl, ?hymv300u7⟩) hHeld ?restmv300u7
          case hymv300u7 => (intro w hSw; (try dsimp only at hSw); go_simp; first | done | with_reducible rfl)
          try simp only [Act.put, List.getElem_toArray, List.getElem_cons_zero, List.getElem_cons_succ, List.setIfInBounds_toArray, List.set_cons_zero, List.set_cons_succ]
          refine wpAnyH_take (i := 7) (oi := _) (v := ?vmv300u8) rfl (by kernel_rfl) (by kernel_rfl) (by kernel_rfl) (fun _ _ _ h => h) (Or.inl ⟨by rfl, ?hymv300u8⟩) hHeld ?restmv300u8
          case hymv300u8 => (intro w hSw; (try dsimp only at hSw); go_simp; first | done | with_reducible rfl)
          try simp only [Act.put, List.getElem_toArray, List.getElem_cons_zero, List.getElem_cons_succ, List.setIfInBounds_toArray, List.set_cons_zero, List.set_cons_succ]
          have hd0 := (Below.refl (w301.alloc (.cells #[.int .i64 0, .int .i64 kk, .slice c6 kl d6] 30)).heap.size (w301.alloc (.cells #[.int .i64 0, .int .i64 kk, .slice c6 kl d6] 30))).drew
          have qc := ((bcell hd0).1 _ _ (show Q < (w301.alloc (.cells #[.int .i64 0, .int .i64 kk, .slice c6 kl d6] 30)).heap.size by omega)).trans hQc2
          have qf := ((bcell hd0).2 _ _ (show Q < (w301.alloc (.cells #[.int .i64 0, .int .i64 kk, .slice c6 kl d6] 30)).heap.size by omega)).trans hQf2
          have hH2 := hHeld
          try dsimp only at hH2
          obtain ⟨e1, e2, e3, e4⟩ := hH2
          refine wpAnyH_ready (rs := [8]) (by kernel_rfl) (by simp) ?_
          refine AllReadyH.cons (o := _) rfl (fun K0 hK0 => ?_) AllReadyH.nil
          go_simp
          refine hK0.out _ _ (⟨(cell_far hVWQ _).trans e1, (cell_far hVWQ _).trans e2, (cell_far hVWQ _).trans e3, (cell_far hg4Q _).trans e4⟩) (fun hHeld => ?_)
          clear hK0 K0
          try simp only [Act.put, List.getElem_toArray, List.getElem_cons_zero, List.getElem_cons_succ, List.setIfInBounds_toArray, List.set_cons_zero, List.set_cons_succ]
          refine wpAnyH_done (by kernel_rfl) ?_ _
          go_wp2
          go_roundw
          case rel => exact ⟨k + 1, c6, d6, kl, updP pl u kk, ls, by omega, by go_num, rfl, hkl, D8, OT8.out, A8.out, O8.out, RP8.out, VR8.out, B8.out, Q8, hNQ⟩
          case measure => (simp [intOf]; omega)
        · skip
          rw [if_neg hc] at hs
          have hcc : (kc != 0) = true := by simp [hc]
          have HS := Hid.mk hs
          have HC := Hid.mk hc
          clear hs hc
          have B := Below.refl wr.heap.size wr
          replace B := thenB B (belowA wr (.cells #[.int .i64 xo, .int .i64 i, .int .i64 j, .int .i64 xn] 26))
          have VX := V.new wr [.int .i64 xo, .int .i64 i, .int .i64 j, .int .i64 xn] 26
          obtain ⟨s_VX, f_VX, z_VX⟩ := VX.open
          have Bo := B
          go_wp2_with fail
          refine (CK.out _).mono ?_
          rintro e wq ⟨rfl, rfl⟩
          go_wp2_with fail
          refine (CK.out _).mono ?_
          rintro e wq ⟨rfl, rfl⟩
          go_wp2_with fail
          replace VX := VX.kept (belowA (wr.alloc (.cells #[.int .i64 xo, .int .i64 i, .int .i64 j, .int .i64 xn] 26)) (.cells #[.int .i64 xo, .int .i64 va, .int .i64 vb, .int .i64 xn] 26))
          replace B := thenB B (belowA (wr.alloc (.cells #[.int .i64 xo, .int .i64 i, .int .i64 j, .int .i64 xn] 26)) (.cells #[.int .i64 xo, .int .i64 va, .int .i64 vb, .int .i64 xn] 26))
          have VY : V ((wr.alloc (.cells #[.int .i64 xo, .int .i64 i, .int .i64 j, .int .i64 xn] 26)).alloc (.cells #[.int .i64 xo, .int .i64 va, .int .i64 vb, .int .i64 xn] 26)) (wr.heap.size + 1) [.int .i64 xo, .int .i64 va, .int .i64 vb, .int .i64 xn] := V.newAt _ _ _ _ (by simp)
          refine (CPP.out _ _ _ (HOT.out.kept B).rd hnc.out).mono ?_
          rintro e w311 ⟨c6, d6, rfl, O6, b311⟩
          clear s_VX f_VX z_VX
          have S311 := b311.size
          simp only [World.size_alloc] at S311
          replace VX := VX.kept b311
          replace VY := VY.kept b311
          replace B := thenB B b311
          clear b311
          obtain ⟨s_VX, f_VX, z_VX⟩ := VX.open
          obtain ⟨s_VY, f_VY, z_VY⟩ := VY.open
          have Bo := B
          replace VX := VX.kept (belowA w311 (.cells #[.int .i64 kc, .int .i64 kk, .slice c6 kl d6] 30))
          replace VY := VY.kept (belowA w311 (.cells #[.int .i64 kc, .int .i64 kk, .slice c6 kl d6] 30))
          replace O6 := O6.kept (belowA w311 (.cells #[.int .i64 kc, .int .i64 kk, .slice c6 kl d6] 30))
          replace B := thenB B (belowA w311 (.cells #[.int .i64 kc, .int .i64 kk, .slice c6 kl d6] 30))
          have VW := V.new w311 [.int .i64 kc, .int .i64 kk, .slice c6 kl d6] 30
          clear s_VX f_VX z_VX s_VY f_VY z_VY
          obtain ⟨s_VX, f_VX, z_VX⟩ := VX.open
          obtain ⟨s_VY, f_VY, z_VY⟩ := VY.open
          obtain ⟨s_VW, f_VW, z_VW⟩ := VW.open
          have Bo := B
          clear s_VX f_VX z_VX s_VY f_VY z_VY s_VW f_VW z_VW
          have VR := HVR.out.kept B
          replace B := thenB B0 B
          obtain ⟨s_VX, f_VX, z_VX⟩ := VX.open
          obtain ⟨s_VW, f_VW, z_VW⟩ := VW.open
          obtain ⟨s_VR, f_VR, z_VR⟩ := VR.open
          have Bo := B
          clear s_VX f_VX z_VX s_VW f_VW z_VW s_VR f_VR z_VR
          have VF := Hid.mk (VR.filled [.int .i64 kc, .int .i64 0, .slice none 0 0] rfl)
          have HT := Hid.mk VR.there
          have BR := belowCells B (show w.heap.size ≤ w.heap.size by (first | omega | (simp; done) | (simp; omega))) 0 [.int .i64 kc, .int .i64 0, .slice none 0 0]
          replace BR := Hid.mk BR
          obtain ⟨s_VX, f_VX, z_VX⟩ := VX.open
          obtain ⟨s_VW, f_VW, z_VW⟩ := VW.open
          obtain ⟨s_VR, f_VR, z_VR⟩ := VR.open
          go_wp2_with (refine wpList_store_mid rfl 30 _ _ rfl (w.heap.size) 0 #[.int .i64 kc, .int .i64 0, .slice none 0 0] rfl rfl HT.out (by kernel_rfl) (by kernel_rfl) ?_)
          refine bodyPost_ret (v := .agg #[.int .i64 kc, .int .i64 0, .slice none 0 0]) (results_row Try.results78 _ _ (w.heap.size) [.int .i64 kc, .int .i64 0, .slice none 0 0] _ rfl VF.out Try.underlying30 rfl (by kernel_rfl)) rfl (MoveAt.bad HS.out HC.out rfl BR.out)
      · skip
        rw [hk] at ha1 hb1
        obtain ⟨a0, a1⟩ := ha1 (by decide)
        obtain ⟨i, rfl⟩ : ∃ i : Nat, xa = (i : Int) := ⟨xa.toNat, by omega⟩
        have him : (i : Int) < (m : Int) + 1 := by omega
        have hQa := tab_cell O (i := i) (by omega)
        obtain ⟨b0, b9⟩ := hb1 (by decide)
        obtain ⟨j, rfl⟩ : ∃ j : Nat, xb = (j : Int) := ⟨xb.toNat, by omega⟩
        have hjm : (j : Int) < (m : Int) + 1 := by omega
        have hQb := tab_cell O (i := j) (by omega)
        have CK := Hid.mk (fun w => l5Kids_ok xo w)
        rw [hk] at CK
        rw [hr] at hs hput hpk
        obtain ⟨va, hva⟩ : ∃ v, pl i = v := ⟨_, rfl⟩
        rw [hva] at hQa hs hput hpk
        obtain ⟨vb, hvb⟩ : ∃ v, pl j = v := ⟨_, rfl⟩
        rw [hvb] at hQb hs hput hpk
        replace CPP := Hid.mk (fun c d w h hc => CPP.out ⟨xo, va, vb, xn⟩ c d w h hc)
        replace CB := Hid.mk (fun c d w h hc => CB.out va vb c d w h hc)
        subst h7
        generalize put tb (bothT va vb) = P at *
        generalize put tb ⟨7, va, vb, xn⟩ = P0 at *
        obtain ⟨kc0, kk0, ls0⟩ := P0
        obtain ⟨kc, kk, ls⟩ := P
        simp only at *
        obtain ⟨kl, hkl⟩ : ∃ q, ls.length = q := ⟨_, rfl⟩
        rw [hkl] at CB hput
        replace hkl := Hid.mk hkl
        obtain ⟨kl0, hkl0⟩ : ∃ q, ls0.length = q := ⟨_, rfl⟩
        rw [hkl0] at CPP
        clear O
        by_cases hc : kc = 0
        · skip
          subst hc
          rw [if_pos rfl] at hs
          have HS := Hid.mk hs
          clear hs
          have B := Below.refl wr.heap.size wr
          replace B := thenB B (belowA wr (.cells #[.int .i64 7, .int .i64 i, .int .i64 j, .int .i64 xn] 26))
          have VX := V.new wr [.int .i64 7, .int .i64 i, .int .i64 j, .int .i64 xn] 26
          obtain ⟨s_VX, f_VX, z_VX⟩ := VX.open
          have Bo := B
          go_wp2_with fail
          refine (CK.out _).mono ?_
          rintro e wq ⟨rfl, rfl⟩
          go_wp2_with fail
          refine (CK.out _).mono ?_
          rintro e wq ⟨rfl, rfl⟩
          go_wp2_with fail
          replace VX := VX.kept (belowA (wr.alloc (.cells #[.int .i64 7, .int .i64 i, .int .i64 j, .int .i64 xn] 26)) (.cells #[.int .i64 7, .int .i64 va, .int .i64 vb, .int .i64 xn] 26))
          replace B := thenB B (belowA (wr.alloc (.cells #[.int .i64 7, .int .i64 i, .int .i64 j, .int .i64 xn] 26)) (.cells #[.int .i64 7, .int .i64 va, .int .i64 vb, .int .i64 xn] 26))
          have VY : V ((wr.alloc (.cells #[.int .i64 7, .int .i64 i, .int .i64 j, .int .i64 xn] 26)).alloc (.cells #[.int .i64 7, .int .i64 va, .int .i64 vb, .int .i64 xn] 26)) (wr.heap.size + 1) [.int .i64 7, .int .i64 va, .int .i64 vb, .int .i64 xn] := V.newAt _ _ _ _ (by simp)
          refine (CPP.out _ _ _ (HOT.out.kept B).rd hnc.out).mono ?_
          rintro e w401 ⟨c6, d6, rfl, O6, b401⟩
          clear s_VX f_VX z_VX
          have S401 := b401.size
          simp only [World.size_alloc] at S401
          replace VX := VX.kept b401
          replace VY := VY.kept b401
          replace B := thenB B b401
          clear b401
          obtain ⟨s_VX, f_VX, z_VX⟩ := VX.open
          obtain ⟨s_VY, f_VY, z_VY⟩ := VY.open
          have Bo := B
          replace VX := VX.kept (belowA w401 (.cells #[.int .i64 kc0, .int .i64 kk0, .slice c6 kl0 d6] 30))
          replace VY := VY.kept (belowA w401 (.cells #[.int .i64 kc0, .int .i64 kk0, .slice c6 kl0 d6] 30))
          replace O6 := O6.kept (belowA w401 (.cells #[.int .i64 kc0, .int .i64 kk0, .slice c6 kl0 d6] 30))
          replace B := thenB B (belowA w401 (.cells #[.int .i64 kc0, .int .i64 kk0, .slice c6 kl0 d6] 30))
          have VW := V.new w401 [.int .i64 kc0, .int .i64 kk0, .slice c6 kl0 d6] 30
          clear s_VX f_VX z_VX s_VY f_VY z_VY
          obtain ⟨s_VX, f_VX, z_VX⟩ := VX.open
          obtain ⟨s_VY, f_VY, z_VY⟩ := VY.open
          obtain ⟨s_VW, f_VW, z_VW⟩ := VW.open
          have Bo := B
          go_wp2_with fail
          refine (CB.out _ _ _ (HOT.out.kept B).rd hnc.out).mono ?_
          rintro e w402 ⟨c7, d7, rfl, O7, b402⟩
          clear s_VX f_VX z_VX s_VY f_VY z_VY s_VW f_VW z_VW
          have S402 := b402.size
          simp only [World.size_alloc] at S402
          replace VX := VX.kept b402
          replace VY := VY.kept b402
          replace VW := VW.kept b402
          replace O6 := O6.kept b402
          replace B := thenB B b402
          clear b402
          obtain ⟨s_VX, f_VX, z_VX⟩ := VX.open
          obtain ⟨s_VY, f_VY, z_VY⟩ := VY.open
          obtain ⟨s_VW, f_VW, z_VW⟩ := VW.open
          have Bo := B
          clear s_VX f_VX z_VX s_VY f_VY z_VY s_VW f_VW z_VW
          have HTW := Hid.mk VW.there
          have VF := VW.filled [.int .i64 0, .int .i64 kk, .slice c7 kl d7] rfl
          have hWl := Hid.mk (fun b (hb : c7 = some b) => (O7.lt b hb).1)
          have AX := VX.apart (B := w401.heap.size) (by first | omega | (simp; omega)) 0 [.int .i64 0, .int .i64 kk, .slice c7 kl d7]
          have AO := O7.apart (B := w401.heap.size) (by intro b hb; have := hWl.out b hb; first | omega | (simp at this; omega)) 0 [.int .i64 0, .int .i64 kk, .slice c7 kl d7]
          have BF := belowCells B (show wr.heap.size ≤ w401.heap.size by first | omega | (simp; omega)) 0 [.int .i64 0, .int .i64 kk, .slice c7 kl d7]
          have VL := VW.1
          obtain ⟨w9, hw9⟩ : ∃ w9, World.setCells w402 (w401.heap.size) 0 [.int .i64 0, .int .i64 kk, .slice c7 kl d7] = w9 := ⟨_, rfl⟩
          rw [hw9] at VF AX AO BF
          have hsz9 : w9.heap.size = w402.heap.size := by rw [← hw9]; exact World.size_setCells _ _ _ _
          replace hw9 := Hid.mk hw9
          clear B Bo O6 VX VW O7
          have VX := AX
          have VW := VF
          have O7 := AO
          have B := BF
          clear AX VF AO BF
          clear VY
          obtain ⟨s_VX, f_VX, z_VX⟩ := VX.open
          obtain ⟨s_VW, f_VW, z_VW⟩ := VW.open
          have Bo := B
          clear s_VX f_VX z_VX s_VW f_VW z_VW
          have hgz := ((bcell B).1 _ _ (show g4 < wr.heap.size by omega)).trans pz
          have hQc2 := ((bcell B).1 _ _ (show Q < wr.heap.size by omega)).trans hQc
          have hQf2 := ((bcell B).2 _ _ (show Q < wr.heap.size by omega)).trans hQf
          have hsB := B.size
          have hVWl := VW.1
          have hVWQ : w401.heap.size ≠ Q := by (try simp); omega
          have hg4Q : g4 ≠ Q := by omega
          have K : ∀ w' : World, Below w9.heap.size w9 w' → (w'.cell? ⟨w401.heap.size, 0, none⟩ = some (.int .i64 0) ∧ w'.cell? ⟨w401.heap.size, 1, none⟩ = some (.int .i64 kk) ∧ w'.cell? ⟨w401.heap.size, 2, none⟩ = some (.slice c7 kl d7) ∧ w'.cell? ⟨g4, o4 + k, none⟩ = some (.int .i64 u)) := fun w' h => ⟨(VW.kept h).2.1 0 (by simp), (VW.kept h).2.1 1 (by simp), (VW.kept h).2.1 2 (by simp), ((bcell h).1 _ _ (by omega)).trans hgz⟩
          have K := Hid.mk K
          have BD : Below wr.heap.size wr w9.drew := thenB B (Below.refl _ _).drew
          have SQ : Sm (fun q => q = Q) w9.drew (w9.drew.setCell ⟨Q, u, none⟩ (.int .i64 kk)) := Sm.cell (X := fun q => q = Q) rfl _
          have O8 := Hid.mk (tab_store (HO.out.kept BD) u kk)
          have RP8 := Hid.mk ((HRP.out.kept BD).sm SQ (fun b hb e => by simp only [Option.some.injEq] at hb; subst hb; simp only at e; omega))
          have VR8 := Hid.mk ((HVR.out.kept BD).sm SQ (by omega))
          have A8 := Hid.mk ((HA.out.kept BD).sm SQ (fun b hb e => by simp only [Option.some.injEq] at hb; subst hb; have := hlow.out _ rfl; simp only at e this; omega))
          have hOl := Hid.mk (fun b (hb : c7 = some b) => (O7.lt b hb).1)
          have hNQ : Hid (∀ ad : Addr, c7 = some ad → ad.block ≠ Q ∧ ad.block ≠ w.heap.size) := Hid.mk (fun ad hq => by have := hOl.out ad hq; first | omega | (simp at this; omega))
          have OT8 := Hid.mk (((O7.kept (Below.refl _ _).drew).mono (base' := w.heap.size) (by first | omega | (simp; omega))).sm SQ (fun b hb e => (hNQ.out b hb).1 e))
          have B8 := Hid.mk ((thenB B0 BD).setCell (p := ⟨Q, u, none⟩) (by simp only; omega) (.int .i64 kk))
          have Q8 : Hid (Q < (w9.drew.setCell ⟨Q, u, none⟩ (.int .i64 kk)).heap.size) := Hid.mk (by have h1 := SQ.size; have h2 := BD.size; omega)
          have D8 : Hid (mvR fr (zs.drop (k + 1)) (updP pl u kk) ls = M ∧ PlOk (updP pl u kk) ∧ ls.length ≤ 400) := Hid.mk ⟨HS.out.symm, HPO.out.upd hpk, by rw [hkl.out]; exact hput⟩
          clear SQ BD B
          obtain ⟨s_VX, f_VX, z_VX⟩ := VX.open
          obtain ⟨s_VW, f_VW, z_VW⟩ := VW.open
          go_wp2_with (refine wpList_stroke w9 rfl 30 _ _ rfl (w401.heap.size) 0 #[.int .i64 0, .int .i64 kk, .slice c7 kl d7] rfl rfl HTW.out (by kernel_rfl) (by kernel_rfl) hw9.out ?_)
          clear s_VX f_VX z_VX s_VW f_VW z_VW
          refine wp_region_held_drew (S := (fun w' => w'.cell? ⟨w401.heap.size, 0, none⟩ = some (.int .i64 0) ∧ w'.cell? ⟨w401.heap.size, 1, none⟩ = some (.int .i64 kk) ∧ w'.cell? ⟨w401.heap.size, 2, none⟩ = some (.slice c7 kl d7) ∧ w'.cell? ⟨g4, o4 + k, none⟩ = some (.int .i64 u))) (by kernel_rfl) (K.out _ (Below.refl _ _).drew) (fun hHeld => ?_)
          refine wpAnyH_take (i := 0) (oi := _) (v := ?vmv400u1) rfl (by kernel_rfl) (by kernel_rfl) (by kernel_rfl) (fun _ _ _ h => h) (Or.inl ⟨by rfl, ?hymv400u1⟩) hHeld ?restmv400u1
          case hymv400u1 => (intro w hSw; (try dsimp only at hSw); go_simp; first | done | with_reducible rfl)
          try simp only [Act.put, List.getElem_toArray, List.getElem_cons_zero, List.setIfInBounds_toArray, List.set_cons_zero, List.set_cons_succ]
          refine wpAnyH_take (i := 1) (oi := _) (v := ?vmv400u2) rfl (by kernel_rfl) (by kernel_rfl) (by kernel_rfl) (fun _ _ _ h => h) (Or.inl ⟨by rfl, ?hymv400u2⟩) hHeld ?restmv400u2
          case hymv400u2 => (intro w hSw; (try dsimp only at hSw); go_simp; first | done | with_reducible rfl)
          try simp only [Act.put, List.getElem_toArray, List.getElem_cons_zero, List.getElem_cons_succ, List.setIfInBounds_toArray, List.set_cons_zero, List.set_cons_succ]
          refine wpAnyH_take (i := 2) (oi := _) (v := ?vmv400u3) rfl (by kernel_rfl) (by kernel_rfl) (by kernel_rfl) (fun _ _ _ h => h) (Or.inl ⟨by rfl, ?hymv400u3⟩) hHeld ?restmv400u3
          case hymv400u3 => (intro w hSw; (try dsimp only at hSw); go_simp; first | done | with_reducible rfl)
          try simp only [Act.put, List.getElem_toArray, List.getElem_cons_zero, List.getElem_cons_succ, List.setIfInBounds_toArray, List.set_cons_zero, List.set_cons_succ]
          refine wpAnyH_take (i := 3) (oi := _) (v := ?vmv400u4) rfl (by kernel_rfl) (by kernel_rfl) (by kernel_rfl) (fun _ _ _ h => h) (Or.inl ⟨by rfl, ?hymv400u4⟩) hHeld ?restmv400u4
          case hymv400u4 => (intro w hSw; (try dsimp only at hSw); go_simp; first | done | with_reducible rfl)
          try simp only [Act.put, List.getElem_toArray, List.getElem_cons_zero, List.getElem_cons_succ, List.setIfInBounds_toArray, List.set_cons_zero, List.set_cons_succ]
          refine wpAnyH_take (i := 4) (oi := _) (v := ?vmv400u5) rfl (by kernel_rfl) (by kernel_rfl) (by kernel_rfl) (fun _ _ _ h => h) (Or.inl ⟨by rfl, ?hymv400u5⟩) hHeld ?restmv400u5
          case hymv400u5 => (intro w hSw; (try dsimp only at hSw); go_simp; first | done | with_reducible rfl)
          try simp only [Act.put, List.getElem_toArray, List.getElem_cons_zero, List.getElem_cons_succ, List.setIfInBounds_toArray, List.set_cons_zero, List.set_cons_succ]
          refine wpAnyH_take (i := 5) (oi := _) (v := ?vmv400u6) rfl (by kernel_rfl) (by kernel_rfl) (by kernel_rfl) (fun _ _ _ h => h) (Or.inl ⟨by rfl, ?hymv400u6⟩) hHeld ?restmv400u6
          case hymv400u6 => (intro w hSw; (try dsimp only at hSw); go_simp; first | done | with_reducible rfl)
          try simp only [Act.put, List.getElem_toArray, List.getElem_cons_zero, List.getElem_cons_succ, List.setIfInBounds_toArray, List.set_cons_zero, List.set_cons_succ]
          refine wpAnyH_take (i := 6) (oi := _) (v := ?vmv400u7) rfl (by kernel_rfl) (by kernel_rfl) (by kernel_rfl) (fun _ _ _ h => h) (Or.inl ⟨by rfl, ?hymv400u7⟩) hHeld ?restmv400u7
          case hymv400u7 => (intro w hSw; (try dsimp only at hSw); go_simp; first | done | with_reducible rfl)
          try simp only [Act.put, List.getElem_toArray, List.getElem_cons_zero, List.getElem_cons_succ, List.setIfInBounds_toArray, List.set_cons_zero, List.set_cons_succ]
          refine wpAnyH_take (i := 7) (oi := _) (v := ?vmv400u8) rfl (by kernel_rfl) (by kernel_rfl) (by kernel_rfl) (fun _ _ _ h => h) (Or.inl ⟨by rfl, ?hymv400u8⟩) hHeld ?restmv400u8
          case hymv400u8 => (intro w hSw; (try dsimp only at hSw); go_simp; first | done | with_reducible rfl)
          try simp only [Act.put, List.getElem_toArray, List.getElem_cons_zero, List.getElem_cons_succ, List.setIfInBounds_toArray, List.set_cons_zero, List.set_cons_succ]
          have hd0 := (Below.refl w9.heap.size w9).drew
          have qc := ((bcell hd0).1 _ _ (show Q < w9.heap.size by omega)).trans hQc2
          have qf := ((bcell hd0).2 _ _ (show Q < w9.heap.size by omega)).trans hQf2
          have hH2 := hHeld
          try dsimp only at hH2
          obtain ⟨e1, e2, e3, e4⟩ := hH2
          refine wpAnyH_ready (rs := [8]) (by kernel_rfl) (by simp) ?_
          refine AllReadyH.cons (o := _) rfl (fun K0 hK0 => ?_) AllReadyH.nil
          go_simp
          refine hK0.out _ _ (⟨(cell_far hVWQ _).trans e1, (cell_far hVWQ _).trans e2, (cell_far hVWQ _).trans e3, (cell_far hg4Q _).trans e4⟩) (fun hHeld => ?_)
          clear hK0 K0
          try simp only [Act.put, List.getElem_toArray, List.getElem_cons_zero, List.getElem_cons_succ, List.setIfInBounds_toArray, List.set_cons_zero, List.set_cons_succ]
          refine wpAnyH_done (by kernel_rfl) ?_ _
          go_wp2
          go_roundw
          case rel => exact ⟨k + 1, c7, d7, kl, updP pl u kk, ls, by omega, by go_num, rfl, hkl, D8, OT8.out, A8.out, O8.out, RP8.out, VR8.out, B8.out, Q8, hNQ⟩
          case measure => (simp [intOf]; omega)
        · skip
          rw [if_neg hc] at hs
          have hcc : (kc != 0) = true := by simp [hc]
          have HS := Hid.mk hs
          have HC := Hid.mk hc
          clear hs hc
          have B := Below.refl wr.heap.size wr
          replace B := thenB B (belowA wr (.cells #[.int .i64 7, .int .i64 i, .int .i64 j, .int .i64 xn] 26))
          have VX := V.new wr [.int .i64 7, .int .i64 i, .int .i64 j, .int .i64 xn] 26
          obtain ⟨s_VX, f_VX, z_VX⟩ := VX.open
          have Bo := B
          go_wp2_with fail
          refine (CK.out _).mono ?_
          rintro e wq ⟨rfl, rfl⟩
          go_wp2_with fail
          refine (CK.out _).mono ?_
          rintro e wq ⟨rfl, rfl⟩
          go_wp2_with fail
          replace VX := VX.kept (belowA (wr.alloc (.cells #[.int .i64 7, .int .i64 i, .int .i64 j, .int .i64 xn] 26)) (.cells #[.int .i64 7, .int .i64 va, .int .i64 vb, .int .i64 xn] 26))
          replace B := thenB B (belowA (wr.alloc (.cells #[.int .i64 7, .int .i64 i, .int .i64 j, .int .i64 xn] 26)) (.cells #[.int .i64 7, .int .i64 va, .int .i64 vb, .int .i64 xn] 26))
          have VY : V ((wr.alloc (.cells #[.int .i64 7, .int .i64 i, .int .i64 j, .int .i64 xn] 26)).alloc (.cells #[.int .i64 7, .int .i64 va, .int .i64 vb, .int .i64 xn] 26)) (wr.heap.size + 1) [.int .i64 7, .int .i64 va, .int .i64 vb, .int .i64 xn] := V.newAt _ _ _ _ (by simp)
          refine (CPP.out _ _ _ (HOT.out.kept B).rd hnc.out).mono ?_
          rintro e w411 ⟨c6, d6, rfl, O6, b411⟩
          clear s_VX f_VX z_VX
          have S411 := b411.size
          simp only [World.size_alloc] at S411
          replace VX := VX.kept b411
          replace VY := VY.kept b411
          replace B := thenB B b411
          clear b411
          obtain ⟨s_VX, f_VX, z_VX⟩ := VX.open
          obtain ⟨s_VY, f_VY, z_VY⟩ := VY.open
          have Bo := B
          replace VX := VX.kept (belowA w411 (.cells #[.int .i64 kc0, .int .i64 kk0, .slice c6 kl0 d6] 30))
          replace VY := VY.kept (belowA w411 (.cells #[.int .i64 kc0, .int .i64 kk0, .slice c6 kl0 d6] 30))
          replace O6 := O6.kept (belowA w411 (.cells #[.int .i64 kc0, .int .i64 kk0, .slice c6 kl0 d6] 30))
          replace B := thenB B (belowA w411 (.cells #[.int .i64 kc0, .int .i64 kk0, .slice c6 kl0 d6] 30))
          have VW := V.new w411 [.int .i64 kc0, .int .i64 kk0, .slice c6 kl0 d6] 30
          clear s_VX f_VX z_VX s_VY f_VY z_VY
          obtain ⟨s_VX, f_VX, z_VX⟩ := VX.open
          obtain ⟨s_VY, f_VY, z_VY⟩ := VY.open
          obtain ⟨s_VW, f_VW, z_VW⟩ := VW.open
          have Bo := B
          go_wp2_with fail
          refine (CB.out _ _ _ (HOT.out.kept B).rd hnc.out).mono ?_
          rintro e w412 ⟨c7, d7, rfl, O7, b412⟩
          clear s_VX f_VX z_VX s_VY f_VY z_VY s_VW f_VW z_VW
          have S412 := b412.size
          simp only [World.size_alloc] at S412
          replace VX := VX.kept b412
          replace VY := VY.kept b412
          replace VW := VW.kept b412
          replace O6 := O6.kept b412
          replace B := thenB B b412
          clear b412
          obtain ⟨s_VX, f_VX, z_VX⟩ := VX.open
          obtain ⟨s_VY, f_VY, z_VY⟩ := VY.open
          obtain ⟨s_VW, f_VW, z_VW⟩ := VW.open
          have Bo := B
          clear s_VX f_VX z_VX s_VY f_VY z_VY s_VW f_VW z_VW
          have HTW := Hid.mk VW.there
          have VF := VW.filled [.int .i64 kc, .int .i64 kk, .slice c7 kl d7] rfl
          have hWl := Hid.mk (fun b (hb : c7 = some b) => (O7.lt b hb).1)
          have AX := VX.apart (B := w411.heap.size) (by first | omega | (simp; omega)) 0 [.int .i64 kc, .int .i64 kk, .slice c7 kl d7]
          have AO := O7.apart (B := w411.heap.size) (by intro b hb; have := hWl.out b hb; first | omega | (simp at this; omega)) 0 [.int .i64 kc, .int .i64 kk, .slice c7 kl d7]
          have BF := belowCells B (show wr.heap.size ≤ w411.heap.size by first | omega | (simp; omega)) 0 [.int .i64 kc, .int .i64 kk, .slice c7 kl d7]
          have VL := VW.1
          obtain ⟨w9, hw9⟩ : ∃ w9, World.setCells w412 (w411.heap.size) 0 [.int .i64 kc, .int .i64 kk, .slice c7 kl d7] = w9 := ⟨_, rfl⟩
          rw [hw9] at VF AX AO BF
          have hsz9 : w9.heap.size = w412.heap.size := by rw [← hw9]; exact World.size_setCells _ _ _ _
          replace hw9 := Hid.mk hw9
          clear B Bo O6 VX VW O7
          have VX := AX
          have VW := VF
          have O7 := AO
          have B := BF
          clear AX VF AO BF
          clear VY
          obtain ⟨s_VX, f_VX, z_VX⟩ := VX.open
          obtain ⟨s_VW, f_VW, z_VW⟩ := VW.open
          have Bo := B
          clear s_VX f_VX z_VX s_VW f_VW z_VW
          have VR := HVR.out.kept B
          replace B := thenB B0 B
          obtain ⟨s_VX, f_VX, z_VX⟩ := VX.open
          obtain ⟨s_VW, f_VW, z_VW⟩ := VW.open
          obtain ⟨s_VR, f_VR, z_VR⟩ := VR.open
          have Bo := B
          clear s_VX f_VX z_VX s_VW f_VW z_VW s_VR f_VR z_VR
          have VF := Hid.mk (VR.filled [.int .i64 kc, .int .i64 0, .slice none 0 0] rfl)
          have HT := Hid.mk VR.there
          have BR := belowCells B (show w.heap.size ≤ w.heap.size by (first | omega | (simp; done) | (simp; omega))) 0 [.int .i64 kc, .int .i64 0, .slice none 0 0]
          replace BR := Hid.mk BR
          obtain ⟨s_VX, f_VX, z_VX⟩ := VX.open
          obtain ⟨s_VW, f_VW, z_VW⟩ := VW.open
          obtain ⟨s_VR, f_VR, z_VR⟩ := VR.open
          go_wp2_with (first | (refine wpList_stroke w9 rfl 30 _ _ rfl (w411.heap.size) 0 #[.int .i64 kc, .int .i64 kk, .slice c7 kl d7] rfl rfl HTW.out (by kernel_rfl) (by kernel_rfl) hw9.out ?_) | refine wpList_store_mid rfl 30 _ _ rfl (w.heap.size) 0 #[.int .i64 kc, .int .i64 0, .slice none 0 0] rfl rfl HT.out (by kernel_rfl) (by kernel_rfl) ?_)
          refine bodyPost_ret (v := .agg #[.int .i64 kc, .int .i64 0, .slice none 0 0]) (results_row Try.results78 _ _ (w.heap.size) [.int .i64 kc, .int .i64 0, .slice none 0 0] _ rfl VF.out Try.underlying30 rfl (by kernel_rfl)) rfl (MoveAt.bad HS.out HC.out rfl BR.out)
    · obtain rfl : k = l := by omega
      have hMM := hdr.out.1
      rw [mvR_end fr zs pl tb k (by rw [HK.out]; exact Nat.le_refl _)] at hMM
      have HM := Hid.mk hMM
      have pm := tab_cell O (i := m) (by omega)
      have hm2 : (m : Int) < (m : Int) + 1 := by omega
      clear hMM hdr
      have B := B0
      obtain ⟨s_VR, f_VR, z_VR⟩ := VR.open
      have Bo := B
      clear s_VR f_VR z_VR
      have VF := Hid.mk (VR.filled [.int .i64 0, .int .i64 (pl m), .slice c1 L d1] rfl)
      have HT := Hid.mk VR.there
      have BR := belowCells B (show w.heap.size ≤ w.heap.size by (first | omega | (simp; done) | (simp; omega))) 0 [.int .i64 0, .int .i64 (pl m), .slice c1 L d1]
      replace BR := Hid.mk BR
      have HO := Hid.mk (OT.apart (B := w.heap.size) (fun b hb e => (hCQ.out b hb).2 e) 0 [.int .i64 0, .int .i64 (pl m), .slice c1 L d1])
      obtain ⟨s_VR, f_VR, z_VR⟩ := VR.open
      go_wp2_with (refine wpList_store_mid rfl 30 _ _ rfl (w.heap.size) 0 #[.int .i64 0, .int .i64 (pl m), .slice c1 L d1] rfl rfl HT.out (by kernel_rfl) (by kernel_rfl) ?_)
      refine bodyPost_ret (v := .agg #[.int .i64 0, .int .i64 (pl m), .slice c1 L d1]) (results_row Try.results78 _ _ (w.heap.size) [.int .i64 0, .int .i64 (pl m), .slice c1 L d1] _ rfl VF.out Try.underlying30 rfl (by kernel_rfl)) rfl (MoveAt.good HM.out hL.out rfl HO.out BR.out)

end Go.Proofs.Ytedippfnlaiapaa

/- MoveTerm: the model. -/
namespace Go.Proofs.Ytedippfnlaiapaa
open Go.RowKit

set_option maxRecDepth 20000 in
set_option maxHeartbeats 4000000 in
theorem specMoveTerm_ok (a : Option Addr) (n ca : Nat) (fr : List T4) (q : Int) (b : Option Addr) (nb cb : Nat) (tb : List T4) (w : World) (ha : RdTerm w a fr) (hn : fr.length = n) (hx : n ≤ 1048576) (hca : n ≤ ca) (hlow : Hid (∀ b : Addr, a = some b → b.block < w.heap.size)) (hb : RdTerm w b tb) (hnb : tb.length = nb) (hxb : nb ≤ 1048576) (hcb : nb ≤ cb) (hcn : b = none → cb = 0) :
    Calls Try.prog 44 #[.slice a n ca, .int .i64 q, .slice b nb cb] w fun e w' => ∃ c d, e = .returned (.agg #[.int .i64 (mvF fr q tb).c, .int .i64 (mvF fr q tb).k, .slice c (mvF fr q tb).l.length d]) ∧ OwnTerm w' w.heap.size c d (mvF fr q tb).l ∧ Below w.heap.size w w' := by
  have q1 := build_tr0'
  have CF := Hid.mk (fun w h => specTermsFault_ok a n ca fr w h hn (by unfold maxLen; omega) hca)
  have CG := Hid.mk (fun w h => specTermsFault_ok b nb cb tb w h hnb (by unfold maxLen; omega) hcb)
  have CA := Hid.mk (fun w => l5At_ok a n ca q w (by unfold maxLen; omega))
  have HW := mvF_ways fr q tb
  rw [hn] at HW
  rcases HW with ⟨h1, hr⟩ | ⟨h1, h2, hr⟩ | ⟨h1, h2, h3, hr⟩ | ⟨h1, h2, h3, hr⟩
  · have h2 : (tfC fr != 0) = true := by simp [h1]
    rw [hr]
    clear hr h1
    generalize tfC fr = kk at *
    go_enter Try.func44, Try.ntmps44
    have B := Below.refl w.heap.size w
    replace ha := ha.kept (belowA w (.cells #[.int .i64 0, .int .i64 0, .slice none 0 0] 30))
    replace hb := hb.kept (belowA w (.cells #[.int .i64 0, .int .i64 0, .slice none 0 0] 30))
    replace B := thenB B (belowA w (.cells #[.int .i64 0, .int .i64 0, .slice none 0 0] 30))
    have VR := V.new w [.int .i64 0, .int .i64 0, .slice none 0 0] 30
    obtain ⟨s_VR, f_VR, z_VR⟩ := VR.open
    have Bo := B
    go_wp2_with fail
    refine (CF.out _ ha).mono ?_
    rintro e w1 ⟨rfl, b1⟩
    clear s_VR f_VR z_VR
    have S1 := b1.size
    simp only [World.size_alloc] at S1
    replace VR := VR.kept b1
    replace ha := ha.kept b1
    replace hb := hb.kept b1
    replace B := thenB B b1
    clear b1
    obtain ⟨s_VR, f_VR, z_VR⟩ := VR.open
    have Bo := B
    clear s_VR f_VR z_VR
    have VF := Hid.mk (VR.filled [.int .i64 kk, .int .i64 0, .slice none 0 0] rfl)
    have HT := Hid.mk VR.there
    have BR := belowCells B (show w.heap.size ≤ w.heap.size by (first | omega | (simp; done) | (simp; omega))) 0 [.int .i64 kk, .int .i64 0, .slice none 0 0]
    replace BR := Hid.mk BR
    obtain ⟨s_VR, f_VR, z_VR⟩ := VR.open
    go_wp2_with (refine wpList_store_mid rfl 30 _ _ rfl (w.heap.size) 0 #[.int .i64 kk, .int .i64 0, .slice none 0 0] rfl rfl HT.out (by kernel_rfl) (by kernel_rfl) ?_)
    refine bodyPost_ret (v := .agg #[.int .i64 kk, .int .i64 0, .slice none 0 0]) (results_row Try.results44 _ _ (w.heap.size) [.int .i64 kk, .int .i64 0, .slice none 0 0] _ rfl VF.out Try.underlying30 rfl (by kernel_rfl)) rfl ⟨none, 0, rfl, OwnTerm.none, BR.out⟩
  · have h3 : (tfC tb != 0) = true := by simp [h2]
    rw [hr]
    rw [h1] at CF
    clear hr h1 h2
    generalize tfC tb = kk at *
    go_enter Try.func44, Try.ntmps44
    have B := Below.refl w.heap.size w
    replace ha := ha.kept (belowA w (.cells #[.int .i64 0, .int .i64 0, .slice none 0 0] 30))
    replace hb := hb.kept (belowA w (.cells #[.int .i64 0, .int .i64 0, .slice none 0 0] 30))
    replace B := thenB B (belowA w (.cells #[.int .i64 0, .int .i64 0, .slice none 0 0] 30))
    have VR := V.new w [.int .i64 0, .int .i64 0, .slice none 0 0] 30
    obtain ⟨s_VR, f_VR, z_VR⟩ := VR.open
    have Bo := B
    go_wp2_with fail
    refine (CF.out _ ha).mono ?_
    rintro e w21 ⟨rfl, b21⟩
    clear s_VR f_VR z_VR
    have S21 := b21.size
    simp only [World.size_alloc] at S21
    replace VR := VR.kept b21
    replace ha := ha.kept b21
    replace hb := hb.kept b21
    replace B := thenB B b21
    clear b21
    obtain ⟨s_VR, f_VR, z_VR⟩ := VR.open
    have Bo := B
    go_wp2_with fail
    refine (CG.out _ hb).mono ?_
    rintro e w22 ⟨rfl, b22⟩
    clear s_VR f_VR z_VR
    have S22 := b22.size
    replace VR := VR.kept b22
    replace ha := ha.kept b22
    replace hb := hb.kept b22
    replace B := thenB B b22
    clear b22
    obtain ⟨s_VR, f_VR, z_VR⟩ := VR.open
    have Bo := B
    clear s_VR f_VR z_VR
    have VF := Hid.mk (VR.filled [.int .i64 kk, .int .i64 0, .slice none 0 0] rfl)
    have HT := Hid.mk VR.there
    have BR := belowCells B (show w.heap.size ≤ w.heap.size by (first | omega | (simp; done) | (simp; omega))) 0 [.int .i64 kk, .int .i64 0, .slice none 0 0]
    replace BR := Hid.mk BR
    obtain ⟨s_VR, f_VR, z_VR⟩ := VR.open
    go_wp2_with (refine wpList_store_mid rfl 30 _ _ rfl (w.heap.size) 0 #[.int .i64 kk, .int .i64 0, .slice none 0 0] rfl rfl HT.out (by kernel_rfl) (by kernel_rfl) ?_)
    refine bodyPost_ret (v := .agg #[.int .i64 kk, .int .i64 0, .slice none 0 0]) (results_row Try.results44 _ _ (w.heap.size) [.int .i64 kk, .int .i64 0, .slice none 0 0] _ rfl VF.out Try.underlying30 rfl (by kernel_rfl)) rfl ⟨none, 0, rfl, OwnTerm.none, BR.out⟩
  · rw [hr]
    rw [h1] at CF
    rw [h2] at CG
    rw [h3] at CA
    clear hr h1 h2 h3
    go_enter Try.func44, Try.ntmps44
    have B := Below.refl w.heap.size w
    replace ha := ha.kept (belowA w (.cells #[.int .i64 0, .int .i64 0, .slice none 0 0] 30))
    replace hb := hb.kept (belowA w (.cells #[.int .i64 0, .int .i64 0, .slice none 0 0] 30))
    replace B := thenB B (belowA w (.cells #[.int .i64 0, .int .i64 0, .slice none 0 0] 30))
    have VR := V.new w [.int .i64 0, .int .i64 0, .slice none 0 0] 30
    obtain ⟨s_VR, f_VR, z_VR⟩ := VR.open
    have Bo := B
    go_wp2_with fail
    refine (CF.out _ ha).mono ?_
    rintro e w41 ⟨rfl, b41⟩
    clear s_VR f_VR z_VR
    have S41 := b41.size
    simp only [World.size_alloc] at S41
    replace VR := VR.kept b41
    replace ha := ha.kept b41
    replace hb := hb.kept b41
    replace B := thenB B b41
    clear b41
    obtain ⟨s_VR, f_VR, z_VR⟩ := VR.open
    have Bo := B
    go_wp2_with fail
    refine (CG.out _ hb).mono ?_
    rintro e w42 ⟨rfl, b42⟩
    clear s_VR f_VR z_VR
    have S42 := b42.size
    replace VR := VR.kept b42
    replace ha := ha.kept b42
    replace hb := hb.kept b42
    replace B := thenB B b42
    clear b42
    obtain ⟨s_VR, f_VR, z_VR⟩ := VR.open
    have Bo := B
    go_wp2_with fail
    refine (CA.out _).mono ?_
    rintro e wq ⟨rfl, rfl⟩
    clear s_VR f_VR z_VR
    have VF := Hid.mk (VR.filled [.int .i64 3, .int .i64 0, .slice none 0 0] rfl)
    have HT := Hid.mk VR.there
    have BR := belowCells B (show w.heap.size ≤ w.heap.size by (first | omega | (simp; done) | (simp; omega))) 0 [.int .i64 3, .int .i64 0, .slice none 0 0]
    replace BR := Hid.mk BR
    obtain ⟨s_VR, f_VR, z_VR⟩ := VR.open
    go_wp2_with (refine wpList_store_mid rfl 30 _ _ rfl (w.heap.size) 0 #[.int .i64 3, .int .i64 0, .slice none 0 0] rfl rfl HT.out (by kernel_rfl) (by kernel_rfl) ?_)
    refine bodyPost_ret (v := .agg #[.int .i64 3, .int .i64 0, .slice none 0 0]) (results_row Try.results44 _ _ (w.heap.size) [.int .i64 3, .int .i64 0, .slice none 0 0] _ rfl VF.out Try.underlying30 rfl (by kernel_rfl)) rfl ⟨none, 0, rfl, OwnTerm.none, BR.out⟩
  · rw [hr]
    have HV := h1
    have hl4 := (tfC_zero h2).1
    obtain ⟨hq0, hq1⟩ := btw_iff.1 h3
    obtain ⟨m, rfl⟩ : ∃ m : Nat, q = (m : Int) := ⟨q.toNat, by omega⟩
    have hm : m < n := by omega
    obtain ⟨M, hM⟩ : ∃ M, mvR fr (prL fr m) (fun _ => 0) tb = M := ⟨_, rfl⟩
    have CM := Hid.mk (fun w ha hb hl => l5Move_ok a n ca fr m b nb cb tb w ha hn HV hm hl hb hnb (by omega) hcn M hM)
    have hP := mvP_ways fr (m : Int) tb
    rw [Int.toNat_natCast, hM] at hP
    replace hM := Hid.mk hM
    have hE : mvP fr m tb = ⟨M.c, if M.c = 0 then M.pl m else 0, if M.c = 0 then M.tb else []⟩ := by
      rcases hP with ⟨hc, hr⟩ | ⟨hc, hr⟩
      · rw [hr, if_pos hc, if_pos hc, hc]
      · rw [hr, if_neg hc, if_neg hc]
    rw [hE]
    rw [h1] at CF
    rw [h2] at CG
    rw [h3] at CA
    unfold MoveAt at CM
    generalize (if M.c = 0 then M.pl m else 0) = kk at *
    generalize (if M.c = 0 then M.tb else []) = ls at *
    generalize M.c = kc at *
    obtain ⟨kl, hkl⟩ : ∃ l, ls.length = l := ⟨_, rfl⟩
    simp only
    rw [hkl] at CM ⊢
    clear hr h1 h2 h3 hq0 hq1 HV hP hE
    go_enter Try.func44, Try.ntmps44
    have B := Below.refl w.heap.size w
    replace ha := ha.kept (belowA w (.cells #[.int .i64 0, .int .i64 0, .slice none 0 0] 30))
    replace hb := hb.kept (belowA w (.cells #[.int .i64 0, .int .i64 0, .slice none 0 0] 30))
    replace B := thenB B (belowA w (.cells #[.int .i64 0, .int .i64 0, .slice none 0 0] 30))
    have VR := V.new w [.int .i64 0, .int .i64 0, .slice none 0 0] 30
    obtain ⟨s_VR, f_VR, z_VR⟩ := VR.open
    have Bo := B
    go_wp2_with fail
    refine (CF.out _ ha).mono ?_
    rintro e w61 ⟨rfl, b61⟩
    clear s_VR f_VR z_VR
    have S61 := b61.size
    simp only [World.size_alloc] at S61
    replace VR := VR.kept b61
    replace ha := ha.kept b61
    replace hb := hb.kept b61
    replace B := thenB B b61
    clear b61
    obtain ⟨s_VR, f_VR, z_VR⟩ := VR.open
    have Bo := B
    go_wp2_with fail
    refine (CG.out _ hb).mono ?_
    rintro e w62 ⟨rfl, b62⟩
    clear s_VR f_VR z_VR
    have S62 := b62.size
    replace VR := VR.kept b62
    replace ha := ha.kept b62
    replace hb := hb.kept b62
    replace B := thenB B b62
    clear b62
    obtain ⟨s_VR, f_VR, z_VR⟩ := VR.open
    have Bo := B
    go_wp2_with fail
    refine (CA.out _).mono ?_
    rintro e wq ⟨rfl, rfl⟩
    go_wp2_with fail
    refine (CM.out _ ha hb (Hid.mk (fun b' hb' => by have := hlow.out b' hb'; have := B.size; omega))).mono ?_
    rintro e w63 ⟨c, d, rfl, O, b63⟩
    clear s_VR f_VR z_VR
    have S63 := b63.size
    replace VR := VR.kept b63
    replace ha := ha.kept b63
    replace hb := hb.kept b63
    replace B := thenB B b63
    clear b63
    obtain ⟨s_VR, f_VR, z_VR⟩ := VR.open
    have Bo := B
    have OL := Hid.mk (fun b hb => (O.lt b hb).1)
    clear s_VR f_VR z_VR
    have VF := Hid.mk (VR.filled [.int .i64 kc, .int .i64 kk, .slice c kl d] rfl)
    have HT := Hid.mk VR.there
    have BR := belowCells B (show w.heap.size ≤ w.heap.size by (first | omega | (simp; done) | (simp; omega))) 0 [.int .i64 kc, .int .i64 kk, .slice c kl d]
    replace BR := Hid.mk BR
    have HO := Hid.mk ((O.mono (show w.heap.size ≤ _ by first | omega | (simp; done) | (simp; omega))).apart (B := w.heap.size) (by intro b hb; have := OL.out b hb; first | omega | (simp at this; omega)) 0 [.int .i64 kc, .int .i64 kk, .slice c kl d])
    obtain ⟨s_VR, f_VR, z_VR⟩ := VR.open
    go_wp2_with (refine wpList_store_mid rfl 30 _ _ rfl (w.heap.size) 0 #[.int .i64 kc, .int .i64 kk, .slice c kl d] rfl rfl HT.out (by kernel_rfl) (by kernel_rfl) ?_)
    refine bodyPost_ret (v := .agg #[.int .i64 kc, .int .i64 kk, .slice c kl d]) (results_row Try.results44 _ _ (w.heap.size) [.int .i64 kc, .int .i64 kk, .slice c kl d] _ rfl VF.out Try.underlying30 rfl (by kernel_rfl)) rfl ⟨c, d, rfl, HO.out, BR.out⟩

end Go.Proofs.Ytedippfnlaiapaa
