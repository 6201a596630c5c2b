/- Put together: DrG, DrB, DrM. -/
import Derived.Test.YthjaehcfakjemaaDoorFmn
import Derived.Test.YthjaehcfakjemaaDoorDrawC
import Derived.Test.YthjaehcfakjemaaDoorFml

/- The draw of a table. -/
namespace Go.Proofs.YthjaehcfakjemaaDoor
open Go.RowKit

theorem build_t123 (o a b : Int) (w : World) : (Instr.build 70 #[(0, .int .i64 o), (1, .int .i64 a), (2, .int .i64 b)]).run Tryd.prog w = .ok (.agg #[.int .i64 o, .int .i64 a, .int .i64 b, .int .i64 0]) w := run_build w 70 _ _ (by kernel_rfl)

theorem put_more {xs : List T4} {t : T4} (h : ∀ x ∈ xs, okT x) (ht : okT t) : (put xs t).l.length ≤ xs.length + 1 ∧ ∀ y ∈ (put xs t).l, okT y := by
  rcases put_ways xs t with ⟨_, e⟩ | ⟨_, _, e⟩ | ⟨_, _, _, e⟩ | ⟨_, _, _, e⟩ <;> rw [e]
  · exact ⟨Nat.zero_le _, fun y hy => by simp at hy⟩
  · exact ⟨by simp only; omega, h⟩
  · exact ⟨Nat.zero_le _, fun y hy => by simp at hy⟩
  · refine ⟨by simp, fun y hy => ?_⟩
    simp only [List.mem_append, List.mem_singleton] at hy
    rcases hy with hy | rfl
    · exact h y hy
    · exact ht

theorem srcCells {w : World} {B : Nat} {a : Option Addr} {n ca : Nat} {zs : List Int} {t : Nat} (h : Src w B a n ca zs t) {b : Nat} (hb : B < b) (o : Nat) (vs : List Value) : Src (w.setCells b o vs) B a n ca zs t := by
  induction vs generalizing w o with
  | nil => exact h
  | cons v vs ih => exact ih (h.other (p := ⟨b, o, none⟩) hb v) (o + 1)

theorem grownCells {w w' : World} {row : Option Nat} (h : w.grownBy w' row) {b : Nat} (hb : w.heap.size ≤ b) (o : Nat) (vs : List Value) : w.grownBy (w'.setCells b o vs) row := by
  induction vs generalizing w' o with
  | nil => exact h
  | cons v vs ih => exact ih (grownSet' h (p := ⟨b, o, none⟩) hb v) (o + 1)

/-- What the draw of a table leaves. -/
def Grew (B : Nat) (a : Option Addr) (n ca : Nat) (zs : List Int) (t m : Nat) (w : World) (e : Ending) (w' : World) : Prop :=
  ∃ (c : Option Addr) (d k : Nat) (xs : List T4) (q : Nat), e = .returned (.slice c k d) ∧ xs.length = k ∧ k ≤ m ∧ (∀ x ∈ xs, okT x) ∧ OwnTerm w' w.heap.size c d xs ∧ q ≤ t + 4 * m ∧ Src w' B a n ca zs q ∧ w.grownBy w' (some B)

set_option maxRecDepth 20000 in
set_option maxHeartbeats 2000000 in
theorem l5Grow_ok (B : Nat) (a : Option Addr) (n ca : Nat) (zs : List Int) (t m : Nat) (w : World) (hs : Src w B a n ca zs t) (hb : Bytes zs) (hn : zs.length = n) (hx : n ≤ 1048577) (ht : t ≤ 1000) (hm : m ≤ 100) :
    Calls Tryd.prog 40 #[.pointer (some ⟨B, 0, none⟩), .int .i64 m] w (Grew B a n ca zs t m w) := by
  have q1 := build_t123
  have q2 := build_t1
  have hB0 : B < w.heap.size := hs.1.1
  have OL := OwnTerm.lit w [] [] rfl (Nat.zero_le _)
  have S0 := Hid.mk (hs.kept (belowA w (.cells #[] 70)))
  have G0 := Hid.mk (grown_alloc (World.grownBy.refl w (some B)) (.cells #[] 70))
  replace OL := Hid.mk OL
  clear hs
  go_enter Tryd.func40, Tryd.ntmps40
  go_wp2
  go_loopw [1, 5] (fun i s wr => ∃ (j : Nat) (c : Option Addr) (d k : Nat) (xs : List T4) (q : Nat), j ≤ m ∧ i = .int .i64 ((m : Int) - (j : Int)) ∧ s = .slice c k d ∧ Hid (xs.length = k ∧ k ≤ j ∧ ∀ x ∈ xs, okT x) ∧ OwnTerm wr w.heap.size c d xs ∧ Hid (q ≤ t + 4 * j) ∧ Src wr B a n ca zs q ∧ Hid (w.grownBy wr (some B))) (fun i _ _ => (intOf i).toNat)
  case atStart => exact ⟨0, some ⟨w.heap.size, 0, none⟩, 0, 0, [], t, Nat.zero_le _, by simp, rfl, Hid.mk ⟨rfl, Nat.le_refl _, fun x hx => by simp at hx⟩, OL.out, Hid.mk (by omega), S0.out, G0⟩
  case round =>
    clear OL S0 G0
    obtain ⟨j, c, d, k, xs, q, hj, rfl, rfl, hxs, O, hq, S, G0⟩ := hrel
    by_cases hlt : j < m
    · have hgt : (0 : Int) < (m : Int) - (j : Int) := by omega
      have hq0 := hq.out
      have hk0 := hxs.out.2.1
      obtain ⟨K, hK⟩ : ∃ K, max (1 : Int) (k : Int) = K := ⟨_, rfl⟩
      have hK1 : 1 ≤ K ∧ K ≤ 101 := by omega
      have CM := Hid.mk (fun w => l1Max_ok 1 (k : Int) w)
      rw [hK] at CM
      have hBw : B < wr.heap.size := S.1.1
      have hOB : Hid (∀ b : Addr, c = some b → some B ≠ some b.block) := Hid.mk (fun b hb e => by have := (O.lt b hb).1; simp at e; omega)
      have hsw := Hid.mk G0.out.size
      have hnc := Hid.mk (ownTerm_nocap O)
      have HO := Hid.mk O
      have CP := Hid.mk (fun t c d w h hc => l5Put_ok c k d xs t w h hxs.out.1 (by omega) hc)
      have CB := Hid.mk (fun x y c d w h hc => l5Both_ok c k d xs x y w h hxs.out.1 (by omega) hc)
      have HPM := Hid.mk (fun t (h : okT t) => put_more (xs := xs) (t := t) hxs.out.2.2 h)
      have G := World.grownBy.refl wr (some B)
      clear O hK
      go_wp2_with fail
      refine (CM.out _).mono ?_
      rintro e wq ⟨rfl, hwq⟩
      rw [hwq]
      clear hwq
      go_wp2_with fail
      replace G := grown_alloc G (.cells #[.int .i64 1, .int .i64 2, .int .i64 3, .int .i64 4, .int .i64 5, .int .i64 6, .int .i64 7, .int .i64 3, .int .i64 5] 2)
      refine (l1Pick_ok B a n ca zs (q) wr.heap.size 9 9 [1, 2, 3, 4, 5, 6, 7, 3, 5] _ (S.kept (belowA _ _)) hb hn hx (by omega) rfl (by omega) (by omega) (fun i hi => ?_) (by have := S.1.1; omega)).mono ?_
      · exact lit_cells wr [1, 2, 3, 4, 5, 6, 7, 3, 5] _ _ (by simp) i hi
      rintro e w1 ⟨o, rfl, ho, S1, g1⟩
      replace G := grownBy_trans G g1
      have Z1 := g1.size
      try simp only [World.size_alloc] at Z1
      replace S := S1
      clear g1 S1
      have hoi : okI o := by simp only [List.mem_cons, List.not_mem_nil, or_false] at ho; exact okI_of (by omega) (by omega)
      clear ho
      go_wp2_with fail
      refine (l1Next_ok B a n ca zs (q + 1) K _ S hb hn hx (by omega) (by omega)).mono ?_
      rintro e w2 ⟨v, rfl, hv, _, S2, g2⟩
      obtain ⟨hv1, hv2⟩ := hv (by omega)
      replace G := grownBy_trans G g2
      have Z2 := g2.size
      replace S := S2
      clear g2 S2
      go_wp2_with fail
      refine (l1Next_ok B a n ca zs (q + 1 + 1) K _ S hb hn hx (by omega) (by omega)).mono ?_
      rintro e w3 ⟨u, rfl, hu, _, S3, g3⟩
      obtain ⟨hu1, hu2⟩ := hu (by omega)
      replace G := grownBy_trans G g3
      have Z3 := g3.size
      replace S := S3
      clear g3 S3
      have hvi : okI v := okI_of (by omega) (by omega)
      have hui : okI u := okI_of (by omega) (by omega)
      have hzi : okI 0 := okI_of (by decide) (by decide)
      have CK := Hid.mk (fun w => l5Kids_ok o w)
      go_wp2_with fail
      refine (CK.out _).mono ?_
      rintro e wq ⟨rfl, rfl⟩
      clear CK
      rcases (show kids o = 0 ∨ (kids o = 1 ∧ (o == 7) = false) ∨ (kids o = 2 ∧ (o == 7) = false) ∨ (kids o = 2 ∧ o = 7) by rcases kids_ways o with ⟨e, h⟩ | ⟨e, h⟩ | ⟨e, h⟩ | ⟨e, h⟩ | ⟨e, h⟩ | ⟨_, _, _, e, _, h⟩ <;> simp only [beq_eq_false_iff_ne] <;> omega) with hk | ⟨hk, h7⟩ | ⟨hk, h7⟩ | ⟨hk, h7⟩
      · skip
        have h7 : (o == 7) = false := by rcases kids_ways o with ⟨e, h⟩ | ⟨e, h⟩ | ⟨e, h⟩ | ⟨e, h⟩ | ⟨e, h⟩ | ⟨_, _, _, e, _, h⟩ <;> simp only [beq_eq_false_iff_ne] <;> omega
        rw [hk]
        go_upto_region 8 with fail
        replace S := S.kept (belowA w3 (.cells #[.int .i64 o, .int .i64 v, .int .i64 u, .int .i64 0] 70))
        replace G := grown_alloc G (.cells #[.int .i64 o, .int .i64 v, .int .i64 u, .int .i64 0] 70)
        have VX : V (w3.alloc (.cells #[.int .i64 o, .int .i64 v, .int .i64 u, .int .i64 0] 70)) (w3.heap.size) [.int .i64 o, .int .i64 v, .int .i64 u, .int .i64 0] := V.newAt _ _ _ _ (by simp)
        have SD := S.kept (Below.refl _ _).drew
        have VD := VX.kept (Below.refl _ _).drew
        have GD := grownBy_trans G (Below.grownBy (Below.refl _ _).drew (some B))
        have hvx := VX.1
        clear S VX G
        refine wp_region_held_drew (S := (fun w' => w'.cell? ⟨w3.heap.size, 0, none⟩ = some (.int .i64 o))) (by kernel_rfl) (VD.2.1 0 (by simp)) (fun hHeld => ?_)
        generalize World.drew (w3.alloc (.cells #[.int .i64 o, .int .i64 v, .int .i64 u, .int .i64 0] 70)) = wd at *
        refine wpAnyH_take (i := 0) (oi := _) (v := ?vdg0) rfl (by kernel_rfl) (by kernel_rfl) (by kernel_rfl) (fun _ _ _ h => h) (Or.inl ⟨by rfl, ?hydg0⟩) hHeld ?restdg0
        case hydg0 => (intro w hSw; (try dsimp only at hSw); go_simp; first | done | with_reducible rfl)
        try simp only [Act.put, List.getElem_toArray, List.getElem_cons_zero, List.setIfInBounds_toArray, List.set_cons_zero, List.set_cons_succ]
        refine wpAnyH_take (i := 1) (oi := _) (v := ?vdg1) rfl (by kernel_rfl) (by kernel_rfl) (by kernel_rfl) (fun _ _ _ h => h) (Or.inl ⟨by rfl, ?hydg1⟩) hHeld ?restdg1
        case hydg1 => (intro w hSw; (try dsimp only at hSw); go_simp; first | done | with_reducible rfl)
        try simp only [Act.put, List.getElem_toArray, List.getElem_cons_zero, List.getElem_cons_succ, List.setIfInBounds_toArray, List.set_cons_zero, List.set_cons_succ]
        refine wpAnyH_take (i := 2) (oi := _) (v := ?vdg2) rfl (by kernel_rfl) (by kernel_rfl) (by kernel_rfl) (fun _ _ _ h => h) (Or.inl ⟨by rfl, ?hydg2⟩) hHeld ?restdg2
        case hydg2 => (intro w hSw; (try dsimp only at hSw); go_simp; first | done | with_reducible rfl)
        try simp only [Act.put, List.getElem_toArray, List.getElem_cons_zero, List.getElem_cons_succ, List.setIfInBounds_toArray, List.set_cons_zero, List.set_cons_succ]
        refine wpAnyH_ready (rs := [3]) (by kernel_rfl) (by simp) ?_
        refine AllReadyH.cons (o := _) rfl (fun K0 hK0 => ?_) AllReadyH.nil
        go_simp
        go_at_call 42
        refine (l1Next_ok B a n ca zs (q + 1 + 1 + 1) 6 _ SD hb hn hx (by omega) (by omega)).mono ?_
        rintro e w9 ⟨z, rfl, hz, _, S9, g9⟩
        obtain ⟨hz1, hz2⟩ := hz (by omega)
        have V9 := VD.grownB g9 (by (try simp); (try omega))
        have G9 := grownBy_trans GD g9
        have hzz9 := g9.size
        clear g9 SD VD GD
        refine hK0.out _ _ (V9.2.1 0 (by simp)) (fun hHeld => ?_)
        clear hK0 K0
        try simp only [Act.put, List.getElem_toArray, List.getElem_cons_zero, List.getElem_cons_succ, List.setIfInBounds_toArray, List.set_cons_zero, List.set_cons_succ]
        refine wpAnyH_take (i := 4) (oi := _) (v := ?vdg4) rfl (by kernel_rfl) (by kernel_rfl) (by kernel_rfl) (fun _ _ _ h => h) (Or.inl ⟨by rfl, ?hydg4⟩) hHeld ?restdg4
        case hydg4 => (intro w hSw; (try dsimp only at hSw); go_simp; first | done | with_reducible rfl)
        try simp only [Act.put, List.getElem_toArray, List.getElem_cons_zero, List.getElem_cons_succ, List.setIfInBounds_toArray, List.set_cons_zero, List.set_cons_succ]
        have HT := Hid.mk V9.there
        have VF := V9.filled [.int .i64 o, .int .i64 0, .int .i64 0, .int .i64 z] rfl
        have SF := srcCells S9 (show B < w3.heap.size by first | omega | (simp; omega)) 0 [.int .i64 o, .int .i64 0, .int .i64 0, .int .i64 z]
        have GF := grownCells G9 (show wr.heap.size ≤ w3.heap.size by first | omega | (simp; omega)) 0 [.int .i64 o, .int .i64 0, .int .i64 0, .int .i64 z]
        obtain ⟨w6, hw6⟩ : ∃ w6, w9.setCells (w3.heap.size) 0 [.int .i64 o, .int .i64 0, .int .i64 0, .int .i64 z] = w6 := ⟨_, rfl⟩
        rw [hw6] at VF SF GF
        replace hw6 := Hid.mk hw6
        have VX := VF
        have S := SF
        have G := GF
        clear VF SF GF V9 S9 G9
        refine wpAnyH_ready (rs := [5]) (by kernel_rfl) (by simp) ?_
        refine AllReadyH.cons (o := _) rfl (fun K0 hK0 => ?_) AllReadyH.nil
        rw [if_pos (by rfl)]
        refine wp_stroke w6 70 _ _ rfl (w3.heap.size) 0 #[.int .i64 o, .int .i64 0, .int .i64 0, .int .i64 z] rfl rfl HT.out (by kernel_rfl) (by kernel_rfl) hw6.out ?_
        refine hK0.out _ _ (VX.2.1 0 (by simp)) (fun hHeld => ?_)
        clear hK0 K0 hHeld HT
        refine wpAnyH_done (by kernel_rfl) ?_ _
        have hzi2 : okI z := okI_of (by omega) (by omega)
        have hw6l := VX.1
        obtain ⟨s_VX, f_VX, z_VX⟩ := VX.open
        go_wp2_with fail
        clear s_VX f_VX z_VX
        have HPX := Hid.mk (HPM.out ⟨o, 0, 0, z⟩ ⟨hoi, hzi, hzi, hzi2⟩)
        replace CP := Hid.mk (fun c d w h hc => CP.out ⟨o, 0, 0, z⟩ c d w h hc)
        generalize put xs ⟨o, 0, 0, z⟩ = P at *
        obtain ⟨kc, kk, ls⟩ := P
        simp only at *
        obtain ⟨kl, hkl⟩ : ∃ q, ls.length = q := ⟨_, rfl⟩
        rw [hkl] at CP HPX
        replace hkl := Hid.mk hkl
        have hzz := G.size
        refine (CP.out c d _ (HO.out.grown G hOB.out).rd hnc.out).mono ?_
        rintro e w101 ⟨c6, d6, rfl, O6, b6⟩
        have Y6 := b6.size
        replace VX := VX.kept b6
        replace S := S.kept b6
        replace G := grownBy_trans G (Below.grownBy b6 _)
        clear b6
        have hO6 := Hid.mk (fun b (hb : c6 = some b) => (O6.lt b hb))
        replace O6 := O6.kept (belowA w101 (.cells #[.int .i64 kc, .int .i64 kk, .slice c6 kl d6] 28))
        replace VX := VX.kept (belowA w101 (.cells #[.int .i64 kc, .int .i64 kk, .slice c6 kl d6] 28))
        replace S := S.kept (belowA w101 (.cells #[.int .i64 kc, .int .i64 kk, .slice c6 kl d6] 28))
        replace G := grown_alloc G (.cells #[.int .i64 kc, .int .i64 kk, .slice c6 kl d6] 28)
        have VW : V (w101.alloc (.cells #[.int .i64 kc, .int .i64 kk, .slice c6 kl d6] 28)) (w101.heap.size) [.int .i64 kc, .int .i64 kk, .slice c6 kl d6] := V.newAt _ _ _ _ (by simp)
        obtain ⟨s_VX, f_VX, z_VX⟩ := VX.open
        obtain ⟨s_VW, f_VW, z_VW⟩ := VW.open
        have hG1 := G.size
        try simp only [World.size_alloc] at hG1
        have Gt := Hid.mk (grownBy_trans G0.out G)
        have St := Hid.mk S
        have hqq : Hid (q + 1 + 1 + 1 + 1 ≤ t + 4 * (j + 1)) := Hid.mk (by omega)
        have OA := Hid.mk (HO.out.grown G hOB.out)
        have OB := Hid.mk (O6.mono (base' := w.heap.size) (by have := hsw.out; first | omega | (simp; omega)))
        clear G S O6
        by_cases hc : kc = 0
        · have hcc : (kc == 0) = true := by simp [hc]
          clear hc
          go_wp2
          go_roundw
          case rel => exact ⟨j + 1, c6, d6, kl, ls, q + 1 + 1 + 1 + 1, by omega, congrArg (Value.int IntKind.i64) (by omega), rfl, Hid.mk ⟨hkl.out, by have h1 := HPX.out.1; have h2 := hxs.out; omega, HPX.out.2⟩, OB.out, hqq, St.out, Gt⟩
          case measure => (first | (simp [intOf]; done) | (simp [intOf]; omega))
        · have hcc : (kc == 0) = false := by simp [hc]
          clear hc
          go_wp2
          go_roundw
          case rel => exact ⟨j + 1, c, d, k, xs, q + 1 + 1 + 1 + 1, by omega, congrArg (Value.int IntKind.i64) (by omega), rfl, Hid.mk ⟨hxs.out.1, by omega, hxs.out.2.2⟩, OA.out, hqq, St.out, Gt⟩
          case measure => (first | (simp [intOf]; done) | (simp [intOf]; omega))
      · skip
        rw [hk]
        go_wp2_with fail
        replace S := S.kept (belowA w3 (.cells #[.int .i64 o, .int .i64 v, .int .i64 0, .int .i64 0] 70))
        replace G := grown_alloc G (.cells #[.int .i64 o, .int .i64 v, .int .i64 0, .int .i64 0] 70)
        have VX : V (w3.alloc (.cells #[.int .i64 o, .int .i64 v, .int .i64 0, .int .i64 0] 70)) (w3.heap.size) [.int .i64 o, .int .i64 v, .int .i64 0, .int .i64 0] := V.newAt _ _ _ _ (by simp)
        have HPX := Hid.mk (HPM.out ⟨o, v, 0, 0⟩ ⟨hoi, hvi, hzi, hzi⟩)
        replace CP := Hid.mk (fun c d w h hc => CP.out ⟨o, v, 0, 0⟩ c d w h hc)
        generalize put xs ⟨o, v, 0, 0⟩ = P at *
        obtain ⟨kc, kk, ls⟩ := P
        simp only at *
        obtain ⟨kl, hkl⟩ : ∃ q, ls.length = q := ⟨_, rfl⟩
        rw [hkl] at CP HPX
        replace hkl := Hid.mk hkl
        have hzz := G.size
        try simp only [World.size_alloc] at hzz
        refine (CP.out c d _ (HO.out.grown G hOB.out).rd hnc.out).mono ?_
        rintro e w201 ⟨c6, d6, rfl, O6, b6⟩
        have Y6 := b6.size
        try simp only [World.size_alloc] at Y6
        replace VX := VX.kept b6
        replace S := S.kept b6
        replace G := grownBy_trans G (Below.grownBy b6 _)
        clear b6
        have hO6 := Hid.mk (fun b (hb : c6 = some b) => (O6.lt b hb))
        replace O6 := O6.kept (belowA w201 (.cells #[.int .i64 kc, .int .i64 kk, .slice c6 kl d6] 28))
        replace VX := VX.kept (belowA w201 (.cells #[.int .i64 kc, .int .i64 kk, .slice c6 kl d6] 28))
        replace S := S.kept (belowA w201 (.cells #[.int .i64 kc, .int .i64 kk, .slice c6 kl d6] 28))
        replace G := grown_alloc G (.cells #[.int .i64 kc, .int .i64 kk, .slice c6 kl d6] 28)
        have VW : V (w201.alloc (.cells #[.int .i64 kc, .int .i64 kk, .slice c6 kl d6] 28)) (w201.heap.size) [.int .i64 kc, .int .i64 kk, .slice c6 kl d6] := V.newAt _ _ _ _ (by simp)
        obtain ⟨s_VX, f_VX, z_VX⟩ := VX.open
        obtain ⟨s_VW, f_VW, z_VW⟩ := VW.open
        have hG1 := G.size
        try simp only [World.size_alloc] at hG1
        have Gt := Hid.mk (grownBy_trans G0.out G)
        have St := Hid.mk S
        have hqq : Hid (q + 1 + 1 + 1 ≤ t + 4 * (j + 1)) := Hid.mk (by omega)
        have OA := Hid.mk (HO.out.grown G hOB.out)
        have OB := Hid.mk (O6.mono (base' := w.heap.size) (by have := hsw.out; first | omega | (simp; omega)))
        clear G S O6
        by_cases hc : kc = 0
        · have hcc : (kc == 0) = true := by simp [hc]
          clear hc
          go_wp2
          go_roundw
          case rel => exact ⟨j + 1, c6, d6, kl, ls, q + 1 + 1 + 1, by omega, congrArg (Value.int IntKind.i64) (by omega), rfl, Hid.mk ⟨hkl.out, by have h1 := HPX.out.1; have h2 := hxs.out; omega, HPX.out.2⟩, OB.out, hqq, St.out, Gt⟩
          case measure => (first | (simp [intOf]; done) | (simp [intOf]; omega))
        · have hcc : (kc == 0) = false := by simp [hc]
          clear hc
          go_wp2
          go_roundw
          case rel => exact ⟨j + 1, c, d, k, xs, q + 1 + 1 + 1, by omega, congrArg (Value.int IntKind.i64) (by omega), rfl, Hid.mk ⟨hxs.out.1, by omega, hxs.out.2.2⟩, OA.out, hqq, St.out, Gt⟩
          case measure => (first | (simp [intOf]; done) | (simp [intOf]; omega))
      · skip
        rw [hk]
        go_wp2_with fail
        replace S := S.kept (belowA w3 (.cells #[.int .i64 o, .int .i64 v, .int .i64 u, .int .i64 0] 70))
        replace G := grown_alloc G (.cells #[.int .i64 o, .int .i64 v, .int .i64 u, .int .i64 0] 70)
        have VX : V (w3.alloc (.cells #[.int .i64 o, .int .i64 v, .int .i64 u, .int .i64 0] 70)) (w3.heap.size) [.int .i64 o, .int .i64 v, .int .i64 u, .int .i64 0] := V.newAt _ _ _ _ (by simp)
        have HPX := Hid.mk (HPM.out ⟨o, v, u, 0⟩ ⟨hoi, hvi, hui, hzi⟩)
        replace CP := Hid.mk (fun c d w h hc => CP.out ⟨o, v, u, 0⟩ c d w h hc)
        generalize put xs ⟨o, v, u, 0⟩ = P at *
        obtain ⟨kc, kk, ls⟩ := P
        simp only at *
        obtain ⟨kl, hkl⟩ : ∃ q, ls.length = q := ⟨_, rfl⟩
        rw [hkl] at CP HPX
        replace hkl := Hid.mk hkl
        have hzz := G.size
        try simp only [World.size_alloc] at hzz
        refine (CP.out c d _ (HO.out.grown G hOB.out).rd hnc.out).mono ?_
        rintro e w301 ⟨c6, d6, rfl, O6, b6⟩
        have Y6 := b6.size
        try simp only [World.size_alloc] at Y6
        replace VX := VX.kept b6
        replace S := S.kept b6
        replace G := grownBy_trans G (Below.grownBy b6 _)
        clear b6
        have hO6 := Hid.mk (fun b (hb : c6 = some b) => (O6.lt b hb))
        replace O6 := O6.kept (belowA w301 (.cells #[.int .i64 kc, .int .i64 kk, .slice c6 kl d6] 28))
        replace VX := VX.kept (belowA w301 (.cells #[.int .i64 kc, .int .i64 kk, .slice c6 kl d6] 28))
        replace S := S.kept (belowA w301 (.cells #[.int .i64 kc, .int .i64 kk, .slice c6 kl d6] 28))
        replace G := grown_alloc G (.cells #[.int .i64 kc, .int .i64 kk, .slice c6 kl d6] 28)
        have VW : V (w301.alloc (.cells #[.int .i64 kc, .int .i64 kk, .slice c6 kl d6] 28)) (w301.heap.size) [.int .i64 kc, .int .i64 kk, .slice c6 kl d6] := V.newAt _ _ _ _ (by simp)
        obtain ⟨s_VX, f_VX, z_VX⟩ := VX.open
        obtain ⟨s_VW, f_VW, z_VW⟩ := VW.open
        have hG1 := G.size
        try simp only [World.size_alloc] at hG1
        have Gt := Hid.mk (grownBy_trans G0.out G)
        have St := Hid.mk S
        have hqq : Hid (q + 1 + 1 + 1 ≤ t + 4 * (j + 1)) := Hid.mk (by omega)
        have OA := Hid.mk (HO.out.grown G hOB.out)
        have OB := Hid.mk (O6.mono (base' := w.heap.size) (by have := hsw.out; first | omega | (simp; omega)))
        clear G S O6
        by_cases hc : kc = 0
        · have hcc : (kc == 0) = true := by simp [hc]
          clear hc
          go_wp2
          go_roundw
          case rel => exact ⟨j + 1, c6, d6, kl, ls, q + 1 + 1 + 1, by omega, congrArg (Value.int IntKind.i64) (by omega), rfl, Hid.mk ⟨hkl.out, by have h1 := HPX.out.1; have h2 := hxs.out; omega, HPX.out.2⟩, OB.out, hqq, St.out, Gt⟩
          case measure => (first | (simp [intOf]; done) | (simp [intOf]; omega))
        · have hcc : (kc == 0) = false := by simp [hc]
          clear hc
          go_wp2
          go_roundw
          case rel => exact ⟨j + 1, c, d, k, xs, q + 1 + 1 + 1, by omega, congrArg (Value.int IntKind.i64) (by omega), rfl, Hid.mk ⟨hxs.out.1, by omega, hxs.out.2.2⟩, OA.out, hqq, St.out, Gt⟩
          case measure => (first | (simp [intOf]; done) | (simp [intOf]; omega))
      · skip
        subst h7
        rw [hk]
        go_wp2_with fail
        replace S := S.kept (belowA w3 (.cells #[.int .i64 7, .int .i64 v, .int .i64 u, .int .i64 0] 70))
        replace G := grown_alloc G (.cells #[.int .i64 7, .int .i64 v, .int .i64 u, .int .i64 0] 70)
        have VX : V (w3.alloc (.cells #[.int .i64 7, .int .i64 v, .int .i64 u, .int .i64 0] 70)) (w3.heap.size) [.int .i64 7, .int .i64 v, .int .i64 u, .int .i64 0] := V.newAt _ _ _ _ (by simp)
        have HPX := Hid.mk (HPM.out (bothT v u) (okT_both hvi hui))
        replace CP := Hid.mk (fun c d w h hc => CP.out ⟨7, v, u, 0⟩ c d w h hc)
        replace CB := Hid.mk (fun c d w h hc => CB.out v u c d w h hc)
        generalize put xs (bothT v u) = P at *
        generalize put xs ⟨7, v, u, 0⟩ = P0 at *
        obtain ⟨kc0, kk0, ls0⟩ := P0
        obtain ⟨kc, kk, ls⟩ := P
        simp only at *
        obtain ⟨kl, hkl⟩ : ∃ q, ls.length = q := ⟨_, rfl⟩
        rw [hkl] at CB HPX
        replace hkl := Hid.mk hkl
        obtain ⟨kl0, hkl0⟩ : ∃ q, ls0.length = q := ⟨_, rfl⟩
        rw [hkl0] at CP
        have hzz := G.size
        try simp only [World.size_alloc] at hzz
        refine (CP.out c d _ (HO.out.grown G hOB.out).rd hnc.out).mono ?_
        rintro e w401 ⟨c6, d6, rfl, O6, b6⟩
        have Y6 := b6.size
        try simp only [World.size_alloc] at Y6
        replace VX := VX.kept b6
        replace S := S.kept b6
        replace G := grownBy_trans G (Below.grownBy b6 _)
        clear b6
        have hO6 := Hid.mk (fun b (hb : c6 = some b) => (O6.lt b hb))
        replace O6 := O6.kept (belowA w401 (.cells #[.int .i64 kc0, .int .i64 kk0, .slice c6 kl0 d6] 28))
        replace VX := VX.kept (belowA w401 (.cells #[.int .i64 kc0, .int .i64 kk0, .slice c6 kl0 d6] 28))
        replace S := S.kept (belowA w401 (.cells #[.int .i64 kc0, .int .i64 kk0, .slice c6 kl0 d6] 28))
        replace G := grown_alloc G (.cells #[.int .i64 kc0, .int .i64 kk0, .slice c6 kl0 d6] 28)
        have VW : V (w401.alloc (.cells #[.int .i64 kc0, .int .i64 kk0, .slice c6 kl0 d6] 28)) (w401.heap.size) [.int .i64 kc0, .int .i64 kk0, .slice c6 kl0 d6] := V.newAt _ _ _ _ (by simp)
        obtain ⟨s_VX, f_VX, z_VX⟩ := VX.open
        obtain ⟨s_VW, f_VW, z_VW⟩ := VW.open
        go_wp2_with fail
        clear s_VX f_VX z_VX s_VW f_VW z_VW
        refine (CB.out c d _ (HO.out.grown G hOB.out).rd hnc.out).mono ?_
        rintro e w402 ⟨c7, d7, rfl, O7, b7⟩
        have Y7 := b7.size
        try simp only [World.size_alloc] at Y7
        replace VX := VX.kept b7
        replace VW := VW.kept b7
        replace S := S.kept b7
        replace G := grownBy_trans G (Below.grownBy b7 _)
        clear b7 O6
        have hO7 := Hid.mk (fun b (hb : c7 = some b) => (O7.lt b hb))
        have HT := Hid.mk VW.there
        have VF := VW.filled [.int .i64 kc, .int .i64 kk, .slice c7 kl d7] rfl
        have AX := VX.apart (B := w401.heap.size) (by first | omega | (simp; omega)) 0 [.int .i64 kc, .int .i64 kk, .slice c7 kl d7]
        have AO := O7.apart (B := w401.heap.size) (by intro b hb; have := (hO7.out b hb).1; first | omega | (simp at this; omega)) 0 [.int .i64 kc, .int .i64 kk, .slice c7 kl d7]
        have SF := srcCells S (show B < w401.heap.size by first | omega | (simp; omega)) 0 [.int .i64 kc, .int .i64 kk, .slice c7 kl d7]
        have GF := grownCells G (show wr.heap.size ≤ w401.heap.size by first | omega | (simp; omega)) 0 [.int .i64 kc, .int .i64 kk, .slice c7 kl d7]
        obtain ⟨w9, hw9⟩ : ∃ w9, World.setCells w402 (w401.heap.size) 0 [.int .i64 kc, .int .i64 kk, .slice c7 kl d7] = w9 := ⟨_, rfl⟩
        rw [hw9] at VF AX AO SF GF
        replace hw9 := Hid.mk hw9
        clear VX VW O7 S G
        have VX := AX
        have VW := VF
        have O7 := AO
        have S := SF
        have G := GF
        clear AX VF AO SF GF
        obtain ⟨s_VX, f_VX, z_VX⟩ := VX.open
        obtain ⟨s_VW, f_VW, z_VW⟩ := VW.open
        have hG1 := G.size
        have Gt := Hid.mk (grownBy_trans G0.out G)
        have St := Hid.mk S
        have hqq : Hid (q + 1 + 1 + 1 ≤ t + 4 * (j + 1)) := Hid.mk (by omega)
        have OA := Hid.mk (HO.out.grown G hOB.out)
        have OB := Hid.mk (O7.mono (base' := w.heap.size) (by have := hsw.out; first | omega | (simp; omega)))
        clear G S O7
        by_cases hc : kc = 0
        · have hcc : (kc == 0) = true := by simp [hc]
          clear hc
          go_wp2_with (refine wpList_stroke w9 rfl 28 _ _ rfl (w401.heap.size) 0 #[.int .i64 kc, .int .i64 kk, .slice c7 kl d7] rfl rfl HT.out (by kernel_rfl) (by kernel_rfl) hw9.out ?_)
          go_roundw
          case rel => exact ⟨j + 1, c7, d7, kl, ls, q + 1 + 1 + 1, by omega, congrArg (Value.int IntKind.i64) (by omega), rfl, Hid.mk ⟨hkl.out, by have h1 := HPX.out.1; have h2 := hxs.out; omega, HPX.out.2⟩, OB.out, hqq, St.out, Gt⟩
          case measure => (first | (simp [intOf]; done) | (simp [intOf]; omega))
        · have hcc : (kc == 0) = false := by simp [hc]
          clear hc
          go_wp2_with (refine wpList_stroke w9 rfl 28 _ _ rfl (w401.heap.size) 0 #[.int .i64 kc, .int .i64 kk, .slice c7 kl d7] rfl rfl HT.out (by kernel_rfl) (by kernel_rfl) hw9.out ?_)
          go_roundw
          case rel => exact ⟨j + 1, c, d, k, xs, q + 1 + 1 + 1, by omega, congrArg (Value.int IntKind.i64) (by omega), rfl, Hid.mk ⟨hxs.out.1, by omega, hxs.out.2.2⟩, OA.out, hqq, St.out, Gt⟩
          case measure => (first | (simp [intOf]; done) | (simp [intOf]; omega))
    · obtain rfl : j = m := by omega
      have hgt : ¬ ((0 : Int) < (j : Int) - (j : Int)) := by omega
      have HO := Hid.mk O
      have HS := Hid.mk S
      clear O S
      go_wp2
      go_ret
      exact ⟨c, d, k, xs, q, rfl, hxs.out.1, hxs.out.2.1, hxs.out.2.2, HO.out, hq.out, HS.out, G0.out⟩

end Go.Proofs.YthjaehcfakjemaaDoor

/- The draw of a table that may be bent. -/
namespace Go.Proofs.YthjaehcfakjemaaDoor
open Go.RowKit

theorem grownRow2 {w w1 w2 : World} {B : Nat} {row : Option Nat} (h : w.grownBy w1 (some B)) (g : w1.grownBy w2 row) (hr : ∀ q, row = some q → w.heap.size ≤ q) : w.grownBy w2 (some B) :=
  ⟨g.os.trans h.os, g.tape.trans h.tape, g.output.trans h.output, Nat.le_trans h.size g.size, fun k hk hne => (g.block k (Nat.lt_of_lt_of_le hk h.size) (fun e => by have := hr k e.symm; omega)).trans (h.block k hk hne)⟩

theorem ownTerm_some {w : World} {base : Nat} {a : Option Addr} {cap : Nat} {xs : List T4} (h : OwnTerm w base a cap xs) (h0 : 0 < xs.length) : ∃ g, a = some ⟨g, 0, Option.none⟩ := by
  rcases h.2 with ⟨h, _⟩ | ⟨g, cap', cur, hv, _⟩
  · simp only [Value.slice.injEq] at h
    omega
  · simp only [Value.slice.injEq] at hv
    exact ⟨g, hv.1⟩

theorem okT_upd {x : T4} (h : okT x) (j : Nat) {v : Int} (hv : okI v) : okT (updTerm x j v) := by
  obtain ⟨o, a, b, n⟩ := x
  obtain ⟨h1, h2, h3, h4⟩ := h
  unfold updTerm
  split <;> (try split) <;> (try split) <;> (try split) <;> exact ⟨by assumption, by assumption, by assumption, by assumption⟩

theorem okT_set {xs : List T4} (h : ∀ x ∈ xs, okT x) {k : Nat} (hk : k < xs.length) (j : Nat) {v : Int} (hv : okI v) : ∀ y ∈ xs.set k (updTerm (xs.getD k zTerm) j v), okT y := by
  intro y hy
  rcases List.mem_or_eq_of_mem_set hy with h1 | rfl
  · exact h y h1
  · exact okT_upd (h _ (getDTerm_mem hk)) j hv

/-- What the draw of a table leaves that may be bent. -/
def Bent5 (B : Nat) (a : Option Addr) (n ca : Nat) (zs : List Int) (t : Nat) (w : World) (e : Ending) (w' : World) : Prop :=
  ∃ (c : Option Addr) (d k : Nat) (xs : List T4) (q : Nat), e = .returned (.slice c k d) ∧ xs.length = k ∧ k ≤ 401 ∧ (∀ x ∈ xs, okT x) ∧ OwnTerm w' w.heap.size c d xs ∧ q ≤ t + 200 ∧ Src w' B a n ca zs q ∧ w.grownBy w' (some B)

set_option maxRecDepth 20000 in
set_option maxHeartbeats 4000000 in
theorem l5Bent_ok (B : Nat) (a : Option Addr) (n ca : Nat) (zs : List Int) (t : Nat) (w : World) (hs : Src w B a n ca zs t) (hb : Bytes zs) (hn : zs.length = n) (hx : n ≤ 1048577) (ht : t ≤ 700) :
    Calls Tryd.prog 20 #[.pointer (some ⟨B, 0, none⟩)] w (Bent5 B a n ca zs t w) := by
  have hBw : B < w.heap.size := hs.1.1
  go_enter Tryd.func20, Tryd.ntmps20
  have S := hs.kept (belowA w (.cells #[.int .i64 6, .int .i64 14, .int .i64 25, .int .i64 40, .int .i64 1] 2))
  have G := grown_alloc (World.grownBy.refl w (some B)) (.cells #[.int .i64 6, .int .i64 14, .int .i64 25, .int .i64 40, .int .i64 1] 2)
  go_wp2_with fail
  refine (l1Pick_ok B a n ca zs t w.heap.size 5 5 [6, 14, 25, 40, 1] _ S hb hn hx (by omega) rfl (by omega) (by omega) (fun i hi => ?_) (by omega)).mono ?_
  · exact lit_cells w [6, 14, 25, 40, 1] _ _ (by simp) i hi
  rintro e w1 ⟨x, rfl, hmem, S1, g1⟩
  have hx1 : 0 ≤ x ∧ x ≤ 40 := by
    simp only [List.mem_cons, List.not_mem_nil, or_false] at hmem
    omega
  obtain ⟨x1, x2⟩ := hx1
  obtain ⟨m, rfl⟩ := Int.eq_ofNat_of_zero_le x1
  have hm40 : m ≤ 40 := by omega
  clear hmem x1 x2
  replace G := grownBy_trans G g1
  have hGz := G.size
  clear S g1 hs
  go_wp2_with fail
  refine (l5Grow_ok B a n ca zs (t + 1) m _ S1 hb hn hx (by omega) (by omega)).mono ?_
  rintro e w2 ⟨c, d, k, xs, q, rfl, hl, hkm, hok, O, hq, S2, g2⟩
  replace O := O.mono hGz
  replace G := grownBy_trans G g2
  clear S1 g2
  have hok' := Hid.mk hok
  have hl' := Hid.mk hl
  clear hok hl
  by_cases h0 : k = 0
  · subst h0
    have O' := Hid.mk O
    have S' := Hid.mk S2
    have G' := Hid.mk G
    clear O S2 G
    go_wp2
    go_ret
    exact ⟨c, d, 0, xs, q, rfl, hl'.out, by omega, hok'.out, O'.out, by omega, S'.out, G'.out⟩
  have hk0 : ((k : Int) == 0) = false := by simp; omega
  obtain ⟨g, rfl⟩ := ownTerm_some O (by rw [hl'.out]; omega)
  have hkp : 1 ≤ k := by omega
  clear h0
  have O' := Hid.mk O
  clear O
  go_wp2_with fail
  refine (l1Next_ok B a n ca zs q (k : Int) _ S2 hb hn hx (by omega) (by omega)).mono ?_
  rintro e w3 ⟨v, rfl, hv, _, S3, g3⟩
  obtain ⟨hv1, hv2⟩ := hv (by omega)
  obtain ⟨i, rfl⟩ := Int.eq_ofNat_of_zero_le hv1
  have him : i < k := by omega
  have O := O'.out.grown g3 (fun b hb => by have := (O'.out.lt b hb).1; simp; omega)
  replace G := grownBy_trans G g3
  clear S2 g3 O' hv hv1
  have O' := Hid.mk O
  clear O
  go_wp2_with fail
  refine (l1Next_ok B a n ca zs (q + 1) 24 _ S3 hb hn hx (by omega) (by omega)).mono ?_
  rintro e w4 ⟨u, rfl, hu, _, S4, g4⟩
  obtain ⟨hu1, hu2⟩ := hu (by omega)
  have O := O'.out.grown g4 (fun b hb => by have := (O'.out.lt b hb).1; simp; omega)
  replace G := grownBy_trans G g4
  clear S3 g4 O' hu
  have hcw := O.lt ⟨g, 0, none⟩ rfl
  simp only at hcw
  have hi1 : (i : Int) < (k : Int) := by omega
  rcases (by omega : u = 0 ∨ u = 1 ∨ u = 2 ∨ u = 3 ∨ u = 4 ∨ u = 5 ∨ 6 ≤ u) with rfl | rfl | rfl | rfl | rfl | rfl | hu3
  · have O' := Hid.mk O
    clear O
    go_wp2_with fail
    refine (l1Next_ok B a n ca zs (q + 1 + 1) 7 _ S4 hb hn hx (by omega) (by omega)).mono ?_
    rintro e w8 ⟨p, rfl, hp, _, S8, g8⟩
    obtain ⟨hp1, hp2⟩ := hp (by omega)
    have O8 := Hid.mk (O'.out.grown g8 (fun b hb => by have := (O'.out.lt b hb).1; simp; omega))
    replace G := grownBy_trans G g8
    have hcw8 : g < w8.heap.size := by have := g8.size; omega
    clear S4 g8 O' hp
    have O' := O8
    clear O8
    have S5' := S8.kept (belowA w8 (.cells #[.int .i64 0, .int .i64 8, .int .i64 (1 + p)] 2))
    have O5' := Hid.mk (O'.out.kept (belowA w8 (.cells #[.int .i64 0, .int .i64 8, .int .i64 (1 + p)] 2)))
    replace G := grown_alloc G (.cells #[.int .i64 0, .int .i64 8, .int .i64 (1 + p)] 2)
    go_wp2_with fail
    refine (l1Pick_ok B a n ca zs (q + 1 + 1 + 1) w8.heap.size 3 3 [0, 8, 1 + p] _ S5' hb hn hx (by omega) rfl (by omega) (by omega) (fun j hi => ?_) (by have := S8.1.1; omega)).mono ?_
    · exact lit_cells w8 [0, 8, 1 + p] _ _ (by simp) _ hi
    rintro e w5 ⟨z, rfl, hz, S5, g5⟩
    have hzi : okI z := by simp only [List.mem_cons, List.not_mem_nil, or_false] at hz; exact okI_of (by omega) (by omega)
    have O := O5'.out.grown g5 (fun b hb => by have := (O5'.out.lt b hb).1; simp; omega)
    replace G := grownBy_trans G g5
    clear S5' O5' S8 g5 O' hz
    have zF := fun o => World.ownsRow.frozenAt O o
    obtain ⟨y, hy⟩ : ∃ y, xs.getD i zTerm = y := ⟨_, rfl⟩
    rcases O.rd with h9 | ⟨b1, o1, e1, hca⟩
    · have := hl'.out; rw [h9] at this; simp at this; omega
    simp only [Option.some.injEq, Addr.mk.injEq, and_true] at e1
    obtain ⟨rfl, rfl⟩ := e1
    obtain ⟨p0, p1, p2, p3⟩ := RdTerm.cells hca i (by rw [hl'.out]; exact him) y hy
    simp only [Nat.zero_add] at p0 p1 p2 p3
    clear hy hca
    have O9 := O.poke i 0 (by rw [hl'.out]; exact him) (by decide) z
    have OZ := Hid.mk O9
    have S' := Hid.mk S5
    have G' := Hid.mk G
    have hGl := O.lt _ rfl
    simp only at hGl
    clear O O9 S5 G
    go_wp2
    go_ret
    refine ⟨some ⟨g, 0, none⟩, d, k, _, q + 1 + 1 + 1 + 1, rfl, ?_, by omega, okT_set hok'.out (by rw [hl'.out]; exact him) 0 hzi, OZ.out, by omega, S'.out.other (by simp only; omega) _, grownSet' G'.out (by simp only; omega) _⟩
    rw [List.length_set]
    exact hl'.out
  · have O' := Hid.mk O
    clear O
    have S5' := S4.kept (belowA w4 (.cells #[.int .i64 (-1), .int .i64 (i), .int .i64 0, .int .i64 4611686018427387904] 2))
    have O5' := Hid.mk (O'.out.kept (belowA w4 (.cells #[.int .i64 (-1), .int .i64 (i), .int .i64 0, .int .i64 4611686018427387904] 2)))
    replace G := grown_alloc G (.cells #[.int .i64 (-1), .int .i64 (i), .int .i64 0, .int .i64 4611686018427387904] 2)
    go_wp2_with fail
    refine (l1Pick_ok B a n ca zs (q + 1 + 1) w4.heap.size 4 4 [-1, (i : Int), 0, 4611686018427387904] _ S5' hb hn hx (by omega) rfl (by omega) (by omega) (fun j hi => ?_) (by have := S4.1.1; omega)).mono ?_
    · exact lit_cells w4 [-1, (i : Int), 0, 4611686018427387904] _ _ (by simp) _ hi
    rintro e w5 ⟨z, rfl, hz, S5, g5⟩
    have hzi : okI z := by simp only [List.mem_cons, List.not_mem_nil, or_false] at hz; exact okI_of (by omega) (by omega)
    have O := O5'.out.grown g5 (fun b hb => by have := (O5'.out.lt b hb).1; simp; omega)
    replace G := grownBy_trans G g5
    clear S5' O5' S4 g5 O' hz
    have zF := fun o => World.ownsRow.frozenAt O o
    obtain ⟨y, hy⟩ : ∃ y, xs.getD i zTerm = y := ⟨_, rfl⟩
    rcases O.rd with h9 | ⟨b1, o1, e1, hca⟩
    · have := hl'.out; rw [h9] at this; simp at this; omega
    simp only [Option.some.injEq, Addr.mk.injEq, and_true] at e1
    obtain ⟨rfl, rfl⟩ := e1
    obtain ⟨p0, p1, p2, p3⟩ := RdTerm.cells hca i (by rw [hl'.out]; exact him) y hy
    simp only [Nat.zero_add] at p0 p1 p2 p3
    clear hy hca
    have O9 := O.poke i 1 (by rw [hl'.out]; exact him) (by decide) z
    have OZ := Hid.mk O9
    have S' := Hid.mk S5
    have G' := Hid.mk G
    have hGl := O.lt _ rfl
    simp only at hGl
    clear O O9 S5 G
    go_wp2
    go_ret
    refine ⟨some ⟨g, 0, none⟩, d, k, _, q + 1 + 1 + 1, rfl, ?_, by omega, okT_set hok'.out (by rw [hl'.out]; exact him) 1 hzi, OZ.out, by omega, S'.out.other (by simp only; omega) _, grownSet' G'.out (by simp only; omega) _⟩
    rw [List.length_set]
    exact hl'.out
  · have O' := Hid.mk O
    clear O
    have S5' := S4.kept (belowA w4 (.cells #[.int .i64 (-1), .int .i64 (i), .int .i64 1] 2))
    have O5' := Hid.mk (O'.out.kept (belowA w4 (.cells #[.int .i64 (-1), .int .i64 (i), .int .i64 1] 2)))
    replace G := grown_alloc G (.cells #[.int .i64 (-1), .int .i64 (i), .int .i64 1] 2)
    go_wp2_with fail
    refine (l1Pick_ok B a n ca zs (q + 1 + 1) w4.heap.size 3 3 [-1, (i : Int), 1] _ S5' hb hn hx (by omega) rfl (by omega) (by omega) (fun j hi => ?_) (by have := S4.1.1; omega)).mono ?_
    · exact lit_cells w4 [-1, (i : Int), 1] _ _ (by simp) _ hi
    rintro e w5 ⟨z, rfl, hz, S5, g5⟩
    have hzi : okI z := by simp only [List.mem_cons, List.not_mem_nil, or_false] at hz; exact okI_of (by omega) (by omega)
    have O := O5'.out.grown g5 (fun b hb => by have := (O5'.out.lt b hb).1; simp; omega)
    replace G := grownBy_trans G g5
    clear S5' O5' S4 g5 O' hz
    have zF := fun o => World.ownsRow.frozenAt O o
    obtain ⟨y, hy⟩ : ∃ y, xs.getD i zTerm = y := ⟨_, rfl⟩
    rcases O.rd with h9 | ⟨b1, o1, e1, hca⟩
    · have := hl'.out; rw [h9] at this; simp at this; omega
    simp only [Option.some.injEq, Addr.mk.injEq, and_true] at e1
    obtain ⟨rfl, rfl⟩ := e1
    obtain ⟨p0, p1, p2, p3⟩ := RdTerm.cells hca i (by rw [hl'.out]; exact him) y hy
    simp only [Nat.zero_add] at p0 p1 p2 p3
    clear hy hca
    have O9 := O.poke i 2 (by rw [hl'.out]; exact him) (by decide) z
    have OZ := Hid.mk O9
    have S' := Hid.mk S5
    have G' := Hid.mk G
    have hGl := O.lt _ rfl
    simp only at hGl
    clear O O9 S5 G
    go_wp2
    go_ret
    refine ⟨some ⟨g, 0, none⟩, d, k, _, q + 1 + 1 + 1, rfl, ?_, by omega, okT_set hok'.out (by rw [hl'.out]; exact him) 2 hzi, OZ.out, by omega, S'.out.other (by simp only; omega) _, grownSet' G'.out (by simp only; omega) _⟩
    rw [List.length_set]
    exact hl'.out
  · have O' := Hid.mk O
    clear O
    have S5' := S4.kept (belowA w4 (.cells #[.int .i64 (-1), .int .i64 10000, .int .i64 1] 2))
    have O5' := Hid.mk (O'.out.kept (belowA w4 (.cells #[.int .i64 (-1), .int .i64 10000, .int .i64 1] 2)))
    replace G := grown_alloc G (.cells #[.int .i64 (-1), .int .i64 10000, .int .i64 1] 2)
    go_wp2_with fail
    refine (l1Pick_ok B a n ca zs (q + 1 + 1) w4.heap.size 3 3 [-1, 10000, 1] _ S5' hb hn hx (by omega) rfl (by omega) (by omega) (fun j hi => ?_) (by have := S4.1.1; omega)).mono ?_
    · exact lit_cells w4 [-1, 10000, 1] _ _ (by simp) _ hi
    rintro e w5 ⟨z, rfl, hz, S5, g5⟩
    have hzi : okI z := by simp only [List.mem_cons, List.not_mem_nil, or_false] at hz; exact okI_of (by omega) (by omega)
    have O := O5'.out.grown g5 (fun b hb => by have := (O5'.out.lt b hb).1; simp; omega)
    replace G := grownBy_trans G g5
    clear S5' O5' S4 g5 O' hz
    have zF := fun o => World.ownsRow.frozenAt O o
    obtain ⟨y, hy⟩ : ∃ y, xs.getD i zTerm = y := ⟨_, rfl⟩
    rcases O.rd with h9 | ⟨b1, o1, e1, hca⟩
    · have := hl'.out; rw [h9] at this; simp at this; omega
    simp only [Option.some.injEq, Addr.mk.injEq, and_true] at e1
    obtain ⟨rfl, rfl⟩ := e1
    obtain ⟨p0, p1, p2, p3⟩ := RdTerm.cells hca i (by rw [hl'.out]; exact him) y hy
    simp only [Nat.zero_add] at p0 p1 p2 p3
    clear hy hca
    have O9 := O.poke i 3 (by rw [hl'.out]; exact him) (by decide) z
    have OZ := Hid.mk O9
    have S' := Hid.mk S5
    have G' := Hid.mk G
    have hGl := O.lt _ rfl
    simp only at hGl
    clear O O9 S5 G
    go_wp2
    go_ret
    refine ⟨some ⟨g, 0, none⟩, d, k, _, q + 1 + 1 + 1, rfl, ?_, by omega, okT_set hok'.out (by rw [hl'.out]; exact him) 3 hzi, OZ.out, by omega, S'.out.other (by simp only; omega) _, grownSet' G'.out (by simp only; omega) _⟩
    rw [List.length_set]
    exact hl'.out
  · obtain ⟨y, hy⟩ : ∃ y, xs.getD i zTerm = y := ⟨_, rfl⟩
    have hyo : okT y := by rw [← hy]; exact hok'.out _ (getDTerm_mem (by rw [hl'.out]; exact him))
    rcases O.rd with h9 | ⟨b1, o1, e1, hca⟩
    · have := hl'.out; rw [h9] at this; simp at this; omega
    simp only [Option.some.injEq, Addr.mk.injEq, and_true] at e1
    obtain ⟨rfl, rfl⟩ := e1
    obtain ⟨p0, p1, p2, p3⟩ := RdTerm.cells hca i (by rw [hl'.out]; exact him) y hy
    simp only [Nat.zero_add] at p0 p1 p2 p3
    clear hy hca
    have O5 := Hid.mk (O.kept (belowA w4 (.cells #[.int .i64 y.o, .int .i64 y.a, .int .i64 y.b, .int .i64 y.n] 70)))
    have S5 := Hid.mk (S4.kept (belowA w4 (.cells #[.int .i64 y.o, .int .i64 y.a, .int .i64 y.b, .int .i64 y.n] 70)))
    have G5 := Hid.mk (grown_alloc G (.cells #[.int .i64 y.o, .int .i64 y.a, .int .i64 y.b, .int .i64 y.n] 70))
    have VY := V.new w4 [.int .i64 y.o, .int .i64 y.a, .int .i64 y.b, .int .i64 y.n] 70
    have HNC := Hid.mk VY.news
    have hb4 : w.heap.size ≤ (w4.alloc (.cells #[.int .i64 y.o, .int .i64 y.a, .int .i64 y.b, .int .i64 y.n] 70)).heap.size := by have := G.size; rw [World.size_alloc]; omega
    clear O S4 G VY
    go_wp2_with (at_builtin; go_loud (refine wpList_putTerm _ rfl _ _ rfl w.heap.size (some ⟨g, 0, none⟩) d xs k hl'.out rfl O5.out ⟨w4.heap.size, 0, none⟩ 1 y rfl HNC.out (by omega) hb4 ?_))
    intro c6 d6 w6 O6 hg6 _
    have O6' := Hid.mk O6
    have S6 := Hid.mk (S5.out.grownAway hg6 (fun q hq => by simp at hq; omega))
    have G6 := Hid.mk (grownRow2 G5.out hg6 (fun q hq => by simp at hq; omega))
    clear O6 hg6 O5 S5 G5 HNC
    go_wp2
    go_ret
    refine ⟨c6, d6, k + 1, xs ++ [y], q + 1 + 1, rfl, by rw [List.length_append, hl'.out]; rfl, by omega, ?_, O6'.out, by omega, S6.out, G6.out⟩
    intro r hr
    simp only [List.mem_append, List.mem_singleton] at hr
    rcases hr with hr | rfl
    · exact hok'.out r hr
    · exact hyo
  · have S' := Hid.mk S4
    have G' := Hid.mk G
    have hGz4 := G.size
    clear O S4 G
    obtain ⟨i0, hi, hz0, hz1, hz2⟩ := info_parts Tryd.infoTerm
    go_wp2_with (at_make; refine wpList_make_full _ rfl _ _ 24 rfl w4.heap.size 70 i0 (.agg #[.int .i64 0, .int .i64 0, .int .i64 0, .int .i64 0]) 4 Tryd.underlying24 hi hz0 hz1 .i64 .i64 _ _ 401 rfl rfl rfl rfl (by rw [hz2]; omega) (by unfold maxLen; omega) (Nat.le_refl _) ?_)
    intro w5 hown hgrow
    have hown0 : w5.ownsRow w4.heap.size 70 4 (.slice (some ⟨w4.heap.size, 0, none⟩) 401 401) 401 (flatTerm (List.replicate 401 zTerm)) := by
      rw [zerosTerm, ← madeTerm]
      exact hown
    have OZ := Hid.mk (OwnTerm.mono (base' := w.heap.size) (show OwnTerm w5 w4.heap.size (some ⟨w4.heap.size, 0, none⟩) 401 (List.replicate 401 zTerm) by unfold OwnTerm; rw [List.length_replicate]; exact hown0) hGz4)
    have hbel : Below w4.heap.size w4 w5 := (Below.refl _ _).grown hgrow (Nat.le_refl _) (by intro k hk; cases hk)
    have S5 := Hid.mk (S'.out.kept hbel)
    have G5 := Hid.mk (grownBy_trans G'.out (Below.grownBy hbel _))
    clear hown hgrow hown0 hbel
    go_wp2
    go_ret
    exact ⟨some ⟨w4.heap.size, 0, none⟩, 401, 401, _, q + 1 + 1, rfl, List.length_replicate, by omega, fun r hr => by rw [List.eq_of_mem_replicate hr]; exact ⟨okI_of (by decide) (by decide), okI_of (by decide) (by decide), okI_of (by decide) (by decide), okI_of (by decide) (by decide)⟩, OZ.out, by omega, S5.out, G5.out⟩
  · have O' := Hid.mk O
    have S' := Hid.mk S4
    have G' := Hid.mk G
    have hu4 : (u == 0) = false := by simp; omega
    have hu5 : (u == 1) = false := by simp; omega
    have hu6 : (u == 2) = false := by simp; omega
    have hu7 : (u == 3) = false := by simp; omega
    have hu8 : (u == 4) = false := by simp; omega
    have hu9 : (u == 5) = false := by simp; omega
    clear O S4 G
    go_wp2
    go_ret
    exact ⟨some ⟨g, 0, none⟩, d, k, xs, q + 1 + 1, rfl, hl'.out, by omega, hok'.out, O'.out, by omega, S'.out, G'.out⟩

end Go.Proofs.YthjaehcfakjemaaDoor

/- The draws of a table, a place and another table. -/
namespace Go.Proofs.YthjaehcfakjemaaDoor
open Go.RowKit

theorem OwnTerm.cap {w : World} {base : Nat} {a : Option Addr} {cap : Nat} {xs : List T4} (h : OwnTerm w base a cap xs) : xs.length ≤ cap := by
  rcases h.2 with ⟨_, h0⟩ | ⟨g, cap', cur, hv, _, _, hc, _⟩
  · omega
  · simp only [Value.slice.injEq] at hv
    obtain ⟨_, _, rfl⟩ := hv
    exact hc

set_option maxRecDepth 20000 in
set_option maxHeartbeats 4000000 in
theorem l5Place_ok (B : Nat) (a : Option Addr) (n ca : Nat) (zs : List Int) (t : Nat) (w : World) (hs : Src w B a n ca zs t) (hb : Bytes zs) (hn : zs.length = n) (hx : n ≤ 1048577) (ht : t ≤ 9000) (c : Option Addr) (d k : Nat) (hk : k ≤ 401) :
    Calls Tryd.prog 21 #[.pointer (some ⟨B, 0, none⟩), .slice c k d] w fun e w' => ∃ v : Int, e = .returned (.int .i64 v) ∧ (-1 ≤ v ∧ v ≤ 401) ∧ Src w' B a n ca zs (t + 1 + 1 + 1) ∧ w.grownBy w' (some B) := by
  obtain ⟨K, hK⟩ : ∃ K, max (1 : Int) (k : Int) = K := ⟨_, rfl⟩
  have hK1 : 1 ≤ K ∧ K ≤ 401 := by omega
  obtain ⟨hK1, hK2⟩ := hK1
  have CM := Hid.mk (fun w => l1Max_ok 1 (k : Int) w)
  rw [hK] at CM
  clear hK
  have hB := hs.1.1
  have S := hs
  have G := World.grownBy.refl w (some B)
  go_enter Tryd.func21, Tryd.ntmps21
  go_wp2_with fail
  refine (CM.out _).mono ?_
  rintro e wq ⟨rfl, hwq⟩
  rw [hwq]
  clear hwq wq
  go_wp2_with fail
  refine (l1Next_ok B a n ca zs (t) K _ S hb hn hx (by omega) (by omega)).mono ?_
  rintro e w1 ⟨v1, rfl, hv1, _, S1, g1⟩
  obtain ⟨hv11, hv12⟩ := hv1 (by omega)
  replace G := grownBy_trans G g1
  have Z1 := g1.size
  replace S := S1
  clear g1 S1
  go_wp2_with fail
  refine (CM.out _).mono ?_
  rintro e wq ⟨rfl, hwq⟩
  rw [hwq]
  clear hwq wq
  go_wp2_with fail
  refine (l1Next_ok B a n ca zs (t + 1) K _ S hb hn hx (by omega) (by omega)).mono ?_
  rintro e w2 ⟨v2, rfl, hv2, _, S2, g2⟩
  obtain ⟨hv21, hv22⟩ := hv2 (by omega)
  replace G := grownBy_trans G g2
  have Z2 := g2.size
  replace S := S2
  clear g2 S2
  go_wp2_with fail
  replace G := grown_alloc G (.cells #[.int .i64 ((k : Int) - 1), .int .i64 v1, .int .i64 v2, .int .i64 ((k : Int) - 1), .int .i64 ((k : Int)), .int .i64 (-1)] 2)
  refine (l1Pick_ok B a n ca zs (t + 1 + 1) w2.heap.size 6 6 [(k : Int) - 1, v1, v2, (k : Int) - 1, (k : Int), -1] _ (S.kept (belowA _ _)) hb hn hx (by omega) rfl (by omega) (by omega) (fun i hi => ?_) (by have := S.1.1; omega)).mono ?_
  · exact lit_cells w2 [(k : Int) - 1, v1, v2, (k : Int) - 1, (k : Int), -1] _ _ (by simp) i hi
  rintro e w3 ⟨o, rfl, ho, S3, g3⟩
  replace G := grownBy_trans G g3
  have Z3 := g3.size
  try simp only [World.size_alloc] at Z3
  replace S := S3
  clear g3 S3
  have ho2 : -1 ≤ o ∧ o ≤ 401 := by simp only [List.mem_cons, List.not_mem_nil, or_false] at ho; omega
  clear ho
  have S9 := Hid.mk S
  have G9 := Hid.mk G
  clear S G
  go_wp2
  go_ret
  exact ⟨o, rfl, ho2, S9.out, G9.out⟩

set_option maxRecDepth 20000 in
set_option maxHeartbeats 4000000 in
theorem drawMoveTerm_ok (a : Option Addr) (n ca : Nat) (zs : List Int) (w : World) (ha : Rd .u8 w a zs) (hb : Bytes zs) (hn : zs.length = n) (hx : n ≤ 1048577) :
    Calls Tryd.prog 6 #[.slice a n ca] w fun e w' => ∃ (c : Option Addr) (d k : Nat) (xs : List T4) (q : Int) (c2 : Option Addr) (d2 k2 : Nat) (ys : List T4), e = .returned (.tuple #[.slice c k d, .int .i64 q, .slice c2 k2 d2]) ∧
      (xs.length = k ∧ k ≤ 401 ∧ k ≤ d ∧ (c = none → d = 0) ∧ (∀ x ∈ xs, okT x) ∧ ∀ b : Addr, c = some b → b.block < w'.heap.size) ∧ (-1 ≤ q ∧ q ≤ 401) ∧ (ys.length = k2 ∧ k2 ≤ 401 ∧ k2 ≤ d2 ∧ (c2 = none → d2 = 0) ∧ ∀ x ∈ ys, okT x) ∧ RdTerm w' c xs ∧ RdTerm w' c2 ys ∧ Below w.heap.size w w' := by
  go_enter Tryd.func6, Tryd.ntmps6
  have S := Src.new w a n ca zs 75 ha
  have G := belowA w (.cells #[.slice a n ca, .int .i64 0] 75)
  go_wp2_with (first | (go_at_call 19; go_in) | fail)
  refine (l5Bent_ok w.heap.size a n ca zs 0 _ S hb hn hx (by omega)).mono ?_
  rintro e w1 ⟨c, d, k, xs, q1, rfl, hl, hk, hok, O, hq1, S1, g1⟩
  have hcap := O.cap
  have hnc := ownTerm_nocap O
  rw [hl] at hcap
  have hOl := O.lt
  simp only [World.size_alloc] at hOl
  replace hOl := Hid.mk hOl
  have R := O.rd
  replace G := G.grown g1 (by simp) (by simp)
  have H1 := Hid.mk (show xs.length = k ∧ k ≤ 401 ∧ k ≤ d ∧ (c = none → d = 0) ∧ ∀ x ∈ xs, okT x from ⟨hl, hk, hcap, hnc, hok⟩)
  clear g1 O S hl hok hcap hnc
  replace R := Hid.mk R
  go_wp2_with fail
  refine (l5Place_ok w.heap.size a n ca zs q1 _ S1 hb hn hx (by omega) c d k hk).mono ?_
  rintro e w2 ⟨v, rfl, hv, S2, g2⟩
  replace R := Hid.mk (R.out.grown g2 (fun b hb e => by have := (hOl.out b hb).1; simp at e; omega))
  have hz2 := g2.size
  replace G := G.grown g2 (by have := G.size; omega) (by simp)
  clear g2 S1
  go_wp2_with fail
  refine (l5Bent_ok w.heap.size a n ca zs (q1 + 1 + 1 + 1) _ S2 hb hn hx (by omega)).mono ?_
  rintro e w3 ⟨c2, d2, k2, ys, q3, rfl, hl2, hk2, hok2, O2, hq3, S3, g3⟩
  have hcap2 := O2.cap
  have hnc2 := ownTerm_nocap O2
  rw [hl2] at hcap2
  have R3 := Hid.mk (R.out.grown g3 (fun b hb e => by have := (hOl.out b hb).1; simp at e; omega))
  have hz3 := g3.size
  have hlt := Hid.mk (fun b (hb : c = some b) => Nat.lt_of_lt_of_le (hOl.out b hb).2 (Nat.le_trans hz2 hz3))
  have H2 := Hid.mk (show ys.length = k2 ∧ k2 ≤ 401 ∧ k2 ≤ d2 ∧ (c2 = none → d2 = 0) ∧ ∀ x ∈ ys, okT x from ⟨hl2, hk2, hcap2, hnc2, hok2⟩)
  have R4 := Hid.mk O2.rd
  have G4 := Hid.mk (G.grown g3 (by have := G.size; omega) (by simp))
  clear G g3 S2 S3 O2 R hl2 hok2 hcap2 hnc2
  go_wp2
  refine bodyPost_ret (v := .tuple #[.slice c k d, .int .i64 v, .slice c2 k2 d2]) (by simp [results, Tryd.results6, go_sem]) rfl ⟨c, d, k, xs, v, c2, d2, k2, ys, rfl, ⟨H1.out.1, H1.out.2.1, H1.out.2.2.1, H1.out.2.2.2.1, H1.out.2.2.2.2, hlt.out⟩, hv, H2.out, R3.out, R4.out, G4.out⟩

end Go.Proofs.YthjaehcfakjemaaDoor
