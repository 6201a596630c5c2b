/- Put together: KyA, KyB. -/
import Derived.Test.YthkmoabkeblbjaaTmF
import Derived.Test.YthkmoabkeblbjaaTmS
import Derived.Test.YthkmoabkeblbjaaTmX
import Derived.Test.YthkmoabkeblbjaaDa
import Derived.Test.YthkmoabkeblbjaaFill
import Derived.Deep.DeepCutAuto
import Derived.Deep.RegionHeld3

/- A table that grows, and a code that was met first: plain sums. -/
namespace Go.Proofs.Ythkmoabkeblbjaa
open Go.RowKit

/-- A table that grows; a code that was met first. -/
structure Mk where
  l : List T4
  c : Int

/-- One term is put. -/
def mkPut (m : Mk) (t : T4) : Mk := if m.c = 0 then (if (put m.l t).c = 0 then ⟨(put m.l t).l, 0⟩ else ⟨m.l, (put m.l t).c⟩) else m

/-- Its place. -/
def mkAt (m : Mk) (t : T4) : Int := if m.c = 0 then (put m.l t).k else 0

theorem mkPut_len {m : Mk} (h : m.l.length ≤ 400) (t : T4) : (mkPut m t).l.length ≤ 400 := by
  unfold mkPut
  split
  · split
    · exact put_len h
    · exact h
  · exact h

theorem mk_ways (m : Mk) (t : T4) : (m.c ≠ 0 ∧ mkPut m t = m ∧ mkAt m t = 0) ∨ (m.c = 0 ∧ (put m.l t).c ≠ 0 ∧ mkPut m t = ⟨m.l, (put m.l t).c⟩ ∧ mkAt m t = 0) ∨ (m.c = 0 ∧ (put m.l t).c = 0 ∧ mkPut m t = ⟨(put m.l t).l, 0⟩ ∧ mkAt m t = (put m.l t).k) := by
  unfold mkPut mkAt
  by_cases h : m.c = 0
  · by_cases h2 : (put m.l t).c = 0
    · exact .inr (.inr ⟨h, h2, by rw [if_pos h, if_pos h2], by rw [if_pos h]⟩)
    · refine .inr (.inl ⟨h, h2, by rw [if_pos h, if_neg h2], ?_⟩)
      rw [if_pos h, put_bad h2]
  · exact .inl ⟨h, by rw [if_neg h], by rw [if_neg h]⟩

theorem mkAt_le {m : Mk} (h : m.l.length ≤ 400) (t : T4) : 0 ≤ mkAt m t ∧ mkAt m t ≤ 400 := by
  unfold mkAt
  split
  · exact put_k h
  · omega

/-- A list put as pairs: the table and the place. -/
def mkL (m : Mk) : List Int → Mk × Int
  | [] => (m, 0)
  | [x] => (m, x)
  | x :: y :: r => (mkPut (mkL m (y :: r)).1 ⟨3, x, (mkL m (y :: r)).2, 0⟩, mkAt (mkL m (y :: r)).1 ⟨3, x, (mkL m (y :: r)).2, 0⟩)

theorem mkL_two (m : Mk) (x y : Int) (r : List Int) : mkL m (x :: y :: r) = (mkPut (mkL m (y :: r)).1 ⟨3, x, (mkL m (y :: r)).2, 0⟩, mkAt (mkL m (y :: r)).1 ⟨3, x, (mkL m (y :: r)).2, 0⟩) := by rw [mkL]

theorem mkL_len {m : Mk} (h : m.l.length ≤ 400) : ∀ zs, (mkL m zs).1.l.length ≤ 400
  | [] => h
  | [_] => h
  | x :: y :: r => by rw [mkL_two]; exact mkPut_len (mkL_len h (y :: r)) _

theorem mkL_drop (m : Mk) (zs : List Int) (k : Nat) (h : k + 1 < zs.length) {z : Int} (hz : zs.getD k 0 = z) :
    mkL m (zs.drop k) = (mkPut (mkL m (zs.drop (k + 1))).1 ⟨3, z, (mkL m (zs.drop (k + 1))).2, 0⟩, mkAt (mkL m (zs.drop (k + 1))).1 ⟨3, z, (mkL m (zs.drop (k + 1))).2, 0⟩) := by
  have e : zs.drop k = z :: zs.drop (k + 1) := by
    rw [List.drop_eq_getElem_cons (by omega)]
    have : zs[k] = z := by rw [← hz]; simp [List.getD, show k < zs.length by omega]
    rw [this]
  obtain ⟨y, r, h2⟩ : ∃ y r, zs.drop (k + 1) = y :: r := by
    rw [List.drop_eq_getElem_cons h]; exact ⟨_, _, rfl⟩
  rw [e, h2, mkL_two]

theorem mkL_last (m : Mk) (zs : List Int) (k : Nat) (h : k + 1 = zs.length) {z : Int} (hz : zs.getD k 0 = z) : mkL m (zs.drop k) = (m, z) := by
  have e : zs.drop k = [z] := by
    rw [List.drop_eq_getElem_cons (by omega), List.drop_of_length_le (by omega)]
    have : zs[k] = z := by rw [← hz]; simp [List.getD, show k < zs.length by omega]
    rw [this]
  rw [e, mkL]

/-- Names put one by one: the table, the places. -/
def mkNs (m : Mk) : List Int → Mk × List Int
  | [] => (m, [])
  | n :: r => ((mkNs (mkPut m ⟨1, 0, 0, n⟩) r).1, mkAt m ⟨1, 0, 0, n⟩ :: (mkNs (mkPut m ⟨1, 0, 0, n⟩) r).2)

theorem mkNs_len {m : Mk} (h : m.l.length ≤ 400) (ns : List Int) : (mkNs m ns).1.l.length ≤ 400 := by
  induction ns generalizing m with
  | nil => exact h
  | cons n r ih => exact ih (mkPut_len h _)

theorem mkNs_count (m : Mk) (ns : List Int) : (mkNs m ns).2.length = ns.length := by
  induction ns generalizing m with
  | nil => rfl
  | cons n r ih => simp [mkNs, ih]

theorem mkNs_app (m : Mk) (xs : List Int) (n : Int) : mkNs m (xs ++ [n]) = (mkPut (mkNs m xs).1 ⟨1, 0, 0, n⟩, (mkNs m xs).2 ++ [mkAt (mkNs m xs).1 ⟨1, 0, 0, n⟩]) := by
  induction xs generalizing m with
  | nil => rfl
  | cons x r ih => simp [mkNs, ih]

theorem mkNs_take (m : Mk) (ns : List Int) (k : Nat) (h : k < ns.length) {n : Int} (hz : ns.getD k 0 = n) : mkNs m (ns.take (k + 1)) = (mkPut (mkNs m (ns.take k)).1 ⟨1, 0, 0, n⟩, (mkNs m (ns.take k)).2 ++ [mkAt (mkNs m (ns.take k)).1 ⟨1, 0, 0, n⟩]) := by
  have e : ns.take (k + 1) = ns.take k ++ [n] := by
    rw [List.take_add_one]
    have : ns[k] = n := by rw [← hz]; simp [List.getD, h]
    simp [h, this]
  rw [e, mkNs_app]

/-- A list of names. -/
def mkW (m : Mk) (ns : List Int) : Mk × Int := mkL (mkNs m ns).1 (mkNs m ns).2

theorem mkW_len {m : Mk} (h : m.l.length ≤ 400) (ns : List Int) : (mkW m ns).1.l.length ≤ 400 := mkL_len (mkNs_len h ns) _

/-- Two places under an op. -/
def mk2 (m : Mk) (o a b : Int) : Mk × Int := (mkPut m ⟨o, a, b, 0⟩, mkAt m ⟨o, a, b, 0⟩)

theorem mk2_len {m : Mk} (h : m.l.length ≤ 400) (o a b : Int) : (mk2 m o a b).1.l.length ≤ 400 := mkPut_len h _

end Go.Proofs.Ythkmoabkeblbjaa

/- The model's table that grows: a term, two places, a name put into it: by contract. -/
namespace Go.Proofs.Ythkmoabkeblbjaa
open Go.RowKit

theorem build_oab (o a b : Int) (w : World) : (Instr.build 36 #[(0, .int .i64 o), (1, .int .i64 a), (2, .int .i64 b)]).run Try.prog w = .ok (.agg #[.int .i64 o, .int .i64 a, .int .i64 b, .int .i64 0]) w := run_build w 36 _ _ (by kernel_rfl)
theorem build_nm (n : Int) (w : World) : (Instr.build 36 #[(0, .int .i64 1), (3, .int .i64 n)]).run Try.prog w = .ok (.agg #[.int .i64 1, .int .i64 0, .int .i64 0, .int .i64 n]) w := run_build w 36 _ _ (by kernel_rfl)

/-- A table that grows, at block Q. -/
def MkB (w : World) (base Q : Nat) (m : Mk) : Prop :=
  ∃ (c : Option Addr) (d : Nat), V w Q [.slice c m.l.length d, .int .i64 m.c] ∧ OwnTerm w base c d m.l ∧ base ≤ w.heap.size ∧ ∀ b, c = some b → b.block ≠ Q

theorem MkB.kept {w w' : World} {base Q : Nat} {m : Mk} (h : MkB w base Q m) (hb : Below w.heap.size w w') : MkB w' base Q m := by
  obtain ⟨c, d, V1, O1, h1, h2⟩ := h
  exact ⟨c, d, V1.kept hb, O1.kept hb, Nat.le_trans h1 hb.size, h2⟩

set_option maxRecDepth 20000 in
set_option maxHeartbeats 4000000 in
theorem l9Put_ok (base Q : Nat) (m : Mk) (t : T4) (w : World) (h : MkB w base Q m) (hm : m.l.length ≤ 400) :
    Calls Try.prog 125 #[.pointer (some ⟨Q, 0, none⟩), .agg #[.int .i64 t.o, .int .i64 t.a, .int .i64 t.b, .int .i64 t.n]] w fun e w' => e = .returned (.int .i64 (mkAt m t)) ∧ MkB w' base Q (mkPut m t) ∧ w.grownBy w' (some Q) := by
  have HM := Hid.mk h
  obtain ⟨c, d, VM, O, hbs, hne⟩ := h
  obtain ⟨xs, mc⟩ := m
  simp only at hm VM O HM
  have HN := Hid.mk hne
  clear hne
  obtain ⟨n, hn⟩ : ∃ n, xs.length = n := ⟨_, rfl⟩
  rcases mk_ways ⟨xs, mc⟩ t with ⟨h1, e1, e2⟩ | ⟨h1, h2, e1, e2⟩ | ⟨h1, h2, e1, e2⟩
  · have hne : (mc != 0) = true := by simpa using h1
    rw [e1, e2]
    rw [hn] at VM
    clear e1 e2 h1 hn O
    go_enter Try.func125, Try.ntmps125
    have B := Below.refl w.heap.size w
    have hQ := VM.1
    replace VM := VM.kept (belowA w (.cells #[.int .i64 t.o, .int .i64 t.a, .int .i64 t.b, .int .i64 t.n] 36))
    replace B := thenB B (belowA w (.cells #[.int .i64 t.o, .int .i64 t.a, .int .i64 t.b, .int .i64 t.n] 36))
    have VT := V.new w [.int .i64 t.o, .int .i64 t.a, .int .i64 t.b, .int .i64 t.n] 36
    obtain ⟨s_VM, f_VM, z_VM⟩ := VM.open
    obtain ⟨s_VT, f_VT, z_VT⟩ := VT.open
    have Bf := Hid.mk B
    clear B
    go_wp2
    go_ret
    exact ⟨rfl, HM.out.kept Bf.out, Below.grownBy Bf.out _⟩
  · simp only at h1 h2 e1 e2
    subst h1
    rw [e1, e2]
    rw [hn] at VM
    have hnc := ownTerm_nocap O
    have CP := Hid.mk (fun w h => l5Put_ok c n d xs t w h hn (by omega) hnc)
    obtain ⟨k, hk⟩ : ∃ k, (put xs t).l.length = k := ⟨_, rfl⟩
    have HK := Hid.mk hk
    rw [hk] at CP
    have hne : ((put xs t).c != 0) = true := by simpa using h2
    generalize put xs t = P at *
    obtain ⟨pc, pk, pl⟩ := P
    simp only at *
    clear e1 e2 h2 hk
    go_enter Try.func125, Try.ntmps125
    have B := Below.refl w.heap.size w
    have hQ := VM.1
    replace VM := VM.kept (belowA w (.cells #[.int .i64 t.o, .int .i64 t.a, .int .i64 t.b, .int .i64 t.n] 36))
    replace O := O.kept (belowA w (.cells #[.int .i64 t.o, .int .i64 t.a, .int .i64 t.b, .int .i64 t.n] 36))
    replace B := thenB B (belowA w (.cells #[.int .i64 t.o, .int .i64 t.a, .int .i64 t.b, .int .i64 t.n] 36))
    have VT := V.new w [.int .i64 t.o, .int .i64 t.a, .int .i64 t.b, .int .i64 t.n] 36
    obtain ⟨s_VM, f_VM, z_VM⟩ := VM.open
    obtain ⟨s_VT, f_VT, z_VT⟩ := VT.open
    have Bo := B
    clear s_VM f_VM z_VM s_VT f_VT z_VT
    have K : ∀ w' : World, Below (w.alloc (.cells #[.int .i64 t.o, .int .i64 t.a, .int .i64 t.b, .int .i64 t.n] 36)).heap.size (w.alloc (.cells #[.int .i64 t.o, .int .i64 t.a, .int .i64 t.b, .int .i64 t.n] 36)) w' → (w'.cell? ⟨Q, 0, none⟩ = some (.slice c n d) ∧ w'.cell? ⟨Q, 1, none⟩ = some (.int .i64 0) ∧ w'.cell? ⟨w.heap.size, 0, none⟩ = some (.int .i64 t.o) ∧ w'.cell? ⟨w.heap.size, 1, none⟩ = some (.int .i64 t.a) ∧ w'.cell? ⟨w.heap.size, 2, none⟩ = some (.int .i64 t.b) ∧ w'.cell? ⟨w.heap.size, 3, none⟩ = some (.int .i64 t.n)) := fun w' h => ⟨(VM.kept h).2.1 0 (by simp), (VM.kept h).2.1 1 (by simp), (VT.kept h).2.1 0 (by simp), (VT.kept h).2.1 1 (by simp), (VT.kept h).2.1 2 (by simp), (VT.kept h).2.1 3 (by simp)⟩
    have K := Hid.mk K
    have HVM := Hid.mk VM
    have HO := Hid.mk O
    have HB := Hid.mk B
    have hQ2 : Q < (w.alloc (.cells #[.int .i64 t.o, .int .i64 t.a, .int .i64 t.b, .int .i64 t.n] 36)).heap.size := VM.1
    have hz0 : w.heap.size + 1 ≤ (w.alloc (.cells #[.int .i64 t.o, .int .i64 t.a, .int .i64 t.b, .int .i64 t.n] 36)).heap.size := by simp
    obtain ⟨s_VM, f_VM, z_VM⟩ := VM.open
    obtain ⟨s_VT, f_VT, z_VT⟩ := VT.open
    go_upto_region 3 with fail
    clear s_VM f_VM z_VM s_VT f_VT z_VT
    go_cut [5] (fun p wx => ∃ (P : Nat) (c1 : Option Addr) (d1 : Nat), p = .pointer (some ⟨P, 0, none⟩) ∧ V wx P [.int .i64 pc, .int .i64 pk, .slice c1 k d1] ∧ V wx Q [.slice c n d, .int .i64 0] ∧ OwnTerm wx base c d xs ∧ OwnTerm wx (w.heap.size + 1) c1 d1 pl ∧ Below w.heap.size w wx ∧ w.heap.size + 1 ≤ P)
    case first =>
      clear VM O B
      refine wp_region_held_drew (S := (fun w' => w'.cell? ⟨Q, 0, none⟩ = some (.slice c n d) ∧ w'.cell? ⟨Q, 1, none⟩ = some (.int .i64 0) ∧ w'.cell? ⟨w.heap.size, 0, none⟩ = some (.int .i64 t.o) ∧ w'.cell? ⟨w.heap.size, 1, none⟩ = some (.int .i64 t.a) ∧ w'.cell? ⟨w.heap.size, 2, none⟩ = some (.int .i64 t.b) ∧ w'.cell? ⟨w.heap.size, 3, none⟩ = some (.int .i64 t.n))) (by kernel_rfl) (K.out _ (Below.refl _ _).drew) (fun hHeld => ?_)
      have bd : Below (w.alloc (.cells #[.int .i64 t.o, .int .i64 t.a, .int .i64 t.b, .int .i64 t.n] 36)).heap.size (w.alloc (.cells #[.int .i64 t.o, .int .i64 t.a, .int .i64 t.b, .int .i64 t.n] 36)) (w.alloc (.cells #[.int .i64 t.o, .int .i64 t.a, .int .i64 t.b, .int .i64 t.n] 36)).drew := (Below.refl _ _).drew
      generalize (w.alloc (.cells #[.int .i64 t.o, .int .i64 t.a, .int .i64 t.b, .int .i64 t.n] 36)).drew = wd at *
      have hzd := bd.size
      refine wpAnyH_take (i := 0) (oi := _) (v := ?vk00) rfl (by kernel_rfl) (by kernel_rfl) (by kernel_rfl) (fun _ _ _ h => h) (Or.inl ⟨by kernel_rfl, ?hyk00⟩) hHeld ?restk00
      case hyk00 => (intro w hSw; (try dsimp only at hSw); go_simp; first | done | with_reducible rfl)
      try simp only [Act.put, List.getElem_toArray, List.getElem_cons_zero, List.setIfInBounds_toArray, List.set_cons_zero, List.set_cons_succ]
      refine wpAnyH_take (i := 1) (oi := _) (v := ?vk01) rfl (by kernel_rfl) (by kernel_rfl) (by kernel_rfl) (fun _ _ _ h => h) (Or.inl ⟨by kernel_rfl, ?hyk01⟩) hHeld ?restk01
      case hyk01 => (intro w hSw; (try dsimp only at hSw); go_simp; first | done | with_reducible rfl)
      try simp only [Act.put, List.getElem_toArray, List.getElem_cons_zero, List.getElem_cons_succ, List.setIfInBounds_toArray, List.set_cons_zero, List.set_cons_succ]
      refine wpAnyH_take (i := 2) (oi := _) (v := ?vk02) rfl (by kernel_rfl) (by kernel_rfl) (by kernel_rfl) (fun _ _ _ h => h) (Or.inl ⟨by kernel_rfl, ?hyk02⟩) hHeld ?restk02
      case hyk02 => (intro w hSw; (try dsimp only at hSw); go_simp; first | done | with_reducible rfl)
      try simp only [Act.put, List.getElem_toArray, List.getElem_cons_zero, List.getElem_cons_succ, List.setIfInBounds_toArray, List.set_cons_zero, List.set_cons_succ]
      refine wpAnyH_take (i := 3) (oi := _) (v := ?vk03) rfl (by kernel_rfl) (by kernel_rfl) (by kernel_rfl) (fun _ _ _ h => h) (Or.inl ⟨by kernel_rfl, ?hyk03⟩) hHeld ?restk03
      case hyk03 => (intro w hSw; (try dsimp only at hSw); go_simp; first | done | with_reducible rfl)
      try simp only [Act.put, List.getElem_toArray, List.getElem_cons_zero, List.getElem_cons_succ, List.setIfInBounds_toArray, List.set_cons_zero, List.set_cons_succ]
      refine wpAnyH_take (i := 4) (oi := _) (v := ?vk04) rfl (by kernel_rfl) (by kernel_rfl) (by kernel_rfl) (fun _ _ _ h => h) (Or.inl ⟨by kernel_rfl, ?hyk04⟩) hHeld ?restk04
      case hyk04 => (intro w hSw; (try dsimp only at hSw); go_simp; first | done | with_reducible rfl)
      try simp only [Act.put, List.getElem_toArray, List.getElem_cons_zero, List.getElem_cons_succ, List.setIfInBounds_toArray, List.set_cons_zero, List.set_cons_succ]
      refine wpAnyH_ready (rs := [5, 6]) (by kernel_rfl) (by simp) ?_
      refine AllReadyH.cons (o := _) rfl (fun K0 hK0 => ?_) (AllReadyH.cons (o := _) rfl (fun K0 hK0 => ?_) AllReadyH.nil)
      · skip
        go_simp
        go_at_call 81
        refine (CP.out _ ((HO.out.kept bd).rd)).mono ?_
        rintro e wn ⟨c1, d1, rfl, O1, bn⟩
        have acc := thenB bd bn
        refine hK0.out _ _ (K.out _ acc) (fun hHeld => ?_)
        clear hK0 K0
        try simp only [Act.put, List.getElem_toArray, List.getElem_cons_zero, List.getElem_cons_succ, List.setIfInBounds_toArray, List.set_cons_zero, List.set_cons_succ]
        refine wpAnyH_ready (rs := [6]) (by kernel_rfl) (by simp) ?_
        refine AllReadyH.cons (o := _) rfl (fun K0 hK0 => ?_) AllReadyH.nil
        go_simp
        refine hK0.out _ _ (K.out _ (thenB acc (belowA wn (.cells #[.int .i64 0, .int .i64 0, .slice none 0 0] 33)))) (fun hHeld => ?_)
        clear hK0 K0
        try simp only [Act.put, List.getElem_toArray, List.getElem_cons_zero, List.getElem_cons_succ, List.setIfInBounds_toArray, List.set_cons_zero, List.set_cons_succ]
        have VN : V (wn.alloc (.cells #[.int .i64 0, .int .i64 0, .slice none 0 0] 33)) wn.heap.size [.int .i64 0, .int .i64 0, .slice none 0 0] := V.new _ _ _
        have O2 := O1.kept (belowA wn (.cells #[.int .i64 0, .int .i64 0, .slice none 0 0] 33))
        have acc2 := thenB acc (belowA wn (.cells #[.int .i64 0, .int .i64 0, .slice none 0 0] 33))
        have hpre := acc.size
        have hap : ∀ b : Addr, c1 = some b → b.block ≠ wn.heap.size := fun b hb => by have := (O1.lt b hb).2; omega
        generalize wn.alloc (.cells #[.int .i64 0, .int .i64 0, .slice none 0 0] 33) = wq at *
        refine wpAnyH_ready (rs := [7]) (by kernel_rfl) (by simp) ?_
        refine AllReadyH.cons (o := _) rfl (fun K0 hK0 => ?_) AllReadyH.nil
        have hT := VN.there
        have VF := VN.filled [.int .i64 pc, .int .i64 pk, .slice c1 k d1] rfl
        have bF := belowCells acc2 hpre 0 [.int .i64 pc, .int .i64 pk, .slice c1 k d1]
        have OM := (O2.apart hap 0 [.int .i64 pc, .int .i64 pk, .slice c1 k d1]).mono (show w.heap.size + 1 ≤ _ by omega)
        refine wp_store_mid _ _ _ rfl (wn.heap.size) 0 #[.int .i64 pc, .int .i64 pk, .slice c1 k d1] rfl rfl hT (by kernel_rfl) (by kernel_rfl) ?_
        refine hK0.out _ _ (K.out _ bF) (fun hHeld => ?_)
        clear hK0 K0
        refine wpAnyH_done (by kernel_rfl) ?_ _
        go_wp2_with fail
        go_meet
        exact ⟨wn.heap.size, c1, d1, rfl, VF, HVM.out.kept bF, HO.out.kept bF, OM, thenB HB.out bF, by omega⟩
      · skip
        go_simp
        refine hK0.out _ _ (K.out _ (thenB bd (belowA wd (.cells #[.int .i64 0, .int .i64 0, .slice none 0 0] 33)))) (fun hHeld => ?_)
        clear hK0 K0
        try simp only [Act.put, List.getElem_toArray, List.getElem_cons_zero, List.getElem_cons_succ, List.setIfInBounds_toArray, List.set_cons_zero, List.set_cons_succ]
        have VN : V (wd.alloc (.cells #[.int .i64 0, .int .i64 0, .slice none 0 0] 33)) wd.heap.size [.int .i64 0, .int .i64 0, .slice none 0 0] := V.new _ _ _
        have acc := thenB bd (belowA wd (.cells #[.int .i64 0, .int .i64 0, .slice none 0 0] 33))
        have hsq : (wd.alloc (.cells #[.int .i64 0, .int .i64 0, .slice none 0 0] 33)).heap.size = wd.heap.size + 1 := by simp
        have hpre := bd.size
        generalize wd.alloc (.cells #[.int .i64 0, .int .i64 0, .slice none 0 0] 33) = wa at *
        refine wpAnyH_ready (rs := [5]) (by kernel_rfl) (by simp) ?_
        refine AllReadyH.cons (o := _) rfl (fun K0 hK0 => ?_) AllReadyH.nil
        go_simp
        go_at_call 81
        refine (CP.out _ ((HO.out.kept acc).rd)).mono ?_
        rintro e wq ⟨c1, d1, rfl, O2, bn⟩
        refine hK0.out _ _ (K.out _ (thenB acc bn)) (fun hHeld => ?_)
        clear hK0 K0
        try simp only [Act.put, List.getElem_toArray, List.getElem_cons_zero, List.getElem_cons_succ, List.setIfInBounds_toArray, List.set_cons_zero, List.set_cons_succ]
        replace VN := VN.kept bn
        have acc2 := thenB acc bn
        have hap : ∀ b : Addr, c1 = some b → b.block ≠ wd.heap.size := fun b hb => by have := (O2.lt b hb).1; omega
        refine wpAnyH_ready (rs := [7]) (by kernel_rfl) (by simp) ?_
        refine AllReadyH.cons (o := _) rfl (fun K0 hK0 => ?_) AllReadyH.nil
        have hT := VN.there
        have VF := VN.filled [.int .i64 pc, .int .i64 pk, .slice c1 k d1] rfl
        have bF := belowCells acc2 hpre 0 [.int .i64 pc, .int .i64 pk, .slice c1 k d1]
        have OM := (O2.apart hap 0 [.int .i64 pc, .int .i64 pk, .slice c1 k d1]).mono (show w.heap.size + 1 ≤ _ by omega)
        refine wp_store_mid _ _ _ rfl (wd.heap.size) 0 #[.int .i64 pc, .int .i64 pk, .slice c1 k d1] rfl rfl hT (by kernel_rfl) (by kernel_rfl) ?_
        refine hK0.out _ _ (K.out _ bF) (fun hHeld => ?_)
        clear hK0 K0
        refine wpAnyH_done (by kernel_rfl) ?_ _
        go_wp2_with fail
        go_meet
        exact ⟨wd.heap.size, c1, d1, rfl, VF, HVM.out.kept bF, HO.out.kept bF, OM, thenB HB.out bF, by omega⟩
    case rest =>
      clear VM O B K HVM HO HB VT
      obtain ⟨P, c1, d1, rfl, VR, VM, O, O1, B, hP⟩ := hcut
      have OLT := Hid.mk O1.lt
      obtain ⟨s_VM, f_VM, z_VM⟩ := VM.open
      obtain ⟨s_VR, f_VR, z_VR⟩ := VR.open
      have Bo := B
      have V9 := VM.set (i := 1) (by simp) (.int .i64 pc)
      simp only [List.set_cons_zero, List.set_cons_succ] at V9
      replace V9 := Hid.mk V9
      have G9 := Hid.mk (grownBy_trans (Below.grownBy B (some Q)) (grownSet wc ⟨Q, 1, none⟩ (.int .i64 pc)))
      have OB := Hid.mk (O.away (p := ⟨Q, 1, none⟩) (fun b hb => HN.out b hb) (.int .i64 pc))
      have HS := Hid.mk (Nat.le_trans hbs B.size)
      clear O O1 B Bo
      go_wp2
      go_ret
      exact ⟨rfl, ⟨c, d, by rw [hn]; exact V9.out, OB.out, by rw [World.size_setCell]; exact HS.out, HN.out⟩, G9.out⟩
  · simp only at h1 h2 e1 e2
    subst h1
    rw [e1, e2]
    rw [hn] at VM
    have hnc := ownTerm_nocap O
    have CP := Hid.mk (fun w h => l5Put_ok c n d xs t w h hn (by omega) hnc)
    obtain ⟨k, hk⟩ : ∃ k, (put xs t).l.length = k := ⟨_, rfl⟩
    have HK := Hid.mk hk
    rw [hk] at CP
    simp only [h2] at CP
    generalize put xs t = P at *
    obtain ⟨pc, pk, pl⟩ := P
    simp only at *
    clear e1 e2 h2 hk
    go_enter Try.func125, Try.ntmps125
    have B := Below.refl w.heap.size w
    have hQ := VM.1
    replace VM := VM.kept (belowA w (.cells #[.int .i64 t.o, .int .i64 t.a, .int .i64 t.b, .int .i64 t.n] 36))
    replace O := O.kept (belowA w (.cells #[.int .i64 t.o, .int .i64 t.a, .int .i64 t.b, .int .i64 t.n] 36))
    replace B := thenB B (belowA w (.cells #[.int .i64 t.o, .int .i64 t.a, .int .i64 t.b, .int .i64 t.n] 36))
    have VT := V.new w [.int .i64 t.o, .int .i64 t.a, .int .i64 t.b, .int .i64 t.n] 36
    obtain ⟨s_VM, f_VM, z_VM⟩ := VM.open
    obtain ⟨s_VT, f_VT, z_VT⟩ := VT.open
    have Bo := B
    clear s_VM f_VM z_VM s_VT f_VT z_VT
    have K : ∀ w' : World, Below (w.alloc (.cells #[.int .i64 t.o, .int .i64 t.a, .int .i64 t.b, .int .i64 t.n] 36)).heap.size (w.alloc (.cells #[.int .i64 t.o, .int .i64 t.a, .int .i64 t.b, .int .i64 t.n] 36)) w' → (w'.cell? ⟨Q, 0, none⟩ = some (.slice c n d) ∧ w'.cell? ⟨Q, 1, none⟩ = some (.int .i64 0) ∧ w'.cell? ⟨w.heap.size, 0, none⟩ = some (.int .i64 t.o) ∧ w'.cell? ⟨w.heap.size, 1, none⟩ = some (.int .i64 t.a) ∧ w'.cell? ⟨w.heap.size, 2, none⟩ = some (.int .i64 t.b) ∧ w'.cell? ⟨w.heap.size, 3, none⟩ = some (.int .i64 t.n)) := fun w' h => ⟨(VM.kept h).2.1 0 (by simp), (VM.kept h).2.1 1 (by simp), (VT.kept h).2.1 0 (by simp), (VT.kept h).2.1 1 (by simp), (VT.kept h).2.1 2 (by simp), (VT.kept h).2.1 3 (by simp)⟩
    have K := Hid.mk K
    have HVM := Hid.mk VM
    have HO := Hid.mk O
    have HB := Hid.mk B
    have hQ2 : Q < (w.alloc (.cells #[.int .i64 t.o, .int .i64 t.a, .int .i64 t.b, .int .i64 t.n] 36)).heap.size := VM.1
    have hz0 : w.heap.size + 1 ≤ (w.alloc (.cells #[.int .i64 t.o, .int .i64 t.a, .int .i64 t.b, .int .i64 t.n] 36)).heap.size := by simp
    obtain ⟨s_VM, f_VM, z_VM⟩ := VM.open
    obtain ⟨s_VT, f_VT, z_VT⟩ := VT.open
    go_upto_region 3 with fail
    clear s_VM f_VM z_VM s_VT f_VT z_VT
    go_cut [5] (fun p wx => ∃ (P : Nat) (c1 : Option Addr) (d1 : Nat), p = .pointer (some ⟨P, 0, none⟩) ∧ V wx P [.int .i64 0, .int .i64 pk, .slice c1 k d1] ∧ V wx Q [.slice c n d, .int .i64 0] ∧ OwnTerm wx base c d xs ∧ OwnTerm wx (w.heap.size + 1) c1 d1 pl ∧ Below w.heap.size w wx ∧ w.heap.size + 1 ≤ P)
    case first =>
      clear VM O B
      refine wp_region_held_drew (S := (fun w' => w'.cell? ⟨Q, 0, none⟩ = some (.slice c n d) ∧ w'.cell? ⟨Q, 1, none⟩ = some (.int .i64 0) ∧ w'.cell? ⟨w.heap.size, 0, none⟩ = some (.int .i64 t.o) ∧ w'.cell? ⟨w.heap.size, 1, none⟩ = some (.int .i64 t.a) ∧ w'.cell? ⟨w.heap.size, 2, none⟩ = some (.int .i64 t.b) ∧ w'.cell? ⟨w.heap.size, 3, none⟩ = some (.int .i64 t.n))) (by kernel_rfl) (K.out _ (Below.refl _ _).drew) (fun hHeld => ?_)
      have bd : Below (w.alloc (.cells #[.int .i64 t.o, .int .i64 t.a, .int .i64 t.b, .int .i64 t.n] 36)).heap.size (w.alloc (.cells #[.int .i64 t.o, .int .i64 t.a, .int .i64 t.b, .int .i64 t.n] 36)) (w.alloc (.cells #[.int .i64 t.o, .int .i64 t.a, .int .i64 t.b, .int .i64 t.n] 36)).drew := (Below.refl _ _).drew
      generalize (w.alloc (.cells #[.int .i64 t.o, .int .i64 t.a, .int .i64 t.b, .int .i64 t.n] 36)).drew = wd at *
      have hzd := bd.size
      refine wpAnyH_take (i := 0) (oi := _) (v := ?vk10) rfl (by kernel_rfl) (by kernel_rfl) (by kernel_rfl) (fun _ _ _ h => h) (Or.inl ⟨by kernel_rfl, ?hyk10⟩) hHeld ?restk10
      case hyk10 => (intro w hSw; (try dsimp only at hSw); go_simp; first | done | with_reducible rfl)
      try simp only [Act.put, List.getElem_toArray, List.getElem_cons_zero, List.setIfInBounds_toArray, List.set_cons_zero, List.set_cons_succ]
      refine wpAnyH_take (i := 1) (oi := _) (v := ?vk11) rfl (by kernel_rfl) (by kernel_rfl) (by kernel_rfl) (fun _ _ _ h => h) (Or.inl ⟨by kernel_rfl, ?hyk11⟩) hHeld ?restk11
      case hyk11 => (intro w hSw; (try dsimp only at hSw); go_simp; first | done | with_reducible rfl)
      try simp only [Act.put, List.getElem_toArray, List.getElem_cons_zero, List.getElem_cons_succ, List.setIfInBounds_toArray, List.set_cons_zero, List.set_cons_succ]
      refine wpAnyH_take (i := 2) (oi := _) (v := ?vk12) rfl (by kernel_rfl) (by kernel_rfl) (by kernel_rfl) (fun _ _ _ h => h) (Or.inl ⟨by kernel_rfl, ?hyk12⟩) hHeld ?restk12
      case hyk12 => (intro w hSw; (try dsimp only at hSw); go_simp; first | done | with_reducible rfl)
      try simp only [Act.put, List.getElem_toArray, List.getElem_cons_zero, List.getElem_cons_succ, List.setIfInBounds_toArray, List.set_cons_zero, List.set_cons_succ]
      refine wpAnyH_take (i := 3) (oi := _) (v := ?vk13) rfl (by kernel_rfl) (by kernel_rfl) (by kernel_rfl) (fun _ _ _ h => h) (Or.inl ⟨by kernel_rfl, ?hyk13⟩) hHeld ?restk13
      case hyk13 => (intro w hSw; (try dsimp only at hSw); go_simp; first | done | with_reducible rfl)
      try simp only [Act.put, List.getElem_toArray, List.getElem_cons_zero, List.getElem_cons_succ, List.setIfInBounds_toArray, List.set_cons_zero, List.set_cons_succ]
      refine wpAnyH_take (i := 4) (oi := _) (v := ?vk14) rfl (by kernel_rfl) (by kernel_rfl) (by kernel_rfl) (fun _ _ _ h => h) (Or.inl ⟨by kernel_rfl, ?hyk14⟩) hHeld ?restk14
      case hyk14 => (intro w hSw; (try dsimp only at hSw); go_simp; first | done | with_reducible rfl)
      try simp only [Act.put, List.getElem_toArray, List.getElem_cons_zero, List.getElem_cons_succ, List.setIfInBounds_toArray, List.set_cons_zero, List.set_cons_succ]
      refine wpAnyH_ready (rs := [5, 6]) (by kernel_rfl) (by simp) ?_
      refine AllReadyH.cons (o := _) rfl (fun K0 hK0 => ?_) (AllReadyH.cons (o := _) rfl (fun K0 hK0 => ?_) AllReadyH.nil)
      · skip
        go_simp
        go_at_call 81
        refine (CP.out _ ((HO.out.kept bd).rd)).mono ?_
        rintro e wn ⟨c1, d1, rfl, O1, bn⟩
        have acc := thenB bd bn
        refine hK0.out _ _ (K.out _ acc) (fun hHeld => ?_)
        clear hK0 K0
        try simp only [Act.put, List.getElem_toArray, List.getElem_cons_zero, List.getElem_cons_succ, List.setIfInBounds_toArray, List.set_cons_zero, List.set_cons_succ]
        refine wpAnyH_ready (rs := [6]) (by kernel_rfl) (by simp) ?_
        refine AllReadyH.cons (o := _) rfl (fun K0 hK0 => ?_) AllReadyH.nil
        go_simp
        refine hK0.out _ _ (K.out _ (thenB acc (belowA wn (.cells #[.int .i64 0, .int .i64 0, .slice none 0 0] 33)))) (fun hHeld => ?_)
        clear hK0 K0
        try simp only [Act.put, List.getElem_toArray, List.getElem_cons_zero, List.getElem_cons_succ, List.setIfInBounds_toArray, List.set_cons_zero, List.set_cons_succ]
        have VN : V (wn.alloc (.cells #[.int .i64 0, .int .i64 0, .slice none 0 0] 33)) wn.heap.size [.int .i64 0, .int .i64 0, .slice none 0 0] := V.new _ _ _
        have O2 := O1.kept (belowA wn (.cells #[.int .i64 0, .int .i64 0, .slice none 0 0] 33))
        have acc2 := thenB acc (belowA wn (.cells #[.int .i64 0, .int .i64 0, .slice none 0 0] 33))
        have hpre := acc.size
        have hap : ∀ b : Addr, c1 = some b → b.block ≠ wn.heap.size := fun b hb => by have := (O1.lt b hb).2; omega
        generalize wn.alloc (.cells #[.int .i64 0, .int .i64 0, .slice none 0 0] 33) = wq at *
        refine wpAnyH_ready (rs := [7]) (by kernel_rfl) (by simp) ?_
        refine AllReadyH.cons (o := _) rfl (fun K0 hK0 => ?_) AllReadyH.nil
        have hT := VN.there
        have VF := VN.filled [.int .i64 0, .int .i64 pk, .slice c1 k d1] rfl
        have bF := belowCells acc2 hpre 0 [.int .i64 0, .int .i64 pk, .slice c1 k d1]
        have OM := (O2.apart hap 0 [.int .i64 0, .int .i64 pk, .slice c1 k d1]).mono (show w.heap.size + 1 ≤ _ by omega)
        refine wp_store_mid _ _ _ rfl (wn.heap.size) 0 #[.int .i64 0, .int .i64 pk, .slice c1 k d1] rfl rfl hT (by kernel_rfl) (by kernel_rfl) ?_
        refine hK0.out _ _ (K.out _ bF) (fun hHeld => ?_)
        clear hK0 K0
        refine wpAnyH_done (by kernel_rfl) ?_ _
        go_wp2_with fail
        go_meet
        exact ⟨wn.heap.size, c1, d1, rfl, VF, HVM.out.kept bF, HO.out.kept bF, OM, thenB HB.out bF, by omega⟩
      · skip
        go_simp
        refine hK0.out _ _ (K.out _ (thenB bd (belowA wd (.cells #[.int .i64 0, .int .i64 0, .slice none 0 0] 33)))) (fun hHeld => ?_)
        clear hK0 K0
        try simp only [Act.put, List.getElem_toArray, List.getElem_cons_zero, List.getElem_cons_succ, List.setIfInBounds_toArray, List.set_cons_zero, List.set_cons_succ]
        have VN : V (wd.alloc (.cells #[.int .i64 0, .int .i64 0, .slice none 0 0] 33)) wd.heap.size [.int .i64 0, .int .i64 0, .slice none 0 0] := V.new _ _ _
        have acc := thenB bd (belowA wd (.cells #[.int .i64 0, .int .i64 0, .slice none 0 0] 33))
        have hsq : (wd.alloc (.cells #[.int .i64 0, .int .i64 0, .slice none 0 0] 33)).heap.size = wd.heap.size + 1 := by simp
        have hpre := bd.size
        generalize wd.alloc (.cells #[.int .i64 0, .int .i64 0, .slice none 0 0] 33) = wa at *
        refine wpAnyH_ready (rs := [5]) (by kernel_rfl) (by simp) ?_
        refine AllReadyH.cons (o := _) rfl (fun K0 hK0 => ?_) AllReadyH.nil
        go_simp
        go_at_call 81
        refine (CP.out _ ((HO.out.kept acc).rd)).mono ?_
        rintro e wq ⟨c1, d1, rfl, O2, bn⟩
        refine hK0.out _ _ (K.out _ (thenB acc bn)) (fun hHeld => ?_)
        clear hK0 K0
        try simp only [Act.put, List.getElem_toArray, List.getElem_cons_zero, List.getElem_cons_succ, List.setIfInBounds_toArray, List.set_cons_zero, List.set_cons_succ]
        replace VN := VN.kept bn
        have acc2 := thenB acc bn
        have hap : ∀ b : Addr, c1 = some b → b.block ≠ wd.heap.size := fun b hb => by have := (O2.lt b hb).1; omega
        refine wpAnyH_ready (rs := [7]) (by kernel_rfl) (by simp) ?_
        refine AllReadyH.cons (o := _) rfl (fun K0 hK0 => ?_) AllReadyH.nil
        have hT := VN.there
        have VF := VN.filled [.int .i64 0, .int .i64 pk, .slice c1 k d1] rfl
        have bF := belowCells acc2 hpre 0 [.int .i64 0, .int .i64 pk, .slice c1 k d1]
        have OM := (O2.apart hap 0 [.int .i64 0, .int .i64 pk, .slice c1 k d1]).mono (show w.heap.size + 1 ≤ _ by omega)
        refine wp_store_mid _ _ _ rfl (wd.heap.size) 0 #[.int .i64 0, .int .i64 pk, .slice c1 k d1] rfl rfl hT (by kernel_rfl) (by kernel_rfl) ?_
        refine hK0.out _ _ (K.out _ bF) (fun hHeld => ?_)
        clear hK0 K0
        refine wpAnyH_done (by kernel_rfl) ?_ _
        go_wp2_with fail
        go_meet
        exact ⟨wd.heap.size, c1, d1, rfl, VF, HVM.out.kept bF, HO.out.kept bF, OM, thenB HB.out bF, by omega⟩
    case rest =>
      clear VM O B K HVM HO HB VT
      obtain ⟨P, c1, d1, rfl, VR, VM, O, O1, B, hP⟩ := hcut
      have OLT := Hid.mk O1.lt
      obtain ⟨s_VM, f_VM, z_VM⟩ := VM.open
      obtain ⟨s_VR, f_VR, z_VR⟩ := VR.open
      have Bo := B
      have V9 := VM.set (i := 0) (by simp) (.slice c1 k d1)
      simp only [List.set_cons_zero] at V9
      replace V9 := Hid.mk V9
      have G9 := Hid.mk (grownBy_trans (Below.grownBy B (some Q)) (grownSet wc ⟨Q, 0, none⟩ (.slice c1 k d1)))
      have hS := B.size
      have OB := Hid.mk ((O1.away (p := ⟨Q, 0, none⟩) (fun b hb => by have := (OLT.out b hb).1; simp only; omega) (.slice c1 k d1)).mono (show base ≤ w.heap.size + 1 by omega))
      have NQ : Hid (∀ b, c1 = some b → b.block ≠ Q) := Hid.mk (fun b hb => by have := (OLT.out b hb).1; omega)
      have HS := Hid.mk (Nat.le_trans hbs B.size)
      clear O O1 B Bo
      go_wp2
      go_ret
      exact ⟨rfl, ⟨c1, d1, by rw [HK.out]; exact V9.out, OB.out, by rw [World.size_setCell]; exact HS.out, NQ.out⟩, G9.out⟩

set_option maxHeartbeats 1000000 in
theorem l9Two_ok (base Q : Nat) (m : Mk) (o a b : Int) (w : World) (h : MkB w base Q m) (hm : m.l.length ≤ 400) :
    Calls Try.prog 109 #[.pointer (some ⟨Q, 0, none⟩), .int .i64 o, .int .i64 a, .int .i64 b] w fun e w' => e = .returned (.int .i64 (mk2 m o a b).2) ∧ MkB w' base Q (mk2 m o a b).1 ∧ w.grownBy w' (some Q) := by
  have CP := Hid.mk (fun w h => l9Put_ok base Q m ⟨o, a, b, 0⟩ w h hm)
  have q := build_oab o a b
  go_enter Try.func109, Try.ntmps109
  go_wp2_with fail
  refine (CP.out _ h).mono ?_
  rintro e w1 ⟨rfl, M1, G1⟩
  go_wp2
  go_ret
  exact ⟨rfl, M1, G1⟩

set_option maxHeartbeats 1000000 in
theorem l9Name_ok (base Q : Nat) (m : Mk) (n : Int) (w : World) (h : MkB w base Q m) (hm : m.l.length ≤ 400) :
    Calls Try.prog 117 #[.pointer (some ⟨Q, 0, none⟩), .int .i64 n] w fun e w' => e = .returned (.int .i64 (mkAt m ⟨1, 0, 0, n⟩)) ∧ MkB w' base Q (mkPut m ⟨1, 0, 0, n⟩) ∧ w.grownBy w' (some Q) := by
  have CP := Hid.mk (fun w h => l9Put_ok base Q m ⟨1, 0, 0, n⟩ w h hm)
  have q := build_nm n
  go_enter Try.func117, Try.ntmps117
  go_wp2_with fail
  refine (CP.out _ h).mono ?_
  rintro e w1 ⟨rfl, M1, G1⟩
  go_wp2
  go_ret
  exact ⟨rfl, M1, G1⟩

end Go.Proofs.Ythkmoabkeblbjaa
