/- Put together: KyG, KyH. -/
import Derived.Test.YthkmoabkeblbjaaMa

/- The model's keys: l9Keys. -/
namespace Go.Proofs.Ythkmoabkeblbjaa
open Go.RowKit

/-- What a block's cells are of. -/
def Ty (w : World) (B : Nat) (e : TypeId) : Prop := ∃ cs, w.heap[B]? = some (.cells cs e (0, 0))

theorem Ty.new (w : World) (cs : Array Value) (e : TypeId) : Ty (w.alloc (.cells cs e)) w.heap.size e := ⟨cs, by show (w.heap.push _)[w.heap.size]? = _; simp⟩

theorem Ty.kept {w w' : World} {B : Nat} {e : TypeId} (h : Ty w B e) (hB : B < w.heap.size) (hb : Below w.heap.size w w') : Ty w' B e := by
  obtain ⟨cs, h⟩ := h
  exact ⟨cs, (hb.block B hB).trans h⟩

theorem Ty.grown {w w' : World} {B Q : Nat} {e : TypeId} (h : Ty w B e) (hB : B < w.heap.size) (hg : w.grownBy w' (some Q)) (hne : Q ≠ B) : Ty w' B e := by
  obtain ⟨cs, h⟩ := h
  exact ⟨cs, (hg.block B hB (fun e => hne (by simpa using e.symm))).trans h⟩

theorem Ty.set {w : World} {B i : Nat} {e : TypeId} (h : Ty w B e) (v : Value) : Ty (w.setCell ⟨B, i, none⟩ v) B e := by
  obtain ⟨cs, h⟩ := h
  refine ⟨cs.set! i v, ?_⟩
  have hl : B < w.heap.size := (Array.getElem?_eq_some_iff.1 h).1
  simp [World.setCell, Array.getElem?_modify, h]

theorem MkB.other {w : World} {base Q : Nat} {m : Mk} {p : Addr} (h : MkB w base Q m) (hp : p.block ≠ Q) {e : TypeId} (hT : Ty w p.block e) (he : e ≠ 36) (v : Value) : MkB (w.setCell p v) base Q m := by
  obtain ⟨c, d, V1, O, h1, h2⟩ := h
  refine ⟨c, d, V1.other hp v, O.away (fun b hb e9 => ?_) v, by rw [World.size_setCell]; exact h1, h2⟩
  rcases O.2 with ⟨kv, _⟩ | ⟨g2, cap2, cur2, kv, _, h3, _⟩
  · simp only [Value.slice.injEq] at kv
    rw [hb] at kv
    simp at kv
  · simp only [Value.slice.injEq] at kv
    rw [hb] at kv
    have k1 := kv.1
    simp only [Option.some.injEq] at k1
    rw [k1] at e9
    simp only at e9
    obtain ⟨cs, h4⟩ := hT
    rw [← e9, h3] at h4
    simp only [Option.some.injEq, Obj.cells.injEq] at h4
    exact he h4.2.1.symm

theorem mkPut_pre (m : Mk) (t : T4) : ∃ ys, (mkPut m t).l = m.l ++ ys := by
  rcases mk_ways m t with ⟨_, e, _⟩ | ⟨_, _, e, _⟩ | ⟨_, h, e, _⟩
  · exact ⟨[], by rw [e]; simp⟩
  · exact ⟨[], by rw [e]; simp⟩
  · rw [e]
    rcases put_ways m.l t with ⟨h1, e1⟩ | ⟨_, _, e1⟩ | ⟨_, _, _, e1⟩ | ⟨_, _, _, e1⟩
    · rw [e1] at h; exact absurd h h1
    · exact ⟨[], by rw [e1]; simp⟩
    · rw [e1] at h; cases h
    · exact ⟨[t], by rw [e1]⟩

theorem mkPut_at {m : Mk} (t : T4) {k : Nat} (hk : k < m.l.length) : k < (mkPut m t).l.length ∧ (mkPut m t).l.getD k zTerm = m.l.getD k zTerm := by
  obtain ⟨ys, h⟩ := mkPut_pre m t
  rw [h]
  exact ⟨by rw [List.length_append]; omega, by simp [List.getD, List.getElem?_append_left hk]⟩

/-- The seed. -/
def kyP (m : Mk) (ni nr own other : Int) : Mk × Int := mk2 (mk2 (mk2 m 3 ni nr).1 7 (min own other) (max own other)).1 4 (mk2 m 3 ni nr).2 (mk2 (mk2 m 3 ni nr).1 7 (min own other) (max own other)).2

/-- A key that comes of it. -/
def kyW (m : Mk) (k seed si sr : Int) : Mk × Int := mk2 (mkW m [k, si, sr]).1 4 seed (mkW m [k, si, sr]).2

/-- The keys. -/
structure K4 where
  s : Int
  d : Int
  o : Int
  b : Int

def kyR (m : Mk) (ni nr own other si sr : Int) : Mk × K4 :=
  let p := kyP m ni nr own other
  let d := kyW p.1 1 p.2 si sr
  let o := kyW d.1 2 p.2 si sr
  let b := kyW o.1 3 p.2 si sr
  (b.1, ⟨p.2, d.2, o.2, b.2⟩)

theorem grownN' {w w1 w2 : World} {Q : Nat} (h : w.grownBy w1 (some Q)) (b : Below w1.heap.size w1 w2) : w.grownBy w2 (some Q) := grownBy_trans h (Below.grownBy b (some Q))

theorem grownCells9 {w w' : World} {row : Option Nat} (h : w.grownBy w' row) {b : Nat} (hb : w.heap.size ≤ b) (o : Nat) (vs : List Value) : w.grownBy (w'.setCells b o vs) row := by
  induction vs generalizing w' o with
  | nil => exact h
  | cons v vs ih => exact ih (grownSet' h (p := ⟨b, o, none⟩) hb v) (o + 1)

theorem MkB.cells {w : World} {base Q B : Nat} {m : Mk} (h : MkB w base Q m) (hp : B ≠ Q) {e : TypeId} (hT : Ty w B e) (he : e ≠ 36) (vs : List Value) (o : Nat := 0) : MkB (w.setCells B o vs) base Q m := by
  induction vs generalizing w o with
  | nil => exact h
  | cons v vs ih => exact ih (w := w.setCell ⟨B, o, none⟩ v) (h.other (p := ⟨B, o, none⟩) hp hT he v) (hT.set v) (o + 1)

set_option maxRecDepth 20000 in
set_option maxHeartbeats 8000000 in
theorem l9Keys_ok (base Q : Nat) (m : Mk) (ni nr own : Int) (hf : Nat) (si sr other : Int) (w : World) (h : MkB w base Q m) (hm : m.l.length ≤ 400) (hh : hf < m.l.length) (ho : (m.l.getD hf zTerm).a = other) :
    Calls Try.prog 77 #[.pointer (some ⟨Q, 0, none⟩), .int .i64 ni, .int .i64 nr, .int .i64 own, .int .i64 hf, .int .i64 si, .int .i64 sr] w fun e w' => e = .returned (.agg #[.int .i64 (kyR m ni nr own other si sr).2.s, .int .i64 (kyR m ni nr own other si sr).2.d, .int .i64 (kyR m ni nr own other si sr).2.o, .int .i64 (kyR m ni nr own other si sr).2.b]) ∧ MkB w' base Q (kyR m ni nr own other si sr).1 ∧ w.grownBy w' (some Q) := by
  obtain ⟨P1, e1⟩ : ∃ P, mk2 m 3 ni nr = P := ⟨_, rfl⟩
  have hm1 : P1.1.l.length ≤ 400 := by rw [← e1]; exact mk2_len hm _ _ _
  obtain ⟨m1, v1⟩ := P1
  simp only at hm1
  have C1 := Hid.mk (fun w h => l9Two_ok base Q m 3 ni nr w h hm)
  simp only [e1] at C1
  obtain ⟨P2, e2⟩ : ∃ P, mk2 m1 7 (min own other) (max own other) = P := ⟨_, rfl⟩
  have hm2 : P2.1.l.length ≤ 400 := by rw [← e2]; exact mk2_len hm1 _ _ _
  obtain ⟨m2, v2⟩ := P2
  simp only at hm2
  have C2 := Hid.mk (fun w h => l9Two_ok base Q m1 7 (min own other) (max own other) w h hm1)
  simp only [e2] at C2
  obtain ⟨P3, e3⟩ : ∃ P, mk2 m2 4 v1 v2 = P := ⟨_, rfl⟩
  have hm3 : P3.1.l.length ≤ 400 := by rw [← e3]; exact mk2_len hm2 _ _ _
  obtain ⟨m3, v3⟩ := P3
  simp only at hm3
  have C3 := Hid.mk (fun w h => l9Two_ok base Q m2 4 v1 v2 w h hm2)
  simp only [e3] at C3
  obtain ⟨P5, e5⟩ : ∃ P, mkW m3 [1, si, sr] = P := ⟨_, rfl⟩
  have hm5 : P5.1.l.length ≤ 400 := by rw [← e5]; exact mkW_len hm3 _
  obtain ⟨m5, v5⟩ := P5
  simp only at hm5
  have C5 := Hid.mk (fun c w h hz hQ => l9Names_ok base Q m3 c 3 3 [1, si, sr] w h hm3 hz rfl (by omega) (by omega) hQ)
  simp only [e5] at C5
  obtain ⟨P6, e6⟩ : ∃ P, mk2 m5 4 v3 v5 = P := ⟨_, rfl⟩
  have hm6 : P6.1.l.length ≤ 400 := by rw [← e6]; exact mk2_len hm5 _ _ _
  obtain ⟨m6, v6⟩ := P6
  simp only at hm6
  have C6 := Hid.mk (fun w h => l9Two_ok base Q m5 4 v3 v5 w h hm5)
  simp only [e6] at C6
  obtain ⟨P8, e8⟩ : ∃ P, mkW m6 [2, si, sr] = P := ⟨_, rfl⟩
  have hm8 : P8.1.l.length ≤ 400 := by rw [← e8]; exact mkW_len hm6 _
  obtain ⟨m8, v8⟩ := P8
  simp only at hm8
  have C8 := Hid.mk (fun c w h hz hQ => l9Names_ok base Q m6 c 3 3 [2, si, sr] w h hm6 hz rfl (by omega) (by omega) hQ)
  simp only [e8] at C8
  obtain ⟨P9, e9⟩ : ∃ P, mk2 m8 4 v3 v8 = P := ⟨_, rfl⟩
  have hm9 : P9.1.l.length ≤ 400 := by rw [← e9]; exact mk2_len hm8 _ _ _
  obtain ⟨m9, v9⟩ := P9
  simp only at hm9
  have C9 := Hid.mk (fun w h => l9Two_ok base Q m8 4 v3 v8 w h hm8)
  simp only [e9] at C9
  obtain ⟨P11, e11⟩ : ∃ P, mkW m9 [3, si, sr] = P := ⟨_, rfl⟩
  have hm11 : P11.1.l.length ≤ 400 := by rw [← e11]; exact mkW_len hm9 _
  obtain ⟨m11, v11⟩ := P11
  simp only at hm11
  have C11 := Hid.mk (fun c w h hz hQ => l9Names_ok base Q m9 c 3 3 [3, si, sr] w h hm9 hz rfl (by omega) (by omega) hQ)
  simp only [e11] at C11
  obtain ⟨P12, e12⟩ : ∃ P, mk2 m11 4 v3 v11 = P := ⟨_, rfl⟩
  have hm12 : P12.1.l.length ≤ 400 := by rw [← e12]; exact mk2_len hm11 _ _ _
  obtain ⟨m12, v12⟩ := P12
  simp only at hm12
  have C12 := Hid.mk (fun w h => l9Two_ok base Q m11 4 v3 v11 w h hm11)
  simp only [e12] at C12
  have E : kyR m ni nr own other si sr = (m12, ⟨v3, v6, v9, v12⟩) := by simp only [kyR, kyP, kyW, e1, e2, e3, e5, e6, e8, e9, e11, e12]
  rw [E]
  have hat := mkPut_at (m := m) ⟨3, ni, nr, 0⟩ hh
  have hm1' : (mkPut m ⟨3, ni, nr, 0⟩) = m1 := congrArg Prod.fst e1
  rw [hm1'] at hat
  have hat2 : (m1.l.getD hf zTerm).a = other := by rw [hat.2]; exact ho
  have hat1 := hat.1
  have CMn := Hid.mk (l1Min_ok own other)
  have CMx := Hid.mk (l1Max_ok own other)
  clear E e1 e2 e3 e5 e6 e8 e9 e11 e12 hat hm1' ho
  go_enter Try.func77, Try.ntmps77
  have hQw := MkB.lt h
  have VR := V.new w [.int .i64 0, .int .i64 0, .int .i64 0, .int .i64 0] 28
  have TR := Ty.new w #[.int .i64 0, .int .i64 0, .int .i64 0, .int .i64 0] 28
  have M := h.kept (belowA w (.cells #[.int .i64 0, .int .i64 0, .int .i64 0, .int .i64 0] 28))
  have G := grown_alloc (World.grownBy.refl w (some Q)) (.cells #[.int .i64 0, .int .i64 0, .int .i64 0, .int .i64 0] 28)
  have hRQ : w.heap.size ≠ Q := by omega
  clear h
  go_wp2_with fail
  refine (C1.out _ M).mono ?_
  rintro e w1 ⟨rfl, M1, G1⟩
  replace TR := TR.grown VR.1 G1 (by omega)
  replace VR := VR.grownB G1 hRQ
  replace G := grownBy_trans G G1
  clear M G1
  have M := M1
  clear M1
  have M' := Hid.mk M
  obtain ⟨c, d, VQ, O1, hbs, hne⟩ := M
  obtain ⟨s_VQ, f_VQ, z_VQ⟩ := VQ.open
  obtain ⟨x0, hx0⟩ : ∃ x, m1.l.getD hf zTerm = x := ⟨_, rfl⟩
  have hl0 : ∃ n, m1.l.length = n := ⟨_, rfl⟩
  obtain ⟨n1, hn1⟩ := hl0
  rw [hx0] at hat2
  rcases O1.rd with h9 | ⟨b1, o1, e1, hca⟩
  · rw [h9] at hat1; simp at hat1
  subst e1
  obtain ⟨p0, p1, p2, p3⟩ := RdTerm.cells hca hf hat1 x0 hx0
  rw [hat2] at p1
  rw [hn1] at hat1 f_VQ
  have hfi : (hf : Int) < (n1 : Int) := by omega
  clear hca hx0 hat2 O1 hne hbs hn1 VQ
  go_wp2_with fail
  refine (CMn.out _).mono ?_
  rintro e wq ⟨rfl, rfl⟩
  go_wp2_with fail
  refine (CMx.out _).mono ?_
  rintro e wq ⟨rfl, rfl⟩
  have M := M'.out
  clear M' s_VQ f_VQ z_VQ p0 p1 p2 p3
  go_wp2_with fail
  refine (C2.out _ M).mono ?_
  rintro e w2 ⟨rfl, M2, G2⟩
  replace TR := TR.grown VR.1 G2 (by omega)
  replace VR := VR.grownB G2 hRQ
  replace G := grownBy_trans G G2
  clear M G2
  have M := M2
  clear M2
  go_wp2_with fail
  refine (C3.out _ M).mono ?_
  rintro e w3 ⟨rfl, M3, G3⟩
  replace TR := TR.grown VR.1 G3 (by omega)
  replace VR := VR.grownB G3 hRQ
  replace G := grownBy_trans G G3
  clear M G3
  have M := M3
  clear M3
  have hz3 : w.heap.size < w3.heap.size := VR.1
  have VK := V.new w3 [.int .i64 v3, .int .i64 0, .int .i64 0, .int .i64 0] 28
  have TK := Ty.new w3 #[.int .i64 v3, .int .i64 0, .int .i64 0, .int .i64 0] 28
  have bk := belowA w3 (.cells #[.int .i64 v3, .int .i64 0, .int .i64 0, .int .i64 0] 28)
  replace TR := TR.kept VR.1 bk
  replace VR := VR.kept bk
  replace M := M.kept bk
  replace G := grown_alloc G (.cells #[.int .i64 v3, .int .i64 0, .int .i64 0, .int .i64 0] 28)
  clear bk
  have hKQ : w3.heap.size ≠ Q := by omega
  obtain ⟨s_VK, f_VK, z_VK⟩ := VK.open
  go_upto_region 5 with fail
  clear s_VK f_VK z_VK
  generalize w3.alloc (.cells #[.int .i64 v3, .int .i64 0, .int .i64 0, .int .i64 0] 28) = wk at *
  generalize w3.heap.size = Kb at *
  have bd : Below wk.heap.size wk wk.drew := (Below.refl _ _).drew
  refine wp_region_held_drew (S := (fun w' => w'.cell? ⟨Kb, 0, none⟩ = some (.int .i64 v3))) (by kernel_rfl) ((VK.kept bd).2.1 0 (by simp)) (fun hHeld => ?_)
  replace TR := TR.kept VR.1 bd
  replace TK := TK.kept VK.1 bd
  replace VR := VR.kept bd
  replace VK := VK.kept bd
  replace M := M.kept bd
  replace G := grownN' G bd
  clear bd
  generalize wk.drew = wd0 at *
  refine wpAnyH_take (i := 0) (oi := _) (v := ?vky00) rfl (by kernel_rfl) (by kernel_rfl) (by kernel_rfl) (fun _ _ _ h => h) (Or.inl ⟨by kernel_rfl, ?hyky00⟩) hHeld ?restky00
  case hyky00 => (intro w hSw; (try dsimp only at hSw); go_simp; first | done | with_reducible rfl)
  try simp only [Act.put, List.getElem_toArray, List.getElem_cons_zero, List.setIfInBounds_toArray, List.set_cons_zero, List.set_cons_succ]
  refine wpAnyH_take (i := 3) (oi := _) (v := ?vky03) rfl (by kernel_rfl) (by kernel_rfl) (by kernel_rfl) (fun _ _ _ h => h) (Or.inl ⟨by kernel_rfl, ?hyky03⟩) hHeld ?restky03
  case hyky03 => (intro w hSw; (try dsimp only at hSw); go_simp; first | done | with_reducible rfl)
  try simp only [Act.put, List.getElem_toArray, List.getElem_cons_zero, List.getElem_cons_succ, List.setIfInBounds_toArray, List.set_cons_zero, List.set_cons_succ]
  refine wpAnyH_take (i := 4) (oi := _) (v := ?vky04) rfl (by kernel_rfl) (by kernel_rfl) (by kernel_rfl) (fun _ _ _ h => h) (Or.inl ⟨by kernel_rfl, ?hyky04⟩) hHeld ?restky04
  case hyky04 => (intro w hSw; (try dsimp only at hSw); go_simp; first | done | with_reducible rfl)
  try simp only [Act.put, List.getElem_toArray, List.getElem_cons_zero, List.getElem_cons_succ, List.setIfInBounds_toArray, List.set_cons_zero, List.set_cons_succ]
  refine wpAnyH_take (i := 5) (oi := _) (v := ?vky05) rfl (by kernel_rfl) (by kernel_rfl) (by kernel_rfl) (fun _ _ _ h => h) (Or.inl ⟨by kernel_rfl, ?hyky05⟩) hHeld ?restky05
  case hyky05 => (intro w hSw; (try dsimp only at hSw); go_simp; first | done | with_reducible rfl)
  try simp only [Act.put, List.getElem_toArray, List.getElem_cons_zero, List.getElem_cons_succ, List.setIfInBounds_toArray, List.set_cons_zero, List.set_cons_succ]
  refine wpAnyH_take (i := 1) (oi := _) (v := ?vky01) rfl (by kernel_rfl) (by kernel_rfl) (by kernel_rfl) (fun _ _ _ h => h) (Or.inl ⟨by kernel_rfl, ?hyky01⟩) hHeld ?restky01
  case hyky01 => (intro w hSw; (try dsimp only at hSw); go_simp; first | done | with_reducible rfl)
  try simp only [Act.put, List.getElem_toArray, List.getElem_cons_zero, List.getElem_cons_succ, List.setIfInBounds_toArray, List.set_cons_zero, List.set_cons_succ]
  refine wpAnyH_take (i := 2) (oi := _) (v := ?vky02) rfl (by kernel_rfl) (by kernel_rfl) (by kernel_rfl) (fun _ _ _ h => h) (Or.inl ⟨by kernel_rfl, ?hyky02⟩) hHeld ?restky02
  case hyky02 => (intro w hSw; (try dsimp only at hSw); go_simp; first | done | with_reducible rfl)
  try simp only [Act.put, List.getElem_toArray, List.getElem_cons_zero, List.getElem_cons_succ, List.setIfInBounds_toArray, List.set_cons_zero, List.set_cons_succ]
  refine wpAnyH_ready (rs := [6]) (by kernel_rfl) (by simp) ?_
  refine AllReadyH.cons (o := _) rfl (fun K0 hK0 => ?_) AllReadyH.nil
  go_simp
  have hq0 := MkB.lt M
  have RL := Rd.litI wd0 [1, si, sr]
  have bl := belowA wd0 (.cells #[.int .i64 1, .int .i64 si, .int .i64 sr] 2)
  have NL := Hid.mk (ne_lit hq0)
  refine hK0.out _ _ ((VK.kept bl).2.1 0 (by simp)) (fun hHeld => ?_)
  clear hK0 K0
  try simp only [Act.put, List.getElem_toArray, List.getElem_cons_zero, List.getElem_cons_succ, List.setIfInBounds_toArray, List.set_cons_zero, List.set_cons_succ]
  replace TR := TR.kept VR.1 bl
  replace TK := TK.kept VK.1 bl
  replace VR := VR.kept bl
  replace VK := VK.kept bl
  replace M := M.kept bl
  replace G := grownN' G bl
  clear bl
  refine wpAnyH_ready (rs := [7]) (by kernel_rfl) (by simp) ?_
  refine AllReadyH.cons (o := _) rfl (fun K0 hK0 => ?_) AllReadyH.nil
  go_simp
  go_at_call 104
  refine (C5.out _ _ M RL NL.out).mono ?_
  rintro e w5 ⟨rfl, M5, G5⟩
  replace TK := TK.grown VK.1 G5 (by omega)
  replace VK := VK.grownB G5 hKQ
  replace TR := TR.grown VR.1 G5 (by omega)
  replace VR := VR.grownB G5 hRQ
  replace G := grownBy_trans G G5
  clear M RL NL G5
  have M := M5
  clear M5
  refine hK0.out _ _ (VK.2.1 0 (by simp)) (fun hHeld => ?_)
  clear hK0 K0
  try simp only [Act.put, List.getElem_toArray, List.getElem_cons_zero, List.getElem_cons_succ, List.setIfInBounds_toArray, List.set_cons_zero, List.set_cons_succ]
  refine wpAnyH_ready (rs := [8]) (by kernel_rfl) (by simp) ?_
  refine AllReadyH.cons (o := _) rfl (fun K0 hK0 => ?_) AllReadyH.nil
  go_simp
  go_at_call 109
  refine (C6.out _ M).mono ?_
  rintro e w6 ⟨rfl, M6, G6⟩
  replace TK := TK.grown VK.1 G6 (by omega)
  replace VK := VK.grownB G6 hKQ
  replace TR := TR.grown VR.1 G6 (by omega)
  replace VR := VR.grownB G6 hRQ
  replace G := grownBy_trans G G6
  clear M G6
  have M := M6
  clear M6
  refine hK0.out _ _ (VK.2.1 0 (by simp)) (fun hHeld => ?_)
  clear hK0 K0
  try simp only [Act.put, List.getElem_toArray, List.getElem_cons_zero, List.getElem_cons_succ, List.setIfInBounds_toArray, List.set_cons_zero, List.set_cons_succ]
  refine wpAnyH_take (i := 9) (oi := _) (v := ?vky09) rfl (by kernel_rfl) (by kernel_rfl) (by kernel_rfl) (fun _ _ _ h => h) (Or.inl ⟨by kernel_rfl, ?hyky09⟩) hHeld ?restky09
  case hyky09 => (intro w hSw; (try dsimp only at hSw); go_simp; first | done | with_reducible rfl)
  try simp only [Act.put, List.getElem_toArray, List.getElem_cons_zero, List.getElem_cons_succ, List.setIfInBounds_toArray, List.set_cons_zero, List.set_cons_succ]
  refine wpAnyH_ready (rs := [10]) (by kernel_rfl) (by simp) ?_
  refine AllReadyH.cons (o := _) rfl (fun K0 hK0 => ?_) AllReadyH.nil
  obtain ⟨s_VK, f_VK, z_VK⟩ := VK.open
  go_simp
  clear s_VK f_VK z_VK
  have VK2 := VK.set (i := 1) (by simp) (.int .i64 v6)
  simp only [List.set_cons_zero, List.set_cons_succ] at VK2
  refine hK0.out _ _ (VK2.2.1 0 (by simp)) (fun hHeld => ?_)
  clear hK0 K0
  have TK2 := TK.set (i := 1) (.int .i64 v6)
  have VR2 := VR.other (p := ⟨Kb, 1, none⟩) (by simp only; omega) (.int .i64 v6)
  have M2 := M.other (p := ⟨Kb, 1, none⟩) hKQ TK (by decide) (.int .i64 v6)
  have G2 := grownSet' G (p := ⟨Kb, 1, none⟩) (by simp only; omega) (.int .i64 v6)
  have TR2 : Ty (w6.setCell ⟨Kb, 1, none⟩ (.int .i64 v6)) w.heap.size 28 := by obtain ⟨cs, h9⟩ := TR; exact ⟨cs, (Below.heap_setCell _ _ _ _ (by simp only; omega)).trans h9⟩
  clear TK VK VR M G TR
  have TK := TK2
  have VK := VK2
  have VR := VR2
  have M := M2
  have G := G2
  have TR := TR2
  clear TK2 VK2 VR2 M2 G2 TR2
  refine wpAnyH_done (by kernel_rfl) ?_ _
  generalize w6.setCell ⟨Kb, 1, none⟩ (.int .i64 v6) = wk0 at *
  obtain ⟨s_VK, f_VK, z_VK⟩ := VK.open
  go_upto_region 6 with fail
  clear s_VK f_VK z_VK
  have bd : Below wk0.heap.size wk0 wk0.drew := (Below.refl _ _).drew
  refine wp_region_held_drew (S := (fun w' => w'.cell? ⟨Kb, 0, none⟩ = some (.int .i64 v3))) (by kernel_rfl) ((VK.kept bd).2.1 0 (by simp)) (fun hHeld => ?_)
  replace TR := TR.kept VR.1 bd
  replace TK := TK.kept VK.1 bd
  replace VR := VR.kept bd
  replace VK := VK.kept bd
  replace M := M.kept bd
  replace G := grownN' G bd
  clear bd
  generalize wk0.drew = wd1 at *
  refine wpAnyH_take (i := 0) (oi := _) (v := ?vky10) rfl (by kernel_rfl) (by kernel_rfl) (by kernel_rfl) (fun _ _ _ h => h) (Or.inl ⟨by kernel_rfl, ?hyky10⟩) hHeld ?restky10
  case hyky10 => (intro w hSw; (try dsimp only at hSw); go_simp; first | done | with_reducible rfl)
  try simp only [Act.put, List.getElem_toArray, List.getElem_cons_zero, List.setIfInBounds_toArray, List.set_cons_zero, List.set_cons_succ]
  refine wpAnyH_take (i := 3) (oi := _) (v := ?vky13) rfl (by kernel_rfl) (by kernel_rfl) (by kernel_rfl) (fun _ _ _ h => h) (Or.inl ⟨by kernel_rfl, ?hyky13⟩) hHeld ?restky13
  case hyky13 => (intro w hSw; (try dsimp only at hSw); go_simp; first | done | with_reducible rfl)
  try simp only [Act.put, List.getElem_toArray, List.getElem_cons_zero, List.getElem_cons_succ, List.setIfInBounds_toArray, List.set_cons_zero, List.set_cons_succ]
  refine wpAnyH_take (i := 4) (oi := _) (v := ?vky14) rfl (by kernel_rfl) (by kernel_rfl) (by kernel_rfl) (fun _ _ _ h => h) (Or.inl ⟨by kernel_rfl, ?hyky14⟩) hHeld ?restky14
  case hyky14 => (intro w hSw; (try dsimp only at hSw); go_simp; first | done | with_reducible rfl)
  try simp only [Act.put, List.getElem_toArray, List.getElem_cons_zero, List.getElem_cons_succ, List.setIfInBounds_toArray, List.set_cons_zero, List.set_cons_succ]
  refine wpAnyH_take (i := 5) (oi := _) (v := ?vky15) rfl (by kernel_rfl) (by kernel_rfl) (by kernel_rfl) (fun _ _ _ h => h) (Or.inl ⟨by kernel_rfl, ?hyky15⟩) hHeld ?restky15
  case hyky15 => (intro w hSw; (try dsimp only at hSw); go_simp; first | done | with_reducible rfl)
  try simp only [Act.put, List.getElem_toArray, List.getElem_cons_zero, List.getElem_cons_succ, List.setIfInBounds_toArray, List.set_cons_zero, List.set_cons_succ]
  refine wpAnyH_take (i := 1) (oi := _) (v := ?vky11) rfl (by kernel_rfl) (by kernel_rfl) (by kernel_rfl) (fun _ _ _ h => h) (Or.inl ⟨by kernel_rfl, ?hyky11⟩) hHeld ?restky11
  case hyky11 => (intro w hSw; (try dsimp only at hSw); go_simp; first | done | with_reducible rfl)
  try simp only [Act.put, List.getElem_toArray, List.getElem_cons_zero, List.getElem_cons_succ, List.setIfInBounds_toArray, List.set_cons_zero, List.set_cons_succ]
  refine wpAnyH_take (i := 2) (oi := _) (v := ?vky12) rfl (by kernel_rfl) (by kernel_rfl) (by kernel_rfl) (fun _ _ _ h => h) (Or.inl ⟨by kernel_rfl, ?hyky12⟩) hHeld ?restky12
  case hyky12 => (intro w hSw; (try dsimp only at hSw); go_simp; first | done | with_reducible rfl)
  try simp only [Act.put, List.getElem_toArray, List.getElem_cons_zero, List.getElem_cons_succ, List.setIfInBounds_toArray, List.set_cons_zero, List.set_cons_succ]
  refine wpAnyH_ready (rs := [6]) (by kernel_rfl) (by simp) ?_
  refine AllReadyH.cons (o := _) rfl (fun K0 hK0 => ?_) AllReadyH.nil
  go_simp
  have hq1 := MkB.lt M
  have RL := Rd.litI wd1 [2, si, sr]
  have bl := belowA wd1 (.cells #[.int .i64 2, .int .i64 si, .int .i64 sr] 2)
  have NL := Hid.mk (ne_lit hq1)
  refine hK0.out _ _ ((VK.kept bl).2.1 0 (by simp)) (fun hHeld => ?_)
  clear hK0 K0
  try simp only [Act.put, List.getElem_toArray, List.getElem_cons_zero, List.getElem_cons_succ, List.setIfInBounds_toArray, List.set_cons_zero, List.set_cons_succ]
  replace TR := TR.kept VR.1 bl
  replace TK := TK.kept VK.1 bl
  replace VR := VR.kept bl
  replace VK := VK.kept bl
  replace M := M.kept bl
  replace G := grownN' G bl
  clear bl
  refine wpAnyH_ready (rs := [7]) (by kernel_rfl) (by simp) ?_
  refine AllReadyH.cons (o := _) rfl (fun K0 hK0 => ?_) AllReadyH.nil
  go_simp
  go_at_call 104
  refine (C8.out _ _ M RL NL.out).mono ?_
  rintro e w8 ⟨rfl, M8, G8⟩
  replace TK := TK.grown VK.1 G8 (by omega)
  replace VK := VK.grownB G8 hKQ
  replace TR := TR.grown VR.1 G8 (by omega)
  replace VR := VR.grownB G8 hRQ
  replace G := grownBy_trans G G8
  clear M RL NL G8
  have M := M8
  clear M8
  refine hK0.out _ _ (VK.2.1 0 (by simp)) (fun hHeld => ?_)
  clear hK0 K0
  try simp only [Act.put, List.getElem_toArray, List.getElem_cons_zero, List.getElem_cons_succ, List.setIfInBounds_toArray, List.set_cons_zero, List.set_cons_succ]
  refine wpAnyH_ready (rs := [8]) (by kernel_rfl) (by simp) ?_
  refine AllReadyH.cons (o := _) rfl (fun K0 hK0 => ?_) AllReadyH.nil
  go_simp
  go_at_call 109
  refine (C9.out _ M).mono ?_
  rintro e w9 ⟨rfl, M9, G9⟩
  replace TK := TK.grown VK.1 G9 (by omega)
  replace VK := VK.grownB G9 hKQ
  replace TR := TR.grown VR.1 G9 (by omega)
  replace VR := VR.grownB G9 hRQ
  replace G := grownBy_trans G G9
  clear M G9
  have M := M9
  clear M9
  refine hK0.out _ _ (VK.2.1 0 (by simp)) (fun hHeld => ?_)
  clear hK0 K0
  try simp only [Act.put, List.getElem_toArray, List.getElem_cons_zero, List.getElem_cons_succ, List.setIfInBounds_toArray, List.set_cons_zero, List.set_cons_succ]
  refine wpAnyH_take (i := 9) (oi := _) (v := ?vky19) rfl (by kernel_rfl) (by kernel_rfl) (by kernel_rfl) (fun _ _ _ h => h) (Or.inl ⟨by kernel_rfl, ?hyky19⟩) hHeld ?restky19
  case hyky19 => (intro w hSw; (try dsimp only at hSw); go_simp; first | done | with_reducible rfl)
  try simp only [Act.put, List.getElem_toArray, List.getElem_cons_zero, List.getElem_cons_succ, List.setIfInBounds_toArray, List.set_cons_zero, List.set_cons_succ]
  refine wpAnyH_ready (rs := [10]) (by kernel_rfl) (by simp) ?_
  refine AllReadyH.cons (o := _) rfl (fun K0 hK0 => ?_) AllReadyH.nil
  obtain ⟨s_VK, f_VK, z_VK⟩ := VK.open
  go_simp
  clear s_VK f_VK z_VK
  have VK2 := VK.set (i := 2) (by simp) (.int .i64 v9)
  simp only [List.set_cons_zero, List.set_cons_succ] at VK2
  refine hK0.out _ _ (VK2.2.1 0 (by simp)) (fun hHeld => ?_)
  clear hK0 K0
  have TK2 := TK.set (i := 2) (.int .i64 v9)
  have VR2 := VR.other (p := ⟨Kb, 2, none⟩) (by simp only; omega) (.int .i64 v9)
  have M2 := M.other (p := ⟨Kb, 2, none⟩) hKQ TK (by decide) (.int .i64 v9)
  have G2 := grownSet' G (p := ⟨Kb, 2, none⟩) (by simp only; omega) (.int .i64 v9)
  have TR2 : Ty (w9.setCell ⟨Kb, 2, none⟩ (.int .i64 v9)) w.heap.size 28 := by obtain ⟨cs, h9⟩ := TR; exact ⟨cs, (Below.heap_setCell _ _ _ _ (by simp only; omega)).trans h9⟩
  clear TK VK VR M G TR
  have TK := TK2
  have VK := VK2
  have VR := VR2
  have M := M2
  have G := G2
  have TR := TR2
  clear TK2 VK2 VR2 M2 G2 TR2
  refine wpAnyH_done (by kernel_rfl) ?_ _
  generalize w9.setCell ⟨Kb, 2, none⟩ (.int .i64 v9) = wk1 at *
  obtain ⟨s_VK, f_VK, z_VK⟩ := VK.open
  go_upto_region 7 with fail
  clear s_VK f_VK z_VK
  have bd : Below wk1.heap.size wk1 wk1.drew := (Below.refl _ _).drew
  refine wp_region_held_drew (S := (fun w' => w'.cell? ⟨Kb, 0, none⟩ = some (.int .i64 v3))) (by kernel_rfl) ((VK.kept bd).2.1 0 (by simp)) (fun hHeld => ?_)
  replace TR := TR.kept VR.1 bd
  replace TK := TK.kept VK.1 bd
  replace VR := VR.kept bd
  replace VK := VK.kept bd
  replace M := M.kept bd
  replace G := grownN' G bd
  clear bd
  generalize wk1.drew = wd2 at *
  refine wpAnyH_take (i := 0) (oi := _) (v := ?vky20) rfl (by kernel_rfl) (by kernel_rfl) (by kernel_rfl) (fun _ _ _ h => h) (Or.inl ⟨by kernel_rfl, ?hyky20⟩) hHeld ?restky20
  case hyky20 => (intro w hSw; (try dsimp only at hSw); go_simp; first | done | with_reducible rfl)
  try simp only [Act.put, List.getElem_toArray, List.getElem_cons_zero, List.setIfInBounds_toArray, List.set_cons_zero, List.set_cons_succ]
  refine wpAnyH_take (i := 3) (oi := _) (v := ?vky23) rfl (by kernel_rfl) (by kernel_rfl) (by kernel_rfl) (fun _ _ _ h => h) (Or.inl ⟨by kernel_rfl, ?hyky23⟩) hHeld ?restky23
  case hyky23 => (intro w hSw; (try dsimp only at hSw); go_simp; first | done | with_reducible rfl)
  try simp only [Act.put, List.getElem_toArray, List.getElem_cons_zero, List.getElem_cons_succ, List.setIfInBounds_toArray, List.set_cons_zero, List.set_cons_succ]
  refine wpAnyH_take (i := 4) (oi := _) (v := ?vky24) rfl (by kernel_rfl) (by kernel_rfl) (by kernel_rfl) (fun _ _ _ h => h) (Or.inl ⟨by kernel_rfl, ?hyky24⟩) hHeld ?restky24
  case hyky24 => (intro w hSw; (try dsimp only at hSw); go_simp; first | done | with_reducible rfl)
  try simp only [Act.put, List.getElem_toArray, List.getElem_cons_zero, List.getElem_cons_succ, List.setIfInBounds_toArray, List.set_cons_zero, List.set_cons_succ]
  refine wpAnyH_take (i := 5) (oi := _) (v := ?vky25) rfl (by kernel_rfl) (by kernel_rfl) (by kernel_rfl) (fun _ _ _ h => h) (Or.inl ⟨by kernel_rfl, ?hyky25⟩) hHeld ?restky25
  case hyky25 => (intro w hSw; (try dsimp only at hSw); go_simp; first | done | with_reducible rfl)
  try simp only [Act.put, List.getElem_toArray, List.getElem_cons_zero, List.getElem_cons_succ, List.setIfInBounds_toArray, List.set_cons_zero, List.set_cons_succ]
  refine wpAnyH_take (i := 1) (oi := _) (v := ?vky21) rfl (by kernel_rfl) (by kernel_rfl) (by kernel_rfl) (fun _ _ _ h => h) (Or.inl ⟨by kernel_rfl, ?hyky21⟩) hHeld ?restky21
  case hyky21 => (intro w hSw; (try dsimp only at hSw); go_simp; first | done | with_reducible rfl)
  try simp only [Act.put, List.getElem_toArray, List.getElem_cons_zero, List.getElem_cons_succ, List.setIfInBounds_toArray, List.set_cons_zero, List.set_cons_succ]
  refine wpAnyH_take (i := 2) (oi := _) (v := ?vky22) rfl (by kernel_rfl) (by kernel_rfl) (by kernel_rfl) (fun _ _ _ h => h) (Or.inl ⟨by kernel_rfl, ?hyky22⟩) hHeld ?restky22
  case hyky22 => (intro w hSw; (try dsimp only at hSw); go_simp; first | done | with_reducible rfl)
  try simp only [Act.put, List.getElem_toArray, List.getElem_cons_zero, List.getElem_cons_succ, List.setIfInBounds_toArray, List.set_cons_zero, List.set_cons_succ]
  refine wpAnyH_ready (rs := [6]) (by kernel_rfl) (by simp) ?_
  refine AllReadyH.cons (o := _) rfl (fun K0 hK0 => ?_) AllReadyH.nil
  go_simp
  have hq2 := MkB.lt M
  have RL := Rd.litI wd2 [3, si, sr]
  have bl := belowA wd2 (.cells #[.int .i64 3, .int .i64 si, .int .i64 sr] 2)
  have NL := Hid.mk (ne_lit hq2)
  refine hK0.out _ _ ((VK.kept bl).2.1 0 (by simp)) (fun hHeld => ?_)
  clear hK0 K0
  try simp only [Act.put, List.getElem_toArray, List.getElem_cons_zero, List.getElem_cons_succ, List.setIfInBounds_toArray, List.set_cons_zero, List.set_cons_succ]
  replace TR := TR.kept VR.1 bl
  replace TK := TK.kept VK.1 bl
  replace VR := VR.kept bl
  replace VK := VK.kept bl
  replace M := M.kept bl
  replace G := grownN' G bl
  clear bl
  refine wpAnyH_ready (rs := [7]) (by kernel_rfl) (by simp) ?_
  refine AllReadyH.cons (o := _) rfl (fun K0 hK0 => ?_) AllReadyH.nil
  go_simp
  go_at_call 104
  refine (C11.out _ _ M RL NL.out).mono ?_
  rintro e w11 ⟨rfl, M11, G11⟩
  replace TK := TK.grown VK.1 G11 (by omega)
  replace VK := VK.grownB G11 hKQ
  replace TR := TR.grown VR.1 G11 (by omega)
  replace VR := VR.grownB G11 hRQ
  replace G := grownBy_trans G G11
  clear M RL NL G11
  have M := M11
  clear M11
  refine hK0.out _ _ (VK.2.1 0 (by simp)) (fun hHeld => ?_)
  clear hK0 K0
  try simp only [Act.put, List.getElem_toArray, List.getElem_cons_zero, List.getElem_cons_succ, List.setIfInBounds_toArray, List.set_cons_zero, List.set_cons_succ]
  refine wpAnyH_ready (rs := [8]) (by kernel_rfl) (by simp) ?_
  refine AllReadyH.cons (o := _) rfl (fun K0 hK0 => ?_) AllReadyH.nil
  go_simp
  go_at_call 109
  refine (C12.out _ M).mono ?_
  rintro e w12 ⟨rfl, M12, G12⟩
  replace TK := TK.grown VK.1 G12 (by omega)
  replace VK := VK.grownB G12 hKQ
  replace TR := TR.grown VR.1 G12 (by omega)
  replace VR := VR.grownB G12 hRQ
  replace G := grownBy_trans G G12
  clear M G12
  have M := M12
  clear M12
  refine hK0.out _ _ (VK.2.1 0 (by simp)) (fun hHeld => ?_)
  clear hK0 K0
  try simp only [Act.put, List.getElem_toArray, List.getElem_cons_zero, List.getElem_cons_succ, List.setIfInBounds_toArray, List.set_cons_zero, List.set_cons_succ]
  refine wpAnyH_take (i := 9) (oi := _) (v := ?vky29) rfl (by kernel_rfl) (by kernel_rfl) (by kernel_rfl) (fun _ _ _ h => h) (Or.inl ⟨by kernel_rfl, ?hyky29⟩) hHeld ?restky29
  case hyky29 => (intro w hSw; (try dsimp only at hSw); go_simp; first | done | with_reducible rfl)
  try simp only [Act.put, List.getElem_toArray, List.getElem_cons_zero, List.getElem_cons_succ, List.setIfInBounds_toArray, List.set_cons_zero, List.set_cons_succ]
  refine wpAnyH_ready (rs := [10]) (by kernel_rfl) (by simp) ?_
  refine AllReadyH.cons (o := _) rfl (fun K0 hK0 => ?_) AllReadyH.nil
  obtain ⟨s_VK, f_VK, z_VK⟩ := VK.open
  go_simp
  clear s_VK f_VK z_VK
  have VK2 := VK.set (i := 3) (by simp) (.int .i64 v12)
  simp only [List.set_cons_zero, List.set_cons_succ] at VK2
  refine hK0.out _ _ (VK2.2.1 0 (by simp)) (fun hHeld => ?_)
  clear hK0 K0
  have TK2 := TK.set (i := 3) (.int .i64 v12)
  have VR2 := VR.other (p := ⟨Kb, 3, none⟩) (by simp only; omega) (.int .i64 v12)
  have M2 := M.other (p := ⟨Kb, 3, none⟩) hKQ TK (by decide) (.int .i64 v12)
  have G2 := grownSet' G (p := ⟨Kb, 3, none⟩) (by simp only; omega) (.int .i64 v12)
  have TR2 : Ty (w12.setCell ⟨Kb, 3, none⟩ (.int .i64 v12)) w.heap.size 28 := by obtain ⟨cs, h9⟩ := TR; exact ⟨cs, (Below.heap_setCell _ _ _ _ (by simp only; omega)).trans h9⟩
  clear TK VK VR M G TR
  have TK := TK2
  have VK := VK2
  have VR := VR2
  have M := M2
  have G := G2
  have TR := TR2
  clear TK2 VK2 VR2 M2 G2 TR2
  refine wpAnyH_done (by kernel_rfl) ?_ _
  generalize w12.setCell ⟨Kb, 3, none⟩ (.int .i64 v12) = wk2 at *
  have VF := Hid.mk (VR.filled [.int .i64 v3, .int .i64 v6, .int .i64 v9, .int .i64 v12] rfl)
  have HT := Hid.mk VR.there
  have MF := Hid.mk (MkB.cells M hRQ TR (by decide) [.int .i64 v3, .int .i64 v6, .int .i64 v9, .int .i64 v12])
  have GF := Hid.mk (grownCells9 G (Nat.le_refl w.heap.size) 0 [.int .i64 v3, .int .i64 v6, .int .i64 v9, .int .i64 v12])
  obtain ⟨s_VK, f_VK, z_VK⟩ := VK.open
  clear M G VR TR TK
  go_wp2_with (refine wpList_store_mid rfl 28 _ _ rfl (w.heap.size) 0 #[.int .i64 v3, .int .i64 v6, .int .i64 v9, .int .i64 v12] rfl rfl HT.out (by kernel_rfl) (by kernel_rfl) ?_)
  refine bodyPost_ret (v := .agg #[.int .i64 v3, .int .i64 v6, .int .i64 v9, .int .i64 v12]) (results_row Try.results77 _ _ (w.heap.size) [.int .i64 v3, .int .i64 v6, .int .i64 v9, .int .i64 v12] _ rfl VF.out Try.underlying28 rfl (by kernel_rfl)) rfl ⟨rfl, MF.out, GF.out⟩

end Go.Proofs.Ythkmoabkeblbjaa

/- MakeKeys of the model. -/
namespace Go.Proofs.Ythkmoabkeblbjaa
open Go.RowKit

/-- What comes of keys: the code, the keys, the table. -/
structure KRes where
  c : Int
  k : K4
  l : List T4

@[irreducible] def mkR (xs : List T4) (ni nr own half si sr : Int) : KRes :=
  if aqC xs [ni, nr, own, half] = 0 then (if (btw si 0 9999 && btw sr 0 9999) = true then (if (tmAt xs own).o = 2 ∧ (tmAt xs half).o = 6 then (if (kyR ⟨xs, 0⟩ ni nr own (tmAt xs half).a si sr).1.c = 0 then ⟨0, (kyR ⟨xs, 0⟩ ni nr own (tmAt xs half).a si sr).2, (kyR ⟨xs, 0⟩ ni nr own (tmAt xs half).a si sr).1.l⟩ else ⟨(kyR ⟨xs, 0⟩ ni nr own (tmAt xs half).a si sr).1.c, ⟨0, 0, 0, 0⟩, []⟩) else ⟨1, ⟨0, 0, 0, 0⟩, []⟩) else ⟨3, ⟨0, 0, 0, 0⟩, []⟩) else ⟨aqC xs [ni, nr, own, half], ⟨0, 0, 0, 0⟩, []⟩

theorem mk_ways6 (xs : List T4) (ni nr own half si sr : Int) : (aqC xs [ni, nr, own, half] ≠ 0 ∧ mkR xs ni nr own half si sr = ⟨aqC xs [ni, nr, own, half], ⟨0, 0, 0, 0⟩, []⟩) ∨ (aqC xs [ni, nr, own, half] = 0 ∧ btw si 0 9999 = false ∧ mkR xs ni nr own half si sr = ⟨3, ⟨0, 0, 0, 0⟩, []⟩) ∨ (aqC xs [ni, nr, own, half] = 0 ∧ btw si 0 9999 = true ∧ btw sr 0 9999 = false ∧ mkR xs ni nr own half si sr = ⟨3, ⟨0, 0, 0, 0⟩, []⟩) ∨
    (aqC xs [ni, nr, own, half] = 0 ∧ btw si 0 9999 = true ∧ btw sr 0 9999 = true ∧ (tmAt xs own).o ≠ 2 ∧ mkR xs ni nr own half si sr = ⟨1, ⟨0, 0, 0, 0⟩, []⟩) ∨
    (aqC xs [ni, nr, own, half] = 0 ∧ btw si 0 9999 = true ∧ btw sr 0 9999 = true ∧ (tmAt xs own).o = 2 ∧ (tmAt xs half).o ≠ 6 ∧ mkR xs ni nr own half si sr = ⟨1, ⟨0, 0, 0, 0⟩, []⟩) ∨
    (aqC xs [ni, nr, own, half] = 0 ∧ btw si 0 9999 = true ∧ btw sr 0 9999 = true ∧ (tmAt xs own).o = 2 ∧ (tmAt xs half).o = 6 ∧ (kyR ⟨xs, 0⟩ ni nr own (tmAt xs half).a si sr).1.c ≠ 0 ∧ mkR xs ni nr own half si sr = ⟨(kyR ⟨xs, 0⟩ ni nr own (tmAt xs half).a si sr).1.c, ⟨0, 0, 0, 0⟩, []⟩) ∨
    (aqC xs [ni, nr, own, half] = 0 ∧ btw si 0 9999 = true ∧ btw sr 0 9999 = true ∧ (tmAt xs own).o = 2 ∧ (tmAt xs half).o = 6 ∧ (kyR ⟨xs, 0⟩ ni nr own (tmAt xs half).a si sr).1.c = 0 ∧ mkR xs ni nr own half si sr = ⟨0, (kyR ⟨xs, 0⟩ ni nr own (tmAt xs half).a si sr).2, (kyR ⟨xs, 0⟩ ni nr own (tmAt xs half).a si sr).1.l⟩) := by
  unfold mkR
  by_cases h1 : aqC xs [ni, nr, own, half] = 0
  · cases h2 : btw si 0 9999
    · exact .inr (.inl ⟨h1, rfl, by simp [h1]⟩)
    · cases h4 : btw sr 0 9999
      · exact .inr (.inr (.inl ⟨h1, rfl, rfl, by simp [h1]⟩))
      · by_cases h5 : (tmAt xs own).o = 2
        · by_cases h6 : (tmAt xs half).o = 6
          · by_cases h3 : (kyR ⟨xs, 0⟩ ni nr own (tmAt xs half).a si sr).1.c = 0
            · exact .inr (.inr (.inr (.inr (.inr (.inr ⟨h1, rfl, rfl, h5, h6, h3, by simp [h1, h3, h5, h6]⟩)))))
            · exact .inr (.inr (.inr (.inr (.inr (.inl ⟨h1, rfl, rfl, h5, h6, h3, by simp [h1, h3, h5, h6]⟩)))))
          · exact .inr (.inr (.inr (.inr (.inl ⟨h1, rfl, rfl, h5, h6, by simp [h1, h5, h6]⟩))))
        · exact .inr (.inr (.inr (.inl ⟨h1, rfl, rfl, h5, by simp [h1, h5]⟩)))
  · exact .inl ⟨h1, by simp [h1]⟩

theorem aq_places {xs : List T4} {ps : List Int} (h : aqC xs ps = 0) : ∀ z ∈ ps, 0 ≤ z ∧ z < xs.length := by
  rcases aq_ways xs ps with ⟨h1, h2⟩ | ⟨_, _, h2⟩ | ⟨_, h1, _⟩
  · rw [h2] at h; exact absurd h h1
  · rw [h2] at h; cases h
  · intro z hz
    have h3 := List.all_eq_true.1 h1 z hz
    rw [btw_iff] at h3
    omega

set_option maxRecDepth 20000 in
set_option maxHeartbeats 8000000 in
theorem specMakeKeys_ok (a : Option Addr) (n ca : Nat) (xs : List T4) (ni nr own half si sr : Int) (w : World) (ha : RdTerm w a xs) (hn : xs.length = n) (hx : n ≤ 1048576) (hca : n ≤ ca) (hcn : a = none → ca = 0) :
    Calls Try.prog 16 #[.slice a n ca, .int .i64 ni, .int .i64 nr, .int .i64 own, .int .i64 half, .int .i64 si, .int .i64 sr] w fun e w' => ∃ c d, e = .returned (.agg #[.int .i64 (mkR xs ni nr own half si sr).c, .int .i64 (mkR xs ni nr own half si sr).k.s, .int .i64 (mkR xs ni nr own half si sr).k.d, .int .i64 (mkR xs ni nr own half si sr).k.o, .int .i64 (mkR xs ni nr own half si sr).k.b, .slice c (mkR xs ni nr own half si sr).l.length d]) ∧ OwnTerm w' w.heap.size c d (mkR xs ni nr own half si sr).l ∧ Below w.heap.size w w' := by
  have CA := Hid.mk (fun b w h hp => l9Asked_ok a n ca xs b 4 4 [ni, nr, own, half] w h hp hn rfl (by unfold maxLen; omega) hca (by omega))
  have CW1 := Hid.mk (l9Word_ok si)
  have CW2 := Hid.mk (l9Word_ok sr)
  have CC := Hid.mk (fun (h4 : tfC xs = 0) w h => l5Copy_ok a n ca xs w h hn (by have := (tfC_zero h4).1; omega) hcn)
  rcases mk_ways6 xs ni nr own half si sr with ⟨h1, e⟩ | ⟨h1, h2, e⟩ | ⟨h1, h2, h4, e⟩ | ⟨h1, h2, h4, h5, e⟩ | ⟨h1, h2, h4, h5, h6, e⟩ | ⟨h1, h2, h4, h5, h6, h3, e⟩ | ⟨h1, h2, h4, h5, h6, h3, e⟩
  · have hne : (aqC xs [ni, nr, own, half] != 0) = true := by simpa using h1
    rw [e]
    generalize aqC xs [ni, nr, own, half] = kc at *
    clear e h1
    go_enter Try.func16, Try.ntmps16
    have B := Below.refl w.heap.size w
    replace ha := ha.kept (belowA w (.cells #[.int .i64 0, .int .i64 0, .int .i64 0, .int .i64 0, .int .i64 0, .slice none 0 0] 30))
    replace B := thenB B (belowA w (.cells #[.int .i64 0, .int .i64 0, .int .i64 0, .int .i64 0, .int .i64 0, .slice none 0 0] 30))
    have VR := V.new w [.int .i64 0, .int .i64 0, .int .i64 0, .int .i64 0, .int .i64 0, .slice none 0 0] 30
    obtain ⟨s_VR, f_VR, z_VR⟩ := VR.open
    have Bo := B
    have RP := Rd.litI (w.alloc (.cells #[.int .i64 0, .int .i64 0, .int .i64 0, .int .i64 0, .int .i64 0, .slice none 0 0] 30)) [ni, nr, own, half]
    simp only [World.size_alloc] at RP
    have VRa := VR.kept (belowA (w.alloc (.cells #[.int .i64 0, .int .i64 0, .int .i64 0, .int .i64 0, .int .i64 0, .slice none 0 0] 30)) (.cells #[.int .i64 ni, .int .i64 nr, .int .i64 own, .int .i64 half] 2))
    have Ba := thenB B (belowA (w.alloc (.cells #[.int .i64 0, .int .i64 0, .int .i64 0, .int .i64 0, .int .i64 0, .slice none 0 0] 30)) (.cells #[.int .i64 ni, .int .i64 nr, .int .i64 own, .int .i64 half] 2))
    have haa := ha.kept (belowA (w.alloc (.cells #[.int .i64 0, .int .i64 0, .int .i64 0, .int .i64 0, .int .i64 0, .slice none 0 0] 30)) (.cells #[.int .i64 ni, .int .i64 nr, .int .i64 own, .int .i64 half] 2))
    go_wp2_with fail
    refine (CA.out _ _ haa RP).mono ?_
    rintro e9 w1 ⟨rfl, b1⟩
    have S1 := b1.size
    simp only [World.size_alloc] at S1
    replace VR := VRa.kept b1
    replace ha := haa.kept b1
    replace B := thenB Ba b1
    clear RP VRa Ba haa b1
    clear s_VR f_VR z_VR
    obtain ⟨s_VR, f_VR, z_VR⟩ := VR.open
    have Bo := B
    clear s_VR f_VR z_VR
    have VF := Hid.mk (VR.filled [.int .i64 kc, .int .i64 0, .int .i64 0, .int .i64 0, .int .i64 0, .slice none 0 0] rfl)
    have BR := belowCells B (show w.heap.size ≤ w.heap.size by (first | omega | (simp; done) | (simp; omega))) 0 [.int .i64 kc, .int .i64 0, .int .i64 0, .int .i64 0, .int .i64 0, .slice none 0 0]
    have HT := Hid.mk VR.there
    replace BR := Hid.mk BR
    obtain ⟨s_VR, f_VR, z_VR⟩ := VR.open
    go_wp2_with (refine wpList_store_mid rfl 30 _ _ rfl (w.heap.size) 0 #[.int .i64 kc, .int .i64 0, .int .i64 0, .int .i64 0, .int .i64 0, .slice none 0 0] rfl rfl HT.out (by kernel_rfl) (by kernel_rfl) ?_)
    refine bodyPost_ret (v := .agg #[.int .i64 kc, .int .i64 0, .int .i64 0, .int .i64 0, .int .i64 0, .slice none 0 0]) (results_row Try.results16 _ _ (w.heap.size) [.int .i64 kc, .int .i64 0, .int .i64 0, .int .i64 0, .int .i64 0, .slice none 0 0] _ rfl VF.out Try.underlying30 rfl (by kernel_rfl)) rfl ⟨none, 0, rfl, OwnTerm.none, BR.out⟩
  · rw [e]
    rw [h1] at CA
    simp only [h2] at CW1
    skip
    clear e h1 h2
    go_enter Try.func16, Try.ntmps16
    have B := Below.refl w.heap.size w
    replace ha := ha.kept (belowA w (.cells #[.int .i64 0, .int .i64 0, .int .i64 0, .int .i64 0, .int .i64 0, .slice none 0 0] 30))
    replace B := thenB B (belowA w (.cells #[.int .i64 0, .int .i64 0, .int .i64 0, .int .i64 0, .int .i64 0, .slice none 0 0] 30))
    have VR := V.new w [.int .i64 0, .int .i64 0, .int .i64 0, .int .i64 0, .int .i64 0, .slice none 0 0] 30
    obtain ⟨s_VR, f_VR, z_VR⟩ := VR.open
    have Bo := B
    have RP := Rd.litI (w.alloc (.cells #[.int .i64 0, .int .i64 0, .int .i64 0, .int .i64 0, .int .i64 0, .slice none 0 0] 30)) [ni, nr, own, half]
    simp only [World.size_alloc] at RP
    have VRa := VR.kept (belowA (w.alloc (.cells #[.int .i64 0, .int .i64 0, .int .i64 0, .int .i64 0, .int .i64 0, .slice none 0 0] 30)) (.cells #[.int .i64 ni, .int .i64 nr, .int .i64 own, .int .i64 half] 2))
    have Ba := thenB B (belowA (w.alloc (.cells #[.int .i64 0, .int .i64 0, .int .i64 0, .int .i64 0, .int .i64 0, .slice none 0 0] 30)) (.cells #[.int .i64 ni, .int .i64 nr, .int .i64 own, .int .i64 half] 2))
    have haa := ha.kept (belowA (w.alloc (.cells #[.int .i64 0, .int .i64 0, .int .i64 0, .int .i64 0, .int .i64 0, .slice none 0 0] 30)) (.cells #[.int .i64 ni, .int .i64 nr, .int .i64 own, .int .i64 half] 2))
    go_wp2_with fail
    refine (CA.out _ _ haa RP).mono ?_
    rintro e9 w1 ⟨rfl, b1⟩
    have S1 := b1.size
    simp only [World.size_alloc] at S1
    replace VR := VRa.kept b1
    replace ha := haa.kept b1
    replace B := thenB Ba b1
    clear RP VRa Ba haa b1
    clear s_VR f_VR z_VR
    obtain ⟨s_VR, f_VR, z_VR⟩ := VR.open
    have Bo := B
    go_wp2_with fail
    refine (CW1.out _).mono ?_
    rintro e9 wq ⟨rfl, rfl⟩
    clear s_VR f_VR z_VR
    have VF := Hid.mk (VR.filled [.int .i64 3, .int .i64 0, .int .i64 0, .int .i64 0, .int .i64 0, .slice none 0 0] rfl)
    have BR := belowCells B (show w.heap.size ≤ w.heap.size by (first | omega | (simp; done) | (simp; omega))) 0 [.int .i64 3, .int .i64 0, .int .i64 0, .int .i64 0, .int .i64 0, .slice none 0 0]
    have HT := Hid.mk VR.there
    replace BR := Hid.mk BR
    obtain ⟨s_VR, f_VR, z_VR⟩ := VR.open
    go_wp2_with (refine wpList_store_mid rfl 30 _ _ rfl (w.heap.size) 0 #[.int .i64 3, .int .i64 0, .int .i64 0, .int .i64 0, .int .i64 0, .slice none 0 0] rfl rfl HT.out (by kernel_rfl) (by kernel_rfl) ?_)
    refine bodyPost_ret (v := .agg #[.int .i64 3, .int .i64 0, .int .i64 0, .int .i64 0, .int .i64 0, .slice none 0 0]) (results_row Try.results16 _ _ (w.heap.size) [.int .i64 3, .int .i64 0, .int .i64 0, .int .i64 0, .int .i64 0, .slice none 0 0] _ rfl VF.out Try.underlying30 rfl (by kernel_rfl)) rfl ⟨none, 0, rfl, OwnTerm.none, BR.out⟩
  · rw [e]
    rw [h1] at CA
    simp only [h2] at CW1
    simp only [h4] at CW2
    clear e h1 h2 h4
    go_enter Try.func16, Try.ntmps16
    have B := Below.refl w.heap.size w
    replace ha := ha.kept (belowA w (.cells #[.int .i64 0, .int .i64 0, .int .i64 0, .int .i64 0, .int .i64 0, .slice none 0 0] 30))
    replace B := thenB B (belowA w (.cells #[.int .i64 0, .int .i64 0, .int .i64 0, .int .i64 0, .int .i64 0, .slice none 0 0] 30))
    have VR := V.new w [.int .i64 0, .int .i64 0, .int .i64 0, .int .i64 0, .int .i64 0, .slice none 0 0] 30
    obtain ⟨s_VR, f_VR, z_VR⟩ := VR.open
    have Bo := B
    have RP := Rd.litI (w.alloc (.cells #[.int .i64 0, .int .i64 0, .int .i64 0, .int .i64 0, .int .i64 0, .slice none 0 0] 30)) [ni, nr, own, half]
    simp only [World.size_alloc] at RP
    have VRa := VR.kept (belowA (w.alloc (.cells #[.int .i64 0, .int .i64 0, .int .i64 0, .int .i64 0, .int .i64 0, .slice none 0 0] 30)) (.cells #[.int .i64 ni, .int .i64 nr, .int .i64 own, .int .i64 half] 2))
    have Ba := thenB B (belowA (w.alloc (.cells #[.int .i64 0, .int .i64 0, .int .i64 0, .int .i64 0, .int .i64 0, .slice none 0 0] 30)) (.cells #[.int .i64 ni, .int .i64 nr, .int .i64 own, .int .i64 half] 2))
    have haa := ha.kept (belowA (w.alloc (.cells #[.int .i64 0, .int .i64 0, .int .i64 0, .int .i64 0, .int .i64 0, .slice none 0 0] 30)) (.cells #[.int .i64 ni, .int .i64 nr, .int .i64 own, .int .i64 half] 2))
    go_wp2_with fail
    refine (CA.out _ _ haa RP).mono ?_
    rintro e9 w1 ⟨rfl, b1⟩
    have S1 := b1.size
    simp only [World.size_alloc] at S1
    replace VR := VRa.kept b1
    replace ha := haa.kept b1
    replace B := thenB Ba b1
    clear RP VRa Ba haa b1
    clear s_VR f_VR z_VR
    obtain ⟨s_VR, f_VR, z_VR⟩ := VR.open
    have Bo := B
    go_wp2_with fail
    refine (CW1.out _).mono ?_
    rintro e9 wq ⟨rfl, rfl⟩
    go_wp2_with fail
    refine (CW2.out _).mono ?_
    rintro e9 wq ⟨rfl, rfl⟩
    clear s_VR f_VR z_VR
    have VF := Hid.mk (VR.filled [.int .i64 3, .int .i64 0, .int .i64 0, .int .i64 0, .int .i64 0, .slice none 0 0] rfl)
    have BR := belowCells B (show w.heap.size ≤ w.heap.size by (first | omega | (simp; done) | (simp; omega))) 0 [.int .i64 3, .int .i64 0, .int .i64 0, .int .i64 0, .int .i64 0, .slice none 0 0]
    have HT := Hid.mk VR.there
    replace BR := Hid.mk BR
    obtain ⟨s_VR, f_VR, z_VR⟩ := VR.open
    go_wp2_with (refine wpList_store_mid rfl 30 _ _ rfl (w.heap.size) 0 #[.int .i64 3, .int .i64 0, .int .i64 0, .int .i64 0, .int .i64 0, .slice none 0 0] rfl rfl HT.out (by kernel_rfl) (by kernel_rfl) ?_)
    refine bodyPost_ret (v := .agg #[.int .i64 3, .int .i64 0, .int .i64 0, .int .i64 0, .int .i64 0, .slice none 0 0]) (results_row Try.results16 _ _ (w.heap.size) [.int .i64 3, .int .i64 0, .int .i64 0, .int .i64 0, .int .i64 0, .slice none 0 0] _ rfl VF.out Try.underlying30 rfl (by kernel_rfl)) rfl ⟨none, 0, rfl, OwnTerm.none, BR.out⟩
  · rw [e]
    obtain ⟨on, rfl⟩ : ∃ k : Nat, own = (k : Int) := ⟨own.toNat, by have := (aq_places h1 own (by simp)).1; omega⟩
    obtain ⟨hn9, rfl⟩ : ∃ k : Nat, half = (k : Int) := ⟨half.toNat, by have := (aq_places h1 half (by simp)).1; omega⟩
    have o2 := (aq_places h1 on (by simp)).2
    have o4 := (aq_places h1 hn9 (by simp)).2
    have hl4 : xs.length ≤ 400 := (tfC_zero (aq_table h1)).1
    replace CC := Hid.mk (CC.out (aq_table h1))
    obtain ⟨x, hxo⟩ : ∃ x, xs.getD on zTerm = x := ⟨_, rfl⟩
    obtain ⟨y, hyh⟩ : ∃ y, xs.getD hn9 zTerm = y := ⟨_, rfl⟩
    have tq1 : tmAt xs (on : Int) = x := by unfold tmAt; rw [Int.toNat_natCast]; exact hxo
    have tq2 : tmAt xs (hn9 : Int) = y := by unfold tmAt; rw [Int.toNat_natCast]; exact hyh
    rw [hn] at o2 o4
    have o1 : on < n := by omega
    have o3 : hn9 < n := by omega
    rw [tq1] at h5
    rw [h1] at CA
    simp only [h2] at CW1
    simp only [h4] at CW2
    have hne : (x.o != 2) = true := by simpa using h5
    have Hx := Hid.mk hxo
    have Hy := Hid.mk hyh
    obtain ⟨xo, xa, xb, xn⟩ := x
    obtain ⟨yo, ya, yb, yn⟩ := y
    simp only at h5
    skip
    clear e h1 h2 h4 tq1 tq2 hxo hyh hl4 h5
    go_enter Try.func16, Try.ntmps16
    have B := Below.refl w.heap.size w
    replace ha := ha.kept (belowA w (.cells #[.int .i64 0, .int .i64 0, .int .i64 0, .int .i64 0, .int .i64 0, .slice none 0 0] 30))
    replace B := thenB B (belowA w (.cells #[.int .i64 0, .int .i64 0, .int .i64 0, .int .i64 0, .int .i64 0, .slice none 0 0] 30))
    have VR := V.new w [.int .i64 0, .int .i64 0, .int .i64 0, .int .i64 0, .int .i64 0, .slice none 0 0] 30
    obtain ⟨s_VR, f_VR, z_VR⟩ := VR.open
    have Bo := B
    have RP := Rd.litI (w.alloc (.cells #[.int .i64 0, .int .i64 0, .int .i64 0, .int .i64 0, .int .i64 0, .slice none 0 0] 30)) [ni, nr, (on : Int), (hn9 : Int)]
    simp only [World.size_alloc] at RP
    have VRa := VR.kept (belowA (w.alloc (.cells #[.int .i64 0, .int .i64 0, .int .i64 0, .int .i64 0, .int .i64 0, .slice none 0 0] 30)) (.cells #[.int .i64 ni, .int .i64 nr, .int .i64 (on : Int), .int .i64 (hn9 : Int)] 2))
    have Ba := thenB B (belowA (w.alloc (.cells #[.int .i64 0, .int .i64 0, .int .i64 0, .int .i64 0, .int .i64 0, .slice none 0 0] 30)) (.cells #[.int .i64 ni, .int .i64 nr, .int .i64 (on : Int), .int .i64 (hn9 : Int)] 2))
    have haa := ha.kept (belowA (w.alloc (.cells #[.int .i64 0, .int .i64 0, .int .i64 0, .int .i64 0, .int .i64 0, .slice none 0 0] 30)) (.cells #[.int .i64 ni, .int .i64 nr, .int .i64 (on : Int), .int .i64 (hn9 : Int)] 2))
    go_wp2_with fail
    refine (CA.out _ _ haa RP).mono ?_
    rintro e9 w1 ⟨rfl, b1⟩
    have S1 := b1.size
    simp only [World.size_alloc] at S1
    replace VR := VRa.kept b1
    replace ha := haa.kept b1
    replace B := thenB Ba b1
    clear RP VRa Ba haa b1
    clear s_VR f_VR z_VR
    obtain ⟨s_VR, f_VR, z_VR⟩ := VR.open
    have Bo := B
    go_wp2_with fail
    refine (CW1.out _).mono ?_
    rintro e9 wq ⟨rfl, rfl⟩
    go_wp2_with fail
    refine (CW2.out _).mono ?_
    rintro e9 wq ⟨rfl, rfl⟩
    have haH := Hid.mk ha
    rcases ha with ha | ⟨b1, q1, rfl, hca1⟩
    · rw [ha] at hn; simp at hn; omega
    obtain ⟨p0, p1, p2, p3⟩ := RdTerm.cells hca1 on (by omega) _ Hx.out
    obtain ⟨r0, r1, r2, r3⟩ := RdTerm.cells hca1 hn9 (by omega) _ Hy.out
    clear hca1 p1 p2 p3 r1 r2 r3
    dsimp only at p0 r0
    clear s_VR f_VR z_VR
    have VF := Hid.mk (VR.filled [.int .i64 1, .int .i64 0, .int .i64 0, .int .i64 0, .int .i64 0, .slice none 0 0] rfl)
    have BR := belowCells B (show w.heap.size ≤ w.heap.size by (first | omega | (simp; done) | (simp; omega))) 0 [.int .i64 1, .int .i64 0, .int .i64 0, .int .i64 0, .int .i64 0, .slice none 0 0]
    have HT := Hid.mk VR.there
    replace BR := Hid.mk BR
    obtain ⟨s_VR, f_VR, z_VR⟩ := VR.open
    go_wp2_with (refine wpList_store_mid rfl 30 _ _ rfl (w.heap.size) 0 #[.int .i64 1, .int .i64 0, .int .i64 0, .int .i64 0, .int .i64 0, .slice none 0 0] rfl rfl HT.out (by kernel_rfl) (by kernel_rfl) ?_)
    refine bodyPost_ret (v := .agg #[.int .i64 1, .int .i64 0, .int .i64 0, .int .i64 0, .int .i64 0, .slice none 0 0]) (results_row Try.results16 _ _ (w.heap.size) [.int .i64 1, .int .i64 0, .int .i64 0, .int .i64 0, .int .i64 0, .slice none 0 0] _ rfl VF.out Try.underlying30 rfl (by kernel_rfl)) rfl ⟨none, 0, rfl, OwnTerm.none, BR.out⟩
  · rw [e]
    obtain ⟨on, rfl⟩ : ∃ k : Nat, own = (k : Int) := ⟨own.toNat, by have := (aq_places h1 own (by simp)).1; omega⟩
    obtain ⟨hn9, rfl⟩ : ∃ k : Nat, half = (k : Int) := ⟨half.toNat, by have := (aq_places h1 half (by simp)).1; omega⟩
    have o2 := (aq_places h1 on (by simp)).2
    have o4 := (aq_places h1 hn9 (by simp)).2
    have hl4 : xs.length ≤ 400 := (tfC_zero (aq_table h1)).1
    replace CC := Hid.mk (CC.out (aq_table h1))
    obtain ⟨x, hxo⟩ : ∃ x, xs.getD on zTerm = x := ⟨_, rfl⟩
    obtain ⟨y, hyh⟩ : ∃ y, xs.getD hn9 zTerm = y := ⟨_, rfl⟩
    have tq1 : tmAt xs (on : Int) = x := by unfold tmAt; rw [Int.toNat_natCast]; exact hxo
    have tq2 : tmAt xs (hn9 : Int) = y := by unfold tmAt; rw [Int.toNat_natCast]; exact hyh
    rw [hn] at o2 o4
    have o1 : on < n := by omega
    have o3 : hn9 < n := by omega
    rw [tq1] at h5
    rw [h1] at CA
    simp only [h2] at CW1
    simp only [h4] at CW2
    rw [tq2] at h6
    have hne : (y.o != 6) = true := by simpa using h6
    have Hx := Hid.mk hxo
    have Hy := Hid.mk hyh
    obtain ⟨xo, xa, xb, xn⟩ := x
    obtain ⟨yo, ya, yb, yn⟩ := y
    simp only at h5 h6
    subst h5
    clear e h1 h2 h4 tq1 tq2 hxo hyh hl4 h6
    go_enter Try.func16, Try.ntmps16
    have B := Below.refl w.heap.size w
    replace ha := ha.kept (belowA w (.cells #[.int .i64 0, .int .i64 0, .int .i64 0, .int .i64 0, .int .i64 0, .slice none 0 0] 30))
    replace B := thenB B (belowA w (.cells #[.int .i64 0, .int .i64 0, .int .i64 0, .int .i64 0, .int .i64 0, .slice none 0 0] 30))
    have VR := V.new w [.int .i64 0, .int .i64 0, .int .i64 0, .int .i64 0, .int .i64 0, .slice none 0 0] 30
    obtain ⟨s_VR, f_VR, z_VR⟩ := VR.open
    have Bo := B
    have RP := Rd.litI (w.alloc (.cells #[.int .i64 0, .int .i64 0, .int .i64 0, .int .i64 0, .int .i64 0, .slice none 0 0] 30)) [ni, nr, (on : Int), (hn9 : Int)]
    simp only [World.size_alloc] at RP
    have VRa := VR.kept (belowA (w.alloc (.cells #[.int .i64 0, .int .i64 0, .int .i64 0, .int .i64 0, .int .i64 0, .slice none 0 0] 30)) (.cells #[.int .i64 ni, .int .i64 nr, .int .i64 (on : Int), .int .i64 (hn9 : Int)] 2))
    have Ba := thenB B (belowA (w.alloc (.cells #[.int .i64 0, .int .i64 0, .int .i64 0, .int .i64 0, .int .i64 0, .slice none 0 0] 30)) (.cells #[.int .i64 ni, .int .i64 nr, .int .i64 (on : Int), .int .i64 (hn9 : Int)] 2))
    have haa := ha.kept (belowA (w.alloc (.cells #[.int .i64 0, .int .i64 0, .int .i64 0, .int .i64 0, .int .i64 0, .slice none 0 0] 30)) (.cells #[.int .i64 ni, .int .i64 nr, .int .i64 (on : Int), .int .i64 (hn9 : Int)] 2))
    go_wp2_with fail
    refine (CA.out _ _ haa RP).mono ?_
    rintro e9 w1 ⟨rfl, b1⟩
    have S1 := b1.size
    simp only [World.size_alloc] at S1
    replace VR := VRa.kept b1
    replace ha := haa.kept b1
    replace B := thenB Ba b1
    clear RP VRa Ba haa b1
    clear s_VR f_VR z_VR
    obtain ⟨s_VR, f_VR, z_VR⟩ := VR.open
    have Bo := B
    go_wp2_with fail
    refine (CW1.out _).mono ?_
    rintro e9 wq ⟨rfl, rfl⟩
    go_wp2_with fail
    refine (CW2.out _).mono ?_
    rintro e9 wq ⟨rfl, rfl⟩
    have haH := Hid.mk ha
    rcases ha with ha | ⟨b1, q1, rfl, hca1⟩
    · rw [ha] at hn; simp at hn; omega
    obtain ⟨p0, p1, p2, p3⟩ := RdTerm.cells hca1 on (by omega) _ Hx.out
    obtain ⟨r0, r1, r2, r3⟩ := RdTerm.cells hca1 hn9 (by omega) _ Hy.out
    clear hca1 p1 p2 p3 r1 r2 r3
    dsimp only at p0 r0
    clear s_VR f_VR z_VR
    have VF := Hid.mk (VR.filled [.int .i64 1, .int .i64 0, .int .i64 0, .int .i64 0, .int .i64 0, .slice none 0 0] rfl)
    have BR := belowCells B (show w.heap.size ≤ w.heap.size by (first | omega | (simp; done) | (simp; omega))) 0 [.int .i64 1, .int .i64 0, .int .i64 0, .int .i64 0, .int .i64 0, .slice none 0 0]
    have HT := Hid.mk VR.there
    replace BR := Hid.mk BR
    obtain ⟨s_VR, f_VR, z_VR⟩ := VR.open
    go_wp2_with (refine wpList_store_mid rfl 30 _ _ rfl (w.heap.size) 0 #[.int .i64 1, .int .i64 0, .int .i64 0, .int .i64 0, .int .i64 0, .slice none 0 0] rfl rfl HT.out (by kernel_rfl) (by kernel_rfl) ?_)
    refine bodyPost_ret (v := .agg #[.int .i64 1, .int .i64 0, .int .i64 0, .int .i64 0, .int .i64 0, .slice none 0 0]) (results_row Try.results16 _ _ (w.heap.size) [.int .i64 1, .int .i64 0, .int .i64 0, .int .i64 0, .int .i64 0, .slice none 0 0] _ rfl VF.out Try.underlying30 rfl (by kernel_rfl)) rfl ⟨none, 0, rfl, OwnTerm.none, BR.out⟩
  · rw [e]
    obtain ⟨on, rfl⟩ : ∃ k : Nat, own = (k : Int) := ⟨own.toNat, by have := (aq_places h1 own (by simp)).1; omega⟩
    obtain ⟨hn9, rfl⟩ : ∃ k : Nat, half = (k : Int) := ⟨half.toNat, by have := (aq_places h1 half (by simp)).1; omega⟩
    have o2 := (aq_places h1 on (by simp)).2
    have o4 := (aq_places h1 hn9 (by simp)).2
    have hl4 : xs.length ≤ 400 := (tfC_zero (aq_table h1)).1
    replace CC := Hid.mk (CC.out (aq_table h1))
    obtain ⟨x, hxo⟩ : ∃ x, xs.getD on zTerm = x := ⟨_, rfl⟩
    obtain ⟨y, hyh⟩ : ∃ y, xs.getD hn9 zTerm = y := ⟨_, rfl⟩
    have tq1 : tmAt xs (on : Int) = x := by unfold tmAt; rw [Int.toNat_natCast]; exact hxo
    have tq2 : tmAt xs (hn9 : Int) = y := by unfold tmAt; rw [Int.toNat_natCast]; exact hyh
    rw [hn] at o2 o4
    have o1 : on < n := by omega
    have o3 : hn9 < n := by omega
    rw [tq1] at h5
    rw [h1] at CA
    simp only [h2] at CW1
    simp only [h4] at CW2
    rw [tq2] at h3 h6 ⊢
    have CPf := Hid.mk (fun base Q w h => l9Keys_ok base Q ⟨xs, 0⟩ ni nr on hn9 si sr y.a w h hl4 (by simp only; omega) (by simp only; rw [hyh]))
    generalize kyR ⟨xs, 0⟩ ni nr on y.a si sr = P at *
    obtain ⟨⟨pl, pc⟩, ⟨ks, kd, ko, kb⟩⟩ := P
    simp only at h3 CPf ⊢
    obtain ⟨k, hk⟩ : ∃ k, pl.length = k := ⟨_, rfl⟩
    have HK := Hid.mk hk
    have hne : (pc != 0) = true := by simpa using h3
    have Hx := Hid.mk hxo
    have Hy := Hid.mk hyh
    obtain ⟨xo, xa, xb, xn⟩ := x
    obtain ⟨yo, ya, yb, yn⟩ := y
    simp only at h5 h6
    subst h5
    subst h6
    clear e h1 h2 h4 tq1 tq2 hxo hyh hl4 hk h3
    go_enter Try.func16, Try.ntmps16
    have B := Below.refl w.heap.size w
    replace ha := ha.kept (belowA w (.cells #[.int .i64 0, .int .i64 0, .int .i64 0, .int .i64 0, .int .i64 0, .slice none 0 0] 30))
    replace B := thenB B (belowA w (.cells #[.int .i64 0, .int .i64 0, .int .i64 0, .int .i64 0, .int .i64 0, .slice none 0 0] 30))
    have VR := V.new w [.int .i64 0, .int .i64 0, .int .i64 0, .int .i64 0, .int .i64 0, .slice none 0 0] 30
    obtain ⟨s_VR, f_VR, z_VR⟩ := VR.open
    have Bo := B
    have RP := Rd.litI (w.alloc (.cells #[.int .i64 0, .int .i64 0, .int .i64 0, .int .i64 0, .int .i64 0, .slice none 0 0] 30)) [ni, nr, (on : Int), (hn9 : Int)]
    simp only [World.size_alloc] at RP
    have VRa := VR.kept (belowA (w.alloc (.cells #[.int .i64 0, .int .i64 0, .int .i64 0, .int .i64 0, .int .i64 0, .slice none 0 0] 30)) (.cells #[.int .i64 ni, .int .i64 nr, .int .i64 (on : Int), .int .i64 (hn9 : Int)] 2))
    have Ba := thenB B (belowA (w.alloc (.cells #[.int .i64 0, .int .i64 0, .int .i64 0, .int .i64 0, .int .i64 0, .slice none 0 0] 30)) (.cells #[.int .i64 ni, .int .i64 nr, .int .i64 (on : Int), .int .i64 (hn9 : Int)] 2))
    have haa := ha.kept (belowA (w.alloc (.cells #[.int .i64 0, .int .i64 0, .int .i64 0, .int .i64 0, .int .i64 0, .slice none 0 0] 30)) (.cells #[.int .i64 ni, .int .i64 nr, .int .i64 (on : Int), .int .i64 (hn9 : Int)] 2))
    go_wp2_with fail
    refine (CA.out _ _ haa RP).mono ?_
    rintro e9 w1 ⟨rfl, b1⟩
    have S1 := b1.size
    simp only [World.size_alloc] at S1
    replace VR := VRa.kept b1
    replace ha := haa.kept b1
    replace B := thenB Ba b1
    clear RP VRa Ba haa b1
    clear s_VR f_VR z_VR
    obtain ⟨s_VR, f_VR, z_VR⟩ := VR.open
    have Bo := B
    go_wp2_with fail
    refine (CW1.out _).mono ?_
    rintro e9 wq ⟨rfl, rfl⟩
    go_wp2_with fail
    refine (CW2.out _).mono ?_
    rintro e9 wq ⟨rfl, rfl⟩
    have haH := Hid.mk ha
    rcases ha with ha | ⟨b1, q1, rfl, hca1⟩
    · rw [ha] at hn; simp at hn; omega
    obtain ⟨p0, p1, p2, p3⟩ := RdTerm.cells hca1 on (by omega) _ Hx.out
    obtain ⟨r0, r1, r2, r3⟩ := RdTerm.cells hca1 hn9 (by omega) _ Hy.out
    clear hca1 p1 p2 p3 r1 r2 r3
    dsimp only at p0 r0
    have ha := haH.out
    go_wp2_with fail
    refine (CC.out _ ha).mono ?_
    rintro e w2 ⟨c1, d1, rfl, O1, b2⟩
    clear s_VR f_VR z_VR
    have S2 := b2.size
    replace VR := VR.kept b2
    replace ha := ha.kept b2
    replace B := thenB B b2
    clear b2
    obtain ⟨s_VR, f_VR, z_VR⟩ := VR.open
    have Bo := B
    clear p0 r0 haH
    have OLT := Hid.mk O1.lt
    replace VR := VR.kept (belowA w2 (.cells #[.slice c1 n d1, .int .i64 0] 104))
    replace ha := ha.kept (belowA w2 (.cells #[.slice c1 n d1, .int .i64 0] 104))
    replace O1 := O1.kept (belowA w2 (.cells #[.slice c1 n d1, .int .i64 0] 104))
    replace B := thenB B (belowA w2 (.cells #[.slice c1 n d1, .int .i64 0] 104))
    have VQ := V.new w2 [.slice c1 n d1, .int .i64 0] 104
    clear s_VR f_VR z_VR
    obtain ⟨s_VR, f_VR, z_VR⟩ := VR.open
    obtain ⟨s_VQ, f_VQ, z_VQ⟩ := VQ.open
    have Bo := B
    have M := MkB.made hn VQ (O1.mono (show w.heap.size + 1 ≤ _ by have := VR.1; omega)) (by have := VR.1; (try simp only [World.size_alloc] at *); omega) (fun b hb => by have := (OLT.out b hb).2; omega)
    have hQ1 : w.heap.size + 1 ≤ w2.heap.size := by omega
    clear O1 VQ
    go_wp2_with fail
    refine (CPf.out _ _ _ M).mono ?_
    rintro e9 w5 ⟨rfl, M5, G5⟩
    have VR5 := VR.grownB G5 (by omega)
    have B5 := B.grown G5 (by (try simp only [World.size_alloc]); omega) (by intro q hq; simp at hq; omega)
    clear M G5 VR B ha Bo
    obtain ⟨c2, d2, VQ, O2, hb5, hne5⟩ := M5
    simp only at VQ O2
    rw [HK.out] at VQ
    have VR := VR5
    have B := B5
    clear VR5 B5
    clear s_VR f_VR z_VR s_VQ f_VQ z_VQ
    replace VR := VR.kept (belowA w5 (.cells #[.int .i64 ks, .int .i64 kd, .int .i64 ko, .int .i64 kb] 28))
    replace VQ := VQ.kept (belowA w5 (.cells #[.int .i64 ks, .int .i64 kd, .int .i64 ko, .int .i64 kb] 28))
    replace O2 := O2.kept (belowA w5 (.cells #[.int .i64 ks, .int .i64 kd, .int .i64 ko, .int .i64 kb] 28))
    replace B := thenB B (belowA w5 (.cells #[.int .i64 ks, .int .i64 kd, .int .i64 ko, .int .i64 kb] 28))
    have VK := V.new w5 [.int .i64 ks, .int .i64 kd, .int .i64 ko, .int .i64 kb] 28
    obtain ⟨s_VR, f_VR, z_VR⟩ := VR.open
    obtain ⟨s_VQ, f_VQ, z_VQ⟩ := VQ.open
    obtain ⟨s_VK, f_VK, z_VK⟩ := VK.open
    have Bo := B
    have OL2 := Hid.mk O2.lt
    clear s_VR f_VR z_VR s_VQ f_VQ z_VQ s_VK f_VK z_VK
    have VF := Hid.mk (VR.filled [.int .i64 pc, .int .i64 0, .int .i64 0, .int .i64 0, .int .i64 0, .slice none 0 0] rfl)
    have BR := belowCells B (show w.heap.size ≤ w.heap.size by (first | omega | (simp; done) | (simp; omega))) 0 [.int .i64 pc, .int .i64 0, .int .i64 0, .int .i64 0, .int .i64 0, .slice none 0 0]
    have HT := Hid.mk VR.there
    replace BR := Hid.mk BR
    clear O2
    obtain ⟨s_VR, f_VR, z_VR⟩ := VR.open
    obtain ⟨s_VQ, f_VQ, z_VQ⟩ := VQ.open
    obtain ⟨s_VK, f_VK, z_VK⟩ := VK.open
    go_wp2_with (refine wpList_store_mid rfl 30 _ _ rfl (w.heap.size) 0 #[.int .i64 pc, .int .i64 0, .int .i64 0, .int .i64 0, .int .i64 0, .slice none 0 0] rfl rfl HT.out (by kernel_rfl) (by kernel_rfl) ?_)
    refine bodyPost_ret (v := .agg #[.int .i64 pc, .int .i64 0, .int .i64 0, .int .i64 0, .int .i64 0, .slice none 0 0]) (results_row Try.results16 _ _ (w.heap.size) [.int .i64 pc, .int .i64 0, .int .i64 0, .int .i64 0, .int .i64 0, .slice none 0 0] _ rfl VF.out Try.underlying30 rfl (by kernel_rfl)) rfl ⟨none, 0, rfl, OwnTerm.none, BR.out⟩
  · rw [e]
    obtain ⟨on, rfl⟩ : ∃ k : Nat, own = (k : Int) := ⟨own.toNat, by have := (aq_places h1 own (by simp)).1; omega⟩
    obtain ⟨hn9, rfl⟩ : ∃ k : Nat, half = (k : Int) := ⟨half.toNat, by have := (aq_places h1 half (by simp)).1; omega⟩
    have o2 := (aq_places h1 on (by simp)).2
    have o4 := (aq_places h1 hn9 (by simp)).2
    have hl4 : xs.length ≤ 400 := (tfC_zero (aq_table h1)).1
    replace CC := Hid.mk (CC.out (aq_table h1))
    obtain ⟨x, hxo⟩ : ∃ x, xs.getD on zTerm = x := ⟨_, rfl⟩
    obtain ⟨y, hyh⟩ : ∃ y, xs.getD hn9 zTerm = y := ⟨_, rfl⟩
    have tq1 : tmAt xs (on : Int) = x := by unfold tmAt; rw [Int.toNat_natCast]; exact hxo
    have tq2 : tmAt xs (hn9 : Int) = y := by unfold tmAt; rw [Int.toNat_natCast]; exact hyh
    rw [hn] at o2 o4
    have o1 : on < n := by omega
    have o3 : hn9 < n := by omega
    rw [tq1] at h5
    rw [h1] at CA
    simp only [h2] at CW1
    simp only [h4] at CW2
    rw [tq2] at h3 h6 ⊢
    have CPf := Hid.mk (fun base Q w h => l9Keys_ok base Q ⟨xs, 0⟩ ni nr on hn9 si sr y.a w h hl4 (by simp only; omega) (by simp only; rw [hyh]))
    generalize kyR ⟨xs, 0⟩ ni nr on y.a si sr = P at *
    obtain ⟨⟨pl, pc⟩, ⟨ks, kd, ko, kb⟩⟩ := P
    simp only at h3 CPf ⊢
    obtain ⟨k, hk⟩ : ∃ k, pl.length = k := ⟨_, rfl⟩
    have HK := Hid.mk hk
    subst h3
    have Hx := Hid.mk hxo
    have Hy := Hid.mk hyh
    obtain ⟨xo, xa, xb, xn⟩ := x
    obtain ⟨yo, ya, yb, yn⟩ := y
    simp only at h5 h6
    subst h5
    subst h6
    clear e h1 h2 h4 tq1 tq2 hxo hyh hl4 hk
    go_enter Try.func16, Try.ntmps16
    have B := Below.refl w.heap.size w
    replace ha := ha.kept (belowA w (.cells #[.int .i64 0, .int .i64 0, .int .i64 0, .int .i64 0, .int .i64 0, .slice none 0 0] 30))
    replace B := thenB B (belowA w (.cells #[.int .i64 0, .int .i64 0, .int .i64 0, .int .i64 0, .int .i64 0, .slice none 0 0] 30))
    have VR := V.new w [.int .i64 0, .int .i64 0, .int .i64 0, .int .i64 0, .int .i64 0, .slice none 0 0] 30
    obtain ⟨s_VR, f_VR, z_VR⟩ := VR.open
    have Bo := B
    have RP := Rd.litI (w.alloc (.cells #[.int .i64 0, .int .i64 0, .int .i64 0, .int .i64 0, .int .i64 0, .slice none 0 0] 30)) [ni, nr, (on : Int), (hn9 : Int)]
    simp only [World.size_alloc] at RP
    have VRa := VR.kept (belowA (w.alloc (.cells #[.int .i64 0, .int .i64 0, .int .i64 0, .int .i64 0, .int .i64 0, .slice none 0 0] 30)) (.cells #[.int .i64 ni, .int .i64 nr, .int .i64 (on : Int), .int .i64 (hn9 : Int)] 2))
    have Ba := thenB B (belowA (w.alloc (.cells #[.int .i64 0, .int .i64 0, .int .i64 0, .int .i64 0, .int .i64 0, .slice none 0 0] 30)) (.cells #[.int .i64 ni, .int .i64 nr, .int .i64 (on : Int), .int .i64 (hn9 : Int)] 2))
    have haa := ha.kept (belowA (w.alloc (.cells #[.int .i64 0, .int .i64 0, .int .i64 0, .int .i64 0, .int .i64 0, .slice none 0 0] 30)) (.cells #[.int .i64 ni, .int .i64 nr, .int .i64 (on : Int), .int .i64 (hn9 : Int)] 2))
    go_wp2_with fail
    refine (CA.out _ _ haa RP).mono ?_
    rintro e9 w1 ⟨rfl, b1⟩
    have S1 := b1.size
    simp only [World.size_alloc] at S1
    replace VR := VRa.kept b1
    replace ha := haa.kept b1
    replace B := thenB Ba b1
    clear RP VRa Ba haa b1
    clear s_VR f_VR z_VR
    obtain ⟨s_VR, f_VR, z_VR⟩ := VR.open
    have Bo := B
    go_wp2_with fail
    refine (CW1.out _).mono ?_
    rintro e9 wq ⟨rfl, rfl⟩
    go_wp2_with fail
    refine (CW2.out _).mono ?_
    rintro e9 wq ⟨rfl, rfl⟩
    have haH := Hid.mk ha
    rcases ha with ha | ⟨b1, q1, rfl, hca1⟩
    · rw [ha] at hn; simp at hn; omega
    obtain ⟨p0, p1, p2, p3⟩ := RdTerm.cells hca1 on (by omega) _ Hx.out
    obtain ⟨r0, r1, r2, r3⟩ := RdTerm.cells hca1 hn9 (by omega) _ Hy.out
    clear hca1 p1 p2 p3 r1 r2 r3
    dsimp only at p0 r0
    have ha := haH.out
    go_wp2_with fail
    refine (CC.out _ ha).mono ?_
    rintro e w2 ⟨c1, d1, rfl, O1, b2⟩
    clear s_VR f_VR z_VR
    have S2 := b2.size
    replace VR := VR.kept b2
    replace ha := ha.kept b2
    replace B := thenB B b2
    clear b2
    obtain ⟨s_VR, f_VR, z_VR⟩ := VR.open
    have Bo := B
    clear p0 r0 haH
    have OLT := Hid.mk O1.lt
    replace VR := VR.kept (belowA w2 (.cells #[.slice c1 n d1, .int .i64 0] 104))
    replace ha := ha.kept (belowA w2 (.cells #[.slice c1 n d1, .int .i64 0] 104))
    replace O1 := O1.kept (belowA w2 (.cells #[.slice c1 n d1, .int .i64 0] 104))
    replace B := thenB B (belowA w2 (.cells #[.slice c1 n d1, .int .i64 0] 104))
    have VQ := V.new w2 [.slice c1 n d1, .int .i64 0] 104
    clear s_VR f_VR z_VR
    obtain ⟨s_VR, f_VR, z_VR⟩ := VR.open
    obtain ⟨s_VQ, f_VQ, z_VQ⟩ := VQ.open
    have Bo := B
    have M := MkB.made hn VQ (O1.mono (show w.heap.size + 1 ≤ _ by have := VR.1; omega)) (by have := VR.1; (try simp only [World.size_alloc] at *); omega) (fun b hb => by have := (OLT.out b hb).2; omega)
    have hQ1 : w.heap.size + 1 ≤ w2.heap.size := by omega
    clear O1 VQ
    go_wp2_with fail
    refine (CPf.out _ _ _ M).mono ?_
    rintro e9 w5 ⟨rfl, M5, G5⟩
    have VR5 := VR.grownB G5 (by omega)
    have B5 := B.grown G5 (by (try simp only [World.size_alloc]); omega) (by intro q hq; simp at hq; omega)
    clear M G5 VR B ha Bo
    obtain ⟨c2, d2, VQ, O2, hb5, hne5⟩ := M5
    simp only at VQ O2
    rw [HK.out] at VQ
    have VR := VR5
    have B := B5
    clear VR5 B5
    clear s_VR f_VR z_VR s_VQ f_VQ z_VQ
    replace VR := VR.kept (belowA w5 (.cells #[.int .i64 ks, .int .i64 kd, .int .i64 ko, .int .i64 kb] 28))
    replace VQ := VQ.kept (belowA w5 (.cells #[.int .i64 ks, .int .i64 kd, .int .i64 ko, .int .i64 kb] 28))
    replace O2 := O2.kept (belowA w5 (.cells #[.int .i64 ks, .int .i64 kd, .int .i64 ko, .int .i64 kb] 28))
    replace B := thenB B (belowA w5 (.cells #[.int .i64 ks, .int .i64 kd, .int .i64 ko, .int .i64 kb] 28))
    have VK := V.new w5 [.int .i64 ks, .int .i64 kd, .int .i64 ko, .int .i64 kb] 28
    obtain ⟨s_VR, f_VR, z_VR⟩ := VR.open
    obtain ⟨s_VQ, f_VQ, z_VQ⟩ := VQ.open
    obtain ⟨s_VK, f_VK, z_VK⟩ := VK.open
    have Bo := B
    have OL2 := Hid.mk O2.lt
    clear s_VR f_VR z_VR s_VQ f_VQ z_VQ s_VK f_VK z_VK
    have VF := Hid.mk (VR.filled [.int .i64 0, .int .i64 ks, .int .i64 kd, .int .i64 ko, .int .i64 kb, .slice c2 k d2] rfl)
    have BR := belowCells B (show w.heap.size ≤ w.heap.size by (first | omega | (simp; done) | (simp; omega))) 0 [.int .i64 0, .int .i64 ks, .int .i64 kd, .int .i64 ko, .int .i64 kb, .slice c2 k d2]
    have HT := Hid.mk VR.there
    replace BR := Hid.mk BR
    have OF := Hid.mk ((O2.apart (B := w.heap.size) (fun b hb => by have := (OL2.out b hb).1; omega) 0 [.int .i64 0, .int .i64 ks, .int .i64 kd, .int .i64 ko, .int .i64 kb, .slice c2 k d2]).mono (Nat.le_succ w.heap.size))
    clear O2
    obtain ⟨s_VR, f_VR, z_VR⟩ := VR.open
    obtain ⟨s_VQ, f_VQ, z_VQ⟩ := VQ.open
    obtain ⟨s_VK, f_VK, z_VK⟩ := VK.open
    go_wp2_with (refine wpList_store_mid rfl 30 _ _ rfl (w.heap.size) 0 #[.int .i64 0, .int .i64 ks, .int .i64 kd, .int .i64 ko, .int .i64 kb, .slice c2 k d2] rfl rfl HT.out (by kernel_rfl) (by kernel_rfl) ?_)
    refine bodyPost_ret (v := .agg #[.int .i64 0, .int .i64 ks, .int .i64 kd, .int .i64 ko, .int .i64 kb, .slice c2 k d2]) (results_row Try.results16 _ _ (w.heap.size) [.int .i64 0, .int .i64 ks, .int .i64 kd, .int .i64 ko, .int .i64 kb, .slice c2 k d2] _ rfl VF.out Try.underlying30 rfl (by kernel_rfl)) rfl ⟨c2, d2, by rw [HK.out], OF.out, BR.out⟩

end Go.Proofs.Ythkmoabkeblbjaa
