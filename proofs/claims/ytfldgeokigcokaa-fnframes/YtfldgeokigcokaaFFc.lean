/- Put together: RfA, DrF. -/
import Derived.Test.YtfldgeokigcokaaFFf
import Derived.Test.YtfldgeokigcokaaFFi
import Derived.Test.YtfldgeokigcokaaFFk
import Derived.Test.YtfldgeokigcokaaDrawS
import Derived.Test.YtfldgeokigcokaaDrawC

/- A reader of bytes, by how far it has come; a frame written again. -/
namespace Go.Proofs.Ytfldgeokigcokaa
open Go.RowKit

theorem Sm.wider {X Y : Nat → Prop} {w w' : World} (h : Sm X w w') (hx : ∀ k, X k → Y k) : Sm Y w w' := ⟨h.os, h.tape, h.output, h.size, fun k hk hn => h.block k hk (fun e => hn (hx k e))⟩

theorem takeN_drop (ds : List Int) (off s : Nat) : takeN (ds.drop off) 0 s = takeN ds off s := by
  unfold takeN
  congr 1
  funext n i
  rw [getD_drop, Nat.zero_add]

theorem takeN_byte (ds : List Int) (off : Nat) : takeN ds off 1 = ds.getD off 0 := by
  rw [show (1 : Nat) = 0 + 1 from rfl, takeN_succ]; simp [takeN]

/-- The reader at P has come so far. -/
def RdAt (w : World) (P : Nat) (bk : Value) (bx : Nat) (ds : List Int) (off : Nat) : Prop := ∃ x d, Rdr w P bk bx x (ds.length - off) d (ds.drop off) ∧ x ≠ none

theorem RdAt.sm {X : Nat → Prop} {w w' : World} {P : Nat} {bk : Value} {bx : Nat} {ds : List Int} {off : Nat} (h : RdAt w P bk bx ds off) (s : Sm X w w') (hP : ¬ X P) (hb : ¬ X bx) : RdAt w' P bk bx ds off := by
  obtain ⟨x, d, R, hn⟩ := h; exact ⟨x, d, R.sm s hP hb, hn⟩

theorem RdAt.kept {w w' : World} {P : Nat} {bk : Value} {bx : Nat} {ds : List Int} {off : Nat} (h : RdAt w P bk bx ds off) (b : Below w.heap.size w w') : RdAt w' P bk bx ds off := by
  obtain ⟨x, d, R, hn⟩ := h; exact ⟨x, d, R.kept b, hn⟩

theorem numAt_no (P : Nat) (bk : Value) (bx : Nat) (ds : List Int) (off s : Nat) (w : World) (R : RdAt w P bk bx ds off) (hb : Bytes ds) (hs : ds.length < off + s) (h1 : 1 ≤ s) :
    Calls Try.prog 75 #[.pointer (some ⟨P, 0, none⟩), .int .i64 (s : Int)] w fun e w' => e = stop 5 ∧ Below w.heap.size w w' := by
  obtain ⟨x, d, R, _⟩ := R
  exact number_no P bk bx x _ d (ds.drop off) s w R (fun z hz => hb z (List.mem_of_mem_drop hz)) (by omega)

theorem numAt_ok (P : Nat) (bk : Value) (bx : Nat) (ds : List Int) (off s : Nat) (w : World) (R : RdAt w P bk bx ds off) (hb : Bytes ds) (hs : off + s ≤ ds.length) (h1 : 1 ≤ s) (h7 : s ≤ 7) (hne : ds = [] ∨ bx ≠ P) :
    Calls Try.prog 75 #[.pointer (some ⟨P, 0, none⟩), .int .i64 (s : Int)] w fun e w' => e = .returned (.int .i64 (takeN ds off s)) ∧ Sm (fun k => k = P) w w' ∧ RdAt w' P bk bx ds (off + s) := by
  have hne : bx ≠ P := by
    rcases hne with h | h
    · subst h; simp at hs; omega
    · exact h
  obtain ⟨x, d, R, _⟩ := R
  refine (number_some P bk bx x _ d (ds.drop off) s w R (fun z hz => hb z (List.mem_of_mem_drop hz)) h1 h7 (by omega) hne).mono ?_
  rintro e w' ⟨rfl, S, x', R', hn⟩
  refine ⟨by rw [takeN_drop], S, x', d - s, ?_, hn⟩
  rw [List.drop_drop, show ds.length - off - s = ds.length - (off + s) by omega] at R'
  exact R'

theorem fd_short {ds : List Int} (h : ds.length < 16) : fdB ds = false := by
  cases hf : fdB ds with
  | false => rfl
  | true => have := (fd_iff.1 hf).1; omega

/-- Bytes are a frame where the same bytes come of writing it again. -/
theorem fr_again {ds : List Int} (hb : Bytes ds) (hl : 16 ≤ ds.length) : frmB (ds.getD 1 0) (takeN ds 2 4) (takeN ds 6 4) (takeN ds 10 4) (ds.drop 16) = ds ↔ fdB ds = true := by
  constructor
  · intro h
    have hc : frmC (ds.getD 1 0) (takeN ds 2 4) (takeN ds 6 4) (takeN ds 10 4) (ds.drop 16) = 0 ∧ frmP (ds.getD 1 0) (takeN ds 2 4) (takeN ds 6 4) (takeN ds 10 4) (ds.drop 16) = ds := by
      have hne : ds ≠ [] := by intro e; rw [e] at hl; simp at hl
      rcases fr_ways (ds.getD 1 0) (takeN ds 2 4) (takeN ds 6 4) (takeN ds 10 4) (ds.drop 16) with ⟨_, _, e⟩ | ⟨_, _, _, e⟩ | ⟨_, _, _, _, e⟩ | ⟨_, _, _, _, _, e⟩ | ⟨_, _, _, _, _, _, e⟩ | ⟨_, _, _, _, _, c, e⟩
      · exact absurd (h.symm.trans e) hne
      · exact absurd (h.symm.trans e) hne
      · exact absurd (h.symm.trans e) hne
      · exact absurd (h.symm.trans e) hne
      · exact absurd (h.symm.trans e) hne
      · exact ⟨c, e.symm.trans h⟩
    have := (fr_there hc.1).1
    rw [hc.2] at this
    exact this
  · intro h
    obtain ⟨h1, h2⟩ := fr_back hb h
    unfold frmB
    rw [if_pos h1]; exact h2

theorem frmB_bytes {kind a b n : Int} {body : List Int} (hb : Bytes body) : Bytes (frmB kind a b n body) := by
  rcases fr_ways kind a b n body with ⟨_, _, e⟩ | ⟨_, _, _, e⟩ | ⟨_, _, _, _, e⟩ | ⟨_, _, _, _, _, e⟩ | ⟨_, _, _, _, _, _, e⟩ | ⟨h1, _, _, _, _, _, e⟩ <;> rw [e]
  iterate 5 (· intro z hz; simp at hz)
  have hk := btw_iff.1 h1
  have hp : ∀ (x : Int) (s : Nat), Bytes (putN x s) := fun x s z hz => by
    simp only [putN, List.mem_map] at hz
    obtain ⟨i, _, rfl⟩ := hz
    unfold digitN
    omega
  unfold frmP
  intro z hz
  simp only [List.mem_append, List.mem_cons, List.not_mem_nil, or_false] at hz
  rcases hz with ((((h | h) | h) | h) | h) | h
  · omega
  · exact hp _ _ z h
  · exact hp _ _ z h
  · exact hp _ _ z h
  · exact hp _ _ z h
  · exact hb z h

end Go.Proofs.Ytfldgeokigcokaa

/- the draws of a frame. -/
namespace Go.Proofs.Ytfldgeokigcokaa
open Go.RowKit

/-- What turned at the block of a draw's source alone, beyond what was. -/
theorem Below.of_grown {w w' : World} (h : w.grownBy w' (some w.heap.size)) : Below w.heap.size w w' :=
  (Below.refl w.heap.size w).grown h (Nat.le_refl _) (by intro k hk; simp at hk; omega)

theorem Own.cellAt8 {k : IntKind} {e : TypeId} {w : World} {base g cap : Nat} {zs : List Int} (h : Own k e w base (some ⟨g, 0, none⟩) cap zs) (j : Nat) (hj : j < zs.length) : w.cell? ⟨g, j, none⟩ = some (.int k (zs.getD j 0)) := by
  rw [World.ownsRow.cellAt h j (by simpa using hj)]
  simp [List.getD, hj]

theorem Own.frozenAt8 {k : IntKind} {e : TypeId} {w : World} {base g cap : Nat} {zs : List Int} (h : Own k e w base (some ⟨g, 0, none⟩) cap zs) (j : Nat) : w.frozen? ⟨g, j, none⟩ = false := World.ownsRow.frozenAt h j

theorem Own.store8 {k : IntKind} {e : TypeId} {w : World} {base g cap : Nat} {zs : List Int} (h : Own k e w base (some ⟨g, 0, none⟩) cap zs) (j : Nat) (u : Int) : Own k e (w.setCell ⟨g, j, none⟩ (.int k u)) base (some ⟨g, 0, none⟩) cap (zs.set j u) := by
  have h2 := (h.stored j (.int k u)).1
  rw [set_map] at h2
  exact Own.mk h2 (by simp)

theorem Bytes.set8 {zs : List Int} (h : Bytes zs) (j : Nat) {u : Int} (hu : 0 ≤ u ∧ u < 256) : Bytes (zs.set j u) := by
  intro z hz
  rcases List.mem_or_eq_of_mem_set hz with h1 | rfl
  · exact h z h1
  · exact hu

theorem grownBelowF {w w1 w2 : World} {row : Option Nat} (h : w.grownBy w1 row) (hb : Below w.heap.size w1 w2) : w.grownBy w2 row :=
  ⟨hb.os.trans h.os, hb.tape.trans h.tape, hb.output.trans h.output, Nat.le_trans h.size hb.size, fun k hk hr => (hb.block k hk).trans (h.block k hk hr)⟩

theorem grownSetF {w w' : World} {row : Option Nat} (h : w.grownBy w' row) {p : Addr} (hp : w.heap.size ≤ p.block) (v : Value) : w.grownBy (w'.setCell p v) row :=
  grownBelowF h ((Below.refl w.heap.size w').setCell (p := p) hp v)

theorem Rd.take8 {k : IntKind} {w : World} {a : Option Addr} {zs : List Int} (h : Rd k w a zs) (m : Nat) : Rd k w a (zs.take m) := by
  rcases h with h | ⟨b, o, rfl, hc⟩
  · subst h; exact .inl (by simp)
  · refine .inr ⟨b, o, rfl, fun i hi => ?_⟩
    simp at hi
    rw [hc i (by omega)]
    simp [List.getD, show i < m by omega]

theorem results_tmp5 {fn : Func} {t0 t1 t2 t3 t4 : Tmp} (h : fn.results = #[.tmp t0, .tmp t1, .tmp t2, .tmp t3, .tmp t4]) (tmps : Array Value) (P : Program) (w : World) :
    (results fn tmps).run P w = .ok (.tuple #[tmps.getD t0 undef, tmps.getD t1 undef, tmps.getD t2 undef, tmps.getD t3 undef, tmps.getD t4 undef]) w := by
  simp [results, h]

theorem field_b1F (k v : Value) (w : World) : (Instr.field 29 (.agg #[k, v]) 1).run Try.prog w = .ok v w := by kernel_rfl

set_option maxRecDepth 20000 in
set_option maxHeartbeats 4000000 in
theorem drawEncodeFrame_ok (a : Option Addr) (n ca : Nat) (zs : List Int) (w : World) (ha : Rd .u8 w a zs) (hb : Bytes zs) (hn : zs.length = n) (hx : n ≤ 1048576) :
    Calls Try.prog 14 #[.slice a n ca] w fun e w' => ∃ (k x y u : Int) (c : Option Addr) (d m : Nat) (bs : List Int), e = .returned (.tuple #[.int .i64 k, .int .i64 x, .int .i64 y, .int .i64 u, .slice c m d]) ∧ bs.length = m ∧ m ≤ 301 ∧ m ≤ d ∧ Bytes bs ∧ Own .u8 5 w' w.heap.size c d bs ∧ Below w.heap.size w w' := by
  replace hx : n ≤ 1048577 := by omega
  go_enter Try.func14, Try.ntmps14
  go_wp2_with (first | (go_at_call 39; go_in) | fail)
  have S := Src.new w a n ca zs 99 ha
  have G : w.grownBy (w.alloc (.cells #[.slice a n ca, .int .i64 0] 99)) (some w.heap.size) := Below.grownBy (belowA _ _) _
  go_wp2_with fail
  refine (l1Next_ok w.heap.size a n ca zs 0 9 _ S hb hn hx (by omega) (by omega)).mono ?_
  rintro e w1 ⟨v1, rfl, hv1, _, S1, k1⟩
  obtain ⟨p1, r1⟩ := hv1 (by omega)
  replace G := grownBy_trans G k1
  clear k1 hv1 S
  have S := S1
  clear S1
  have hsz2 : w.heap.size < w1.heap.size := S.1.1
  have SK := S.kept (belowA w1 (.cells #[.int .i64 v1, .int .i64 0, .int .i64 300, .int .i64 301] 2))
  replace G := grown_alloc G (.cells #[.int .i64 v1, .int .i64 0, .int .i64 300, .int .i64 301] 2)
  go_wp2_with fail
  refine (l1Pick_ok w.heap.size a n ca zs 1 w1.heap.size 4 4 [v1, 0, 300, 301] _ SK hb hn hx (by omega) rfl (by omega) (by omega) (fun i hi => ?_) (by omega)).mono ?_
  · exact lit_cells w1 [v1, 0, 300, 301] _ _ (by simp) i hi
  rintro e w2 ⟨x2, rfl, hx2, S2, k2⟩
  replace G := grownBy_trans G k2
  clear k2 S SK
  have S := S2
  clear S2
  have hm : 0 ≤ x2 ∧ x2 ≤ 301 := by
    simp at hx2
    rcases hx2 with rfl | rfl | rfl | rfl <;> omega
  obtain ⟨hm1, hm2⟩ := hm
  obtain ⟨m, rfl⟩ := Int.eq_ofNat_of_zero_le hm1
  clear hx2
  have hsz3 : w.heap.size < w2.heap.size := S.1.1
  have SK := S.kept (belowA w2 (.cells #[.int .i64 1, .int .i64 2, .int .i64 9, .int .i64 0, .int .i64 10] 2))
  replace G := grown_alloc G (.cells #[.int .i64 1, .int .i64 2, .int .i64 9, .int .i64 0, .int .i64 10] 2)
  go_wp2_with fail
  refine (l1Pick_ok w.heap.size a n ca zs 2 w2.heap.size 5 5 [1, 2, 9, 0, 10] _ SK hb hn hx (by omega) rfl (by omega) (by omega) (fun i hi => ?_) (by omega)).mono ?_
  · exact lit_cells w2 [1, 2, 9, 0, 10] _ _ (by simp) i hi
  rintro e w3 ⟨x3, rfl, hx3, S3, k3⟩
  replace G := grownBy_trans G k3
  clear k3 S SK
  have S := S3
  clear S3
  clear hx3
  go_wp2_with fail
  refine (l1Next_ok w.heap.size a n ca zs 3 99 _ S hb hn hx (by omega) (by omega)).mono ?_
  rintro e w4 ⟨v4, rfl, hv4, _, S4, k4⟩
  obtain ⟨p4, r4⟩ := hv4 (by omega)
  replace G := grownBy_trans G k4
  clear k4 hv4 S
  have S := S4
  clear S4
  have hsz5 : w.heap.size < w4.heap.size := S.1.1
  have SK := S.kept (belowA w4 (.cells #[.int .i64 v4, .int .i64 4294967295, .int .i64 4294967296, .int .i64 (-1)] 2))
  replace G := grown_alloc G (.cells #[.int .i64 v4, .int .i64 4294967295, .int .i64 4294967296, .int .i64 (-1)] 2)
  go_wp2_with fail
  refine (l1Pick_ok w.heap.size a n ca zs 4 w4.heap.size 4 4 [v4, 4294967295, 4294967296, -1] _ SK hb hn hx (by omega) rfl (by omega) (by omega) (fun i hi => ?_) (by omega)).mono ?_
  · exact lit_cells w4 [v4, 4294967295, 4294967296, -1] _ _ (by simp) i hi
  rintro e w5 ⟨x5, rfl, hx5, S5, k5⟩
  replace G := grownBy_trans G k5
  clear k5 S SK
  have S := S5
  clear S5
  clear hx5
  go_wp2_with fail
  refine (l1Next_ok w.heap.size a n ca zs 5 99 _ S hb hn hx (by omega) (by omega)).mono ?_
  rintro e w6 ⟨v6, rfl, hv6, _, S6, k6⟩
  obtain ⟨p6, r6⟩ := hv6 (by omega)
  replace G := grownBy_trans G k6
  clear k6 hv6 S
  have S := S6
  clear S6
  have hsz7 : w.heap.size < w6.heap.size := S.1.1
  have SK := S.kept (belowA w6 (.cells #[.int .i64 v6, .int .i64 0, .int .i64 (-1)] 2))
  replace G := grown_alloc G (.cells #[.int .i64 v6, .int .i64 0, .int .i64 (-1)] 2)
  go_wp2_with fail
  refine (l1Pick_ok w.heap.size a n ca zs 6 w6.heap.size 3 3 [v6, 0, -1] _ SK hb hn hx (by omega) rfl (by omega) (by omega) (fun i hi => ?_) (by omega)).mono ?_
  · exact lit_cells w6 [v6, 0, -1] _ _ (by simp) i hi
  rintro e w7 ⟨x7, rfl, hx7, S7, k7⟩
  replace G := grownBy_trans G k7
  clear k7 S SK
  have S := S7
  clear S7
  clear hx7
  go_wp2_with fail
  refine (l1Next_ok w.heap.size a n ca zs 7 9 _ S hb hn hx (by omega) (by omega)).mono ?_
  rintro e w8 ⟨v8, rfl, hv8, _, S8, k8⟩
  obtain ⟨p8, r8⟩ := hv8 (by omega)
  replace G := grownBy_trans G k8
  clear k8 hv8 S
  have S := S8
  clear S8
  have hsz9 : w.heap.size < w8.heap.size := S.1.1
  have SK := S.kept (belowA w8 (.cells #[.int .i64 v8, .int .i64 0, .int .i64 (-1)] 2))
  replace G := grown_alloc G (.cells #[.int .i64 v8, .int .i64 0, .int .i64 (-1)] 2)
  go_wp2_with fail
  refine (l1Pick_ok w.heap.size a n ca zs 8 w8.heap.size 3 3 [v8, 0, -1] _ SK hb hn hx (by omega) rfl (by omega) (by omega) (fun i hi => ?_) (by omega)).mono ?_
  · exact lit_cells w8 [v8, 0, -1] _ _ (by simp) i hi
  rintro e w9 ⟨x9, rfl, hx9, S9, k9⟩
  replace G := grownBy_trans G k9
  clear k9 S SK
  have S := S9
  clear S9
  clear hx9
  go_wp2_with fail
  refine (l1Some_ok w.heap.size a n ca zs 9 m _ S hb hn hx (by omega) (by omega)).mono ?_
  rintro e w10 ⟨c, d, bs, rfl, hl, hbs, hO, S10, k10⟩
  have hcap := hO.cap
  rw [hl] at hcap
  have hO := Hid.mk (hO.mono G.size)
  have B := Hid.mk (Below.of_grown (grownBy_trans G k10))
  go_wp2
  (try simp only [Exit.inBlock, Exit.then])
  refine bodyPost_ret (results_tmp5 rfl _ _ _) rfl ?_
  exact ⟨x3, x5, x7, x9, some ⟨c, 0, none⟩, d, m, bs, rfl, hl, by omega, hcap, hbs, hO.out, B.out⟩

set_option maxRecDepth 20000 in
set_option maxHeartbeats 4000000 in
theorem drawDecodeFrame_ok (a : Option Addr) (n ca : Nat) (zs : List Int) (w : World) (ha : Rd .u8 w a zs) (hb : Bytes zs) (hn : zs.length = n) (hx : n ≤ 1048576) :
    Calls Try.prog 10 #[.slice a n ca] w fun e w' => ∃ (g d m : Nat) (ys : List Int), e = .returned (.slice (some ⟨g, 0, none⟩) m d) ∧ ys.length = m ∧ m ≤ 400 ∧ m ≤ d ∧ Bytes ys ∧ Rd .u8 w' (some ⟨g, 0, none⟩) ys ∧ Below w.heap.size w w' := by
  obtain ⟨i0, hi, j0, j1, j2⟩ := info_parts Try.info_u8
  have q1 := field_b1F
  replace hx : n ≤ 1048577 := by omega
  go_enter Try.func10, Try.ntmps10
  go_wp2_with (first | (go_at_call 39; go_in) | fail)
  have S := Src.new w a n ca zs 99 ha
  have G : w.grownBy (w.alloc (.cells #[.slice a n ca, .int .i64 0] 99)) (some w.heap.size) := Below.grownBy (belowA _ _) _
  go_wp2_with fail
  refine (l1Next_ok w.heap.size a n ca zs 0 9 _ S hb hn hx (by omega) (by omega)).mono ?_
  rintro e w1 ⟨v1, rfl, hv1, _, S1, k1⟩
  obtain ⟨p1, r1⟩ := hv1 (by omega)
  replace G := grownBy_trans G k1
  clear k1 hv1 S
  have S := S1
  clear S1
  go_wp2_with fail
  refine (l1Next_ok w.heap.size a n ca zs 1 99 _ S hb hn hx (by omega) (by omega)).mono ?_
  rintro e w2 ⟨v2, rfl, hv2, _, S2, k2⟩
  obtain ⟨p2, r2⟩ := hv2 (by omega)
  replace G := grownBy_trans G k2
  clear k2 hv2 S
  have S := S2
  clear S2
  go_wp2_with fail
  refine (l1Next_ok w.heap.size a n ca zs 2 99 _ S hb hn hx (by omega) (by omega)).mono ?_
  rintro e w3 ⟨v3, rfl, hv3, _, S3, k3⟩
  obtain ⟨p3, r3⟩ := hv3 (by omega)
  replace G := grownBy_trans G k3
  clear k3 hv3 S
  have S := S3
  clear S3
  go_wp2_with fail
  refine (l1Next_ok w.heap.size a n ca zs 3 9 _ S hb hn hx (by omega) (by omega)).mono ?_
  rintro e w4 ⟨v4, rfl, hv4, _, S4, k4⟩
  obtain ⟨p4, r4⟩ := hv4 (by omega)
  replace G := grownBy_trans G k4
  clear k4 hv4 S
  have S := S4
  clear S4
  go_wp2_with fail
  refine (l1Next_ok w.heap.size a n ca zs 4 9 _ S hb hn hx (by omega) (by omega)).mono ?_
  rintro e w5 ⟨v5, rfl, hv5, _, S5, k5⟩
  obtain ⟨p5, r5⟩ := hv5 (by omega)
  replace G := grownBy_trans G k5
  clear k5 hv5 S
  have S := S5
  clear S5
  have hsz6 : w.heap.size < w5.heap.size := S.1.1
  have SK := S.kept (belowA w5 (.cells #[.int .i64 v5, .int .i64 300] 2))
  replace G := grown_alloc G (.cells #[.int .i64 v5, .int .i64 300] 2)
  go_wp2_with fail
  refine (l1Pick_ok w.heap.size a n ca zs 5 w5.heap.size 2 2 [v5, 300] _ SK hb hn hx (by omega) rfl (by omega) (by omega) (fun i hi => ?_) (by omega)).mono ?_
  · exact lit_cells w5 [v5, 300] _ _ (by simp) i hi
  rintro e w6 ⟨x6, rfl, hx6, S6, k6⟩
  replace G := grownBy_trans G k6
  clear k6 S SK
  have S := S6
  clear S6
  have hm : 0 ≤ x6 ∧ x6 ≤ 300 := by
    simp at hx6
    rcases hx6 with rfl | rfl <;> omega
  obtain ⟨hm1, hm2⟩ := hm
  obtain ⟨m, rfl⟩ := Int.eq_ofNat_of_zero_le hm1
  clear hx6
  go_wp2_with fail
  refine (l1Some_ok w.heap.size a n ca zs 6 m _ S hb hn hx (by omega) (by omega)).mono ?_
  rintro e w7 ⟨c, d, bs, rfl, hl, hbs, hO, S7, k7⟩
  replace G := grownBy_trans G k7
  clear k7 S
  have S := S7
  clear S7
  have CE := specEncodeFrame_ok (1 + v1) v2 v3 v4 (some ⟨c, 0, none⟩) m d bs w7 hO.rd hl (by unfold maxLen; omega) (fun h => by cases h)
  have hC : frmB (1 + v1) v2 v3 v4 bs = frmP (1 + v1) v2 v3 v4 bs := by
    have b1 : btw (1 + v1) 1 9 = true := btw_iff.2 ⟨by omega, by omega⟩
    have b2 : btw v2 0 4294967295 = true := btw_iff.2 ⟨by omega, by omega⟩
    have b3 : btw v3 0 4294967295 = true := btw_iff.2 ⟨by omega, by omega⟩
    have b4 : btw v4 0 4294967295 = true := btw_iff.2 ⟨by omega, by omega⟩
    rcases fr_ways (1 + v1) v2 v3 v4 bs with ⟨h, _⟩ | ⟨_, h, _⟩ | ⟨_, _, h, _⟩ | ⟨_, _, _, h, _⟩ | ⟨_, _, _, _, h, _⟩ | ⟨_, _, _, _, _, _, h⟩
    · rw [b1] at h; cases h
    · rw [b2] at h; cases h
    · rw [b3] at h; cases h
    · rw [b4] at h; cases h
    · omega
    · exact h
  have hYb : Bytes (frmB (1 + v1) v2 v3 v4 bs) := frmB_bytes hbs
  rw [hC] at CE hYb
  have hNl := frmP_len (1 + v1) v2 v3 v4 bs
  generalize frmP (1 + v1) v2 v3 v4 bs = Y at *
  generalize frmC (1 + v1) v2 v3 v4 bs = kc at *
  obtain ⟨N, hY⟩ : ∃ N, Y.length = N := ⟨_, rfl⟩
  rw [hY] at CE hNl
  have hN1 : 16 ≤ N := by omega
  have hN2 : N ≤ 316 := by omega
  have HY := Hid.mk hY
  replace CE := Hid.mk CE
  have hBw : w.heap.size < w7.heap.size := S.1.1
  clear hY hC hO hl hbs hNl
  go_wp2_with fail
  refine CE.out.mono ?_
  rintro e w8 ⟨c8, d8, rfl, O, b8⟩
  obtain ⟨g, rfl, hg⟩ := O.some_of (by rw [HY.out]; omega)
  replace S := S.kept b8
  replace G := grownBy_trans G (Below.grownBy b8 _)
  have hcap := O.cap
  rw [HY.out] at hcap
  clear b8 CE
  go_wp2_with fail
  refine (l1Chance_ok w.heap.size a n ca zs (6 + 3 * m) 2 _ S hb hn hx (by omega) (by omega)).mono ?_
  rintro e w9 ⟨v9, rfl, S9, k9⟩
  replace O := O.past k9 (by omega)
  replace G := grownBy_trans G k9
  clear k9 S
  have S := S9
  clear S9
  cases v9
  · have B := Hid.mk (Below.of_grown G)
    go_wp2
    go_ret
    exact ⟨g, d8, N, Y, rfl, HY.out, by omega, by omega, hYb, O.rd, B.out⟩
  go_wp2_with fail
  refine (l1Next_ok w.heap.size a n ca zs (6 + 3 * m + 1) (N : Int) _ S hb hn hx (by omega) (by omega)).mono ?_
  rintro e w10 ⟨i, rfl, hi5, _, S10, k10⟩
  obtain ⟨hi1, hi2⟩ := hi5 (by omega)
  obtain ⟨i, rfl⟩ := Int.eq_ofNat_of_zero_le hi1
  have hi3 : i < N := by omega
  replace O := O.past k10 (by omega)
  replace G := grownBy_trans G k10
  clear k10 S
  have S := S10
  clear S10
  go_wp2_with fail
  refine (l1Next_ok w.heap.size a n ca zs (6 + 3 * m + 1 + 1) 3 _ S hb hn hx (by omega) (by omega)).mono ?_
  rintro e w11 ⟨k, rfl, hk6, _, S11, k11⟩
  obtain ⟨hk1, hk2⟩ := hk6 (by omega)
  replace O := O.past k11 (by omega)
  replace G := grownBy_trans G k11
  clear k11 S
  have S := S11
  clear S11
  rcases (by omega : k = 0 ∨ k = 1 ∨ k = 2) with rfl | rfl | rfl
  · go_wp2_with fail
    refine (l1Next_ok w.heap.size a n ca zs (6 + 3 * m + 1 + 1 + 1) 256 _ S hb hn hx (by omega) (by omega)).mono ?_
    rintro e w12 ⟨v12, rfl, h7, _, S12, k12⟩
    have h7 := h7 (by omega)
    replace O := O.past k12 (by omega)
    replace G := grownBy_trans G k12
    have hw7 : IntKind.u8.wrap v12 = v12 := by rw [IntKind.wrap_u8]; omega
    have hil : (i : Int) < (N : Int) := by omega
    have fg := O.cellAt8 i (by rw [HY.out]; exact hi3)
    have zg := O.frozenAt8 i
    have HF := Hid.mk (And.intro (O.store8 i v12).rd (Below.of_grown (grownSetF G (p := ⟨g, i, none⟩) (by have := (O.lt _ rfl).1; simp at this ⊢; omega) (.int .u8 v12))))
    generalize Y.getD i 0 = u at *
    clear O G S
    go_wp2
    go_ret
    exact ⟨g, d8, N, Y.set i v12, rfl, by rw [List.length_set]; exact HY.out, by omega, by omega, hYb.set8 i h7, HF.out.1, HF.out.2⟩
  · have HF := Hid.mk (And.intro (Rd.take8 O.rd i) (Below.of_grown G))
    have hiN : (i : Int) ≤ (d8 : Int) := by omega
    go_wp2
    go_ret
    exact ⟨g, d8, i, Y.take i, rfl, by rw [List.length_take, HY.out]; omega, by omega, by omega, (fun z hz => hYb z (List.mem_of_mem_take hz)), HF.out.1, HF.out.2⟩
  · have O7 := O.kept (belowA w11 (.cells #[.int .u8 0] 5))
    replace G := grown_alloc G (.cells #[.int .u8 0] 5)
    go_wp2_with (at_builtin; go_loud (refine wpList_put _ rfl _ _ 22 rfl w7.heap.size 5 i0 Try.underlying22 hi j0 j1 j2 _ _ N _ rfl O7 HY.out _ 1 1 [0] rfl (Rd.lit w11 5 [0]) rfl (fun h => by cases h) (N + 1) (Y ++ [0]) (by omega) (by rfl) (by omega) (by have := O7.lt _ rfl; simp at this ⊢; omega) ?_))
    intro c7 d7 w7' O8 b7
    obtain ⟨g8, rfl, hg8⟩ := O8.some_of (by simp)
    have h8 := O8.cap
    rw [List.length_append, HY.out] at h8
    have HF := Hid.mk (And.intro O8.rd (Below.of_grown (grownBelowF G (b7.mono (by omega)))))
    clear b7 O8 G
    go_wp2
    go_ret
    exact ⟨g8, d7, N + 1, Y ++ [0], rfl, by rw [List.length_append, HY.out]; rfl, by omega, by simpa using h8, (fun z hz => by rcases List.mem_append.1 hz with h | h; exact hYb z h; simp at h; omega), HF.out.1, HF.out.2⟩

end Go.Proofs.Ytfldgeokigcokaa
