/- The draws of a window and a number, of a window and a list. -/
import Derived.Test.YtkpdbdcfimdnjaaWnJ
import Derived.OwnWalk
import Derived.Laws.OwnMore
namespace Go.Proofs.Ytkpdbdcfimdnjaa
open Go.RowKit

theorem grownRowW {w w1 w2 : World} {B : Nat} {row : Option Nat} (h : w.grownBy w1 (some B)) (g : w1.grownBy w2 row) (hr : ∀ q, row = some q → w.heap.size ≤ q) : w.grownBy w2 (some B) :=
  ⟨g.os.trans h.os, g.tape.trans h.tape, g.output.trans h.output, Nat.le_trans h.size g.size, fun k hk hk2 => (g.block k (Nat.lt_of_lt_of_le hk h.size) (fun e => by have := hr k e.symm; omega)).trans (h.block k hk hk2)⟩

theorem Dw.row {w : World} {B : Nat} {a : Option Addr} {n ca : Nat} {zs : List Int} {A P : Nat} {y : Wn} {q : Nat} {wx w' : World} {c : Option Addr} (h : Dw w B a n ca zs A P y q wx) (g : wx.grownBy w' (c.map Addr.block)) (hc : ∀ b : Addr, c = some b → P < b.block) : Dw w B a n ca zs A P y q w' := by
  have hs := h.sep
  have hr : ∀ k, c.map Addr.block = some k → P < k := by
    intro k hk
    cases c with
    | none => cases hk
    | some b => simp only [Option.map_some, Option.some.injEq] at hk; subst hk; exact hc b rfl
  exact ⟨h.res.grownR g (fun e => by have := hr _ e; omega), h.var.grownR g (fun e => by have := hr _ e; omega), h.src.grownAway g (fun k hk => by have := hr k hk; omega), grownRowW h.gro g (fun k hk => by have := hr k hk; omega), hs⟩

theorem Dw.bel {w : World} {B : Nat} {a : Option Addr} {n ca : Nat} {zs : List Int} {A P : Nat} {y : Wn} {q : Nat} {wx : World} (h : Dw w B a n ca zs A P y q wx) (hB : w.heap.size ≤ B) : Below w.heap.size w wx :=
  (Below.refl _ _).grown h.gro (Nat.le_refl _) (fun k hk => by simp at hk; omega)

theorem results_row_nW {fn : Func} {t s : Tmp} {ty : TypeId} (h : fn.results = #[.cell t ty, .tmp s]) (tmps : Array Value) (w : World) (B : Nat) (vs : List Value) (d : TypeDesc) (v : Value) (ht : tmps.getD t undef = .pointer (some ⟨B, 0, none⟩)) (hv : V w B vs)
    (hu : Try.prog.underlying ty = some d) (hd : d.isRow = true) (hi : (Try.prog.info? ty).map (·.size) = some vs.length) (hs : tmps.getD s undef = v) : (results fn tmps).run Try.prog w = .ok (.tuple #[.agg vs.toArray, v]) w := by
  have hl := run_loadVar_mid (P := Try.prog) w B 0 ty vs d (fun j v hj => by rw [Nat.zero_add, hv.2.1 j (List.getElem?_eq_some_iff.1 hj).1]; exact hj) hu hd hi
  have ht2 : tmps[t]?.getD undef = Value.pointer (some ⟨B, 0, none⟩) := by simpa using ht
  have hs2 : tmps[s]?.getD undef = v := by simpa using hs
  simp [results, h, ht2, hs2, asAddr, hl]

set_option maxRecDepth 20000 in
set_option maxHeartbeats 16000000 in
theorem l10With_ok (a : Option Addr) (n ca : Nat) (zs : List Int) (w : World) (ha : Rd .u8 w a zs) (hb : Bytes zs) (hn : zs.length = n) (hx : n ≤ 1048577) :
    Calls Try.prog 50 #[.slice a n ca] w fun e w' => ∃ (y : Wn) (s : Int), e = .returned (.tuple #[.agg #[.int .i64 y.t, .int .i64 y.b], .int .i64 s]) ∧ okY y ∧ (-9223372036854775808 ≤ s ∧ s ≤ 9223372036854775807) ∧ Below w.heap.size w w' := by
  have W1V : V ((w.alloc (.cells #[.int .i64 0, .int .i64 0] 25)).alloc (.cells #[.slice a n ca, .int .i64 0] 69)) w.heap.size [.int .i64 0, .int .i64 0] := (V.newAt _ _ _ _ rfl).kept (belowA _ _)
  have S0 : Src ((w.alloc (.cells #[.int .i64 0, .int .i64 0] 25)).alloc (.cells #[.slice a n ca, .int .i64 0] 69)) (w.heap.size + 1) a n ca zs 0 := by have h := Src.new (w.alloc (.cells #[.int .i64 0, .int .i64 0] 25)) a n ca zs 69 (ha.kept (belowA _ _)); simpa only [World.size_alloc] using h
  have G0 : w.grownBy ((w.alloc (.cells #[.int .i64 0, .int .i64 0] 25)).alloc (.cells #[.slice a n ca, .int .i64 0] 69)) (some (w.heap.size + 1)) := grown_alloc (grown_alloc (World.grownBy.refl _ _) _) _
  clear ha
  go_enter Try.func50, Try.ntmps50
  go_wp2_with (first | (go_at_call 39; go_in) | fail)
  refine (l10Window_ok (w.heap.size + 1) a n ca zs 0 _ S0 hb hn hx (by omega)).mono ?_
  rintro e w1 ⟨y, q, rfl, hy, hq, S1, g1⟩
  have hs1 := S1.1.1
  have D1 : Dw w (w.heap.size + 1) a n ca zs w.heap.size w1.heap.size y q (w1.alloc (.cells #[.int .i64 y.t, .int .i64 y.b] 25)) :=
    ⟨(W1V.grownB g1 (by omega)).kept (belowA _ _), V.new _ _ _, S1.kept (belowA _ _), grown_alloc (grownBy_trans G0 g1) _, by omega⟩
  clear W1V S0 G0 S1 g1
  obtain ⟨⟨y1, y2⟩, y3, y4⟩ := id hy
  go_upto_region 3 with fail
  generalize hW : w1.alloc (.cells #[.int .i64 y.t, .int .i64 y.b] 25) = wa at *
  generalize hP : w1.heap.size = P at *
  clear hW hP
  have DD := D1.kept (Below.refl _ _).drew
  clear D1
  refine wp_region_held_drew (S := (fun w' => w'.cell? ⟨P, 0, none⟩ = some (.int .i64 y.t) ∧ w'.cell? ⟨P, 1, none⟩ = some (.int .i64 y.b))) (by kernel_rfl) ⟨DD.var.2.1 0 (by simp), DD.var.2.1 1 (by simp)⟩ (fun hHeld => ?_)
  generalize hwd : World.drew _ = wd at *
  clear hwd
  have hw1 : IntKind.i64.wrap (y.t + 1) = y.t + 1 := wrapW (by omega) (by omega)
  refine wpAnyH_take (i := 0) (oi := _) (v := ?vkw1) rfl (by kernel_rfl) (by kernel_rfl) (by kernel_rfl) (fun _ _ _ h => h) (Or.inl ⟨by rfl, ?hykw1⟩) hHeld ?restkw1
  case hykw1 => (intro w hSw; (try dsimp only at hSw); go_simp; first | done | with_reducible rfl)
  try simp only [Act.put, List.getElem_toArray, List.getElem_cons_zero, List.setIfInBounds_toArray, List.set_cons_zero, List.set_cons_succ]
  refine wpAnyH_take (i := 1) (oi := _) (v := ?vkw2) rfl (by kernel_rfl) (by kernel_rfl) (by kernel_rfl) (fun _ _ _ h => h) (Or.inl ⟨by rfl, ?hykw2⟩) hHeld ?restkw2
  case hykw2 => (intro w hSw; (try dsimp only at hSw); go_simp; first | done | with_reducible rfl)
  try simp only [Act.put, List.getElem_toArray, List.getElem_cons_zero, List.getElem_cons_succ, List.setIfInBounds_toArray, List.set_cons_zero, List.set_cons_succ]
  refine wpAnyH_take (i := 2) (oi := _) (v := ?vkw3) rfl (by kernel_rfl) (by kernel_rfl) (by kernel_rfl) (fun _ _ _ h => h) (Or.inl ⟨by rfl, ?hykw3⟩) hHeld ?restkw3
  case hykw3 => (intro w hSw; (try dsimp only at hSw); go_simp; first | done | with_reducible rfl)
  try simp only [Act.put, List.getElem_toArray, List.getElem_cons_zero, List.getElem_cons_succ, List.setIfInBounds_toArray, List.set_cons_zero, List.set_cons_succ]
  refine wpAnyH_take (i := 3) (oi := _) (v := ?vkw4) rfl (by kernel_rfl) (by kernel_rfl) (by kernel_rfl) (fun _ _ _ h => h) (Or.inl ⟨by rfl, ?hykw4⟩) hHeld ?restkw4
  case hykw4 => (intro w hSw; (try dsimp only at hSw); go_simp; first | done | with_reducible rfl)
  try simp only [Act.put, List.getElem_toArray, List.getElem_cons_zero, List.getElem_cons_succ, List.setIfInBounds_toArray, List.set_cons_zero, List.set_cons_succ]
  refine wpAnyH_take (i := 4) (oi := _) (v := ?vkw5) rfl (by kernel_rfl) (by kernel_rfl) (by kernel_rfl) (fun _ _ _ h => h) (Or.inl ⟨by rfl, ?hykw5⟩) hHeld ?restkw5
  case hykw5 => (intro w hSw; (try dsimp only at hSw); go_simp; first | done | with_reducible rfl)
  try simp only [Act.put, List.getElem_toArray, List.getElem_cons_zero, List.getElem_cons_succ, List.setIfInBounds_toArray, List.set_cons_zero, List.set_cons_succ]
  refine wpAnyH_take (i := 5) (oi := _) (v := ?vkw6) rfl (by kernel_rfl) (by kernel_rfl) (by kernel_rfl) (fun _ _ _ h => h) (Or.inl ⟨by rfl, ?hykw6⟩) hHeld ?restkw6
  case hykw6 => (intro w hSw; (try dsimp only at hSw); go_simp; first | done | with_reducible rfl)
  try simp only [Act.put, List.getElem_toArray, List.getElem_cons_zero, List.getElem_cons_succ, List.setIfInBounds_toArray, List.set_cons_zero, List.set_cons_succ]
  refine wpAnyH_take (i := 8) (oi := _) (v := ?vkw7) rfl (by kernel_rfl) (by kernel_rfl) (by kernel_rfl) (fun _ _ _ h => h) (Or.inl ⟨by rfl, ?hykw7⟩) hHeld ?restkw7
  case hykw7 => (intro w hSw; (try dsimp only at hSw); go_simp; first | done | with_reducible rfl)
  try simp only [Act.put, List.getElem_toArray, List.getElem_cons_zero, List.getElem_cons_succ, List.setIfInBounds_toArray, List.set_cons_zero, List.set_cons_succ]
  refine wpAnyH_take (i := 9) (oi := _) (v := ?vkw8) rfl (by kernel_rfl) (by kernel_rfl) (by kernel_rfl) (fun _ _ _ h => h) (Or.inl ⟨by rfl, ?hykw8⟩) hHeld ?restkw8
  case hykw8 => (intro w hSw; (try dsimp only at hSw); go_simp; first | done | with_reducible rfl)
  try simp only [Act.put, List.getElem_toArray, List.getElem_cons_zero, List.getElem_cons_succ, List.setIfInBounds_toArray, List.set_cons_zero, List.set_cons_succ]
  refine wpAnyH_take (i := 10) (oi := _) (v := ?vkw9) rfl (by kernel_rfl) (by kernel_rfl) (by kernel_rfl) (fun _ _ _ h => h) (Or.inl ⟨by rfl, ?hykw9⟩) hHeld ?restkw9
  case hykw9 => (intro w hSw; (try dsimp only at hSw); go_simp; first | done | with_reducible rfl)
  try simp only [Act.put, List.getElem_toArray, List.getElem_cons_zero, List.getElem_cons_succ, List.setIfInBounds_toArray, List.set_cons_zero, List.set_cons_succ]
  refine wpAnyH_take (i := 13) (oi := _) (v := ?vkw10) rfl (by kernel_rfl) (by kernel_rfl) (by kernel_rfl) (fun _ _ _ h => h) (Or.inl ⟨by rfl, ?hykw10⟩) hHeld ?restkw10
  case hykw10 => (intro w hSw; (try dsimp only at hSw); go_simp; first | done | with_reducible rfl)
  try simp only [Act.put, List.getElem_toArray, List.getElem_cons_zero, List.getElem_cons_succ, List.setIfInBounds_toArray, List.set_cons_zero, List.set_cons_succ]
  refine wpAnyH_take (i := 14) (oi := _) (v := ?vkw11) rfl (by kernel_rfl) (by kernel_rfl) (by kernel_rfl) (fun _ _ _ h => h) (Or.inl ⟨by rfl, ?hykw11⟩) hHeld ?restkw11
  case hykw11 => (intro w hSw; (try dsimp only at hSw); go_simp; first | done | with_reducible rfl)
  try simp only [Act.put, List.getElem_toArray, List.getElem_cons_zero, List.getElem_cons_succ, List.setIfInBounds_toArray, List.set_cons_zero, List.set_cons_succ]
  refine wpAnyH_take (i := 15) (oi := _) (v := ?vkw12) rfl (by kernel_rfl) (by kernel_rfl) (by kernel_rfl) (fun _ _ _ h => h) (Or.inl ⟨by rfl, ?hykw12⟩) hHeld ?restkw12
  case hykw12 => (intro w hSw; (try dsimp only at hSw); go_simp; first | done | with_reducible rfl)
  try simp only [Act.put, List.getElem_toArray, List.getElem_cons_zero, List.getElem_cons_succ, List.setIfInBounds_toArray, List.set_cons_zero, List.set_cons_succ]
  refine wpAnyH_take (i := 18) (oi := _) (v := ?vkw13) rfl (by kernel_rfl) (by kernel_rfl) (by kernel_rfl) (fun _ _ _ h => h) (Or.inl ⟨by rfl, ?hykw13⟩) hHeld ?restkw13
  case hykw13 => (intro w hSw; (try dsimp only at hSw); go_simp; first | done | with_reducible rfl)
  try simp only [Act.put, List.getElem_toArray, List.getElem_cons_zero, List.getElem_cons_succ, List.setIfInBounds_toArray, List.set_cons_zero, List.set_cons_succ]
  refine wpAnyH_take (i := 19) (oi := _) (v := ?vkw14) rfl (by kernel_rfl) (by kernel_rfl) (by kernel_rfl) (fun _ _ _ h => h) (Or.inl ⟨by rfl, ?hykw14⟩) hHeld ?restkw14
  case hykw14 => (intro w hSw; (try dsimp only at hSw); go_simp; first | done | with_reducible rfl)
  try simp only [Act.put, List.getElem_toArray, List.getElem_cons_zero, List.getElem_cons_succ, List.setIfInBounds_toArray, List.set_cons_zero, List.set_cons_succ]
  refine wpAnyH_ready (rs := [6]) (by kernel_rfl) (by simp) ?_
  refine AllReadyH.cons (o := _) rfl (fun K0 hK0 => ?_) AllReadyH.nil
  go_simp
  go_at_call 41
  refine (l1Next_ok (w.heap.size + 1) a n ca zs (q) 9 _ DD.src hb hn hx (by omega) (by omega)).mono ?_
  rintro e w2 ⟨v1, rfl, hv, _, S9, g9⟩
  obtain ⟨hv11, hv12⟩ := hv (by omega)
  replace DD := DD.drawn g9 S9
  clear hv g9 S9
  refine hK0.out _ _ ⟨DD.var.2.1 0 (by simp), DD.var.2.1 1 (by simp)⟩ (fun hHeld => ?_)
  clear hK0 K0
  try simp only [Act.put, List.getElem_toArray, List.getElem_cons_zero, List.getElem_cons_succ, List.setIfInBounds_toArray, List.set_cons_zero, List.set_cons_succ]
  have hw2 : IntKind.i64.wrap (y.t + 1 + v1) = y.t + 1 + v1 := wrapW (by omega) (by omega)
  refine wpAnyH_take (i := 7) (oi := _) (v := ?vkw15) rfl (by kernel_rfl) (by kernel_rfl) (by kernel_rfl) (fun _ _ _ h => h) (Or.inl ⟨by rfl, ?hykw15⟩) hHeld ?restkw15
  case hykw15 => (intro w hSw; (try dsimp only at hSw); go_simp; first | done | with_reducible rfl)
  try simp only [Act.put, List.getElem_toArray, List.getElem_cons_zero, List.getElem_cons_succ, List.setIfInBounds_toArray, List.set_cons_zero, List.set_cons_succ]
  refine wpAnyH_ready (rs := [11]) (by kernel_rfl) (by simp) ?_
  refine AllReadyH.cons (o := _) rfl (fun K0 hK0 => ?_) AllReadyH.nil
  go_simp
  go_at_call 41
  refine (l1Next_ok (w.heap.size + 1) a n ca zs (q + 1) 40 _ DD.src hb hn hx (by omega) (by omega)).mono ?_
  rintro e w3 ⟨v2, rfl, hv, _, S9, g9⟩
  obtain ⟨hv21, hv22⟩ := hv (by omega)
  replace DD := DD.drawn g9 S9
  clear hv g9 S9
  refine hK0.out _ _ ⟨DD.var.2.1 0 (by simp), DD.var.2.1 1 (by simp)⟩ (fun hHeld => ?_)
  clear hK0 K0
  try simp only [Act.put, List.getElem_toArray, List.getElem_cons_zero, List.getElem_cons_succ, List.setIfInBounds_toArray, List.set_cons_zero, List.set_cons_succ]
  have hw3 : IntKind.i64.wrap (y.t - v2) = y.t - v2 := wrapW (by omega) (by omega)
  refine wpAnyH_take (i := 12) (oi := _) (v := ?vkw16) rfl (by kernel_rfl) (by kernel_rfl) (by kernel_rfl) (fun _ _ _ h => h) (Or.inl ⟨by rfl, ?hykw16⟩) hHeld ?restkw16
  case hykw16 => (intro w hSw; (try dsimp only at hSw); go_simp; first | done | with_reducible rfl)
  try simp only [Act.put, List.getElem_toArray, List.getElem_cons_zero, List.getElem_cons_succ, List.setIfInBounds_toArray, List.set_cons_zero, List.set_cons_succ]
  refine wpAnyH_ready (rs := [16]) (by kernel_rfl) (by simp) ?_
  refine AllReadyH.cons (o := _) rfl (fun K0 hK0 => ?_) AllReadyH.nil
  go_simp
  go_at_call 41
  refine (l1Next_ok (w.heap.size + 1) a n ca zs (q + 1 + 1) 50 _ DD.src hb hn hx (by omega) (by omega)).mono ?_
  rintro e w4 ⟨v3, rfl, hv, _, S9, g9⟩
  obtain ⟨hv31, hv32⟩ := hv (by omega)
  replace DD := DD.drawn g9 S9
  clear hv g9 S9
  refine hK0.out _ _ ⟨DD.var.2.1 0 (by simp), DD.var.2.1 1 (by simp)⟩ (fun hHeld => ?_)
  clear hK0 K0
  try simp only [Act.put, List.getElem_toArray, List.getElem_cons_zero, List.getElem_cons_succ, List.setIfInBounds_toArray, List.set_cons_zero, List.set_cons_succ]
  have hw4 : IntKind.i64.wrap (y.t + v3) = y.t + v3 := wrapW (by omega) (by omega)
  refine wpAnyH_take (i := 17) (oi := _) (v := ?vkw17) rfl (by kernel_rfl) (by kernel_rfl) (by kernel_rfl) (fun _ _ _ h => h) (Or.inl ⟨by rfl, ?hykw17⟩) hHeld ?restkw17
  case hykw17 => (intro w hSw; (try dsimp only at hSw); go_simp; first | done | with_reducible rfl)
  try simp only [Act.put, List.getElem_toArray, List.getElem_cons_zero, List.getElem_cons_succ, List.setIfInBounds_toArray, List.set_cons_zero, List.set_cons_succ]
  have hsz4 : w.heap.size + 1 < w4.heap.size := DD.src.1.1
  refine wpAnyH_ready (rs := [20]) (by kernel_rfl) (by simp) ?_
  refine AllReadyH.cons (o := _) rfl (fun K0 hK0 => ?_) AllReadyH.nil
  go_simp
  have HC := lit_cells w4 [y.t + 1 + v1, y.t - v2, y.t + v3, y.t, 0, 1099511627776, 1099511627777, -9223372036854775808] #[.int .i64 (y.t + 1 + v1), .int .i64 (y.t - v2), .int .i64 (y.t + v3), .int .i64 (y.t), .int .i64 (0), .int .i64 (1099511627776), .int .i64 (1099511627777), .int .i64 (-9223372036854775808)] 2 (by simp)
  replace DD := DD.kept (belowA w4 (.cells #[.int .i64 (y.t + 1 + v1), .int .i64 (y.t - v2), .int .i64 (y.t + v3), .int .i64 (y.t), .int .i64 (0), .int .i64 (1099511627776), .int .i64 (1099511627777), .int .i64 (-9223372036854775808)] 2))
  have hne : w4.heap.size ≠ w.heap.size + 1 := by have := hsz4; omega
  refine hK0.out _ _ ⟨DD.var.2.1 0 (by simp), DD.var.2.1 1 (by simp)⟩ (fun hHeld => ?_)
  clear hK0 K0
  try simp only [Act.put, List.getElem_toArray, List.getElem_cons_zero, List.getElem_cons_succ, List.setIfInBounds_toArray, List.set_cons_zero, List.set_cons_succ]
  refine wpAnyH_ready (rs := [21]) (by kernel_rfl) (by simp) ?_
  refine AllReadyH.cons (o := _) rfl (fun K0 hK0 => ?_) AllReadyH.nil
  go_simp
  go_at_call 56
  refine (l1Pick_ok (w.heap.size + 1) a n ca zs (q + 1 + 1 + 1) w4.heap.size 8 8 [y.t + 1 + v1, y.t - v2, y.t + v3, y.t, 0, 1099511627776, 1099511627777, -9223372036854775808] _ DD.src hb hn hx (by omega) rfl (by omega) (by omega) (fun i hi => HC i hi) hne).mono ?_
  rintro e w5 ⟨s, rfl, hs, S9, g9⟩
  have hs2 : -9223372036854775808 ≤ s ∧ s ≤ 9223372036854775807 := by simp only [List.mem_cons, List.not_mem_nil, or_false] at hs; omega
  replace DD := DD.drawn g9 S9
  clear hs g9 S9 HC
  refine hK0.out _ _ ⟨DD.var.2.1 0 (by simp), DD.var.2.1 1 (by simp)⟩ (fun hHeld => ?_)
  clear hK0 K0
  try simp only [Act.put, List.getElem_toArray, List.getElem_cons_zero, List.getElem_cons_succ, List.setIfInBounds_toArray, List.set_cons_zero, List.set_cons_succ]
  have HT := Hid.mk DD.res.there
  have VF := DD.res.filled [.int .i64 y.t, .int .i64 y.b] rfl
  have AV := DD.var.apart (B := w.heap.size) (by have := DD.sep; omega) 0 [.int .i64 y.t, .int .i64 y.b]
  have BT := belowCells (DD.bel (by omega)) (Nat.le_refl _) 0 [.int .i64 y.t, .int .i64 y.b]
  obtain ⟨w6, hw6⟩ : ∃ w6, w5.setCells w.heap.size 0 [.int .i64 y.t, .int .i64 y.b] = w6 := ⟨_, rfl⟩
  rw [hw6] at VF AV BT
  replace hw6 := Hid.mk hw6
  clear DD
  refine wpAnyH_ready (rs := [22]) (by kernel_rfl) (by simp) ?_
  refine AllReadyH.cons (o := _) rfl (fun K0 hK0 => ?_) AllReadyH.nil
  rw [if_pos (by rfl)]
  refine wp_strokeG w6 25 _ _ rfl w.heap.size 0 #[.int .i64 y.t, .int .i64 y.b] rfl rfl HT.out (by kernel_rfl) (by kernel_rfl) hw6.out ?_
  refine hK0.out _ _ ⟨AV.2.1 0 (by simp), AV.2.1 1 (by simp)⟩ (fun hHeld => ?_)
  clear hK0 K0 HT AV
  try simp only [Act.put, List.getElem_toArray, List.getElem_cons_zero, List.getElem_cons_succ]
  refine wpAnyH_take (i := 23) (oi := _) (v := ?vkw18) rfl (by kernel_rfl) (by kernel_rfl) (by kernel_rfl) (fun _ _ _ h => h) (Or.inl ⟨by rfl, ?hykw18⟩) hHeld ?restkw18
  case hykw18 => (intro w hSw; (try dsimp only at hSw); go_simp; first | done | with_reducible rfl)
  try simp only [Act.put, List.getElem_toArray, List.getElem_cons_zero, List.getElem_cons_succ, List.setIfInBounds_toArray, List.set_cons_zero, List.set_cons_succ]
  refine wpAnyH_done (by kernel_rfl) ?_ _
  replace VF := Hid.mk VF
  replace BT := Hid.mk BT
  clear hHeld
  go_wp2
  refine bodyPost_ret (v := .tuple #[.agg #[.int .i64 y.t, .int .i64 y.b], .int .i64 s]) (results_row_nW Try.results50 _ _ (w.heap.size) [.int .i64 y.t, .int .i64 y.b] _ _ rfl VF.out Try.underlying25 rfl (by kernel_rfl) rfl) rfl ⟨y, s, rfl, hy, hs2, BT.out⟩

set_option maxRecDepth 20000 in
set_option maxHeartbeats 8000000 in
theorem drawTakeSeq_ok (a : Option Addr) (n ca : Nat) (zs : List Int) (w : World) (ha : Rd .u8 w a zs) (hb : Bytes zs) (hn : zs.length = n) (hx : n ≤ 1048577) :
    Calls Try.prog 21 #[.slice a n ca] w fun e w' => ∃ (y : Wn) (s : Int), e = .returned (.tuple #[.agg #[.int .i64 y.t, .int .i64 y.b], .int .i64 s]) ∧ okY y ∧ (-9223372036854775808 ≤ s ∧ s ≤ 9223372036854775807) ∧ Below w.heap.size w w' := by
  have VR : V (w.alloc (.cells #[.int .i64 0, .int .i64 0] 25)) w.heap.size [.int .i64 0, .int .i64 0] := V.newAt _ _ _ _ rfl
  have hr := ha.kept (belowA w (.cells #[.int .i64 0, .int .i64 0] 25))
  have B0 := belowA w (.cells #[.int .i64 0, .int .i64 0] 25)
  clear ha
  go_enter Try.func21, Try.ntmps21
  go_wp2_with fail
  refine (l10With_ok a n ca zs _ hr hb hn hx).mono ?_
  rintro e w1 ⟨y, s, rfl, hy, hs, b1⟩
  replace VR := VR.kept b1
  replace B0 := thenB B0 b1
  clear b1 hr
  have HT := Hid.mk VR.there
  have VF := VR.filled [.int .i64 y.t, .int .i64 y.b] rfl
  have BT := belowCells B0 (Nat.le_refl _) 0 [.int .i64 y.t, .int .i64 y.b]
  obtain ⟨w6, hw6⟩ : ∃ w6, w1.setCells w.heap.size 0 [.int .i64 y.t, .int .i64 y.b] = w6 := ⟨_, rfl⟩
  rw [hw6] at VF BT
  replace hw6 := Hid.mk hw6
  replace VF := Hid.mk VF
  replace BT := Hid.mk BT
  clear VR B0
  go_wp2_with (refine wpList_stroke w6 rfl 25 _ _ rfl w.heap.size 0 #[.int .i64 y.t, .int .i64 y.b] rfl rfl HT.out (by kernel_rfl) (by kernel_rfl) hw6.out ?_)
  refine bodyPost_ret (v := .tuple #[.agg #[.int .i64 y.t, .int .i64 y.b], .int .i64 s]) (results_row_nW Try.results21 _ _ (w.heap.size) [.int .i64 y.t, .int .i64 y.b] _ _ rfl VF.out Try.underlying25 rfl (by kernel_rfl) rfl) rfl ⟨y, s, rfl, hy, hs, BT.out⟩

set_option maxRecDepth 20000 in
set_option maxHeartbeats 16000000 in
theorem drawTakeAll_ok (a : Option Addr) (n ca : Nat) (zs : List Int) (w : World) (ha : Rd .u8 w a zs) (hb : Bytes zs) (hn : zs.length = n) (hx : n ≤ 1048577) :
    Calls Try.prog 13 #[.slice a n ca] w fun e w' => ∃ (y : Wn) (c d j : Nat) (ls : List Int), e = .returned (.tuple #[.agg #[.int .i64 y.t, .int .i64 y.b], .slice (some ⟨c, 0, none⟩) j d]) ∧ okY y ∧ (ls.length = j ∧ j ≤ 101 ∧ ∀ z ∈ ls, -9223372036854775808 ≤ z ∧ z ≤ 9223372036854775807) ∧ Rd .i64 w' (some ⟨c, 0, none⟩) ls ∧ Below w.heap.size w w' := by
  have W1V : V ((w.alloc (.cells #[.int .i64 0, .int .i64 0] 25)).alloc (.cells #[.slice a n ca, .int .i64 0] 69)) w.heap.size [.int .i64 0, .int .i64 0] := (V.newAt _ _ _ _ rfl).kept (belowA _ _)
  have S0 : Src ((w.alloc (.cells #[.int .i64 0, .int .i64 0] 25)).alloc (.cells #[.slice a n ca, .int .i64 0] 69)) (w.heap.size + 1) a n ca zs 0 := by have h := Src.new (w.alloc (.cells #[.int .i64 0, .int .i64 0] 25)) a n ca zs 69 (ha.kept (belowA _ _)); simpa only [World.size_alloc] using h
  have G0 : w.grownBy ((w.alloc (.cells #[.int .i64 0, .int .i64 0] 25)).alloc (.cells #[.slice a n ca, .int .i64 0] 69)) (some (w.heap.size + 1)) := grown_alloc (grown_alloc (World.grownBy.refl _ _) _) _
  clear ha
  go_enter Try.func13, Try.ntmps13
  go_wp2_with (first | (go_at_call 39; go_in) | fail)
  refine (l10Window_ok (w.heap.size + 1) a n ca zs 0 _ S0 hb hn hx (by omega)).mono ?_
  rintro e w1 ⟨y, q, rfl, hy, hq, S1, g1⟩
  have hs1 := S1.1.1
  have D1 : Dw w (w.heap.size + 1) a n ca zs w.heap.size w1.heap.size y q (w1.alloc (.cells #[.int .i64 y.t, .int .i64 y.b] 25)) :=
    ⟨(W1V.grownB g1 (by omega)).kept (belowA _ _), V.new _ _ _, S1.kept (belowA _ _), grown_alloc (grownBy_trans G0 g1) _, by omega⟩
  clear W1V S0 G0 S1 g1
  obtain ⟨⟨y1, y2⟩, y3, y4⟩ := id hy
  go_upto_region 3 with fail
  generalize hW : w1.alloc (.cells #[.int .i64 y.t, .int .i64 y.b] 25) = wa at *
  generalize hP : w1.heap.size = P at *
  clear hW hP
  have hPa : P < wa.heap.size := D1.var.1
  have O0 := OwnI.lit wa [] [] rfl (by decide)
  have D2 := D1.kept (belowA wa (.cells #[] 2))
  change Own .i64 2 (wa.alloc (.cells #[] 2)) wa.heap.size (some ⟨wa.heap.size, 0, none⟩) 0 [] at O0
  clear D1
  go_upto_region 4 with fail
  generalize hW : wa.alloc (.cells #[] 2) = wb at *
  generalize hQ : wa.heap.size = Q at *
  clear hW hQ
  have S2 := D2.src
  go_wp2_with fail
  refine (l1Next_ok (w.heap.size + 1) a n ca zs q 12 _ S2 hb hn hx (by omega) (by omega)).mono ?_
  rintro e w2 ⟨v, rfl, hv, _, S9, g9⟩
  obtain ⟨hv1, hv2⟩ := hv (by omega)
  obtain ⟨K, rfl⟩ := Int.eq_ofNat_of_zero_le hv1
  have hPB : w.heap.size + 1 < P := D2.sep.2.1
  have O3 := Hid.mk (O0.past g9 (by omega))
  have D3 := Hid.mk (D2.drawn g9 S9)
  clear D2 O0 S2 S9 g9 hv
  obtain ⟨m, hm⟩ : ∃ m, max 0 (y.t - 20) = m := ⟨_, rfl⟩
  have CM := Hid.mk (fun w => l3Max_ok 0 (y.t - 20) w)
  simp only [hm] at CM
  have hm1 : 0 ≤ m := by omega
  have hm2 : m ≤ 1099511627777 := by omega
  clear hm
  go_wp2
  go_loopw [6, 7] (fun s i wr => ∃ (k g d2 j : Nat) (os : List Int) (q' : Nat), k ≤ 11 ∧ s = .slice (some ⟨g, 0, none⟩) j d2 ∧ i = .int .i64 k ∧ Hid (os.length = j ∧ j + k ≤ 11 ∧ ∀ z ∈ os, -9223372036854775808 ≤ z ∧ z ≤ 9223372036854775807) ∧ Own .i64 2 wr Q (some ⟨g, 0, none⟩) d2 os ∧ q' + k ≤ 100 ∧ Dw w (w.heap.size + 1) a n ca zs w.heap.size P y q' wr) (fun _ i _ => (intOf i).toNat)
  case atStart => exact ⟨K, Q, 0, 0, [], q + 1, by omega, rfl, rfl, Hid.mk ⟨rfl, by omega, by simp⟩, O3.out, by omega, D3.out⟩
  case round =>
    clear O3 D3 hv1 hv2
    obtain ⟨k, g, d2, j, os, q', hk, rfl, rfl, hos, O, hq', DP⟩ := hrel
    by_cases hk0 : 0 < k
    · have hki : (0 : Int) < (k : Int) := by omega
      obtain ⟨s_V, f_V, z_V⟩ := DP.var.open
      go_wp2_with fail
      refine (CM.out _).mono ?_
      rintro e wq ⟨rfl, hwq⟩
      rw [hwq]
      clear hwq wq s_V f_V z_V
      go_wp2_with fail
      refine (l1Next_ok (w.heap.size + 1) a n ca zs q' 60 _ DP.src hb hn hx (by omega) (by omega)).mono ?_
      rintro e w3 ⟨v, rfl, hv, _, S9, g9⟩
      obtain ⟨hv1, hv2⟩ := hv (by omega)
      replace O := O.past g9 (by omega)
      replace DP := DP.drawn g9 S9
      clear S9 g9 hv
      have bL := belowA w3 (.cells #[.int .i64 (m + v)] 2)
      have O2 := Hid.mk (O.kept bL)
      have hz : Q < w3.heap.size := by have := O.lt _ rfl; simp only at this; omega
      have D2 := Hid.mk (DP.kept bL)
      have TL : Q ≤ (w3.alloc (.cells #[.int .i64 (m + v)] 2)).heap.size := by simp; omega
      clear O DP bL
      have hj4 : j ≤ 1000000 := by have := hos.out.2.1; omega
      go_wp2_with (at_builtin; go_loud (refine wpList_putI _ rfl _ _ rfl Q _ d2 os j hos.out.1 rfl O2.out _ 1 (m + v) rfl (cell_one' _ _ _ 0 _ rfl) (by omega) TL ?_))
      intro c4 d4 w4 O4 hg4 hx4
      obtain ⟨g4, rfl, _⟩ := hx4.out
      have hgw := (O2.out.lt _ rfl).1
      simp only at hgw
      have D4 := Hid.mk (D2.out.row (c := some ⟨g, 0, none⟩) hg4 (fun b hb => by simp only [Option.some.injEq] at hb; subst hb; simp only; omega))
      have K4 : Hid ((os ++ [m + v]).length = j + 1 ∧ j + 1 + (k - 1) ≤ 11 ∧ ∀ z ∈ os ++ [m + v], -9223372036854775808 ≤ z ∧ z ≤ 9223372036854775807) := Hid.mk ⟨by rw [List.length_append, hos.out.1]; rfl, by have := hos.out.2.1; omega, fun z hz => by
        rcases List.mem_append.1 hz with h | h
        · exact hos.out.2.2 z h
        · simp at h; omega⟩
      replace O4 := Hid.mk O4
      clear O2 D2 hg4 hx4 TL hz
      go_wp2
      go_roundw
      case rel => exact ⟨k - 1, g4, d4, j + 1, _, q' + 1, by omega, rfl, by first | (go_num; done) | (simp; omega), K4, O4.out, by omega, D4.out⟩
      case measure => simp [intOf] <;> omega
    · obtain rfl : k = 0 := by omega
      have hQB : w.heap.size + 1 < Q := by omega
      go_wp2_with fail
      refine (l1Chance_ok (w.heap.size + 1) a n ca zs q' 40 _ DP.src hb hn hx (by omega) (by omega)).mono ?_
      rintro e w3 ⟨v, rfl, S9, g9⟩
      replace O := O.past g9 (by omega)
      replace DP := DP.drawn g9 S9
      clear S9 g9
      have fin : ∀ (wz : World) (g d2 j : Nat) (os : List Int), Own .i64 2 wz Q (some ⟨g, 0, none⟩) d2 os → Dw w (w.heap.size + 1) a n ca zs w.heap.size P y (q' + 1) wz → V (wz.setCells w.heap.size 0 [.int .i64 y.t, .int .i64 y.b]) w.heap.size [.int .i64 y.t, .int .i64 y.b] ∧ Rd .i64 (wz.setCells w.heap.size 0 [.int .i64 y.t, .int .i64 y.b]) (some ⟨g, 0, none⟩) os ∧ Below w.heap.size w (wz.setCells w.heap.size 0 [.int .i64 y.t, .int .i64 y.b]) := fun wz g d2 j os O DP =>
        ⟨DP.res.filled _ rfl, (ownCellsW O (B := w.heap.size) (fun b hb => by have := (O.lt b hb).1; omega) 0 [.int .i64 y.t, .int .i64 y.b]).rd, belowCells (DP.bel (by omega)) (Nat.le_refl _) 0 [.int .i64 y.t, .int .i64 y.b]⟩
      replace fin := Hid.mk fin
      cases v
      · have H1 := Hid.mk (show os.length = j ∧ j ≤ 101 ∧ ∀ z ∈ os, -9223372036854775808 ≤ z ∧ z ≤ 9223372036854775807 from ⟨hos.out.1, by have := hos.out.2.1; omega, hos.out.2.2⟩)
        obtain ⟨F1, F2, F3⟩ := fin.out w3 g d2 j os O DP
        have HT := Hid.mk DP.res.there
        obtain ⟨s_V, f_V, z_V⟩ := DP.var.open
        obtain ⟨w6, hw6⟩ : ∃ w6, w3.setCells w.heap.size 0 [.int .i64 y.t, .int .i64 y.b] = w6 := ⟨_, rfl⟩
        rw [hw6] at F1 F2 F3
        replace hw6 := Hid.mk hw6
        replace F1 := Hid.mk F1
        replace F2 := Hid.mk F2
        replace F3 := Hid.mk F3
        clear O DP
        go_wp2_with (refine wpList_stroke w6 rfl 25 _ _ rfl w.heap.size 0 #[.int .i64 y.t, .int .i64 y.b] rfl rfl HT.out (by kernel_rfl) (by kernel_rfl) hw6.out ?_)
        refine bodyPost_ret (v := .tuple #[.agg #[.int .i64 y.t, .int .i64 y.b], .slice (some ⟨g, 0, none⟩) j d2]) (results_row_nW Try.results13 _ _ (w.heap.size) [.int .i64 y.t, .int .i64 y.b] _ _ rfl F1.out Try.underlying25 rfl (by kernel_rfl) rfl) rfl ⟨y, g, d2, j, os, rfl, hy, H1.out, F2.out, F3.out⟩
      · obtain ⟨i0, hi, hz0, hz1, hz2⟩ := info_parts Try.infoI64
        have hQ3 : Q < w3.heap.size := by have := O.lt _ rfl; simp only at this; omega
        clear O
        go_wp2_with (at_make; go_loud (refine wpList_make_full _ rfl _ _ 26 rfl w3.heap.size 2 i0 (.int .i64 0) 1 Try.underlying26 hi hz0 hz1 .i64 .i64 _ _ 101 rfl rfl (by omega) (by omega) (by rw [hz2]; omega) (by unfold maxLen; omega) (Nat.le_refl _) ?_))
        intro w2 hown hgrow
        have B2 : Below w3.heap.size w3 w2 := (Below.refl _ w3).grown hgrow (Nat.le_refl _) (by intro k hk; cases hk)
        have O5 : Own .i64 2 w2 w3.heap.size (some ⟨w3.heap.size, 0, none⟩) 101 (List.replicate 101 0) := by
          unfold Own
          rw [List.length_replicate, List.map_replicate]
          simpa [toList_madeCells_one] using hown
        have O6 := O5.mono (base' := Q) (by omega)
        have D5 := DP.kept B2
        have H1 : Hid ((List.replicate 101 (0 : Int)).length = 101 ∧ 101 ≤ 101 ∧ ∀ z ∈ List.replicate 101 (0 : Int), -9223372036854775808 ≤ z ∧ z ≤ 9223372036854775807) := Hid.mk ⟨by simp, by omega, fun z hz => by have := List.eq_of_mem_replicate hz; omega⟩
        clear DP hown hgrow B2 O5 hi hz0 hz1 hz2
        generalize List.replicate 101 (0 : Int) = zz at *
        generalize hg0 : w3.heap.size = g0 at *
        clear hg0
        obtain ⟨F1, F2, F3⟩ := fin.out w2 g0 101 101 zz O6 D5
        have HT := Hid.mk D5.res.there
        obtain ⟨s_V, f_V, z_V⟩ := D5.var.open
        obtain ⟨w6, hw6⟩ : ∃ w6, w2.setCells w.heap.size 0 [.int .i64 y.t, .int .i64 y.b] = w6 := ⟨_, rfl⟩
        rw [hw6] at F1 F2 F3
        replace hw6 := Hid.mk hw6
        replace F1 := Hid.mk F1
        replace F2 := Hid.mk F2
        replace F3 := Hid.mk F3
        clear O6 D5
        go_wp2_with (refine wpList_stroke w6 rfl 25 _ _ rfl w.heap.size 0 #[.int .i64 y.t, .int .i64 y.b] rfl rfl HT.out (by kernel_rfl) (by kernel_rfl) hw6.out ?_)
        refine bodyPost_ret (v := .tuple #[.agg #[.int .i64 y.t, .int .i64 y.b], .slice (some ⟨g0, 0, none⟩) 101 101]) (results_row_nW Try.results13 _ _ (w.heap.size) [.int .i64 y.t, .int .i64 y.b] _ _ rfl F1.out Try.underlying25 rfl (by kernel_rfl) rfl) rfl ⟨y, g0, 101, 101, zz, rfl, hy, H1.out, F2.out, F3.out⟩

end Go.Proofs.Ytkpdbdcfimdnjaa
