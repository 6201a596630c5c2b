/- Put together: Draw, DrawP, DrawS, DrawK. -/
import Derived.Test.YthjaehcfakjemaaDoorProg
import Derived.Test.YthjaehcfakjemaaDoorBase
import Derived.Test.YthjaehcfakjemaaDoorHeld
import Derived.Deep.AppendLies
import Derived.Test.YthjaehcfakjemaaDoorVar
import Derived.Test.YthjaehcfakjemaaDoorPkt

/- The draws of the laws: a source of bytes, a number below a bound, one of a list; by contracts that tell the bounds alone. -/
namespace Go.Proofs.YthjaehcfakjemaaDoor
open Go.RowKit

/-- A source at block B: the slice of the code, and how far it is read. -/
def Src (w : World) (B : Nat) (a : Option Addr) (n ca : Nat) (zs : List Int) (t : Nat) : Prop :=
  At w B [.slice a n ca, .int .i64 t] ∧ w.frozen? ⟨B, 1, none⟩ = false ∧ Rd .u8 w a zs ∧ (zs = [] ∨ ∀ b, a = some b → b.block < B)

theorem Src.kept {w w' : World} {B : Nat} {a : Option Addr} {n ca : Nat} {zs : List Int} {t : Nat} (h : Src w B a n ca zs t) (hb : Below w.heap.size w w') : Src w' B a n ca zs t :=
  ⟨h.1.kept hb, (hb.frozen (p := ⟨B, 1, none⟩) h.1.1).trans h.2.1, h.2.2.1.kept hb, h.2.2.2⟩

theorem Rd.grown {k : IntKind} {w w' : World} {a : Option Addr} {zs : List Int} {row : Option Nat} (h : Rd k w a zs) (hg : w.grownBy w' row) (hne : zs = [] ∨ ∀ b, a = some b → row ≠ some b.block) : Rd k w' a zs := by
  rcases h with h | ⟨b, off, rfl, hc⟩
  · exact .inl h
  · rcases hne with hne | hne
    · exact .inl hne
    · exact .inr ⟨b, off, rfl, fun i hi => hg.cell (hc i hi) fun e => hne _ rfl e.symm⟩

/-- What a step of the source leaves. -/
theorem Src.step {w : World} {B : Nat} {a : Option Addr} {n ca : Nat} {zs : List Int} {t : Nat} (h : Src w B a n ca zs t) :
    Src (w.setCell ⟨B, 1, none⟩ (.int .i64 ((t : Int) + 1))) B a n ca zs (t + 1) ∧ w.grownBy (w.setCell ⟨B, 1, none⟩ (.int .i64 ((t : Int) + 1))) (some B) := by
  have hg : w.grownBy (w.setCell ⟨B, 1, none⟩ (.int .i64 ((t : Int) + 1))) (some B) :=
    ⟨rfl, rfl, rfl, by simp [World.setCell], fun k _ hk => Below.heap_setCell _ _ _ _ (fun e => hk (by simp [e]))⟩
  obtain ⟨f1, f2, f3⟩ := h.1.two
  refine ⟨⟨⟨Nat.lt_of_lt_of_le f3 hg.size, fun i v hi => ?_⟩, (World.frozen?_setCell _ _ _ _).trans h.2.1, h.2.2.1.grown hg (h.2.2.2.imp id fun hh b hb e => ?_), h.2.2.2⟩, hg⟩
  · match i, hi with
    | 0, hi =>
      rw [World.cell?_setCell_other _ _ _ _ (by simp)]
      rw [f1]; simpa using hi
    | 1, hi =>
      rw [World.cell?_setCell_same _ _ _ f2]
      simpa using hi
  · have := hh b hb
    simp at e
    omega

theorem grownN {w w' : World} {row : Option Nat} (h : w.grownBy w' row) (q : Nat) : w.grownBy (w'.drewN q) row := ⟨h.os, h.tape, h.output, h.size, h.block⟩

theorem Src.drewN {w : World} {B : Nat} {a : Option Addr} {n ca : Nat} {zs : List Int} {t : Nat} (h : Src w B a n ca zs t) (q : Nat) : Src (w.drewN q) B a n ca zs t :=
  h.kept (belowN (Below.refl _ _) q)

set_option maxHeartbeats 1000000 in
theorem l1Next_ok (B : Nat) (a : Option Addr) (n ca : Nat) (zs : List Int) (t : Nat) (m : Int) (w : World) (hs : Src w B a n ca zs t) (hb : Bytes zs) (hn : zs.length = n) (hx : n ≤ 1048577) (ht : t ≤ 1000000) (hm : m ≤ 9223372036854775807) :
    Calls Tryd.prog 42 #[.pointer (some ⟨B, 0, none⟩), .int .i64 m] w fun e w' => ∃ v : Int, e = .returned (.int .i64 v) ∧ (1 ≤ m → 0 ≤ v ∧ v < m) ∧ (m < 1 → v = 0) ∧ Src w' B a n ca zs (t + 1) ∧ w.grownBy w' (some B) := by
  obtain ⟨f1, f2, f3⟩ := hs.1.two
  have ff := hs.2.1
  have HS := Hid.mk hs.step
  by_cases h1 : m < 1
  · clear hs
    go_enter Tryd.func42, Tryd.ntmps42
    go_wp2
    go_ret
    exact ⟨0, rfl, fun h => by omega, fun _ => rfl, HS.out⟩
  · have h2 : 1 ≤ m := by omega
    by_cases h3 : n = 0
    · subst h3
      have hmod : 0 ≤ (t : Int) * 7 % m ∧ (t : Int) * 7 % m < m := ⟨Int.emod_nonneg _ (by omega), Int.emod_lt_of_pos _ (by omega)⟩
      have hz : (((0 : Nat) : Int) == 0) = true := rfl
      clear hs h1
      go_enter Tryd.func42, Tryd.ntmps42
      go_wp2
      go_ret
      exact ⟨(t : Int) * 7 % m, rfl, fun _ => hmod, fun h => by omega, HS.out⟩
    · rcases hs.2.2.1 with h0 | ⟨b1, o1, rfl, hc⟩
      · simp [h0] at hn; omega
      have hlt : b1 < B := by
        rcases hs.2.2.2 with h0 | h0
        · simp [h0] at hn; omega
        · exact h0 _ rfl
      have hnz : (((n : Nat) : Int) == 0) = false := by simp; omega
      have hnp : (1 : Int) ≤ (n : Int) := by omega
      have m1 : t % n < n := Nat.mod_lt _ (by omega)
      have m2 : (t + 1) % n < n := Nat.mod_lt _ (by omega)
      have c1 := hc (t % n) (by omega)
      have c2 := hc ((t + 1) % n) (by omega)
      obtain ⟨z1, z2⟩ := hb.at (t % n)
      obtain ⟨y1, y2⟩ := hb.at ((t + 1) % n)
      generalize zs.getD (t % n) 0 = z at *
      generalize zs.getD ((t + 1) % n) 0 = y at *
      have q1 : 0 ≤ (t : Int) / (n : Int) := Int.ediv_nonneg (by omega) (by omega)
      have q2 : (t : Int) / (n : Int) ≤ 1000000 := Int.le_trans (Int.ediv_le_self _ (by omega)) (by omega)
      have i1 : (0 : Int) ≤ (t : Int) % (n : Int) := Int.emod_nonneg _ (by omega)
      have i2 : (t : Int) % (n : Int) < (n : Int) := Int.emod_lt_of_pos _ (by omega)
      have i3 : (0 : Int) ≤ ((t : Int) + 1) % (n : Int) := Int.emod_nonneg _ (by omega)
      have i4 : ((t : Int) + 1) % (n : Int) < (n : Int) := Int.emod_lt_of_pos _ (by omega)
      clear hc hs h3
      by_cases h4 : 200 < m
      · go_enter Tryd.func42, Tryd.ntmps42
        go_wp2
        go_quiet (fail)
        go_wp2
        go_quiet (fail)
        go_wp2
        go_ret
        refine ⟨_, rfl, fun _ => ⟨Int.emod_nonneg _ (by omega), Int.emod_lt_of_pos _ (by omega)⟩, fun h => by omega, HS.out.1.drewN _, grownN HS.out.2 _⟩
      · have h5 : m ≤ 200 := by omega
        clear h4
        go_enter Tryd.func42, Tryd.ntmps42
        go_wp2
        go_quiet (fail)
        go_wp2
        go_ret
        refine ⟨_, rfl, fun _ => ⟨Int.emod_nonneg _ (by omega), Int.emod_lt_of_pos _ (by omega)⟩, fun h => by omega, HS.out.1.drewN _, grownN HS.out.2 _⟩

set_option maxHeartbeats 1000000 in
theorem l1Pick_ok (B : Nat) (a : Option Addr) (n ca : Nat) (zs : List Int) (t : Nat) (b l cl : Nat) (ns : List Int) (w : World) (hs : Src w B a n ca zs t) (hb : Bytes zs) (hn : zs.length = n) (hx : n ≤ 1048577) (ht : t ≤ 1000000)
    (hl : ns.length = l) (hp : 0 < l) (hq : l ≤ 1000000) (hc : ∀ i, i < l → w.cell? ⟨b, i, none⟩ = some (.int .i64 (ns.getD i 0))) (hB : b ≠ B) :
    Calls Tryd.prog 41 #[.pointer (some ⟨B, 0, none⟩), .slice (some ⟨b, 0, none⟩) l cl] w fun e w' => ∃ v : Int, e = .returned (.int .i64 v) ∧ v ∈ ns ∧ Src w' B a n ca zs (t + 1) ∧ w.grownBy w' (some B) := by
  go_enter Tryd.func41, Tryd.ntmps41
  go_wp2_with fail
  refine (l1Next_ok B a n ca zs t (l : Int) _ hs hb hn hx ht (by omega)).mono ?_
  rintro e w1 ⟨v, rfl, hv, _, s1, g1⟩
  obtain ⟨v1, v2⟩ := hv (by omega)
  obtain ⟨i, rfl⟩ := Int.eq_ofNat_of_zero_le v1
  have hi : i < l := by omega
  have c1 := g1.cell (hc i hi) (by simpa using hB)
  have hm : ns.getD i 0 ∈ ns := by rw [getD_eq ns i (by omega)]; exact List.getElem_mem _
  clear hc
  generalize ns.getD i 0 = x at *
  go_wp2
  go_ret
  exact ⟨x, rfl, hm, s1, g1⟩

end Go.Proofs.YthjaehcfakjemaaDoor

/- The draws for 'PutNumber' and for the sums. -/
namespace Go.Proofs.YthjaehcfakjemaaDoor
open Go.RowKit

/-- A list of numbers that the call has just laid. -/
theorem lit_cells (w : World) (ns : List Int) (cs : Array Value) (e : TypeId) (h : cs = (ns.map (Value.int .i64)).toArray) : ∀ i, i < ns.length → (w.alloc (.cells cs e)).cell? ⟨w.heap.size, i, none⟩ = some (.int .i64 (ns.getD i 0)) := by
  intro i hi
  subst h
  rw [World.cell?_alloc_at _ _ _ _ rfl]
  simp [List.getD, hi]

theorem l1Min_ok (x y : Int) (w : World) : Calls Tryd.prog 64 #[.int .i64 x, .int .i64 y] w fun e w' => e = .returned (.int .i64 (min x y)) ∧ w' = w := by
  rcases (by omega : x < y ∨ y ≤ x) with h | h
  · have e : min x y = x := by omega
    have E := Hid.mk e
    clear e
    go_enter Tryd.func64, Tryd.ntmps64
    go_wp2
    go_ret
    exact ⟨ret_int E.out.symm, rfl⟩
  · have e : min x y = y := by omega
    have E := Hid.mk e
    clear e
    go_enter Tryd.func64, Tryd.ntmps64
    go_wp2
    go_ret
    exact ⟨ret_int E.out.symm, rfl⟩

theorem l1Max_ok (x y : Int) (w : World) : Calls Tryd.prog 43 #[.int .i64 x, .int .i64 y] w fun e w' => e = .returned (.int .i64 (max x y)) ∧ w' = w := by
  rcases (by omega : y < x ∨ x ≤ y) with h | h
  · have e : max x y = x := by omega
    have E := Hid.mk e
    clear e
    go_enter Tryd.func43, Tryd.ntmps43
    go_wp2
    go_ret
    exact ⟨ret_int E.out.symm, rfl⟩
  · have e : max x y = y := by omega
    have E := Hid.mk e
    clear e
    go_enter Tryd.func43, Tryd.ntmps43
    go_wp2
    go_ret
    exact ⟨ret_int E.out.symm, rfl⟩

/-- Where a slice that reads lies. -/
theorem Rd.some_lt {k : IntKind} {w : World} {a : Option Addr} {zs : List Int} (h : Rd k w a zs) : zs = [] ∨ ∀ b, a = some b → b.block < w.heap.size := by
  rcases h with h | ⟨b, off, rfl, hc⟩
  · exact .inl h
  · by_cases hp : zs = []
    · exact .inl hp
    · right
      intro b' hb'
      simp at hb'
      subst hb'
      exact World.block_lt_of_cell? (a := ⟨b, off + 0, none⟩) w (hc 0 (by cases zs with | nil => exact absurd rfl hp | cons _ _ => simp))

theorem Src.new (w : World) (a : Option Addr) (n ca : Nat) (zs : List Int) (e : TypeId) (h : Rd .u8 w a zs) :
    Src (w.alloc (.cells #[.slice a n ca, .int .i64 0] e)) w.heap.size a n ca zs 0 :=
  ⟨At.new2 w _ _ e, World.frozen?_alloc_at _ _ _ _ rfl, h.kept (belowA _ _), Rd.some_lt h⟩

end Go.Proofs.YthjaehcfakjemaaDoor

/- The draws of bytes: some of them, and very many now and then. -/
namespace Go.Proofs.YthjaehcfakjemaaDoor
open Go.RowKit

theorem Own.past {k : IntKind} {e : TypeId} {w w' : World} {base B : Nat} {a : Option Addr} {cap : Nat} {zs : List Int} (h : Own k e w base a cap zs) (hg : w.grownBy w' (some B)) (hB : B < base) : Own k e w' base a cap zs :=
  h.grown hg fun b hb e => by
    have := (h.lt b hb).1
    simp at e
    omega

theorem grown_alloc {w w' : World} {row : Option Nat} (h : w.grownBy w' row) (o : Obj) : w.grownBy (w'.alloc o) row :=
  grownBy_trans h (Below.grownBy (belowA _ _) _)

/-- Behind an append to a row of the call's own, of one number, within what may turn at block B. -/
theorem appendedB {w wr w1 : World} {base B : Nat} {e : TypeId} {v v' : Value} {j : Nat} {l : List Int} {z : Int} {o : Obj} (hown : wr.ownsRow base e 1 v j (l.map (Value.int .u8))) (hb : w.grownBy wr (some B)) (hbase : base = w.heap.size)
    (hown' : w1.ownsRow base e 1 v' (j + 1) (l.map (Value.int .u8) ++ [.int .u8 z])) (hg : (wr.alloc o).grownBy w1 v.ownBlock) :
    w1.ownsRow base e 1 v' (j + 1) ((l ++ [z]).map (Value.int .u8)) ∧ w.grownBy w1 (some B) := by
  refine ⟨by simpa using hown', hg.os.trans hb.os, hg.tape.trans hb.tape, hg.output.trans hb.output, ?_, fun i hi hr => ?_⟩
  · have h1 := hg.size; have h2 := hb.size; simp at h1; omega
  · have h2 := hb.size
    have h3 := hown.lt
    rw [hg.block i (by simp; omega) (fun e => by have := (h3 i e.symm).1; omega), Below.heap_alloc _ _ _ (by omega)]
    exact hb.block i hi hr

theorem Src.grownAway {w w' : World} {B : Nat} {a : Option Addr} {n ca : Nat} {zs : List Int} {t : Nat} {row : Option Nat} (h : Src w B a n ca zs t) (hg : w.grownBy w' row) (hr : ∀ k, row = some k → B < k) : Src w' B a n ca zs t := by
  have hne : row ≠ some B := fun e => by have := hr B e; omega
  refine ⟨h.1.grown hg hne, ?_, h.2.2.1.grown hg (h.2.2.2.imp id fun hh b hb e => by have := hr _ e; have := hh b hb; omega), h.2.2.2⟩
  rw [World.frozen?_of_block (w := w) (hg.block B h.1.1 fun e => hne e.symm)]
  exact h.2.1

end Go.Proofs.YthjaehcfakjemaaDoor

/- The draws of packets, by contracts. -/
namespace Go.Proofs.YthjaehcfakjemaaDoor
open Go.RowKit

theorem V.grownB {w w' : World} {B B' : Nat} {vs : List Value} (h : V w B' vs) (hg : w.grownBy w' (some B)) (hne : B' ≠ B) : V w' B' vs := by
  have hb : ∀ i, w'.cell? ⟨B', i, none⟩ = w.cell? ⟨B', i, none⟩ := fun i => World.cell?_of_block (hg.block B' h.1 (by intro e; simp at e; exact hne e))
  have hf : ∀ i, w'.frozen? ⟨B', i, none⟩ = w.frozen? ⟨B', i, none⟩ := fun i => World.frozen?_of_block (hg.block B' h.1 (by intro e; simp at e; exact hne e))
  exact ⟨Nat.lt_of_lt_of_le h.1 hg.size, fun i hi => (hb i).trans (h.2.1 i hi), fun o => (hf o).trans (h.2.2 o)⟩

theorem grownSet (w : World) (p : Addr) (v : Value) : w.grownBy (w.setCell p v) (some p.block) :=
  ⟨rfl, rfl, rfl, by simp [World.setCell], fun k _ hk => Below.heap_setCell _ _ _ _ (fun e => hk (by rw [e]))⟩

theorem Src.other {w : World} {B : Nat} {a : Option Addr} {n ca : Nat} {zs : List Int} {t : Nat} {p : Addr} (h : Src w B a n ca zs t) (hp : B < p.block) (v : Value) : Src (w.setCell p v) B a n ca zs t :=
  h.grownAway (grownSet w p v) (by intro k hk; simp at hk; omega)

theorem grownSet' {w w' : World} {row : Option Nat} (h : w.grownBy w' row) {p : Addr} (hp : w.heap.size ≤ p.block) (v : Value) : w.grownBy (w'.setCell p v) row :=
  ⟨h.os, h.tape, h.output, by simpa [World.setCell] using h.size, fun k hk hr => (Below.heap_setCell _ _ _ _ (by omega)).trans (h.block k hk hr)⟩

/-- A drawn packet is right. -/
def rightP (f t r l x y : Int) (m : Nat) : Prop := (0 ≤ f ∧ f ≤ 4294967295) ∧ (0 ≤ t ∧ t ≤ 4294967295) ∧ (1 ≤ r ∧ r ≤ 255) ∧ (1 ≤ l ∧ l ≤ 255) ∧ (0 ≤ x ∧ x ≤ 65535) ∧ (0 ≤ y ∧ y ≤ 65535) ∧ (portsP r = false → x = 0 ∧ y = 0) ∧ m ≤ 8

end Go.Proofs.YthjaehcfakjemaaDoor
