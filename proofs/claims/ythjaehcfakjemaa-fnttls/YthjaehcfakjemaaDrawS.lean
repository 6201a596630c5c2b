/- The draws of bytes: some of them, and very many now and then. -/
import Derived.Test.YthjaehcfakjemaaDrawP
import Derived.Test.YthjaehcfakjemaaHeld
import Derived.Deep.AppendLies
namespace Go.Proofs.Ythjaehcfakjemaa
open Go.RowKit

theorem Own.past {k : IntKind} {e : TypeId} {w w' : World} {base B : Nat} {a : Option Addr} {cap : Nat} {zs : List Int} (h : Own k e w base a cap zs) (hg : w.grownBy w' (some B)) (hB : B < base) : Own k e w' base a cap zs :=
  h.grown hg fun b hb e => by
    have := (h.lt b hb).1
    simp at e
    omega

theorem grown_alloc {w w' : World} {row : Option Nat} (h : w.grownBy w' row) (o : Obj) : w.grownBy (w'.alloc o) row :=
  grownBy_trans h (Below.grownBy (belowA _ _) _)

/-- Behind an append to a row of the call's own, of one number, within what may turn at block B. -/
theorem appendedB {w wr w1 : World} {base B : Nat} {e : TypeId} {v v' : Value} {j : Nat} {l : List Int} {z : Int} {o : Obj} (hown : wr.ownsRow base e 1 v j (l.map (Value.int .u8))) (hb : w.grownBy wr (some B)) (hbase : base = w.heap.size)
    (hown' : w1.ownsRow base e 1 v' (j + 1) (l.map (Value.int .u8) ++ [.int .u8 z])) (hg : (wr.alloc o).grownBy w1 v.ownBlock) :
    w1.ownsRow base e 1 v' (j + 1) ((l ++ [z]).map (Value.int .u8)) ∧ w.grownBy w1 (some B) := by
  refine ⟨by simpa using hown', hg.os.trans hb.os, hg.tape.trans hb.tape, hg.output.trans hb.output, ?_, fun i hi hr => ?_⟩
  · have h1 := hg.size; have h2 := hb.size; simp at h1; omega
  · have h2 := hb.size
    have h3 := hown.lt
    rw [hg.block i (by simp; omega) (fun e => by have := (h3 i e.symm).1; omega), Below.heap_alloc _ _ _ (by omega)]
    exact hb.block i hi hr

theorem Src.grownAway {w w' : World} {B : Nat} {a : Option Addr} {n ca : Nat} {zs : List Int} {t : Nat} {row : Option Nat} (h : Src w B a n ca zs t) (hg : w.grownBy w' row) (hr : ∀ k, row = some k → B < k) : Src w' B a n ca zs t := by
  have hne : row ≠ some B := fun e => by have := hr B e; omega
  refine ⟨h.1.grown hg hne, ?_, h.2.2.1.grown hg (h.2.2.2.imp id fun hh b hb e => by have := hr _ e; have := hh b hb; omega), h.2.2.2⟩
  rw [World.frozen?_of_block (w := w) (hg.block B h.1.1 fun e => hne e.symm)]
  exact h.2.1

set_option maxHeartbeats 1000000 in
theorem l1Some_ok (B : Nat) (a : Option Addr) (n ca : Nat) (zs : List Int) (t m : Nat) (w : World) (hs : Src w B a n ca zs t) (hb : Bytes zs) (hn : zs.length = n) (hx : n ≤ 1048577) (ht : t ≤ 100000) (hm : m ≤ 10000) :
    Calls Try.prog 56 #[.pointer (some ⟨B, 0, none⟩), .int .i64 m] w fun e w' => ∃ (c d : Nat) (bs : List Int), e = .returned (.slice (some ⟨c, 0, none⟩) m d) ∧ bs.length = m ∧ Bytes bs ∧ Own .u8 5 w' w.heap.size (some ⟨c, 0, none⟩) d bs ∧ Src w' B a n ca zs (t + 3 * m) ∧ w.grownBy w' (some B) := by
  obtain ⟨i0, hi, g0, g1, g2⟩ := info_parts Try.info_u8
  have hBw : B < w.heap.size := hs.1.1
  go_enter Try.func56, Try.ntmps56
  go_wp2
  go_loopw [1, 5] (fun i v wr => ∃ (j d c : Nat) (bs : List Int), j ≤ m ∧ i = .int .i64 ((m : Int) - (j : Int)) ∧ v = .slice (some ⟨c, 0, none⟩) j d ∧ bs.length = j ∧ Bytes bs ∧ wr.ownsRow w.heap.size 5 1 v j (bs.map (Value.int .u8)) ∧ Src wr B a n ca zs (t + 3 * j) ∧ w.grownBy wr (some B)) (fun i _ _ => (intOf i).toNat)
  case atStart =>
    exact ⟨0, 0, _, [], Nat.zero_le _, by simp, rfl, rfl, fun _ h => (by cases h), by simpa using World.ownsRow_made w #[] 0 (Nat.le_refl _) (Nat.zero_le _) rfl, hs.kept (belowA _ _), Below.grownBy (belowA _ _) _⟩
  case round =>
    obtain ⟨j, d, c, bs, hj, rfl, rfl, hl, hbs, hown, hS, hg⟩ := hrel
    by_cases hlt : j < m
    · have hk1 : 0 < (m : Int) - (j : Int) := by omega
      have hO := Own.mk hown hl
      go_wp2_with fail
      refine (l1Next_ok B a n ca zs (t + 3 * j) 256 _ hS hb hn hx (by omega) (by omega)).mono ?_
      rintro e w1 ⟨v1, rfl, hv1, _, S1, k1⟩
      obtain ⟨p1, p2⟩ := hv1 (by omega)
      have hO := hO.past k1 hBw
      go_wp2_with fail
      refine (l1Next_ok B a n ca zs (t + 3 * j + 1) 256 _ S1 hb hn hx (by omega) (by omega)).mono ?_
      rintro e w2 ⟨v2, rfl, hv2, _, S2, k2⟩
      obtain ⟨p3, p4⟩ := hv2 (by omega)
      have hO := hO.past k2 hBw
      have hs2 : B < w2.heap.size := S2.1.1
      have S2' := S2.kept (belowA w2 (.cells #[.int .i64 v1, .int .i64 v2, .int .i64 0, .int .i64 255] 2))
      have hO := hO.kept (belowA w2 (.cells #[.int .i64 v1, .int .i64 v2, .int .i64 0, .int .i64 255] 2))
      go_wp2_with fail
      refine (l1Pick_ok B a n ca zs (t + 3 * j + 1 + 1) w2.heap.size 4 4 [v1, v2, 0, 255] _ S2' hb hn hx (by omega) rfl (by omega) (by omega) (fun i hi => ?_) (by omega)).mono ?_
      · exact lit_cells w2 [v1, v2, 0, 255] _ _ (by simp) i hi
      rintro e w3 ⟨x, rfl, hmem, S3, k3⟩
      have hO := hO.past k3 hBw
      have hx1 : 0 ≤ x ∧ x < 256 := by
        simp at hmem
        rcases hmem with rfl | rfl | rfl | rfl <;> omega
      obtain ⟨x1, x2⟩ := hx1
      have hg3 : w.grownBy w3 (some B) := grownBy_trans (grown_alloc (grownBy_trans (grownBy_trans hg k1) k2) _) k3
      have hrow := hO.row hl
      have hsz := hg3.size
      clear hown hO S1 S2 S2' hS hg k1 k2 k3 hmem
      go_wp2_with (at_builtin; refine wpList_append_own _ rfl _ _ 22 rfl w.heap.size 5 i0 (.int .u8 0) 1 1 Try.underlying22 hi g0 g1 g2 rfl (by decide) _ _ _ rfl (hrow.alloc _) ⟨w3.heap.size, 0, none⟩ 1 1 [.int .u8 x] rfl rfl (cell_one' _ _ _) ?_ (by unfold maxLen; omega) (by omega) (by simp; omega) ?_)
      · intro u hu; simp at hu; subst hu; rfl
      intro v' w4 hown' hgrow _
      obtain ⟨hown4, hg4⟩ := appendedB hrow hg3 rfl hown' hgrow
      have S4 := (S3.kept (belowA w3 (.cells #[.int .u8 x] 5))).grownAway hgrow fun k hk => by have := (hrow.lt k hk).1; omega
      obtain ⟨c', d', rfl, _, _⟩ := World.ownsRow.form hown4 (by omega)
      have HO := Hid.mk hown4
      clear hown4 hown' hgrow hrow S3 hg3
      go_wp2
      go_roundw
      case rel => exact ⟨j + 1, d', c', bs ++ [x], by omega, by go_num, rfl, by simp [hl], by
        intro z hz
        rcases List.mem_append.1 hz with h | h
        · exact hbs z h
        · simp at h; subst h; exact ⟨x1, x2⟩, HO.out, S4, hg4⟩
      case measure => simp [intOf]; omega
    · have hjm : j = m := by omega
      subst hjm
      have hz : (j : Int) - (j : Int) ≤ 0 := by omega
      have HO := Hid.mk (Own.mk hown hl)
      clear hown
      go_wp2
      go_ret
      exact ⟨c, d, bs, rfl, hl, hbs, HO.out, hS, hg⟩

end Go.Proofs.Ythjaehcfakjemaa
