/- Slices of slices of bytes: what is read, what is the call's own; the laws' helpers over them, by contracts. -/
import Derived.Test.YtnclfbliimcpgabHeld
namespace Go.Proofs.Ytnclfbliimcpgab
open Go.RowKit

/-- A slice of slices of bytes reads as 'zss'. -/
def RdR (w : World) (a : Option Addr) (zss : List (List Int)) : Prop :=
  zss = [] ∨ ∃ b off, a = some ⟨b, off, none⟩ ∧ ∀ i, i < zss.length → ∃ c d, w.cell? ⟨b, off + i, none⟩ = some (.slice c (zss.getD i []).length d) ∧ Rd .u8 w c (zss.getD i []) ∧ (c = none → d = 0)

theorem RdR.kept {w w' : World} {a : Option Addr} {zss : List (List Int)} (h : RdR w a zss) (hb : Below w.heap.size w w') : RdR w' a zss := by
  rcases h with h | ⟨b, off, rfl, hc⟩
  · exact .inl h
  · refine .inr ⟨b, off, rfl, fun i hi => ?_⟩
    obtain ⟨c, d, h1, h2, h3⟩ := hc i hi
    exact ⟨c, d, (hb.cell (World.block_lt_of_cell? (a := ⟨b, off + i, none⟩) w h1)).trans h1, h2.kept hb, h3⟩

/-- The slice that a row of the call's own is. -/
def rowV (p : Nat × List Int) : Value := .slice (some ⟨p.1, 0, none⟩) p.2.length p.2.length

/-- A slice of slices of the call's own, each row in a block of its own. -/
def OwnR (w : World) (base : Nat) (a : Option Addr) (cap : Nat) (ps : List (Nat × List Int)) : Prop :=
  w.ownsRow base 22 1 (.slice a ps.length cap) ps.length (ps.map rowV) ∧ (∀ p ∈ ps, Own .u8 5 w (base + 1) (some ⟨p.1, 0, none⟩) p.2.length p.2) ∧ ps.Pairwise (fun p q => p.1 < q.1)

def rowsOf (ps : List (Nat × List Int)) : List (List Int) := ps.map Prod.snd

theorem OwnR.kept {w w' : World} {base : Nat} {a : Option Addr} {cap : Nat} {ps : List (Nat × List Int)} (h : OwnR w base a cap ps) (hb : Below w.heap.size w w') : OwnR w' base a cap ps :=
  ⟨World.ownsRow.kept h.1 (Below.grownBy hb none) (by cases a <;> simp [Value.ownBlock]), fun p hp => (h.2.1 p hp).kept hb, h.2.2⟩

theorem OwnR.rd {w : World} {base : Nat} {a : Option Addr} {cap : Nat} {ps : List (Nat × List Int)} (h : OwnR w base a cap ps) : RdR w a (rowsOf ps) := by
  rcases h.1.2 with ⟨_, h0⟩ | ⟨g, cap', cur, hv, _⟩
  · left
    have : ps = [] := List.eq_nil_of_length_eq_zero h0
    simp [rowsOf, this]
  · simp only [Value.slice.injEq, true_and] at hv
    obtain ⟨rfl, rfl⟩ := hv
    right
    refine ⟨g, 0, rfl, fun i hi => ?_⟩
    have hi' : i < ps.length := by simpa [rowsOf] using hi
    have e : (rowsOf ps).getD i [] = ps[i].2 := by simp [rowsOf, List.getD, hi']
    refine ⟨some ⟨ps[i].1, 0, none⟩, ps[i].2.length, ?_, ?_, fun h => by cases h⟩
    · rw [Nat.zero_add, World.ownsRow.cellAt h.1 i (by omega), e]
      simp [rowV, hi']
    · rw [e]
      exact (h.2.1 _ (List.getElem_mem hi')).rd

theorem Try.info_row : (Try.prog.info? 22).map (fun i => (i.zero, i.size, i.bytes)) = some (some (.slice none 0 0), 1, 24) := by kernel_rfl

/-- How many bytes the rows hold. -/
def total : List (List Int) → Nat
  | [] => 0
  | z :: r => z.length + total r

theorem total_append : ∀ a b : List (List Int), total (a ++ b) = total a + total b
  | [], b => by simp [total]
  | z :: r, b => by simp [total, total_append r b]; omega

theorem take_next' (zss : List (List Int)) (k : Nat) (h : k < zss.length) : zss.take (k + 1) = zss.take k ++ [zss.getD k []] := by
  rw [List.take_add_one]
  simp [List.getD, h]

theorem total_take (zss : List (List Int)) (k : Nat) (h : k < zss.length) : total (zss.take (k + 1)) = total (zss.take k) + (zss.getD k []).length := by
  rw [take_next' zss k h, total_append]
  simp [total]

theorem total_le (zss : List (List Int)) (k : Nat) : total (zss.take k) ≤ total zss := by
  have e : total zss = total (zss.take k) + total (zss.drop k) := by rw [← total_append, List.take_append_drop]
  omega

/-- Rows that are laid, and places that are still empty. -/
def rowFill (ps : List (Nat × List Int)) (n : Nat) : List Value := ps.map rowV ++ List.replicate (n - ps.length) (.slice none 0 0)

theorem rowFill_set (ps : List (Nat × List Int)) (n : Nat) (p : Nat × List Int) (h : ps.length < n) : (rowFill ps n).set ps.length (rowV p) = rowFill (ps ++ [p]) n := by
  unfold rowFill
  rw [List.set_append_right _ _ (by simp)]
  obtain ⟨m, hm⟩ : ∃ m, n - ps.length = m + 1 := ⟨n - ps.length - 1, by omega⟩
  rw [hm, show n - (ps ++ [p]).length = m by simp; omega]
  simp [List.replicate_succ]

theorem length_rowFill (ps : List (Nat × List Int)) (n : Nat) (h : ps.length ≤ n) : (rowFill ps n).length = n := by simp [rowFill]; omega

set_option maxHeartbeats 1000000 in
theorem toByteSS_ok (a : Option Addr) (n ca : Nat) (zss : List (List Int)) (w : World) (ha : RdR w a zss) (hn : zss.length = n) (hx : n ≤ 1048576) (ht : total zss ≤ 1048576) :
    Calls Try.prog 17 #[.slice a n ca] w fun e w' => ∃ ps, e = .returned (.slice (some ⟨w.heap.size, 0, none⟩) n n) ∧ rowsOf ps = zss ∧ OwnR w' w.heap.size (some ⟨w.heap.size, 0, none⟩) n ps ∧ Below w.heap.size w w' := by
  obtain ⟨i0, hi, hz0, hz1, hz2⟩ := info_parts Try.info_row
  go_enter Try.func17, Try.ntmps17
  go_wp2_with (at_make; refine wpList_make_full _ rfl _ _ 31 rfl w.heap.size 22 i0 (.slice none 0 0) 1 Try.underlying31 hi hz0 hz1 .i64 .i64 _ _ n rfl rfl rfl rfl (by rw [hz2]; omega) (by unfold maxLen; omega) (Nat.le_refl _) ?_)
  intro w1 hown hgrow
  have hown0 : w1.ownsRow w.heap.size 22 1 (.slice (some ⟨w.heap.size, 0, none⟩) n n) n (rowFill [] n) := by
    simpa [toList_madeCells_one, rowFill] using hown
  have hbel : Below w.heap.size w w1 := (Below.refl _ _).grown hgrow (Nat.le_refl _) (by intro k hk; cases hk)
  have hsz1 : w.heap.size < w1.heap.size := (hown0.lt _ rfl).2
  clear hown hgrow
  go_wp2
  go_loopw [4] (fun i wr => ∃ (k : Nat) (ps : List (Nat × List Int)), k ≤ n ∧ i = .int .i64 k ∧ ps.length = k ∧ rowsOf ps = zss.take k ∧ wr.ownsRow w.heap.size 22 1 (.slice (some ⟨w.heap.size, 0, none⟩) n n) n (rowFill ps n) ∧ (∀ p ∈ ps, Own .u8 5 wr (w.heap.size + 1) (some ⟨p.1, 0, none⟩) p.2.length p.2) ∧ ps.Pairwise (fun p q => p.1 < q.1) ∧ Below w.heap.size w wr ∧ w.heap.size < wr.heap.size) (fun i _ => n - (intOf i).toNat)
  case atStart => exact ⟨0, [], Nat.zero_le _, rfl, rfl, rfl, hown0, fun p hp => by (cases hp), List.Pairwise.nil, hbel, hsz1⟩
  case round =>
    obtain ⟨k, ps, hk, rfl, hl, hrows, hown, hin, hpw, hb, hsz⟩ := hrel
    by_cases hlt : k < n
    · rcases ha with ha | ⟨b1, o1, rfl, hca⟩
      · simp [ha] at hn; omega
      obtain ⟨c, d, h0, hr, _⟩ := hca k (by omega)
      have hlt1 : b1 < w.heap.size := World.block_lt_of_cell? (a := ⟨b1, o1 + k, none⟩) w h0
      have h1 : wr.cell? ⟨b1, o1 + k, none⟩ = some (.slice c (zss.getD k []).length d) := (hb.cell (p := ⟨b1, o1 + k, none⟩) hlt1).trans h0
      have hk1 : (k : Int) < (n : Int) := by omega
      have hT : (zss.getD k []).length ≤ 1048576 := by have h2 := total_take zss k (by omega); have h3 := total_le zss (k + 1); omega
      have hR := hr.kept hb
      have hTk := Hid.mk (take_next' zss k (by omega))
      clear hca h0 hr
      generalize zss.getD k [] = zs at *
      obtain ⟨m, hm⟩ : ∃ m, zs.length = m := ⟨_, rfl⟩
      rw [hm] at h1 hT
      have HM := Hid.mk hm
      clear hm
      go_wp2_with fail
      refine (toByteS_at c m d zs _ hR HM.out (by omega)).mono ?_
      rintro e w2 ⟨rfl, o2, b2⟩
      have hown2 := World.ownsRow.kept hown (Below.grownBy b2 none) (.inr (by simp [Value.ownBlock]))
      have hin2 : ∀ p ∈ ps, Own .u8 5 w2 (w.heap.size + 1) (some ⟨p.1, 0, none⟩) p.2.length p.2 := fun p hp => (hin p hp).kept b2
      have hlt2 : ∀ p ∈ ps, p.1 < wr.heap.size := fun p hp => ((hin p hp).lt _ rfl).2
      have h2 : w2.frozen? ⟨w.heap.size, k, none⟩ = false := hown2.frozenAt k
      have h3 : ∃ v, w2.cell? ⟨w.heap.size, k, none⟩ = some v := by
        rw [hown2.cellAt k (by omega)]
        exact ⟨_, List.getElem?_eq_getElem (by rw [length_rowFill ps n (by omega)]; omega)⟩
      obtain ⟨v3, h3⟩ := h3
      have hs := hown2.stored k (rowV (wr.heap.size, zs))
      have hset : (rowFill ps n).set k (rowV (wr.heap.size, zs)) = rowFill (ps ++ [(wr.heap.size, zs)]) n := by rw [← hl]; exact rowFill_set ps n _ (by omega)
      rw [hset] at hs
      have e1 : rowV (wr.heap.size, zs) = .slice (some ⟨wr.heap.size, 0, none⟩) m m := by simp [rowV, HM.out]
      rw [e1] at hs
      have HS := Hid.mk hs.1
      have HG := Hid.mk hs.2
      have o2' : Own .u8 5 w2 wr.heap.size (some ⟨wr.heap.size, 0, none⟩) m zs := o2
      have hb2 : Below w.heap.size w w2 := hb.trans (b2.mono (by omega))
      have hsz2 := b2.size
      clear hs hown hown2 hset e1 o2
      go_wp2
      go_roundw
      case rel =>
        refine ⟨k + 1, ps ++ [(wr.heap.size, zs)], by omega, by go_num, by simp [hl], ?_, HS.out, ?_, ?_, hb2.setCell (Nat.le_refl _) _, by simp [World.setCell]; omega⟩
        · rw [hTk.out, ← hrows]; simp [rowsOf]
        · intro p hp
          rcases List.mem_append.1 hp with h | h
          · exact (hin2 p h).grown HG.out fun b hb' e => by
              have h5 := ((hin2 p h).lt b hb').1
              simp at e
              omega
          · simp at h; subst h
            rw [HM.out]
            exact (o2'.grown HG.out fun b hb' e => by simp at hb'; subst hb'; simp at e; omega).mono (by omega)
        · rw [List.pairwise_append]
          exact ⟨hpw, List.pairwise_singleton _ _, fun p hp q hq => by simp at hq; subst hq; exact hlt2 p hp⟩
      case measure => simp [intOf]; omega
    · have hkn : k = n := by omega
      subst hkn
      rw [List.take_of_length_le (by omega)] at hrows
      have HO := Hid.mk hown
      clear hown
      go_wp2
      go_ret
      refine ⟨ps, rfl, hrows, ⟨?_, ?_, hpw⟩, hb⟩
      · rw [hl]
        simpa [rowFill, hl] using HO.out
      · exact hin

end Go.Proofs.Ytnclfbliimcpgab
