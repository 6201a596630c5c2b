/- A list of pieces is written, each behind the other. -/
import Derived.Test.YtfldgeokigcokaaGreatPwA
namespace Go.Proofs.YtfldgeokigcokaaGreat
open Go.RowKit

theorem getD_bss (bss : List (List Int)) (k : Nat) (h : k < bss.length) : bss.getD k [] = bss[k] := by simp [List.getD, h]

theorem flat_next (bss : List (List Int)) (k : Nat) (h : k < bss.length) : (bss.take (k + 1)).flatten = (bss.take k).flatten ++ bss.getD k [] := by
  rw [getD_bss bss k h, List.take_add_one, List.flatten_append, List.getElem?_eq_getElem h, Option.toList_some, List.flatten_cons, List.flatten_nil, List.append_nil]

theorem flat_le (bss : List (List Int)) (k : Nat) (h : k < bss.length) : (bss.take k).flatten.length + (bss.getD k []).length ≤ bss.flatten.length := by
  have h1 : bss.flatten = (bss.take k).flatten ++ (bss.drop k).flatten := by rw [← List.flatten_append, List.take_append_drop]
  rw [h1, List.drop_eq_getElem_cons h, List.flatten_cons, List.length_append, List.length_append, getD_bss bss k h]
  omega

set_option maxRecDepth 20000 in
set_option maxHeartbeats 4000000 in
theorem wp_list (S : Nat → Prop) (w0 : World) (g n q : Nat) (us : List Value) (bss : List (List Int)) (hu : us.length = n) (hb : bss.length = n) (hn4 : n ≤ 1000) (hS : S g) (hc : ∀ (i : Nat) (u : Value), us[i]? = some u → w0.cell? ⟨g, i, none⟩ = some u)
    (hw : ∀ (i : Nat) (u : Value), us[i]? = some u → WP S w0 u (bss.getD i [])) : WP S w0 (.iface 56 (.slice (some ⟨g, 0, none⟩) n q)) bss.flatten := by
  intro w base c m d zs hs O hm hbase hne hlen
  have hta1 : ∀ wx : World, (Instr.typeAssert (.iface 56 (.slice (some ⟨g, 0, none⟩) n q)) 94 96 true).run Tryz.prog wx = .ok (.tuple #[.agg #[.int .i64 0, .int .i64 0], .bool false]) wx := fun _ => by kernel_rfl
  have hta2 : ∀ wx : World, (Instr.typeAssert (.iface 56 (.slice (some ⟨g, 0, none⟩) n q)) 94 98 true).run Tryz.prog wx = .ok (.tuple #[.slice none 0 0, .bool false]) wx := fun _ => by kernel_rfl
  have hta3 : ∀ wx : World, (Instr.typeAssert (.iface 56 (.slice (some ⟨g, 0, none⟩) n q)) 94 56 true).run Tryz.prog wx = .ok (.tuple #[.slice (some ⟨g, 0, none⟩) n q, .bool true]) wx := fun _ => by kernel_rfl
  have HS := Hid.mk hs
  have HNE := Hid.mk hne
  have HC := Hid.mk hc
  have HW := Hid.mk hw
  have HL := Hid.mk hlen
  have HB := Hid.mk hb
  have HU := Hid.mk hu
  have HM := Hid.mk hm
  have HBS := Hid.mk hbase
  have hgs : Hid (S g) := Hid.mk hS
  have W0 : Hid (Wrt base w c c d (zs ++ (bss.take 0).flatten) w) := Hid.mk ⟨by simpa using O, Sm.refl _ _, fun k hk => .inl hk⟩
  clear hs hne hc hw hlen hb hu hm hbase hS O
  go_enter Tryz.func27, Tryz.ntmps27
  go_wp2
  go_loopw [0, 32] (fun s i wr => ∃ (k : Nat) (c' : Option Addr) (d' N : Nat), k ≤ n ∧ i = .int .i64 k ∧ s = .slice c' N d' ∧ Hid (N = m + (bss.take k).flatten.length) ∧ Hid (Wrt base w c c' d' (zs ++ (bss.take k).flatten) wr)) (fun _ i _ => n - (intOf i).toNat)
  case atStart => exact ⟨0, c, d, m, Nat.zero_le _, rfl, rfl, Hid.mk (by simp), W0⟩
  case round =>
    clear W0
    obtain ⟨k, c', d', N, hk, rfl, rfl, hN, W⟩ := hrel
    by_cases hlt : k < n
    · have hk1 : (k : Int) < (n : Int) := by omega
      obtain ⟨u, hu⟩ : ∃ u, us[k]? = some u := ⟨_, List.getElem?_eq_getElem (by rw [HU.out]; exact hlt)⟩
      have hblk : ∀ j, S j → j < wr.heap.size ∧ wr.heap[j]? = w0.heap[j]? := fun j hj => by
        obtain ⟨h1, h2⟩ := HS.out j hj
        exact ⟨Nat.lt_of_lt_of_le h1 W.out.sm.size, (W.out.sm.block j h1 (fun e => HNE.out j e hj)).trans h2⟩
      have hcell : wr.cell? ⟨g, k, none⟩ = some u := (World.cell?_of_block (a := ⟨g, k, none⟩) (hblk g hgs.out).2).trans (HC.out k u hu)
      have hfl := flat_le bss k (by rw [HB.out]; exact hlt)
      have hlen : N + (bss.getD k []).length ≤ 1000000 := by have := hN.out; have := HL.out; omega
      have hNl : (zs ++ (bss.take k).flatten).length = N := by rw [List.length_append, HM.out, hN.out]
      have CW := Hid.mk (HW.out k u hu wr base c' N d' _ hblk W.out.own hNl (Nat.le_trans HBS.out W.out.sm.size) (fun j hj e => by
        rcases W.out.lies j hj with h | h
        · exact HNE.out j h e
        · have := (HS.out j e).1; omega) hlen)
      have HNX := Hid.mk (flat_next bss k (by rw [HB.out]; exact hlt))
      clear hblk hfl hNl hu
      go_wp2_with fail
      refine CW.out.mono ?_
      rintro e w1 ⟨c1, d1, rfl, W1⟩
      have hsz := W1.sm.size
      have W2 : Hid (Wrt base w c c1 d1 (zs ++ (bss.take (k + 1)).flatten) w1) := Hid.mk (by rw [HNX.out, ← List.append_assoc]; exact W.out.trans W1)
      have hN2 : Hid (N + (bss.getD k []).length = m + (bss.take (k + 1)).flatten.length) := Hid.mk (by rw [HNX.out, List.length_append, hN.out]; omega)
      clear W W1 CW
      go_wp2
      go_roundw
      case rel => exact ⟨k + 1, c1, d1, _, by omega, by go_num, rfl, hN2, W2⟩
      case measure => simp [intOf]; omega
    · obtain rfl : k = n := by omega
      have he : bss.take k = bss := List.take_of_length_le (by rw [HB.out]; exact Nat.le_refl _)
      have HE := Hid.mk he
      clear he
      go_wp2
      go_ret
      exact ⟨c', d', by have h1 := hN.out; rw [HE.out] at h1; subst h1; rfl, by have h1 := W.out; rw [HE.out] at h1; exact h1⟩

end Go.Proofs.YtfldgeokigcokaaGreat
