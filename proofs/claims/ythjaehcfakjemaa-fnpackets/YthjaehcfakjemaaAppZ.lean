/- 'append(b, make([]byte, m)...)' on a row of bytes of the call's own. -/
import Derived.Test.YthjaehcfakjemaaRow
import Derived.Lib.AppendZeros
namespace Go.Proofs.Ythjaehcfakjemaa
open Go.RowKit

theorem zeroCells_one (z : Value) (h : z.cells = #[z]) (n : Nat) : (Builtin.zeroCells z.cells n).toList = List.replicate n z := by
  rw [h]
  apply List.ext_getElem?
  intro j
  by_cases hj : j < n
  · simp [Builtin.zeroCells, hj, Nat.mod_one]
  · simp [Builtin.zeroCells, hj]

theorem run_append_zeros {P : Program} (w : World) (base : Nat) (t tn ty e : TypeId) (i : TypeInfo) (kn k : IntKind) (ht : P.underlying t = some (.slice e)) (htn : P.underlying tn = some (.int kn)) (hi : P.info? e = some i) (hz : i.zero = some (.int .u8 0)) (hs : i.size = 1) (hby : i.bytes = 1)
    (c0 : Option Addr) (cap n m : Nat) (l : List Int) (hown : Own .u8 e w base c0 cap l) (hn : l.length = n) (hm0 : 0 < m) (hm : m ≤ 1000) (hn1 : n ≤ 1000000) (hbase : base ≤ w.heap.size) (hc0 : 0 < n) :
    ∃ c' d' w', (Builtin.append_ #[t, tn] ty #[.slice c0 n cap, .int k (m : Int)]).run P w = .ok (.slice c' (n + m) d') w' ∧ Own .u8 e w' base c' d' (l ++ List.replicate m 0) ∧ w.grownBy w' (c0.map Addr.block) := by
  have hr := hown.row hn
  rcases hr.2 with ⟨_, h0⟩ | ⟨g, cap', cur, hv, hbg, hg, hnc, hcm, hcs, htake⟩
  · omega
  simp only [Value.slice.injEq, true_and] at hv
  obtain ⟨rfl, rfl⟩ := hv
  have hw : IntKind.i64.wrap (m : Int) = m := by rw [IntKind.wrap_i64]; omega
  have hneg : ¬ ((m : Int) < 0) := by omega
  have hmn : m ≠ 0 := by omega
  have h48i : ¬ (281474976710656 < (m : Int)) := by omega
  simp only [Nat.mul_one] at hcs htake
  by_cases hroom : n + m ≤ cap
  · have hst := run_storeCells_at P g n e (List.replicate m (Value.int .u8 0)) 0 cur w hg (by simp; omega) (by intro u hu; rw [List.eq_of_mem_replicate hu]; rfl)
    simp only [Nat.add_zero] at hst
    have hzc := zeroCells_one (.int .u8 0) rfl m
    refine ⟨some ⟨g, 0, none⟩, cap, w.setRow g (cur.toList.take n ++ List.replicate m (Value.int .u8 0) ++ cur.toList.drop (n + (List.replicate m (Value.int .u8 0)).length)).toArray, ?_, ?_, ?_⟩
    · simp [Builtin.append_, run_underlying ht, run_underlying htn, sizeOf, typeInfo, zeroValue, hi, hz, hs, hby, asInt, asIntOf, hw, hneg, hmn, h48i, hroom, Addr.add_lit, hzc, hst]
    · refine Own.mk (n := n + m) ⟨by simp [hn], .inr ⟨g, cap, _, rfl, hbg, setRow_heap w g cur _ e _ hg, hroom, hcm, ?_, ?_⟩⟩ (by simp [hn])
      · simp; omega
      · rw [htake]
        simp only [Nat.mul_one, List.map_append, List.map_replicate]
        rw [List.take_left']
        simp [hn]
    · exact ⟨rfl, rfl, rfl, by simp [World.setRow], fun k _ hk => setRow_other w g k _ (fun e => hk (by simp [e]))⟩
  · have holds : ∀ j u, (l.map (Value.int .u8))[j]? = some u → w.cell? ((⟨g, 0, none⟩ : Addr).add j) = some u := hr.cells (g := g) rfl
    have hfo := run_firstCells_some (P := P) w.drew 1 n ⟨g, 0, none⟩ n cap (l.map (Value.int .u8)) (by simp [hn]) (by simpa using holds)
    have hge := grownCap_ge w (n + m) cap e
    have hcm2 : grownCap w (n + m) cap e ≤ maxLen := grownCap_le_maxLen w (n + m) cap e (by unfold maxLen; omega)
    have hfits : Builtin.nextslicecap (n + m) cap * 1 ≤ 281474976710656 := growslice_fits (by omega) (by omega)
    have h48' : ¬ (281474976710656 < Builtin.nextslicecap (n + m) cap * 1) := by omega
    have h63' : ¬ (9223372036854775807 < ((n : Int) + (m : Int))) := by omega
    simp only [Nat.mul_one] at h48'
    refine ⟨some ⟨w.heap.size, 0, none⟩, grownCap w (n + m) cap e, w.drew.alloc (.cells ((l.map (Value.int .u8)).toArray ++ Builtin.zeroCells (Value.int .u8 0).cells m ++ Builtin.zeroCells (Value.int .u8 0).cells (grownCap w (n + m) cap e - (n + m))) e), ?_, ?_, ?_⟩
    · simp [Builtin.append_, run_underlying ht, run_underlying htn, sizeOf, typeInfo, zeroValue, hi, hz, hs, hby, asInt, asIntOf, hw, hneg, hmn, h48i, hroom, Question.forced, h63', h48', hfo, newRow, grownCap]
    · refine Own.mk (n := n + m) ⟨by simp [hn], .inr ⟨w.heap.size, _, _, rfl, hbase, heap_alloc_new w.drew _, hge, hcm2, ?_, ?_⟩⟩ (by simp [hn])
      · simp only [Array.size_append, List.size_toArray, size_zeroCells, List.length_map, hn]
        rw [show (Value.int .u8 0).cells.size = 1 from rfl]
        omega
      · simp only [Array.toList_append, zeroCells_one (.int .u8 0) rfl, Nat.mul_one, List.map_append, List.map_replicate]
        rw [List.take_left']
        simp [hn]
    · exact ⟨rfl, rfl, rfl, by simp, fun k hk _ => Below.heap_alloc w.drew _ k hk⟩

end Go.Proofs.Ythjaehcfakjemaa
