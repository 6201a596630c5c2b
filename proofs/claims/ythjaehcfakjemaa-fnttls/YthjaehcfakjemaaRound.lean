/- A packet's bytes are read back as the packet: plain facts on lists. -/
import Derived.Test.YthjaehcfakjemaaTtl
namespace Go.Proofs.Ythjaehcfakjemaa
open Go.RowKit

theorem headP_bytes (f t r l len : Int) (hr : 0 ≤ r ∧ r ≤ 255) (hl : 0 ≤ l ∧ l ≤ 255) : Bytes (headP f t r l len) := by
  rw [headP_eq]
  refine ((Bytes.append (Bytes.append ?_ (putN_bytes _ _)) ?_).append (putN_bytes _ _)).append ((putN_bytes _ _).append (putN_bytes _ _))
  · intro z hz; simp at hz; omega
  · intro z hz; simp at hz; omega

theorem portP_bytes (r x y : Int) : Bytes (portP r x y) := by
  unfold portP; split
  · exact (putN_bytes _ _).append (putN_bytes _ _)
  · intro z hz; simp at hz

theorem buildP_bytes {f t r l x y : Int} {xs : List Int} (hr : 0 ≤ r ∧ r ≤ 255) (hl : 0 ≤ l ∧ l ≤ 255) (hx : Bytes xs) : Bytes (buildP f t r l x y xs) :=
  (headP_bytes _ _ _ _ _ hr hl).append ((portP_bytes _ _ _).append hx)

theorem fold_fold (a b : Int) (ha : 0 ≤ a) (hb : 0 ≤ b) : fold (fold a + b) = fold (a + b) := by
  unfold fold
  by_cases h1 : a = 0
  · subst h1; simp
  · rw [if_neg h1]
    by_cases h2 : (a - 1) % 65535 + 1 + b = 0
    · omega
    · rw [if_neg h2, if_neg (by omega)]
      omega

/-- The words' sum, not folded. -/
def tot (zs : List Int) : Nat → Int
  | 0 => 0
  | k + 1 => tot zs k + wordN zs k

theorem wordN_pos {zs : List Int} (hb : Bytes zs) (k : Nat) : 0 ≤ wordN zs k := by
  have h1 := hb.at (2 * k)
  have h2 := hb.at (2 * k + 1)
  unfold wordN; omega

theorem tot_pos {zs : List Int} (hb : Bytes zs) : ∀ k, 0 ≤ tot zs k
  | 0 => by simp [tot]
  | k + 1 => by have := tot_pos hb k; have := wordN_pos hb k; simp only [tot]; omega

theorem sumN_tot {zs : List Int} (hb : Bytes zs) : ∀ k, sumN zs k = fold (tot zs k)
  | 0 => by simp [sumN, tot, fold]
  | k + 1 => by rw [sumN_succ, sumN_tot hb k, fold_fold _ _ (tot_pos hb k) (wordN_pos hb k)]; rfl

theorem putN_two (n : Int) : putN n 2 = [n / 256 % 256, n % 256] := by
  have e : (2 : Int) ^ (8 * (2 - 1 - 0)) = 256 := by decide
  simp [putN, digitN, List.range_succ]

theorem putN_four (n : Int) : putN n 4 = [n / 16777216 % 256, n / 65536 % 256, n / 256 % 256, n % 256] := by
  simp [putN, digitN, List.range_succ]

theorem bareP_list (f t r l len : Int) : bareP f t r l len = [69, 0, len / 256 % 256, len % 256, 0, 0, 64, 0, l, r, 0, 0, f / 16777216 % 256, f / 65536 % 256, f / 256 % 256, f % 256, t / 16777216 % 256, t / 65536 % 256, t / 256 % 256, t % 256] := by
  simp [bareP, putN_two, putN_four]

theorem headP_list (f t r l len : Int) : ∃ c : Int, c = sumWords (bareP f t r l len) ∧ headP f t r l len = [69, 0, len / 256 % 256, len % 256, 0, 0, 64, 0, l, r, c / 256 % 256, c % 256, f / 16777216 % 256, f / 65536 % 256, f / 256 % 256, f % 256, t / 16777216 % 256, t / 65536 % 256, t / 256 % 256, t % 256] := by
  refine ⟨_, rfl, ?_⟩
  unfold headP
  generalize sumWords (bareP f t r l len) = c
  rw [bareP_list, putN_two]
  simp [splice]

theorem headP_sum (f t r l len : Int) (hr : 0 ≤ r ∧ r ≤ 255) (hl : 0 ≤ l ∧ l ≤ 255) : sumWords (headP f t r l len) = 0 := by
  obtain ⟨c, hc, e⟩ := headP_list f t r l len
  have hb := headP_bytes f t r l len hr hl
  have hb0 := bareP_bytes f t r l len hr hl
  have hcb := sumWords_bound (bareP f t r l len)
  have h0 : c = 65535 - fold (tot (bareP f t r l len) 10) := by
    rw [hc]; unfold sumWords; rw [length_bareP, sumN_tot hb0]
  have h1 : sumWords (headP f t r l len) = 65535 - fold (tot (headP f t r l len) 10) := by
    unfold sumWords; rw [length_headP, sumN_tot hb]
  have hT := tot_pos hb0 10
  have h2 : tot (headP f t r l len) 10 = tot (bareP f t r l len) 10 + c := by
    rw [← hc] at hcb
    rw [e, bareP_list]
    simp only [tot, wordN]
    simp
    omega
  rw [h1, h2, h0]
  generalize tot (bareP f t r l len) 10 = T at *
  unfold fold
  by_cases hz : T = 0
  · subst hz; simp
  · rw [if_neg hz, if_neg (by omega)]
    omega

theorem build_read (f t r l x y : Int) (xs : List Int) (hx : Bytes xs) (hf : 0 ≤ f ∧ f ≤ 4294967295) (ht : 0 ≤ t ∧ t ≤ 4294967295) (hr : 1 ≤ r ∧ r ≤ 255) (hl : 1 ≤ l ∧ l ≤ 255) (hx0 : 0 ≤ x ∧ x ≤ 65535) (hy0 : 0 ≤ y ∧ y ≤ 65535) (hp : portsP r = false → x = 0 ∧ y = 0) (hn : xs.length ≤ 200) :
    psIs (buildP f t r l x y xs) 0 f t r l x y xs := by
  have hb := buildP_bytes (f := f) (t := t) (r := r) (l := l) (x := x) (y := y) (xs := xs) (by omega) (by omega) hx
  have hlen := length_buildP f t r l x y xs
  have hpl := portP_len r x y
  obtain ⟨len, hle⟩ : ∃ len : Int, len = 20 + ((portP r x y).length : Int) + (xs.length : Int) := ⟨_, rfl⟩
  have hs := headP_sum f t r l len (by omega) (by omega)
  have hhl := length_headP f t r l len
  obtain ⟨c, hc, e⟩ := headP_list f t r l len
  have hB : buildP f t r l x y xs = headP f t r l len ++ (portP r x y ++ xs) := by unfold buildP; rw [hle]
  have htk : (buildP f t r l x y xs).take 20 = headP f t r l len := by rw [hB, ← hhl, List.take_left']; rfl
  have hd : hdB (buildP f t r l x y xs) = true := by
    rw [hdB_iff hb]
    refine ⟨⟨by omega, by omega⟩, ?_, ?_, ?_, ?_⟩
    · rw [hB, e]; rfl
    · rw [hB, e]; rfl
    · rw [hB, e]; simp [takeN, List.range_succ]
    · rw [hlen, hB, e]; simp [takeN, List.range_succ]; omega
  have h8 : (buildP f t r l x y xs).getD 8 0 = l := by rw [hB, e]; rfl
  have h9 : (buildP f t r l x y xs).getD 9 0 = r := by rw [hB, e]; rfl
  have hF : takeN (buildP f t r l x y xs) 12 4 = f := by rw [hB, e]; simp [takeN, List.range_succ]; omega
  have hT : takeN (buildP f t r l x y xs) 16 4 = t := by rw [hB, e]; simp [takeN, List.range_succ]; omega
  have hk : psC (buildP f t r l x y xs) = 0 := by
    unfold psC
    rw [if_pos hd, htk, if_pos hs, h8, h9, if_neg (by omega)]
    by_cases hpp : portsP r = true
    · rw [if_pos hpp, if_neg]
      rw [hlen, portP_yes hpp]
      simp [length_putN]
    · rw [if_neg hpp, if_neg]
      simp only [Bool.not_eq_true] at hpp
      rw [hlen, portP_no hpp]
      simp
      omega
  refine ⟨hk, by rw [z0_0, hF], by rw [z0_0, hT], by rw [z0_0, h9], by rw [z0_0, h8], ?_, ?_, ?_⟩
  · rw [z0_0]
    cases hpp : portsP r
    · rw [(psX_no (by rw [h9]; exact hpp)).1]; exact (hp hpp).1.symm
    · rw [(psX_yes (by rw [h9]; exact hpp)).1, hB, e, portP_yes hpp, putN_two, putN_two]
      simp [takeN, List.range_succ]
      omega
  · rw [z0_0]
    cases hpp : portsP r
    · rw [(psX_no (by rw [h9]; exact hpp)).2.1]; exact (hp hpp).2.symm
    · rw [(psX_yes (by rw [h9]; exact hpp)).2.1, hB, e, portP_yes hpp, putN_two, putN_two]
      simp [takeN, List.range_succ]
      omega
  · rw [zl_0]
    cases hpp : portsP r
    · rw [(psX_no (by rw [h9]; exact hpp)).2.2, hB, portP_no hpp, List.nil_append, ← hhl, List.drop_left']
      rfl
    · rw [(psX_yes (by rw [h9]; exact hpp)).2.2, hB, portP_yes hpp, putN_two, putN_two, e]
      rfl

end Go.Proofs.Ythjaehcfakjemaa
