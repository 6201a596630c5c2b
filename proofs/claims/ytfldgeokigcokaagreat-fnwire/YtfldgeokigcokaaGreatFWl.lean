/- Put together: Row, Zl, NbA, PrsF. -/
import Derived.Test.YtfldgeokigcokaaGreatVar
import Derived.Test.YtfldgeokigcokaaGreatFWr
import Derived.Laws.CopyOwn
import Derived.Test.YtfldgeokigcokaaGreatPkt
import Derived.Test.YtfldgeokigcokaaGreatPut
import Derived.Test.YtfldgeokigcokaaGreatFWm
import Derived.Test.YtfldgeokigcokaaGreatSum

/- 'append' and 'copy' over a row of bytes of the call's own, in this place's words. -/
namespace Go.Proofs.YtfldgeokigcokaaGreat
open Go.RowKit

section
variable {P : Program} (w : World)

theorem wpList_app {ops : Array Oper} {rest : List Oper} {o : Oper} {a : Act} {Q : Exit → Act → World → Prop} (hgd : o.guard = none) (s x : Operand) (t : TypeId)
    (ho : o.op = .call { callee := .builtin .append, args := #[s, x], argTypes := #[t, t] })
    (base : Nat) (e : TypeId) (i : TypeInfo) (ht : P.underlying t = some (.slice e)) (hi : P.info? e = some i) (hz : i.zero = some (.int .u8 0)) (hsize : i.size = 1) (hby : i.bytes = 1)
    (c0 : Option Addr) (cap n : Nat) (l : List Int) (hs : a.eval s = .slice c0 n cap) (hown : Own .u8 e w base c0 cap l) (hn : l.length = n)
    (c : Option Addr) (m d : Nat) (zs : List Int) (hx : a.eval x = .slice c m d) (hr : Rd .u8 w c zs) (hm : zs.length = m) (hc : c = none → d = 0)
    (h63 : n + m ≤ 140737488355328) (hbase : base ≤ w.heap.size)
    (h : ∀ c' d' w', Own .u8 e w' base c' d' (l ++ zs) → w.grownBy w' (c0.map Addr.block) → Below base w w' → wpList P ops Q rest (a.put o.dst (.slice c' (n + m) d')) w') : wpList P ops Q (o :: rest) a w := by
  refine wpList_append_rd w hgd s x t ho base e i ht hi hz hsize hby _ n l hs (hown.row hn) c m d zs hx hr hm hc h63 hbase fun v' w' h1 h2 => ?_
  obtain ⟨c', d', rfl⟩ := ownsRow_shape h1
  have e0 : (Value.slice c0 n cap).ownBlock = c0.map Addr.block := by cases c0 <;> rfl
  rw [e0] at h2
  refine h c' d' w' (Own.mk h1 (by simp [hn, hm])) h2 ((Below.refl base w).grown h2 hbase fun k hk => ?_)
  have := hown.lt
  cases c0 with
  | none => cases hk
  | some b => simp at hk; subst hk; exact (this b rfl).1

theorem wpList_put {ops : Array Oper} {rest : List Oper} {o : Oper} {a : Act} {Q : Exit → Act → World → Prop} (hgd : o.guard = none) (s x : Operand) (t : TypeId)
    (ho : o.op = .call { callee := .builtin .append, args := #[s, x], argTypes := #[t, t] })
    (base : Nat) (e : TypeId) (i : TypeInfo) (ht : P.underlying t = some (.slice e)) (hi : P.info? e = some i) (hz : i.zero = some (.int .u8 0)) (hsize : i.size = 1) (hby : i.bytes = 1)
    (c0 : Option Addr) (cap n : Nat) (l : List Int) (hs : a.eval s = .slice c0 n cap) (hown : Own .u8 e w base c0 cap l) (hn : l.length = n)
    (c : Option Addr) (m d : Nat) (zs : List Int) (hx : a.eval x = .slice c m d) (hr : Rd .u8 w c zs) (hm : zs.length = m) (hc : c = none → d = 0)
    (k : Nat) (l' : List Int) (hk : n + m = k) (hl' : l ++ zs = l') (h63 : n + m ≤ 140737488355328) (hbase : base ≤ w.heap.size)
    (h : ∀ c' d' w', Own .u8 e w' base c' d' l' → Below base w w' → wpList P ops Q rest (a.put o.dst (.slice c' k d')) w') : wpList P ops Q (o :: rest) a w := by
  subst hk
  subst hl'
  exact wpList_app w hgd s x t ho base e i ht hi hz hsize hby c0 cap n l hs hown hn c m d zs hx hr hm hc h63 hbase fun c' d' w' h1 _ h3 => h c' d' w' h1 h3

theorem Rd.keptB {k : IntKind} {w w' : World} {top : Nat} {a : Option Addr} {zs : List Int} (h : Rd k w a zs) (hlt : ∀ b, a = some b → b.block < top) (hb : Below top w w') : Rd k w' a zs := by
  rcases h with h | ⟨b, off, rfl, hc⟩
  · exact .inl h
  · exact .inr ⟨b, off, rfl, fun i hi => (hb.cell (p := ⟨b, off + i, none⟩) (show b < top from hlt ⟨b, off, none⟩ rfl)).trans (hc i hi)⟩

end

end Go.Proofs.YtfldgeokigcokaaGreat

/- What is answered beside a code. -/
namespace Go.Proofs.YtfldgeokigcokaaGreat
open Go.RowKit

/-- What is answered beside a code: nothing, if there is one. -/
@[irreducible] def z0 (k v : Int) : Int := if k = 0 then v else 0
@[irreducible] def zl (k : Int) (xs : List Int) : List Int := if k = 0 then xs else []

theorem z0_0 (v : Int) : z0 0 v = v := by unfold z0; simp
theorem zl_0 (xs : List Int) : zl 0 xs = xs := by unfold zl; simp
theorem z0_1 {k : Int} (h : k ≠ 0) (v : Int) : z0 k v = 0 := by unfold z0; simp [h]
theorem zl_1 {k : Int} (h : k ≠ 0) (xs : List Int) : zl k xs = [] := by unfold zl; simp [h]
theorem zl_len (k : Int) (xs : List Int) : (zl k xs).length ≤ xs.length := by unfold zl; split <;> simp

theorem Own.nocap {k : IntKind} {e : TypeId} {w : World} {base : Nat} {a : Option Addr} {cap : Nat} {zs : List Int} (h : Own k e w base a cap zs) : a = none → cap = 0 := by
  intro ha
  subst ha
  rcases h.2 with ⟨h0, _⟩ | ⟨g, cap', cur, hv, _⟩
  · simp only [Value.slice.injEq] at h0; exact h0.2.2
  · simp at hv

end Go.Proofs.YtfldgeokigcokaaGreat

/- 'numberBytes', by its contract. -/
namespace Go.Proofs.YtfldgeokigcokaaGreat
open Go.RowKit

theorem ptVal_of {n : Int} {s : Nat} (h : ptIn n s) : ptVal n s = putN n s := by
  unfold ptVal; rw [if_pos h]; rfl

theorem numberBytes_ok (n : Int) (s : Nat) (w : World) (h : ptIn n s) :
    Calls Tryz.prog 57 #[.int .i64 n, .int .i64 (s : Int)] w fun e w' => ∃ c d, e = .returned (.slice c s d) ∧ Own .u8 5 w' w.heap.size c d (putN n s) ∧ Below w.heap.size w w' := by
  have C := Hid.mk (fun w => implPutNumber_ok n s w)
  rw [ptVal_of h, length_putN] at C
  go_enter Tryz.func57, Tryz.ntmps57
  go_wp2_with fail
  refine (C.out _).mono ?_
  rintro e w1 ⟨c, d, rfl, o1, b1⟩
  have O1 := Hid.mk o1
  clear o1
  have hfd : ∀ wx : World, (Instr.field 31 (.agg #[.int .i64 (ptCode n s), .slice c s d]) 1).run Tryz.prog wx = .ok (.slice c s d) wx := fun _ => by kernel_rfl
  go_wp2
  go_ret
  exact ⟨c, d, rfl, O1.out, b1⟩

end Go.Proofs.YtfldgeokigcokaaGreat

/- What 'ParsePacket' answers: plain facts on bytes. -/
namespace Go.Proofs.YtfldgeokigcokaaGreat
open Go.RowKit

theorem ofNat_inj {a b : Int} (ha : 0 ≤ a ∧ a < 256) (hb : 0 ≤ b ∧ b < 256) (h : UInt8.ofNat a.toNat = UInt8.ofNat b.toNat) : a = b := by
  have h1 := congrArg UInt8.toNat h
  simp at h1
  omega

theorem eqB_iff {xs ys : List Int} (hx : Bytes xs) (hy : Bytes ys) : eqB xs ys = true ↔ xs = ys := by
  unfold eqB
  rw [beq_iff_eq]
  constructor
  · intro h
    have h2 : (xs.map fun n => UInt8.ofNat n.toNat) = ys.map fun n => UInt8.ofNat n.toNat := by
      have e : ∀ zs : List Int, (strOfNums zs).toList = zs.map fun n => UInt8.ofNat n.toNat := fun zs => by simp [strOfNums]
      rw [← e, ← e, h]
    clear h
    induction xs generalizing ys with
    | nil => cases ys <;> simp_all
    | cons x xs ih =>
      cases ys with
      | nil => simp at h2
      | cons y ys =>
        simp only [List.map_cons, List.cons.injEq] at h2
        rw [ofNat_inj (hx x (by simp)) (hy y (by simp)) h2.1, ih (fun z hz => hx z (by simp [hz])) (fun z hz => hy z (by simp [hz])) h2.2]
  · rintro rfl; rfl

@[irreducible] def lowB (zs : List Int) : Bool := decide (20 ≤ (zs.length : Int))
@[irreducible] def topB (zs : List Int) : Bool := decide ((zs.length : Int) ≤ 224)
@[irreducible] def verB (zs : List Int) : Bool := zs.getD 0 0 == 69
@[irreducible] def nulB (zs : List Int) : Bool := zs.getD 1 0 == 0
@[irreducible] def mrkB (zs : List Int) : Bool := eqB ((zs.drop 4).take 4) [0, 0, 64, 0]
@[irreducible] def lenB (zs : List Int) : Bool := takeN zs 2 2 == (zs.length : Int)

/-- The head is one. -/
@[irreducible] def hdB (zs : List Int) : Bool := lowB zs && (topB zs && (verB zs && (nulB zs && (mrkB zs && lenB zs))))

/-- The code of 'ParsePacket'. -/
@[irreducible] def psC (zs : List Int) : Int :=
  if hdB zs = true then
    if sumWords (zs.take 20) = 0 then
      if zs.getD 8 0 = 0 ∨ zs.getD 9 0 = 0 then 3
      else if portsP (zs.getD 9 0) = true then (if zs.length < 24 then 5 else 0)
      else if 220 < zs.length then 2 else 0
    else 6
  else 5

@[irreducible] def psAt (zs : List Int) : Nat := if portsP (zs.getD 9 0) = true then 24 else 20
@[irreducible] def psX (zs : List Int) : Int := if portsP (zs.getD 9 0) = true then takeN zs 20 2 else 0
@[irreducible] def psY (zs : List Int) : Int := if portsP (zs.getD 9 0) = true then takeN zs 22 2 else 0

end Go.Proofs.YtfldgeokigcokaaGreat
