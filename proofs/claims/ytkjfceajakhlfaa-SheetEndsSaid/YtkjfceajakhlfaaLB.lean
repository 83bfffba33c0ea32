/- J4: The iterator over the issues of a drawing. J5: A map of numbers to bools, as a set: what it tells, and what a store and a delete do. H4: slices.IndexFunc and slices.ContainsFunc over sizes, and over items, with whatever predicate. J6: The desk's small functions: nameOf, place; needs and its closure. JB: complete; all. J7: needs. JE: chains. JM0: Registers in order: what right and complete say. Y1: A map of numbers to numbers. -/
import Derived.Test.YtkjfceajakhlfaaLA
import Derived.Test.YtkjfceajakhlfaaRange
import Derived.Shelf.Abstract
import Derived.Shelf.RegionOpen
import Derived.OwnWalkIn
import Derived.TacticsInMore
import Derived.LoopNIn
import Derived.LoopIn
import Derived.Sort.QuietIn
import Derived.Maps.Own
import Derived.Maps.OwnSet
import Derived.IntWalk
import Derived.Laws.OwnMore
namespace Go.Proofs.Ytkjfceajakhlfaa
set_option linter.unusedVariables false
set_option linter.unusedSimpArgs false
section
open Go.RowKit Go.Shelf
attribute [local go_sem] Oper.semAt_some

theorem OwnTurns.below {β : Type} {base : Nat} {J : β → World → Prop} (h : OwnTurns base J) {s : β} {W W' : World} (hs : J s W) (hb : Below W.heap.size W W') : J s W' :=
  h s W W' none hs ⟨hb.os, hb.tape, hb.output, hb.size, fun k hk _ => hb.block k hk⟩ (fun _ e => by cases e)
theorem CellsKept.refl (X : Nat → Prop) (A : World) : CellsKept X A A := ⟨Nat.le_refl _, fun _ _ _ _ _ e => e⟩
theorem CellsKept.after {X : Nat → Prop} {w W W' : World} (h : CellsKept X w W) (hb : Below W.heap.size W W') : CellsKept X w W' :=
  ⟨Nat.le_trans h.1 hb.size, fun g cs t fr hx e => (hb.block g (Array.getElem?_eq_some_iff.1 (h.2 g cs t fr hx e)).1).trans (h.2 g cs t fr hx e)⟩
theorem CellsKept.of_below {X : Nat → Prop} {w W : World} (hb : Below w.heap.size w W) : CellsKept X w W := (CellsKept.refl X w).after hb
theorem CellsKept.cell {X : Nat → Prop} {A B : World} (h : CellsKept X A B) {g o : Nat} {v : Value} (hx : ¬ X g) (hl : A.cell? ⟨g, o, none⟩ = some v) : B.cell? ⟨g, o, none⟩ = some v := by
  unfold World.cell? at hl ⊢
  cases hg : A.heap[g]? with
  | none => simp [hg] at hl
  | some ob =>
    cases ob with
    | cells cs t fr => simp only [hg] at hl; simp only [h.2 g cs t fr hx hg]; exact hl
    | _ => simp [hg] at hl

theorem Lies.turned {w W : World} {g base : Nat} {t : TypeId} {cs : Array Value} (h : Lies w g t cs) {row : Option Nat} (hg : w.grownBy W row) (hlt : g < base) (hr : ∀ r, row = some r → base ≤ r) : Lies W g t cs :=
  (hg.block g h.lt (fun e => by have := hr g e.symm; omega)).trans h
theorem Lies.put {w : World} {g l : Nat} {t : TypeId} {cs : Array Value} (h : Lies w g t cs) {o : Obj} (o' : Obj) (hl : w.heap[l]? = some o) (ho : o.isCells = false) : Lies (w.putObj l o') g t cs := by
  have hne : g ≠ l := by
    rintro rfl
    have h' := h
    unfold Lies at h'
    rw [hl] at h'; cases h'; cases ho
  exact (World.putObj_heap_other hne).trans h
theorem KeepsOthers.of_below {A B : World} (h : Below A.heap.size A B) : KeepsOthers A B := ⟨h.size, fun k o hk _ => (h.block k (Array.getElem?_eq_some_iff.1 hk).1).trans hk⟩

/-- The places of a drawing's issues. -/
def idxs (xs : List Iss) (t : Int) : List (Fin xs.length) := (List.finRange xs.length).filter fun k => decide (xs[k].d = t)
def restI (xs : List Iss) (t : Int) (at_ : Nat) : List (Fin xs.length) := ((List.finRange xs.length).drop at_).filter fun k => decide (xs[k].d = t)
abbrev encF (xs : List Iss) (vi vd : Nat → Value) (k : Fin xs.length) : Array Value := #[.agg #[.int .i64 (xs[k].d), .int .i64 (xs[k].l), .int .u8 (xs[k].k), vi k, vd k]]

theorem restI_start {xs : List Iss} {t : Int} {r : Nat} (h : ∀ i (h : i < xs.length), i < r → xs[i].d < t) : restI xs t r = idxs xs t := by
  unfold restI idxs
  conv => rhs; rw [← List.take_append_drop r (List.finRange xs.length)]
  rw [List.filter_append]
  have : ((List.finRange xs.length).take r).filter (fun k => decide (xs[k].d = t)) = [] := by
    rw [List.filter_eq_nil_iff]
    intro k hk
    obtain ⟨i, hi, rfl⟩ := List.getElem_of_mem hk
    simp only [List.length_take, List.length_finRange] at hi
    have := h i (by omega) (by omega)
    simp; omega
  rw [this, List.nil_append]
theorem restI_step {xs : List Iss} {t : Int} {k : Nat} (hk : k < xs.length) (h : xs[k].d = t) : restI xs t k = ⟨k, hk⟩ :: restI xs t (k + 1) := by
  unfold restI
  rw [List.drop_eq_getElem_cons (by simpa using hk), List.filter_cons_of_pos (by simpa using h)]
  simp
theorem restI_end {xs : List Iss} {t : Int} {k : Nat} (h : ∀ i (h : i < xs.length), k ≤ i → xs[i].d ≠ t) : restI xs t k = [] := by
  unfold restI
  rw [List.filter_eq_nil_iff]
  intro y hy
  obtain ⟨i, hi, rfl⟩ := List.getElem_of_mem hy
  simp only [List.length_drop, List.length_finRange] at hi
  have := h (k + i) (by omega) (by omega)
  simpa using this

set_option maxRecDepth 100000 in
set_option maxHeartbeats 2000000 in
theorem isit_any (n : Nat) (hn : 3 ≤ n) (dB nB : Nat) (A : Option Addr) (c b off : Nat) (vN vD : Value) (xs : List Iss) (vi vd : Nat → Value) (t : Int) (X : Nat → Prop) (w : World) (hl : xs.length ≤ 1000) (hs : xs.Pairwise (fun x y => x.d ≤ y.d))
    (hd : Lies w dB 118 #[.slice A xs.length c, vN, vD]) (ht : Lies w nB 3 #[.int .i64 t]) (hA : 0 < xs.length → A = some ⟨b, off, none⟩) (hc : IssRow w b off xs vi vd)
    (hXd : ¬ X dB) (hXt : ¬ X nB) (hXb : 0 < xs.length → ¬ X b) :
    IterOwn Fence.wide n Try.prog 111 #[.pointer (some ⟨dB, 0, none⟩), .pointer (some ⟨nB, 0, none⟩)] (encF xs vi vd) X (fun ks => ks = idxs xs t) (fun pre => pre <+: idxs xs t) w := by
  intro l J Jx W0 hb0 hJ hJx hY h0
  have hd' := hd.after hb0
  have ht' := ht.after hb0
  have HBS := Lib.hid (bsf_any A c b off xs vi vd t W0 hs hA hl (hc.after hb0))
  have HSrt := Lib.hid hs
  have p0 := hd'.cell 0
  have q0 := ht'.cell 0
  have z1 := hd'.lt
  have z2 := ht'.lt
  have HC := Lib.hid hc
  have HA := Lib.hid hA
  have HXb := Lib.hid hXb
  have HY := Lib.hid hY
  have HJ := Lib.hid hJ
  have H0 := Lib.hid h0
  have HD := Lib.hid hd
  have HT := Lib.hid ht
  have zb := hb0.size
  have HK0 : Hid (CellsKept X w W0) := Lib.hid (CellsKept.of_below hb0)
  clear hd ht hc hA hY hJ hJx h0 hd' ht' hs hXb
  refine callsIn_of_wp Try.func111 rfl trivial ?_ rfl
  simp only [Try.ntmps111, List.size_toArray, List.length_cons, List.length_nil, Nat.reduceAdd, Nat.reduceSub, Array.replicate_succ, Array.replicate_zero, List.push_toArray, List.append_toArray, List.nil_append, List.cons_append]
  gi_wp2_with fail
  refine ⟨trivial, (fun h => (by cases h)), ?_⟩
  refine (callsIn_wide.2 HBS.out).mono ?_
  rintro e w1 ⟨r, f, hr, hlo, hhi, rfl, hb1⟩
  have HHI := Lib.hid hhi
  have HLO := Lib.hid (restI_start hlo)
  have HK1 := Lib.hid (HK0.out.after hb1)
  have HJ1 := Lib.hid (HJ.out.below H0.out hb1)
  clear hlo hhi hb1 p0 q0 HBS HK0
  gi_wp2_with fail
  gi_loopw [4] (fun i wr => ∃ (k : Nat) (pre : List (Fin xs.length)), r ≤ k ∧ k ≤ xs.length ∧ i = .int .i64 k ∧ Hid (pre ++ restI xs t k = idxs xs t) ∧ Hid (J pre wr) ∧ Hid (CellsKept X w wr)) (fun i _ => xs.length - (intOf i).toNat)
  case atStart => exact ⟨r, [], by omega, hr, rfl, Lib.hid HLO.out, HJ1, HK1⟩
  case round =>
    obtain ⟨k, pre, hrk, hk, rfl, hrun, hJp, hCK⟩ := hrel
    have hdw := hCK.out.lies hXd HD.out
    have htw := hCK.out.lies hXt HT.out
    have p0 := hdw.cell 0
    have q0 := htw.cell 0
    have z3 := hdw.lt
    have z4 := htw.lt
    clear hdw htw
    by_cases hlt : k < xs.length
    · obtain rfl := HA.out (by omega)
      obtain ⟨y0, y1, y2, y3, y4, -, -, -⟩ := HC.out k hlt
      have hXb := HXb.out (by omega)
      have r0 := hCK.out.cell hXb y0
      have r1 := hCK.out.cell hXb y1
      have r2 := hCK.out.cell hXb y2
      have r3 := hCK.out.cell hXb y3
      have r4 := hCK.out.cell hXb y4
      clear y0 y1 y2 y3 y4
      have kl1 : (k : Int) < (xs.length : Int) := by omega
      by_cases hdt : xs[k].d = t
      · have HR := Lib.hid (restI_step hlt hdt)
        have hde : (xs[k].d == t) = true := by simpa using hdt
        clear hdt
        gi_wp2_with fail
        gi_quiet (fail)
        have HJ2 := Lib.hid (HJ.out.below hJp.out (below_drewN (Below.refl _ wr) nq))
        have HK2 := Lib.hid (hCK.out.after (below_drewN (Below.refl _ wr) nq))
        obtain ⟨fn, tmps, assign, body, hy0, hR⟩ := HY.out pre ⟨k, hlt⟩ _ HJ2.out
        have hy : (Instr.yield l #[.agg #[.int .i64 (xs[k].d), .int .i64 (xs[k].l), .int .u8 (xs[k].k), vi k, vd k]]).run Try.prog _ = _ := hy0
        have HRR := Lib.hid hR
        clear hy0 hR
        gi_wp2_with fail
        refine ⟨(fun h => (by cases h)), HRR.out.mono ?_⟩
        rintro e W3 (⟨rfl, hJ4, hk4⟩ | ⟨rfl, hJx4⟩)
        · have HK4 := Lib.hid (HK2.out.trans hk4)
          have HJ4 := Lib.hid hJ4
          clear hk4 hJ4
          gi_wp2
          go_roundw
          case rel => exact ⟨k + 1, pre ++ [⟨k, hlt⟩], by omega, by omega, by go_num, Lib.hid (by rw [List.append_assoc, List.singleton_append, ← HR.out]; exact hrun.out), HJ4, HK4⟩
          case measure => simp [intOf]; omega
        · gi_wp2
          refine bodyPost_ret (results_none rfl _ _ _) rfl ?_
          exact ⟨⟨_, rfl⟩, .inr ⟨_, ⟨restI xs t (k + 1), by rw [List.append_assoc, List.singleton_append, ← HR.out]; exact hrun.out⟩, hJx4⟩⟩
      · have hde : (xs[k].d == t) = false := by simpa using hdt
        have HE := Lib.hid (restI_end (xs := xs) (t := t) (k := k) (fun i h hi => by
          have h1 := HHI.out k hlt hrk
          by_cases e : i = k
          · subst e; exact hdt
          · have := List.pairwise_iff_getElem.1 HSrt.out k i hlt h (by omega)
            omega))
        clear hdt
        gi_wp2_with fail
        gi_quiet (fail)
        gi_wp2
        go_end0
        refine ⟨⟨_, rfl⟩, .inl ⟨pre, ?_, HJ.out.below hJp.out (below_drewN (Below.refl _ wr) _)⟩⟩
        have := hrun.out
        rw [HE.out, List.append_nil] at this
        exact this
    · have kl1 : ¬ (k : Int) < (xs.length : Int) := by omega
      have kl2 : decide ((k : Int) < (xs.length : Int)) = false := by simpa using kl1
      have kl3 : decide (k < xs.length) = false := by simpa using hlt
      have HE := Lib.hid (restI_end (xs := xs) (t := t) (k := k) (fun i h hi => by omega))
      gi_wp2_with fail
      gi_quiet (fail)
      gi_wp2
      go_end0
      refine ⟨⟨_, rfl⟩, .inl ⟨pre, ?_, HJ.out.below hJp.out (below_drewN (Below.refl _ wr) _)⟩⟩
      have := hrun.out
      rw [HE.out, List.append_nil] at this
      exact this
end
section
open Go.RowKit Go.Maps

def NIn (x : Int) : Prop := -9223372036854775808 ≤ x ∧ x ≤ 9223372036854775807
theorem nin_wf {x : Int} (h : NIn x) : (Lit.int .i64 x).wf = true := WalkArith.wf_i64 h
/-- Block b holds a map of at most n numbers, and the set it tells is S. -/
def BMap (w : World) (b n : Nat) (S : Int → Bool) : Prop :=
  ∃ D : DataW Unit, w.ownsMap Try.prog 3 (plainElem Try.prog 4) b n D ∧ ∀ x, NIn x → D.atKey (.int .i64 x) (.lit (.bool false)) = .lit (.bool (S x))

theorem zero_bool (w : World) : (zeroValue 4).run Try.prog w = .ok (.bool false) w := by kernel_rfl
theorem key_i64 {x : Int} (h : NIn x) : keyOf Try.prog 3 (.int .i64 x) = some (.int .i64 x) := keyOf_int_mk Try.underlying3 (nin_wf h)
theorem plainElem_bool_inv' {H : Type} {P : Program} {e : TypeId} (he : P.underlying e = some .bool) {v : Value} {z : DataW H × List MemPlace} (h : plainElem P e v = some z) : ∃ c, v = .bool c ∧ z.1 = .lit (.bool c) := by
  simp only [plainElem, he] at h
  cases v <;> simp at h
  exact ⟨_, rfl, by rw [← h]⟩
theorem plainElem_bool_inv {v : Value} {z : DataW Unit × List MemPlace} (h : plainElem Try.prog 4 v = some z) : ∃ c, v = .bool c ∧ z.1 = .lit (.bool c) := plainElem_bool_inv' Try.underlying4 h
theorem isKey_i64 (x : Int) : WideAt.IsKeyLit (.int .i64 x) := by unfold WideAt.IsKeyLit; trivial
theorem BMap.lt {w : World} {b n : Nat} {S : Int → Bool} (h : BMap w b n S) : b < w.heap.size := by obtain ⟨D, h1, -⟩ := h; exact h1.lt
theorem BMap.kept {w w' : World} {b n : Nat} {S : Int → Bool} (h : BMap w b n S) (he : w'.heap[b]? = w.heap[b]?) : BMap w' b n S := by
  obtain ⟨D, ⟨es, cl, h1, h2⟩, h3⟩ := h
  exact ⟨D, ⟨es, cl, he.trans h1, h2⟩, h3⟩
theorem BMap.keep {w w' : World} {B b n : Nat} {S : Int → Bool} (h : BMap w b n S) (hb : Below B w w') (hlt : b < B) : BMap w' b n S := h.kept (hb.block b hlt)
theorem BMap.after {w w' : World} {b n : Nat} {S : Int → Bool} (h : BMap w b n S) (hb : Below w.heap.size w w') : BMap w' b n S := h.keep hb h.lt
theorem BMap.alloc {w : World} {b n : Nat} {S : Int → Bool} (h : BMap w b n S) (o : Obj) : BMap (w.alloc o) b n S := h.kept (Below.heap_alloc w o b h.lt)
theorem BMap.set {w : World} {b n : Nat} {S : Int → Bool} (h : BMap w b n S) {p : Addr} (hp : b ≠ p.block) (u : Value) : BMap (w.setCell p u) b n S := h.kept (Below.heap_setCell w p u b hp)
theorem BMap.ext {w : World} {b n : Nat} {S T : Int → Bool} (h : BMap w b n S) (e : ∀ x, NIn x → S x = T x) : BMap w b n T := by
  obtain ⟨D, h1, h3⟩ := h
  exact ⟨D, h1, fun x hx => by rw [h3 x hx, e x hx]⟩
theorem BMap.more {w : World} {b n m : Nat} {S : Int → Bool} (h : BMap w b n S) (hm : n ≤ m) : BMap w b m S := by
  obtain ⟨D, h1, h3⟩ := h
  exact ⟨D, h1.mono hm, h3⟩
theorem BMap.made (w : World) : BMap (w.alloc (.map #[] 0)) w.heap.size 0 (fun _ => false) := ⟨_, World.ownsMap_made _ _ _ _, fun x _ => rfl⟩
theorem BMap.look {w : World} {b n : Nat} {S : Int → Bool} (h : BMap w b n S) {x : Int} (hx : NIn x) : (Instr.lookup 112 (.map (some b)) (.int .i64 x) false).run Try.prog w = .ok (.bool (S x)) w := by
  obtain ⟨D, h1, h3⟩ := h
  obtain ⟨v, ps, hrun, hv⟩ := h1.lookup (int_keyed Try.underlying3) Try.underlying112 (zero_bool w) (plainElem_bool Try.underlying4 false) (key_i64 hx)
  obtain ⟨c, rfl, hc⟩ := plainElem_bool_inv hv
  rw [h3 x hx] at hc
  simp only [DataW.lit.injEq, Lit.bool.injEq] at hc
  rw [← hc] at hrun
  exact hrun
theorem BMap.put {w : World} {b n : Nat} {S : Int → Bool} (h : BMap w b n S) (hn : n < 1000000) {x : Int} (hx : NIn x) (v : Bool) :
    ∃ w', (Instr.mapUpdate 112 (.map (some b)) (.int .i64 x) (.bool v)).run Try.prog w = .ok () w' ∧ BMap w' b (n + 1) (fun y => if y = x then v else S y) ∧ w.mapTurned w' b := by
  obtain ⟨D, h1, h3⟩ := h
  obtain ⟨w', hrun, h4, h5⟩ := h1.store (int_keyed Try.underlying3) Try.underlying112 (by unfold maxLen; omega) (key_i64 hx) (plainElem_bool Try.underlying4 v)
  refine ⟨w', hrun, ⟨_, h4, fun y hy => ?_⟩, h5⟩
  show _ = DataW.lit (Lit.bool (if y = x then _ else S y))
  by_cases e : y = x
  · subst e
    rw [if_pos rfl, Maps.atKey_put_same h1.isMap (isKey_i64 y)]
  · rw [if_neg e, Maps.atKey_put_other (by intro h; injection h with _ h; exact e h), h3 y hy]
theorem BMap.del {w : World} {b n : Nat} {S : Int → Bool} (h : BMap w b n S) {x : Int} (hx : NIn x) (ty : TypeId) :
    ∃ w', (Builtin.delete_ #[112, 3] ty #[.map (some b), .int .i64 x]).run Try.prog w = .ok (.tuple #[]) w' ∧ BMap w' b n (fun y => if y = x then false else S y) ∧ w.mapTurned w' b := by
  obtain ⟨D, h1, h3⟩ := h
  obtain ⟨w', hrun, h4, h5⟩ := h1.drop (int_keyed Try.underlying3) Try.underlying112 (key_i64 hx) ty
  refine ⟨w', hrun, ⟨_, h4, fun y hy => ?_⟩, h5⟩
  show _ = DataW.lit (Lit.bool (if y = x then _ else S y))
  by_cases e : y = x
  · subst e
    rw [if_pos rfl, Maps.atKey_del_same]
  · rw [if_neg e, Maps.atKey_del_other (by intro h; injection h with _ h; exact e h), h3 y hy]
/-- A map's block that turned: all else is as it was. -/
theorem turned_other {w w' : World} {b : Nat} (h : w.mapTurned w' b) {k : Nat} (hk : k ≠ b) : w'.heap[k]? = w.heap[k]? := by
  obtain ⟨es, cl, es', cl', hb, rfl⟩ := h
  exact Go.ChangeMaps.heap_setBlock_other hb _ hk
theorem turned_below {w w' : World} {b B : Nat} (h : w.mapTurned w' b) (hB : B ≤ b) (w0 : World) (hb : Below B w0 w) (hs : B ≤ w.heap.size) : Below B w0 w' := hb.grown h.grown hs (fun k e => by injection e with e; omega)
theorem turned_size {w w' : World} {b : Nat} (h : w.mapTurned w' b) : w'.heap.size = w.heap.size := by
  obtain ⟨es, cl, es', cl', hb, rfl⟩ := h
  simp [Go.ChangeMaps.setBlock]
theorem Lies.turned1 {w w' : World} {g b : Nat} {t : TypeId} {cs : Array Value} (h : Lies w g t cs) (ht : w.mapTurned w' b) (hne : g ≠ b) : Lies w' g t cs := (turned_other ht hne).trans h
theorem cell_turned {w w' : World} {b : Nat} (ht : w.mapTurned w' b) {p : Addr} (hp : p.block ≠ b) : w'.cell? p = w.cell? p := by
  unfold World.cell?
  rw [turned_other ht hp]
end
section
open Go.RowKit

theorem any_no {α : Type} {p : α → Bool} {l : List α} (h : ∀ k (hk : k < l.length), p l[k] = false) : l.any p = false := by
  rw [List.any_eq_false]
  intro x hx
  obtain ⟨k, hk, rfl⟩ := List.getElem_of_mem hx
  simp [h k hk]
theorem any_yes {α : Type} {p : α → Bool} {l : List α} {k : Nat} (hk : k < l.length) (h : p l[k] = true) : l.any p = true := by
  rw [List.any_eq_true]; exact ⟨l[k], List.getElem_mem hk, h⟩

set_option maxHeartbeats 1000000 in
theorem idxD_any (K : Nat) (lb : Array Value) (p : D3 → Bool) (A : Option Addr) (c b off : Nat) (l : List (D3)) (w : World) (hA : 0 < l.length → A = some ⟨b, off, none⟩) (hl : l.length ≤ 1000) (hc : cellsD w b off l)
    (hE : ∀ (args : Array Value) (W : World), (callFunc K args).run Try.prog W = .ok (.enter K args) W)
    (hP : ∀ x ∈ l, ∀ W, Below w.heap.size w W → Calls Try.prog K (#[.agg #[.int .i64 x.1, .int .i64 x.2.1, .int .i64 x.2.2]] ++ lb) W fun e w' => e = .returned (.bool (p x)) ∧ Below W.heap.size W w') :
    Calls Try.prog 141 #[.slice A l.length c, .func (.func K) #[] lb] w fun e w' => ∃ r : Int, e = .returned (.int .i64 r) ∧ decide (0 ≤ r) = l.any p ∧ Below w.heap.size w w' := by
  have HC := Lib.hid hc; clear hc
  have HA := Lib.hid hA; clear hA
  have HP := Lib.hid hP; clear hP
  go_enter Try.func141, Try.ntmps141
  go_wp2_with fail
  go_loopw [8] (fun i wr => ∃ k : Nat, k ≤ l.length ∧ i = .int .i64 k ∧ Hid (∀ j (_ : j < k) (h : j < l.length), p l[j] = false) ∧ Below w.heap.size w wr) (fun i _ => l.length - (intOf i).toNat)
  case atStart => exact ⟨0, by omega, rfl, Lib.hid (fun j hj => by omega), by (repeat' (first | (with_reducible first | exact Below.refl _ _ | assumption | refine Below.alloc ?_ ?_ _ | refine Below.setCell ?_ ?_ _ | refine below_row ?_ ?_ _ | refine Below.drew ?_ | refine below_drewN ?_ _ | refine Below.trans ?_ (Below.mono (by assumption) ?_)) | exact Nat.le_refl _ | omega | (simp; done) | (simp; omega) | exact Below.size (by assumption)))⟩
  case round =>
    obtain ⟨k, hk, rfl, hj, hb⟩ := hrel
    have hz := hb.size
    by_cases hlt : k < l.length
    · obtain rfl := HA.out (by omega)
      obtain ⟨q0, q1, q2⟩ := HC.out k hlt
      have hbl : b < w.heap.size := World.block_lt_of_cell? w _ q0
      have r0 := (hb.cell (p := ⟨b, off + k * 3, none⟩) hbl).trans q0
      have r1 := (hb.cell (p := ⟨b, off + k * 3 + 1, none⟩) hbl).trans q1
      have r2 := (hb.cell (p := ⟨b, off + k * 3 + 2, none⟩) hbl).trans q2
      clear q0 q1 q2
      have HPK := Lib.hid (HP.out l[k] (List.getElem_mem hlt))
      obtain ⟨x, hx⟩ : ∃ x, l[k] = x := ⟨_, rfl⟩
      have Hx := Lib.hid hx
      rw [hx] at HPK r0 r1 r2
      clear hx
      obtain ⟨e0, e1, e2⟩ := x
      simp only at HPK r0 r1 r2
      go_wp2_with fail
      refine (HPK.out _ (by (repeat' (first | (with_reducible first | exact Below.refl _ _ | assumption | refine Below.alloc ?_ ?_ _ | refine Below.setCell ?_ ?_ _ | refine below_row ?_ ?_ _ | refine Below.drew ?_ | refine below_drewN ?_ _ | refine Below.trans ?_ (Below.mono (by assumption) ?_)) | exact Nat.le_refl _ | omega | (simp; done) | (simp; omega) | exact Below.size (by assumption))))).mono ?_
      rintro e w1 ⟨rfl, hb1⟩
      have s1 := hb1.size; try simp only [World.size_alloc, World.size_setCell, World.size_drew, setRow_size] at s1
      have hbw : Below w.heap.size w w1 := by (repeat' (first | (with_reducible first | exact Below.refl _ _ | assumption | refine Below.alloc ?_ ?_ _ | refine Below.setCell ?_ ?_ _ | refine below_row ?_ ?_ _ | refine Below.drew ?_ | refine below_drewN ?_ _ | refine Below.trans ?_ (Below.mono (by assumption) ?_)) | exact Nat.le_refl _ | omega | (simp; done) | (simp; omega) | exact Below.size (by assumption)))
      clear hb1
      cases hp : p (e0, e1, e2)
      · go_wp2_with fail
        go_roundw
        case rel =>
          refine ⟨k + 1, by omega, by go_num, Lib.hid (fun j hj' h => ?_), hbw⟩
          by_cases e : j = k
          · subst e; rw [Hx.out]; exact hp
          · exact hj.out j (by omega) h
        case measure => simp [intOf]; omega
      · have HR := Lib.hid (any_yes hlt (by rw [Hx.out]; exact hp))
        go_wp2_with fail
        go_ret
        exact ⟨_, rfl, by rw [HR.out]; simp, hbw⟩
    · have HR := Lib.hid (any_no (p := p) fun j h => hj.out j (by omega) h)
      go_wp2
      go_ret
      exact ⟨_, rfl, by rw [HR.out]; decide, hb⟩
set_option maxHeartbeats 1000000 in
theorem hasD_any (K : Nat) (lb : Array Value) (p : D3 → Bool) (A : Option Addr) (c b off : Nat) (l : List (D3)) (w : World) (hA : 0 < l.length → A = some ⟨b, off, none⟩) (hl : l.length ≤ 1000) (hc : cellsD w b off l)
    (hE : ∀ (args : Array Value) (W : World), (callFunc K args).run Try.prog W = .ok (.enter K args) W)
    (hP : ∀ x ∈ l, ∀ W, Below w.heap.size w W → Calls Try.prog K (#[.agg #[.int .i64 x.1, .int .i64 x.2.1, .int .i64 x.2.2]] ++ lb) W fun e w' => e = .returned (.bool (p x)) ∧ Below W.heap.size W w') :
    Calls Try.prog 139 #[.slice A l.length c, .func (.func K) #[] lb] w fun e w' => e = .returned (.bool (l.any p)) ∧ Below w.heap.size w w' := by
  have HI := Lib.hid (idxD_any K lb p A c b off l w hA hl hc hE hP)
  go_enter Try.func139, Try.ntmps139
  go_wp2_with fail
  refine HI.out.mono ?_
  rintro e w1 ⟨r, rfl, hr, hb1⟩
  have HR := Lib.hid hr
  clear hr
  go_wp2
  go_ret
  exact ⟨ret_bool HR.out, hb1⟩

set_option maxHeartbeats 1000000 in
theorem idxI_any (K : Nat) (lb : Array Value) (p : Int × Int → Bool) (A : Option Addr) (c b off : Nat) (l : List (Int × Int)) (w : World) (hA : 0 < l.length → A = some ⟨b, off, none⟩) (hl : l.length ≤ 1000) (hc : ∀ i (h : i < l.length), w.cell? ⟨b, off + i * 2, none⟩ = some (.int .i64 l[i].1) ∧ w.cell? ⟨b, off + i * 2 + 1, none⟩ = some (.int .i64 l[i].2))
    (hE : ∀ (args : Array Value) (W : World), (callFunc K args).run Try.prog W = .ok (.enter K args) W)
    (hP : ∀ x ∈ l, ∀ W, Below w.heap.size w W → Calls Try.prog K (#[.agg #[.int .i64 x.1, .int .i64 x.2]] ++ lb) W fun e w' => e = .returned (.bool (p x)) ∧ Below W.heap.size W w') :
    Calls Try.prog 122 #[.slice A l.length c, .func (.func K) #[] lb] w fun e w' => ∃ r : Int, e = .returned (.int .i64 r) ∧ decide (0 ≤ r) = l.any p ∧ Below w.heap.size w w' := by
  have HC := Lib.hid hc; clear hc
  have HA := Lib.hid hA; clear hA
  have HP := Lib.hid hP; clear hP
  go_enter Try.func122, Try.ntmps122
  go_wp2_with fail
  go_loopw [8] (fun i wr => ∃ k : Nat, k ≤ l.length ∧ i = .int .i64 k ∧ Hid (∀ j (_ : j < k) (h : j < l.length), p l[j] = false) ∧ Below w.heap.size w wr) (fun i _ => l.length - (intOf i).toNat)
  case atStart => exact ⟨0, by omega, rfl, Lib.hid (fun j hj => by omega), by (repeat' (first | (with_reducible first | exact Below.refl _ _ | assumption | refine Below.alloc ?_ ?_ _ | refine Below.setCell ?_ ?_ _ | refine below_row ?_ ?_ _ | refine Below.drew ?_ | refine below_drewN ?_ _ | refine Below.trans ?_ (Below.mono (by assumption) ?_)) | exact Nat.le_refl _ | omega | (simp; done) | (simp; omega) | exact Below.size (by assumption)))⟩
  case round =>
    obtain ⟨k, hk, rfl, hj, hb⟩ := hrel
    have hz := hb.size
    by_cases hlt : k < l.length
    · obtain rfl := HA.out (by omega)
      obtain ⟨q0, q1⟩ := HC.out k hlt
      have hbl : b < w.heap.size := World.block_lt_of_cell? w _ q0
      have r0 := (hb.cell (p := ⟨b, off + k * 2, none⟩) hbl).trans q0
      have r1 := (hb.cell (p := ⟨b, off + k * 2 + 1, none⟩) hbl).trans q1
      clear q0 q1
      have HPK := Lib.hid (HP.out l[k] (List.getElem_mem hlt))
      obtain ⟨x, hx⟩ : ∃ x, l[k] = x := ⟨_, rfl⟩
      have Hx := Lib.hid hx
      rw [hx] at HPK r0 r1
      clear hx
      obtain ⟨e0, e1⟩ := x
      simp only at HPK r0 r1
      go_wp2_with fail
      refine (HPK.out _ (by (repeat' (first | (with_reducible first | exact Below.refl _ _ | assumption | refine Below.alloc ?_ ?_ _ | refine Below.setCell ?_ ?_ _ | refine below_row ?_ ?_ _ | refine Below.drew ?_ | refine below_drewN ?_ _ | refine Below.trans ?_ (Below.mono (by assumption) ?_)) | exact Nat.le_refl _ | omega | (simp; done) | (simp; omega) | exact Below.size (by assumption))))).mono ?_
      rintro e w1 ⟨rfl, hb1⟩
      have s1 := hb1.size; try simp only [World.size_alloc, World.size_setCell, World.size_drew, setRow_size] at s1
      have hbw : Below w.heap.size w w1 := by (repeat' (first | (with_reducible first | exact Below.refl _ _ | assumption | refine Below.alloc ?_ ?_ _ | refine Below.setCell ?_ ?_ _ | refine below_row ?_ ?_ _ | refine Below.drew ?_ | refine below_drewN ?_ _ | refine Below.trans ?_ (Below.mono (by assumption) ?_)) | exact Nat.le_refl _ | omega | (simp; done) | (simp; omega) | exact Below.size (by assumption)))
      clear hb1
      cases hp : p (e0, e1)
      · go_wp2_with fail
        go_roundw
        case rel =>
          refine ⟨k + 1, by omega, by go_num, Lib.hid (fun j hj' h => ?_), hbw⟩
          by_cases e : j = k
          · subst e; rw [Hx.out]; exact hp
          · exact hj.out j (by omega) h
        case measure => simp [intOf]; omega
      · have HR := Lib.hid (any_yes hlt (by rw [Hx.out]; exact hp))
        go_wp2_with fail
        go_ret
        exact ⟨_, rfl, by rw [HR.out]; simp, hbw⟩
    · have HR := Lib.hid (any_no (p := p) fun j h => hj.out j (by omega) h)
      go_wp2
      go_ret
      exact ⟨_, rfl, by rw [HR.out]; decide, hb⟩
set_option maxHeartbeats 1000000 in
theorem hasI_any (K : Nat) (lb : Array Value) (p : Int × Int → Bool) (A : Option Addr) (c b off : Nat) (l : List (Int × Int)) (w : World) (hA : 0 < l.length → A = some ⟨b, off, none⟩) (hl : l.length ≤ 1000) (hc : ∀ i (h : i < l.length), w.cell? ⟨b, off + i * 2, none⟩ = some (.int .i64 l[i].1) ∧ w.cell? ⟨b, off + i * 2 + 1, none⟩ = some (.int .i64 l[i].2))
    (hE : ∀ (args : Array Value) (W : World), (callFunc K args).run Try.prog W = .ok (.enter K args) W)
    (hP : ∀ x ∈ l, ∀ W, Below w.heap.size w W → Calls Try.prog K (#[.agg #[.int .i64 x.1, .int .i64 x.2]] ++ lb) W fun e w' => e = .returned (.bool (p x)) ∧ Below W.heap.size W w') :
    Calls Try.prog 81 #[.slice A l.length c, .func (.func K) #[] lb] w fun e w' => e = .returned (.bool (l.any p)) ∧ Below w.heap.size w w' := by
  have HI := Lib.hid (idxI_any K lb p A c b off l w hA hl hc hE hP)
  go_enter Try.func81, Try.ntmps81
  go_wp2_with fail
  refine HI.out.mono ?_
  rintro e w1 ⟨r, rfl, hr, hb1⟩
  have HR := Lib.hid hr
  clear hr
  go_wp2
  go_ret
  exact ⟨ret_bool HR.out, hb1⟩
end
section
open Go.RowKit Go.Shelf
attribute [local go_sem] Oper.semAt_some

set_option maxHeartbeats 400000 in
theorem nameOf_any (d l k : Int) (vi vd : Value) (w : World) : Calls Try.prog 83 #[.agg #[.int .i64 d, .int .i64 l, .int .u8 k, vi, vd]] w fun e w' => e = .returned (.agg #[.int .i64 d, .int .i64 l]) ∧ Below w.heap.size w w' := by
  go_enter Try.func83, Try.ntmps83
  go_wp2
  exact bodyPost_ret (v := .agg #[.int .i64 d, .int .i64 l]) (by simp [results, Try.results83, go_sem]) rfl ⟨rfl, by (repeat' (first | (with_reducible first | exact Below.refl _ _ | assumption | refine Below.alloc ?_ ?_ _ | refine Below.setCell ?_ ?_ _ | refine below_row ?_ ?_ _ | refine Below.drew ?_ | refine below_drewN ?_ _ | refine Below.trans ?_ (Below.mono (by assumption) ?_)) | exact Nat.le_refl _ | omega | (simp; done) | (simp; omega) | exact Below.size (by assumption)))⟩
/-- What place tells. -/
def PlaceAt (zs : List Int) (t : Int) (w : World) (e : Ending) (w' : World) : Prop :=
  ∃ r : Nat, r ≤ zs.length ∧ (∀ i (h : i < zs.length), i < r → zs[i] < t) ∧ (∀ i (h : i < zs.length), r ≤ i → t ≤ zs[i]) ∧ e = .returned (.tuple #[.int .i64 r, .bool (decide (t ∈ zs))]) ∧ Below w.heap.size w w'
set_option maxHeartbeats 400000 in
theorem place_any (vI vD : Value) (A : Option Addr) (c b off : Nat) (l : List Int) (t : Int) (w : World) (hs : l.Pairwise (· < ·)) (hA : 0 < l.length → A = some ⟨b, off, none⟩) (hl : l.length ≤ 1000) (hc : ∀ i (h : i < l.length), w.cell? ⟨b, off + i, none⟩ = some (.int .i64 (l[i]))) :
    Calls Try.prog 72 #[.agg #[vI, .slice A l.length c, vD], .int .i64 t] w (PlaceAt l t w) := by
  have HB := Lib.hid (bSearch_any A c b off l t (w.alloc (.cells #[vI, .slice A l.length c, vD] 118)) hs hA hl (fun i h => cell_keep ((Below.refl _ _).alloc (Nat.le_refl _) _) (hc i h)))
  clear hc hA hs
  go_enter Try.func72, Try.ntmps72
  go_wp2_with fail
  refine HB.out.mono ?_
  rintro e w1 ⟨r, hr, h1, h2, rfl, rfl⟩
  have H1 := Lib.hid h1
  have H2 := Lib.hid h2
  clear h1 h2
  go_wp2
  go_ret2
  exact ⟨r, hr, H1.out, H2.out, rfl, by (repeat' (first | (with_reducible first | exact Below.refl _ _ | assumption | refine Below.alloc ?_ ?_ _ | refine Below.setCell ?_ ?_ _ | refine below_row ?_ ?_ _ | refine Below.drew ?_ | refine below_drewN ?_ _ | refine Below.trans ?_ (Below.mono (by assumption) ?_)) | exact Nat.le_refl _ | omega | (simp; done) | (simp; omega) | exact Below.size (by assumption)))⟩

set_option maxHeartbeats 400000 in
theorem needs1_any (S : Int → Bool) (m n g : Nat) (x c : Int) (w : World) (hx : NIn x) (hm : BMap w m n S) (hg : Lies w g 112 #[.map (some m)]) :
    Calls Try.prog 137 #[.agg #[.int .i64 x, .int .i64 c], .pointer (some ⟨g, 0, none⟩)] w fun e w' => e = .returned (.bool (S x)) ∧ Below w.heap.size w w' := by
  have hl := (hm.alloc (.cells #[.int .i64 x, .int .i64 c] 52)).look hx
  have g0 := (hg.alloc (.cells #[.int .i64 x, .int .i64 c] 52)).cell 0
  have zg := hg.lt
  generalize S x = r at *
  clear hm hg
  go_enter Try.func137, Try.ntmps137
  go_wp2
  go_ret
  exact ⟨rfl, by (repeat' (first | (with_reducible first | exact Below.refl _ _ | assumption | refine Below.alloc ?_ ?_ _ | refine Below.setCell ?_ ?_ _ | refine below_row ?_ ?_ _ | refine Below.drew ?_ | refine below_drewN ?_ _ | refine Below.trans ?_ (Below.mono (by assumption) ?_)) | exact Nat.le_refl _ | omega | (simp; done) | (simp; omega) | exact Below.size (by assumption)))⟩
theorem enter_n1 : ∀ (args : Array Value) (W : World), (callFunc 137 args).run Try.prog W = .ok (.enter 137 args) W := enters_of Try.func137 (by kernel_rfl) rfl
end
section
open Go.RowKit

def completeB (xs : List Iss) (zs : List Int) : Bool := xs.all fun x => x.items.all fun it => decide (it.1 ∈ zs)
theorem completeB_no {xs : List Iss} {zs : List Int} {k j : Nat} (hk : k < xs.length) (hj : j < xs[k].items.length) (h : decide (xs[k].items[j].1 ∈ zs) = false) : completeB xs zs = false := by
  unfold completeB
  rw [List.all_eq_false]
  refine ⟨xs[k], List.getElem_mem hk, ?_⟩
  rw [Bool.not_eq_true, List.all_eq_false]
  exact ⟨xs[k].items[j], List.getElem_mem hj, by rw [h]; simp⟩
theorem completeB_yes {xs : List Iss} {zs : List Int} (h : ∀ k (hk : k < xs.length) j (hj : j < xs[k].items.length), decide (xs[k].items[j].1 ∈ zs) = true) : completeB xs zs = true := by
  unfold completeB
  rw [List.all_eq_true]
  intro x hx
  obtain ⟨k, hk, rfl⟩ := List.getElem_of_mem hx
  rw [List.all_eq_true]
  intro y hy
  obtain ⟨j, hj, rfl⟩ := List.getElem_of_mem hy
  exact h k hk j hj

set_option maxHeartbeats 4000000 in
theorem complete_any (A B : Option Addr) (c b off cN bN oN : Nat) (vD : Value) (xs : List Iss) (zs : List Int) (vi vd : Nat → Value) (w : World) (hl : xs.length ≤ 1000) (hli : ∀ x ∈ xs, x.items.length ≤ 1000) (hlz : zs.length ≤ 1000) (hs : zs.Pairwise (· < ·)) (hA : 0 < xs.length → A = some ⟨b, off, none⟩) (hc : IssRow w b off xs vi vd)
    (hB : 0 < zs.length → B = some ⟨bN, oN, none⟩) (hz : ∀ i (h : i < zs.length), w.cell? ⟨bN, oN + i, none⟩ = some (.int .i64 (zs[i]))) :
    Calls Try.prog 107 #[.agg #[.slice A xs.length c, .slice B zs.length cN, vD]] w fun e w' => e = .returned (.bool (completeB xs zs)) ∧ Below w.heap.size w w' := by
  have HC := Lib.hid hc
  have HA := Lib.hid hA
  have HLI := Lib.hid hli
  have HP : Hid (∀ t W, Below w.heap.size w W → Calls Try.prog 72 #[.agg #[.slice A xs.length c, .slice B zs.length cN, vD], .int .i64 t] W (PlaceAt zs t W)) :=
    Lib.hid (fun t W hW => place_any _ vD B cN bN oN zs t W hs hB hlz (fun i h => cell_keep hW (hz i h)))
  clear hc hA hs hB hz hli
  go_enter Try.func107, Try.ntmps107
  have HD0 := Lib.hid (Lies.made w 118 #[.slice A xs.length c, .slice B zs.length cN, vD])
  go_wp2_with fail
  go_loopw [13] (fun i wr => ∃ (k : Nat), k ≤ xs.length ∧ i = .int .i64 k ∧ Hid (∀ p (hp : p < xs.length), p < k → ∀ j (hj : j < xs[p].items.length), decide (xs[p].items[j].1 ∈ zs) = true) ∧ Hid (Lies wr w.heap.size 118 #[.slice A xs.length c, .slice B zs.length cN, vD]) ∧ Below w.heap.size w wr) (fun i _ => xs.length - (intOf i).toNat)
  case atStart => exact ⟨0, by omega, rfl, Lib.hid (fun p hp h => by omega), HD0, by (repeat' (first | (with_reducible first | exact Below.refl _ _ | assumption | refine Below.alloc ?_ ?_ _ | refine Below.setCell ?_ ?_ _ | refine below_row ?_ ?_ _ | refine Below.drew ?_ | refine below_drewN ?_ _ | refine Below.trans ?_ (Below.mono (by assumption) ?_)) | exact Nat.le_refl _ | omega | (simp; done) | (simp; omega) | exact Below.size (by assumption)))⟩
  case round =>
    obtain ⟨k, hk, rfl, HK, HD, hb⟩ := hrel
    have hzz := hb.size
    by_cases hlt : k < xs.length
    · obtain rfl := HA.out (by omega)
      obtain ⟨q0, q1, q2, q3, q4, -, hit, -⟩ := (HC.out.after hb) k hlt
      have hit0 := (HC.out k hlt).2.2.2.2.2.2.1
      obtain ⟨e3, e4⟩ := HC.out.slices hlt
      generalize vd k = ve at *
      obtain ⟨A2, n2, c2, rfl⟩ := e4
      obtain ⟨Ai, ci, bi, oi, hvi, hAi, hci⟩ := hit0
      have hli := HLI.out xs[k] (List.getElem_mem hlt)
      rw [hvi] at q3
      have HCI := Lib.hid hci
      have HAI := Lib.hid hAi
      clear hci hAi hit hvi e3
      obtain ⟨il, hil⟩ : ∃ il, xs[k].items = il := ⟨_, rfl⟩
      have HIL := Lib.hid hil
      rw [hil] at q3 HCI HAI hli
      clear hil
      generalize xs[k].d = d at *
      generalize xs[k].l = l at *
      generalize xs[k].k = kk at *
      obtain ⟨wo, rfl⟩ : ∃ wo : World, wo = wr := ⟨_, rfl⟩
      go_wp2_with fail
      have HD1 := Lib.hid (HD.out.alloc (.cells #[.int .i64 d, .int .i64 l, .int .u8 kk, .slice Ai il.length ci, .slice A2 n2 c2] 45))
      go_loopw [20] (fun i wr => ∃ (j : Nat), j ≤ il.length ∧ i = .int .i64 j ∧ Hid (∀ p (hp : p < il.length), p < j → decide (il[p].1 ∈ zs) = true) ∧ Hid (Lies wr w.heap.size 118 #[.slice (some ⟨b, off, none⟩) xs.length c, .slice B zs.length cN, vD]) ∧ Below w.heap.size w wr) (fun i _ => il.length - (intOf i).toNat)
      case atStart => exact ⟨0, by omega, rfl, Lib.hid (fun p hp h => by omega), HD1, by (repeat' (first | (with_reducible first | exact Below.refl _ _ | assumption | refine Below.alloc ?_ ?_ _ | refine Below.setCell ?_ ?_ _ | refine below_row ?_ ?_ _ | refine Below.drew ?_ | refine below_drewN ?_ _ | refine Below.trans ?_ (Below.mono (by assumption) ?_)) | exact Nat.le_refl _ | omega | (simp; done) | (simp; omega) | exact Below.size (by assumption)))⟩
      case round =>
        obtain ⟨j, hj, rfl, HJ, HD2, hb2⟩ := hrel
        have hz2 := hb2.size
        by_cases hlt2 : j < il.length
        · obtain rfl := HAI.out (by omega)
          obtain ⟨y0, y1⟩ := HCI.out j hlt2
          have t0 := cell_keep hb2 y0
          have t1 := cell_keep hb2 y1
          clear y0 y1
          have HXJ : Hid (∃ e, il[j] = e) := Lib.hid ⟨_, rfl⟩
          obtain ⟨e, he⟩ := HXJ.out
          have HE := Lib.hid he
          rw [he] at t0 t1
          clear he HXJ
          obtain ⟨e1, e2⟩ := e
          simp only at t0 t1
          have HPE := Lib.hid (fun W hW => HP.out e1 W hW)
          have h0 := HD2.out.cell 0
          have h1 := HD2.out.cell 1
          have h2 := HD2.out.cell 2
          have hd := HD2.out.lt
          obtain ⟨r, hr⟩ : ∃ r, decide (e1 ∈ zs) = r := ⟨_, rfl⟩
          have HR := Lib.hid hr
          unfold PlaceAt at HPE
          rw [hr] at HPE
          clear hr
          go_wp2_with fail
          refine (HPE.out _ (by (repeat' (first | (with_reducible first | exact Below.refl _ _ | assumption | refine Below.alloc ?_ ?_ _ | refine Below.setCell ?_ ?_ _ | refine below_row ?_ ?_ _ | refine Below.drew ?_ | refine below_drewN ?_ _ | refine Below.trans ?_ (Below.mono (by assumption) ?_)) | exact Nat.le_refl _ | omega | (simp; done) | (simp; omega) | exact Below.size (by assumption))))).mono ?_
          rintro e w1 ⟨p, -, -, -, rfl, hb3⟩
          have HD3 := Lib.hid ((HD2.out.alloc (.cells #[.int .i64 e1, .int .i64 e2] 52)).after hb3)
          have hb4 : Below w.heap.size w w1 := by (repeat' (first | (with_reducible first | exact Below.refl _ _ | assumption | refine Below.alloc ?_ ?_ _ | refine Below.setCell ?_ ?_ _ | refine below_row ?_ ?_ _ | refine Below.drew ?_ | refine below_drewN ?_ _ | refine Below.trans ?_ (Below.mono (by assumption) ?_)) | exact Nat.le_refl _ | omega | (simp; done) | (simp; omega) | exact Below.size (by assumption)))
          clear hb3 h0 h1 h2
          cases r
          · go_wp2_with fail
            go_ret
            refine ⟨ret_bool (completeB_no hlt (j := j) (by rw [HIL.out]; exact hlt2) ?_).symm, hb4⟩
            have := HR.out
            simp only [HIL.out, HE.out]
            exact this
          · go_wp2_with fail
            go_roundw
            case rel =>
              refine ⟨j + 1, by omega, by go_num, Lib.hid (fun p hp h => ?_), HD3, hb4⟩
              by_cases e : p = j
              · subst e; rw [HE.out]; exact HR.out
              · exact HJ.out p hp (by omega)
            case measure => simp [intOf]; omega
        · go_wp2_with fail
          go_roundw
          case rel =>
            refine ⟨k + 1, by omega, by go_num, Lib.hid (fun p hp h => ?_), HD2, hb2⟩
            by_cases e : p = k
            · subst e
              intro j' hj'
              have hjl : j' < il.length := by rw [← HIL.out]; exact hj'
              have := HJ.out j' hjl (by omega)
              simp only [HIL.out]
              exact this
            · exact HK.out p hp (by omega)
          case measure => simp [intOf]; omega
    · have HR := Lib.hid (completeB_yes (xs := xs) (zs := zs) (fun p hp => HK.out p hp (by omega)))
      go_wp2
      go_ret
      exact ⟨ret_bool HR.out.symm, hb⟩
set_option maxHeartbeats 2000000 in
theorem all_any (vI vD : Value) (A : Option Addr) (c b off : Nat) (l : List Int) (w : World) (hA : 0 < l.length → A = some ⟨b, off, none⟩) (hl : l.length ≤ 1000) (hw : ∀ x ∈ l, NIn x) (hc : ∀ i (h : i < l.length), w.cell? ⟨b, off + i, none⟩ = some (.int .i64 (l[i]))) :
    Calls Try.prog 85 #[.agg #[vI, .slice A l.length c, vD]] w fun e w' => e = .returned (.map (some (w.heap.size + 1))) ∧ BMap w' (w.heap.size + 1) l.length (fun d => decide (d ∈ l)) ∧ Below w.heap.size w w' := by
  have HC := Lib.hid hc
  have HA := Lib.hid hA
  have HW := Lib.hid hw
  clear hc hA hw
  have hmm := @run_makeMap Try.prog
  have HM0 : Hid (BMap ((w.alloc (.cells #[vI, .slice A l.length c, vD] 118)).alloc (.map #[] 0)) (w.heap.size + 1) 0 (fun _ => false)) := Lib.hid (by have := BMap.made (w.alloc (.cells #[vI, .slice A l.length c, vD] 118)); simpa using this)
  go_enter Try.func85, Try.ntmps85
  go_wp2_with fail
  go_loopw [10] (fun i wr => ∃ (k : Nat), k ≤ l.length ∧ i = .int .i64 k ∧ Hid (BMap wr (w.heap.size + 1) k (fun d => decide (d ∈ l.take k))) ∧ Below w.heap.size w wr) (fun i _ => l.length - (intOf i).toNat)
  case atStart => exact ⟨0, by omega, rfl, Lib.hid (HM0.out.ext (fun x _ => by simp)), by (repeat' (first | (with_reducible first | exact Below.refl _ _ | assumption | refine Below.alloc ?_ ?_ _ | refine Below.setCell ?_ ?_ _ | refine below_row ?_ ?_ _ | refine Below.drew ?_ | refine below_drewN ?_ _ | refine Below.trans ?_ (Below.mono (by assumption) ?_)) | exact Nat.le_refl _ | omega | (simp; done) | (simp; omega) | exact Below.size (by assumption)))⟩
  case round =>
    obtain ⟨k, hk, rfl, HM, hb⟩ := hrel
    have hz := hb.size
    by_cases hlt : k < l.length
    · obtain rfl := HA.out (by omega)
      have r0 := cell_keep hb (HC.out k hlt)
      have hN := HW.out l[k] (List.getElem_mem hlt)
      obtain ⟨w2, hrun, hm2, ht⟩ := HM.out.put (by omega) hN true
      have HT := Lib.hid (show ∀ x, NIn x → (if x = l[k] then true else decide (x ∈ l.take k)) = decide (x ∈ l.take (k + 1)) from fun x _ => by
        have hm : x ∈ l.take (k + 1) ↔ x ∈ l.take k ∨ x = l[k] := by
          rw [List.take_succ_eq_append_getElem hlt]; simp only [List.mem_append, List.mem_singleton]
        by_cases e : x = l[k]
        · rw [if_pos e]; exact (decide_eq_true (hm.2 (.inr e))).symm
        · rw [if_neg e, decide_eq_decide, hm]; exact ⟨.inl, fun h => h.resolve_right e⟩)
      have HM2 := Lib.hid hm2
      have HB2 := Lib.hid (turned_below ht (Nat.le_succ _) w hb hb.size)
      clear hm2 ht
      generalize l[k] = x at *
      go_wp2
      go_roundw
      case rel => exact ⟨k + 1, by omega, by go_num, Lib.hid (HM2.out.ext HT.out), HB2.out⟩
      case measure => simp [intOf]; omega
    · have hke : k = l.length := by omega
      have HR := Lib.hid HM.out
      rw [hke, List.take_length] at HR
      clear HM
      subst hke
      go_wp2
      go_ret
      exact ⟨rfl, HR.out, hb⟩
end
section
open Go.RowKit Go.Shelf
attribute [local go_sem] Oper.semAt_some

def hitI (xs : List Iss) (S : Int → Bool) (k : Fin xs.length) : Bool := xs[k].items.any fun it => S it.1
def needB (xs : List Iss) (d : Int) (S : Int → Bool) : Bool := xs.any fun x => decide (x.d = d) && x.items.any fun it => S it.1
theorem needB_no {xs : List Iss} {d : Int} {S : Int → Bool} (h : ∀ k ∈ idxs xs d, hitI xs S k = false) : needB xs d S = false := by
  unfold needB
  rw [List.any_eq_false]
  intro x hx
  obtain ⟨k, hk, rfl⟩ := List.getElem_of_mem hx
  by_cases e : xs[k].d = d
  · have := h ⟨k, hk⟩ (by unfold idxs; simp [e])
    simp only [hitI] at this
    simp only [e, decide_true, Bool.true_and]
    simpa using this
  · simp [e]
theorem needB_yes {xs : List Iss} {d : Int} {S : Int → Bool} {pre : List (Fin xs.length)} (hp : pre <+: idxs xs d) (h : ∃ k ∈ pre, hitI xs S k = true) : needB xs d S = true := by
  obtain ⟨k, hk, hh⟩ := h
  have hm := hp.subset hk
  unfold idxs at hm
  simp only [List.mem_filter, decide_eq_true_eq] at hm
  unfold needB
  rw [List.any_eq_true]
  exact ⟨xs[k], List.getElem_mem k.2, by simp only [hitI] at hh; simp only [hm.2, decide_true, Bool.true_and]; exact hh⟩

set_option maxRecDepth 100000 in
set_option maxHeartbeats 4000000 in
theorem needs_any (A : Option Addr) (c b off : Nat) (vN vD : Value) (xs : List Iss) (vi vd : Nat → Value) (d : Int) (m n : Nat) (S : Int → Bool) (w : World) (hl : xs.length ≤ 1000) (hs : xs.Pairwise (fun x y => x.d ≤ y.d)) (hA : 0 < xs.length → A = some ⟨b, off, none⟩) (hc : IssRow w b off xs vi vd)
    (hit : ∀ x ∈ xs, x.items.length ≤ 1000 ∧ ∀ it ∈ x.items, NIn it.1) (hm : BMap w m n S) :
    Calls Try.prog 127 #[.agg #[.slice A xs.length c, vN, vD], .int .i64 d, .map (some m)] w fun e w' => e = .returned (.bool (needB xs d S)) ∧ Below w.heap.size w w' := by
  have HC := Lib.hid hc
  have HA := Lib.hid hA
  have HS := Lib.hid hs
  have HIT := Lib.hid hit
  have HM := Lib.hid hm
  have hmlt := hm.lt
  clear hc hA hs hit hm
  refine (callsIn_wide (n := 5)).1 ?_
  refine callsIn_of_wp_marks Try.func127 rfl trivial ?_ rfl
  simp only [Try.ntmps127, List.size_toArray, List.length_cons, List.length_nil, Nat.reduceAdd, Nat.reduceSub, Array.replicate_succ, Array.replicate_zero, List.push_toArray, List.append_toArray, List.nil_append, List.cons_append]
  gi_wp2_with fail
  refine ⟨trivial, (callsIn_wide.2 (issuesOf_any _ _ _ _ _ ⟨A, xs.length, c, rfl⟩)).mono ?_⟩
  rintro e w3 ⟨rfl, rfl⟩
  gi_wp2_with fail
  obtain ⟨wR, hwR⟩ : ∃ W, (((((w.alloc (.cells #[.slice A xs.length c, vN, vD] 118)).alloc (.cells #[.map (some m)] 112)).alloc (.cells #[.bool false] 4)).alloc (.cells #[.slice A xs.length c, vN, vD] 118)).alloc (.cells #[.int .i64 d] 3)) = W := ⟨_, rfl⟩
  have hsR : wR.heap.size = w.heap.size + 5 := by rw [← hwR]; simp
  have Mm : Lies wR (w.heap.size + 1) 112 #[.map (some m)] := by rw [← hwR]; exact (((Lies.new (by simp)).alloc _).alloc _).alloc _
  have Mr : Lies wR (w.heap.size + 1 + 1) 4 #[.bool false] := by rw [← hwR]; exact ((Lies.new (by simp)).alloc _).alloc _
  have Md : Lies wR (w.heap.size + 1 + 1 + 1) 118 #[.slice A xs.length c, vN, vD] := by rw [← hwR]; exact (Lies.new (by simp)).alloc _
  have Mt : Lies wR (w.heap.size + 1 + 1 + 1 + 1) 3 #[.int .i64 d] := by rw [← hwR]; exact Lies.new (by simp)
  have hbR : Below w.heap.size w wR := by rw [← hwR]; (repeat' (first | (with_reducible first | exact Below.refl _ _ | assumption | refine Below.alloc ?_ ?_ _ | refine Below.setCell ?_ ?_ _ | refine below_row ?_ ?_ _ | refine Below.drew ?_ | refine below_drewN ?_ _ | refine Below.trans ?_ (Below.mono (by assumption) ?_)) | exact Nat.le_refl _ | omega | (simp; done) | (simp; omega) | exact Below.size (by assumption)))
  rw [hwR]
  clear hwR
  have hIter := isit_any 4 (by omega) (w.heap.size + 1 + 1 + 1) (w.heap.size + 1 + 1 + 1 + 1) A c b off vN vD xs vi vd d (fun _ => False) wR hl HS.out Md Mt HA.out (HC.out.after hbR) (fun h => h) (fun h => h) (fun _ h => h)
  refine range_own (F := Fence.wide) (X := fun _ => False) rfl (by omega) (gf := 111) rfl trivial (enters_of Try.func111 (by kernel_rfl) rfl) hIter (Below.refl _ _) (fun _ => rfl)
    (fun pre W => (∀ k ∈ pre, hitI xs S k = false) ∧ Lies W (w.heap.size + 1) 112 #[.map (some m)] ∧ Lies W (w.heap.size + 1 + 1) 4 #[.bool false] ∧ Below w.heap.size w W)
    (fun j pre W => j = Code.ret ∧ (∃ k ∈ pre, hitI xs S k = true) ∧ Lies W (w.heap.size + 1 + 1) 4 #[.bool true] ∧ Below w.heap.size w W) ?_ ?_ ⟨(fun k hk => by cases hk), Mm, Mr, hbR⟩
    (fun pre x a' W => ∃ B, wR.heap.size ≤ B ∧ a' = { tmps := #[.agg #[.slice A xs.length c, vN, vD], .int .i64 d, .map (some m), .pointer (some ⟨w.heap.size, 0, none⟩), undef, .pointer (some ⟨w.heap.size + 1, 0, none⟩), .pointer (some ⟨w.heap.size + 1 + 1, 0, none⟩), .pointer (some ⟨B, 0, none⟩), .agg #[.slice A xs.length c, vN, vD], .int .i64 d, .func (.func 111) #[] #[.pointer (some ⟨w.heap.size + 1 + 1 + 1, 0, none⟩), .pointer (some ⟨w.heap.size + 1 + 1 + 1 + 1, 0, none⟩)], .agg #[.int .i64 (xs[x].d), .int .i64 (xs[x].l), .int .u8 (xs[x].k), vi x, vd x], undef, undef, undef, undef], defers := [] } ∧ Lies W B 45 #[.int .i64 (xs[x].d), .int .i64 (xs[x].l), .int .u8 (xs[x].k), vi x, vd x] ∧
      (∀ k ∈ pre, hitI xs S k = false) ∧ Lies W (w.heap.size + 1) 112 #[.map (some m)] ∧ Lies W (w.heap.size + 1 + 1) 4 #[.bool false] ∧ Below w.heap.size w W) ?_ ?assign ?body ?done ?stop
  · rintro pre A' B row ⟨i1, i2, i3, i4⟩ hg hr
    exact ⟨i1, i2.turned hg (by omega) hr, i3.turned hg (by omega) hr, i4.grown hg (by have := i4.size; omega) (fun k e => by have := hr k e; omega)⟩
  · rintro j pre A' B row ⟨i1, i2, i3, i4⟩ hg hr
    exact ⟨i1, i2, i3.turned hg (by omega) hr, i4.grown hg (by have := i4.size; omega) (fun k e => by have := hr k e; omega)⟩
  · rintro pre x a' W l' o o' ⟨B, hB, rfl, j1, j2, j3, j4, j5⟩ hl' ho hcl
    exact ⟨B, hB, rfl, j1.put o' ho hcl, j2, j3.put o' ho hcl, j4.put o' ho hcl, j5.grown (grown_put o') (by have := j5.size; omega) (fun k e => by injection e with e; omega)⟩
  case assign =>
    rintro l' pre x W K ⟨i1, i2, i3, i4⟩ hsW hK
    have HI2 := Lib.hid i2
    have HI3 := Lib.hid i3
    have HK := Lib.hid hK
    clear i2 i3 hK
    obtain ⟨e1, e2⟩ := HC.out.slices x.2
    unfold encF
    generalize vi x = v1 at *
    generalize vd x = v2 at *
    obtain ⟨A1, n1, c1, rfl⟩ := e1
    obtain ⟨A2, n2, c2, rfl⟩ := e2
    gi_wp2
    refine HK.out _ _ (KeepsOthers.alloc _ _) ⟨by simp, fun g cs t fr _ e => (Below.heap_alloc _ _ g (Array.getElem?_eq_some_iff.1 e).1).trans e⟩ ⟨W.heap.size, hsW, rfl, Lies.made _ _ _, i1, HI2.out.alloc _, HI3.out.alloc _, i4.alloc (by have := i4.size; omega) _⟩
  case body =>
    rintro l' pre x a' W ⟨B, hB, rfl, j1, j2, j3, j4, j5⟩ hsW
    have x0 := j1.cell 3
    have q0 := j4.cell 0
    have g0 := j4.free 0
    have z0 := j1.lt
    have z1 := j3.lt
    have z2 := j4.lt
    have J3 := Lib.hid j3
    have J4 := Lib.hid j4
    clear j1 j3 j4
    have hx := HIT.out xs[x] (List.getElem_mem x.2)
    obtain ⟨Ai, ci, bi, oi, hvi, hAi, hci⟩ : ItemsAt W (vi x) xs[x].items := ((HC.out x x.2).2.2.2.2.2.2.1).after j5
    rw [hvi] at x0 ⊢
    have HCF : Hid (∀ W', Below W.heap.size W W' → Calls Try.prog 81 #[.slice Ai xs[x].items.length ci, .func (.func 137) #[] #[.pointer (some ⟨w.heap.size + 1, 0, none⟩)]] W' fun e w' => e = .returned (.bool (hitI xs S x)) ∧ Below W'.heap.size W' w') :=
      Lib.hid (fun W' hW' => hasI_any 137 #[.pointer (some ⟨w.heap.size + 1, 0, none⟩)] (fun it => S it.1) Ai ci bi oi xs[x].items W' hAi hx.1 (fun i hi => ⟨cell_keep hW' (hci i hi).1, cell_keep hW' (hci i hi).2⟩) enter_n1
        (fun it hit W2 hW2 => needs1_any S m n (w.heap.size + 1) it.1 it.2 W2 (hx.2 it hit) (((HM.out.after j5).after hW').after hW2) ((J3.out.after hW').after hW2)))
    have hmf : ∀ (fn : Fn) (first cap : Array Value) (w : World), (Instr.makeFunc fn first cap).run Try.prog w = .ok (.func fn first cap) w := fun _ _ _ _ => rfl
    have HH : Hid (∃ r, hitI xs S x = r) := Lib.hid ⟨_, rfl⟩
    obtain ⟨r, hr⟩ := HH.out
    have HR := Lib.hid hr
    rw [hr] at HCF
    clear hr HH hvi hci hAi hx
    gi_wp2_with fail
    refine ⟨trivial, (CallsIn.inRound l' (callsIn_wide.2 (HCF.out _ (Below.refl _ _)))).mono ?_⟩
    rintro e w1 ⟨rfl, hb1⟩
    have N3 := Lib.hid (J3.out.after hb1)
    have N4 := Lib.hid (J4.out.after hb1)
    have q0 := N4.out.cell 0
    have g0 := N4.out.free 0
    have z3 := N4.out.lt
    have hb2 : Below w.heap.size w w1 := j5.trans (hb1.mono j5.size)
    have HB1 := Lib.hid hb1
    clear hb1
    cases r
    · gi_wp2
      refine ⟨KeepsOthers.of_below HB1.out, CellsKept.of_below HB1.out, ?_, N3.out, N4.out, hb2⟩
      intro k hk
      rcases List.mem_append.1 hk with hk | hk
      · exact j2 k hk
      · obtain rfl := List.mem_singleton.1 hk
        exact HR.out
    · gi_wp2
      refine ⟨(KeepsOthers.of_below HB1.out).trans (KeepsOthers.setCell _ _ _), rfl, ⟨x, List.mem_append_right _ (List.mem_singleton.2 rfl), HR.out⟩, N4.out.store 0 _, hb2.setCell (p := ⟨w.heap.size + 1 + 1, 0, none⟩) (by simp; omega) _⟩
  case done =>
    rintro D ks W hD rfl ⟨i1, i2, i3, i4⟩ hK
    have HF := Lib.hid (needB_no i1)
    have HI3 := Lib.hid i3
    have HKK := Lib.hid hK
    have q0 := i3.cell 0
    have g0 := i3.free 0
    have z1 := i3.lt
    clear i1 i2 i3 hK
    gi_wp2
    have hK' : (W.setCell ⟨w.heap.size + 1 + 1, 0, none⟩ (.bool false)).heap[D]? = some (.deferred (some [])) := (Below.heap_setCell _ _ _ D (by show D ≠ w.heap.size + 1 + 1; omega)).trans HKK.out
    refine ⟨by simp, .inl ⟨_, _, rfl, run_takeDeferred hK', ?_⟩⟩
    have M := (HI3.out.store 0 (.bool false)).put (.deferred none) hK' rfl
    refine ⟨.bool false, by simp [results, Try.results127, go_sem, M.cell 0], by rw [HF.out], ?_⟩
    exact (i4.setCell (p := ⟨w.heap.size + 1 + 1, 0, none⟩) (by simp; omega) _).grown (grown_put _) (by have := i4.size; simp; omega) (fun k e => by injection e with e; omega)
  case stop =>
    rintro D cd pre W hD hpre ⟨rfl, i2, i3, i4⟩ hK
    have HF := Lib.hid (needB_yes hpre i2)
    have HI3 := Lib.hid i3
    have HKK := Lib.hid hK
    clear i2 i3 hK
    gi_wp2
    refine ⟨by simp, .inl ⟨_, _, rfl, run_takeDeferred HKK.out, ?_⟩⟩
    have M := HI3.out.put (.deferred none) HKK.out rfl
    refine ⟨.bool true, by simp [results, Try.results127, go_sem, M.cell 0], by rw [HF.out], ?_⟩
    exact i4.grown (grown_put _) (by have := i4.size; omega) (fun k e => by injection e with e; omega)
end
section
open Go.RowKit

/-- A row of numbers. -/
def rowN (l : List Int) : Array Value := (l.map fun x => .int .i64 x).toArray
theorem rowN_at {l : List Int} {i : Nat} (h : i < l.length) : (rowN l)[i]? = some (.int .i64 (l[i])) := by simp [rowN, h]
theorem rowN_set (l : List Int) (i : Nat) (x : Int) : (rowN l).setIfInBounds i (.int .i64 x) = rowN (l.set i x) := by
  simp [rowN, List.map_set]
theorem makeN (n : Nat) (hn : n ≤ 1000) (W : World) : (Instr.makeSlice 29 (.int .i64 n) (.int .i64 n)).run Try.prog W = .ok (.slice (some ⟨W.heap.size, 0, none⟩) n n) (W.alloc (.cells (rowN (List.replicate n 0)) 3)) := by
  obtain ⟨i0, hi, hz0, hz1, hz2⟩ := info_parts infoN
  have h := run_make (P := Try.prog) W 29 3 i0 (.int .i64 0) Try.underlying29 hi hz0 .i64 .i64 (n : Int) (n : Int) (by omega) (Int.le_refl _) (by rw [hz2]; omega) (by omega)
  rw [h, hz1]
  have e : madeCells (Value.int .i64 0).cells ((n : Int).toNat * 1) = rowN (List.replicate n 0) := by
    apply Array.toList_inj.1
    rw [show (Value.int .i64 0).cells = #[Value.int .i64 0] from rfl, toList_madeCells_one]
    simp [rowN]
  rw [e]
  simp
theorem Lies.ints {w : World} {g : Nat} {l : List Int} (h : Lies w g 3 (rowN l)) : ∀ i (h : i < l.length), w.cell? ⟨g, 0 + i, none⟩ = some (.int .i64 (l[i])) := fun i hi => by
  rw [Nat.zero_add, h.cell, rowN_at hi]

/-- Which drawings wait after k rounds; how long their chains are known to be. -/
def waitW (xs : List Iss) (zs : List Int) : Nat → Int → Bool
  | 0, d => decide (d ∈ zs)
  | k + 1, d => waitW xs zs k d && needB xs d (waitW xs zs k)
def goesW (xs : List Iss) (zs : List Int) (k : Nat) (d : Int) : Bool := waitW xs zs k d && !needB xs d (waitW xs zs k)
def depW (xs : List Iss) (zs : List Int) : Nat → Int → Int
  | 0, _ => 0
  | k + 1, d => if goesW xs zs k d then (k : Int) + 1 else depW xs zs k d
def chainsL (xs : List Iss) (zs : List Int) : List Int := zs.map (depW xs zs zs.length)
def mixL (xs : List Iss) (zs : List Int) (k j : Nat) : List Int := (zs.take j).map (depW xs zs (k + 1)) ++ (zs.drop j).map (depW xs zs k)
theorem mixL_len (xs : List Iss) (zs : List Int) (k j : Nat) : (mixL xs zs k j).length = zs.length := by
  unfold mixL; rw [List.length_append, List.length_map, List.length_map, ← List.length_append, List.take_append_drop]
theorem mixL_zero (xs : List Iss) (zs : List Int) (k : Nat) : mixL xs zs k 0 = zs.map (depW xs zs k) := by simp [mixL]
theorem mixL_end (xs : List Iss) (zs : List Int) (k : Nat) : mixL xs zs k zs.length = zs.map (depW xs zs (k + 1)) := by simp [mixL]
theorem mixL_goes {xs : List Iss} {zs : List Int} {k j : Nat} (h : j < zs.length) (hg : goesW xs zs k zs[j] = true) : (mixL xs zs k j).set j ((k : Int) + 1) = mixL xs zs k (j + 1) := by
  unfold mixL
  have hl : ((zs.take j).map (depW xs zs (k + 1))).length = j := by simp; omega
  rw [List.set_append_right _ _ (by omega), hl, Nat.sub_self, List.drop_eq_getElem_cons h, List.map_cons, List.set_cons_zero, List.take_succ_eq_append_getElem h, List.map_append, List.append_assoc]
  simp [depW, hg]
theorem mixL_stays {xs : List Iss} {zs : List Int} {k j : Nat} (h : j < zs.length) (hg : goesW xs zs k zs[j] = false) : mixL xs zs k j = mixL xs zs k (j + 1) := by
  unfold mixL
  rw [List.drop_eq_getElem_cons h, List.map_cons, List.take_succ_eq_append_getElem h, List.map_append, List.append_assoc]
  simp [depW, hg]
def goneL (xs : List Iss) (zs : List Int) (k j : Nat) : List Int := (zs.take j).filter (goesW xs zs k)
theorem goneL_step {xs : List Iss} {zs : List Int} {k j : Nat} (h : j < zs.length) : goneL xs zs k (j + 1) = goneL xs zs k j ++ if goesW xs zs k zs[j] then [zs[j]] else [] := by
  unfold goneL
  rw [List.take_succ_eq_append_getElem h, List.filter_append]
  congr 1
  by_cases e : goesW xs zs k zs[j] = true
  · simp [e]
  · simp [e]
theorem goneL_le (xs : List Iss) (zs : List Int) (k j : Nat) : (goneL xs zs k j).length ≤ j := by
  unfold goneL; exact Nat.le_trans (List.length_filter_le _ _) (List.length_take_le _ _)
theorem wait_next {xs : List Iss} {zs : List Int} {k : Nat} (x : Int) : (waitW xs zs k x && !decide (x ∈ goneL xs zs k zs.length)) = waitW xs zs (k + 1) x := by
  have hz : ∀ k, waitW xs zs k x = true → x ∈ zs := by
    intro k
    induction k with
    | zero => intro h; simpa [waitW] using h
    | succ k ih => intro h; rw [waitW, Bool.and_eq_true] at h; exact ih h.1
  unfold goneL
  rw [List.take_length, waitW]
  cases hw : waitW xs zs k x
  · rfl
  · have hm := hz k hw
    simp only [Bool.true_and, List.mem_filter, goesW, hw]
    cases needB xs x (waitW xs zs k) <;> simp [hm]
/-- The drawings that wait while those that are reached go. -/
def lessW (xs : List Iss) (zs : List Int) (k j : Nat) (x : Int) : Bool := waitW xs zs k x && !decide (x ∈ (goneL xs zs k zs.length).take j)
theorem lessW_zero (xs : List Iss) (zs : List Int) (k : Nat) (x : Int) : lessW xs zs k 0 x = waitW xs zs k x := by simp [lessW]
theorem lessW_step {xs : List Iss} {zs : List Int} {k j : Nat} (h : j < (goneL xs zs k zs.length).length) (x : Int) : (if x = (goneL xs zs k zs.length)[j] then false else lessW xs zs k j x) = lessW xs zs k (j + 1) x := by
  unfold lessW
  have hm : x ∈ (goneL xs zs k zs.length).take (j + 1) ↔ x ∈ (goneL xs zs k zs.length).take j ∨ x = (goneL xs zs k zs.length)[j] := by
    rw [List.take_succ_eq_append_getElem h]; simp only [List.mem_append, List.mem_singleton]
  by_cases e : x = (goneL xs zs k zs.length)[j]
  · rw [if_pos e, decide_eq_true (hm.2 (.inr e))]; simp
  · rw [if_neg e]
    congr 2
    rw [decide_eq_decide, hm]
    exact ⟨.inl, fun h => h.resolve_right e⟩

set_option maxRecDepth 100000 in
set_option maxHeartbeats 8000000 in
theorem chains_any (A B : Option Addr) (c b off cN bN oN : Nat) (vD : Value) (xs : List Iss) (zs : List Int) (vi vd : Nat → Value) (w : World) (hl : xs.length ≤ 1000) (hlz : zs.length ≤ 1000) (hs : xs.Pairwise (fun x y => x.d ≤ y.d)) (hA : 0 < xs.length → A = some ⟨b, off, none⟩) (hc : IssRow w b off xs vi vd)
    (hit : ∀ x ∈ xs, x.items.length ≤ 1000 ∧ ∀ it ∈ x.items, NIn it.1) (hzn : ∀ x ∈ zs, NIn x) (hB : 0 < zs.length → B = some ⟨bN, oN, none⟩) (hz : ∀ i (h : i < zs.length), w.cell? ⟨bN, oN + i, none⟩ = some (.int .i64 (zs[i]))) :
    Calls Try.prog 108 #[.agg #[.slice A xs.length c, .slice B zs.length cN, vD]] w fun e w' => e = .returned (.slice (some ⟨w.heap.size + 1, 0, none⟩) zs.length zs.length) ∧ Lies w' (w.heap.size + 1) 3 (rowN (chainsL xs zs)) ∧ Below w.heap.size w w' := by
  have HN : Hid (∀ d m n S W, Below w.heap.size w W → BMap W m n S → Calls Try.prog 127 #[.agg #[.slice A xs.length c, .slice B zs.length cN, vD], .int .i64 d, .map (some m)] W fun e w' => e = .returned (.bool (needB xs d S)) ∧ Below W.heap.size W w') :=
    Lib.hid (fun d m n S W hW hm => needs_any A c b off _ vD xs vi vd d m n S W hl hs hA (hc.after hW) hit hm)
  have HAL := Lib.hid (fun W (hW : Below w.heap.size w W) => all_any (.slice A xs.length c) vD B cN bN oN zs W hB hlz hzn (fun i h => cell_keep hW (hz i h)))
  have HB := Lib.hid hB
  have HZ := Lib.hid hz
  have HZN := Lib.hid hzn
  clear hs hA hc hit hB hz hzn
  have hmk := makeN zs.length hlz
  obtain ⟨i0, hi, iz0, iz1, iz2⟩ := info_parts infoN
  go_enter Try.func108, Try.ntmps108
  go_wp2_with fail
  refine (HAL.out _ (by (repeat' (first | (with_reducible first | exact Below.refl _ _ | assumption | refine Below.alloc ?_ ?_ _ | refine Below.setCell ?_ ?_ _ | refine below_row ?_ ?_ _ | refine Below.drew ?_ | refine below_drewN ?_ _ | refine Below.trans ?_ (Below.mono (by assumption) ?_)) | exact Nat.le_refl _ | omega | (simp; done) | (simp; omega) | exact Below.size (by assumption))))).mono ?_
  rintro e w1 ⟨rfl, hm1, hb1⟩
  have s1 := hb1.size; try simp only [World.size_alloc, World.size_setCell, World.size_drew, setRow_size] at s1
  have HD := Lib.hid (((Lies.made w 118 #[.slice A xs.length c, .slice B zs.length cN, vD]).alloc (.cells (rowN (List.replicate zs.length 0)) 3)).after hb1)
  have HG := Lib.hid ((Lies.new (u := w.alloc (.cells #[.slice A xs.length c, .slice B zs.length cN, vD] 118)) (k := w.heap.size + 1) (t := 3) (cs := rowN (List.replicate zs.length 0)) (by simp)).after hb1)
  simp only [World.size_alloc] at hm1
  have HM := Lib.hid hm1
  have hbw : Below w.heap.size w w1 := by (repeat' (first | (with_reducible first | exact Below.refl _ _ | assumption | refine Below.alloc ?_ ?_ _ | refine Below.setCell ?_ ?_ _ | refine below_row ?_ ?_ _ | refine Below.drew ?_ | refine below_drewN ?_ _ | refine Below.trans ?_ (Below.mono (by assumption) ?_)) | exact Nat.le_refl _ | omega | (simp; done) | (simp; omega) | exact Below.size (by assumption)))
  have d1 := HD.out.cell 1
  have zd := HD.out.lt
  clear hm1 hb1
  go_wp2_with fail
  clear d1
  go_loopw [20] (fun i wr => ∃ (k : Nat), k ≤ zs.length ∧ i = .int .i64 k ∧ Hid (Lies wr (w.heap.size + 1) 3 (rowN (zs.map (depW xs zs k)))) ∧ Hid (BMap wr (w.heap.size + 1 + 1 + 1) zs.length (waitW xs zs k)) ∧ Hid (Lies wr w.heap.size 118 #[.slice A xs.length c, .slice B zs.length cN, vD]) ∧ Below w.heap.size w wr) (fun i _ => zs.length - (intOf i).toNat)
  case atStart => exact ⟨0, by omega, rfl, Lib.hid (by have := HG.out; rwa [show List.replicate zs.length (0 : Int) = zs.map (depW xs zs 0) from by rw [List.map_eq_replicate_iff.2]; intro x _; rfl] at this), Lib.hid (HM.out), HD, hbw⟩
  case round =>
    obtain ⟨k, hk, rfl, HGk, HMk, HDk, hb⟩ := hrel
    have hzz := hb.size
    by_cases hlt : k < zs.length
    · obtain rfl := HB.out (by omega)
      have d1 := HDk.out.cell 1
      have zd := HDk.out.lt
      have zg := HGk.out.lt
      have zm := HMk.out.lt
      obtain ⟨wo, rfl⟩ : ∃ wo : World, wo = wr := ⟨_, rfl⟩
      go_wp2_with fail
      clear d1
      go_loopw [6, 26] (fun v i wr => ∃ (j : Nat), j ≤ zs.length ∧ i = .int .i64 j ∧ Hid (wr.ownsRow wo.heap.size 3 1 v (goneL xs zs k j).length (cellsN (goneL xs zs k j))) ∧ Hid (Lies wr (w.heap.size + 1) 3 (rowN (mixL xs zs k j))) ∧ Hid (BMap wr (w.heap.size + 1 + 1 + 1) zs.length (waitW xs zs k)) ∧ Hid (Lies wr w.heap.size 118 #[.slice A xs.length c, .slice (some ⟨bN, oN, none⟩) zs.length cN, vD]) ∧ Below w.heap.size w wr ∧ wo.heap.size ≤ wr.heap.size) (fun _ i _ => zs.length - (intOf i).toNat)
      case atStart => exact ⟨0, by omega, rfl, Lib.hid (World.ownsRow_nil _ _ _ _), Lib.hid (by rw [mixL_zero]; exact HGk.out), HMk, HDk, hb, Nat.le_refl _⟩
      case round =>
        obtain ⟨j, hj, rfl, HO, HX, HM2, HD2, hb2, hz2⟩ := hrel
        by_cases hjt : j < zs.length
        · have r0 := cell_keep hb2 (HZ.out j hjt)
          have hN := HZN.out zs[j] (List.getElem_mem hjt)
          have HGO := Lib.hid (goneL_step (xs := xs) (k := k) hjt)
          have HMG := Lib.hid (mixL_goes (xs := xs) (k := k) hjt)
          have HMS := Lib.hid (mixL_stays (xs := xs) (k := k) hjt)
          have hlen := goneL_le xs zs k j
          have hmx : j < (mixL xs zs k j).length := by rw [mixL_len]; exact hjt
          have HML := Lib.hid hmx
          clear hmx
          have hlook := HM2.out.look hN
          have d0 := HD2.out.cell 0
          have d1 := HD2.out.cell 1
          have d2 := HD2.out.cell 2
          have zd2 := HD2.out.lt
          have zg2 := HX.out.lt
          have zm2 := HM2.out.lt
          have hgw : goesW xs zs k zs[j] = (waitW xs zs k zs[j] && !needB xs zs[j] (waitW xs zs k)) := rfl
          have HND := Lib.hid (fun W hW hm => HN.out zs[j] (w.heap.size + 1 + 1 + 1) zs.length (waitW xs zs k) W hW hm)
          have HGW := Lib.hid hgw
          clear hgw hN
          generalize zs[j] = d at *
          generalize goesW xs zs k d = gg at *
          generalize waitW xs zs k d = ww at *
          generalize needB xs d (waitW xs zs k) = nn at *
          generalize goneL xs zs k j = gl at *
          cases ww
          · have HG0 : Hid (gg = false) := Lib.hid (by rw [HGW.out]; rfl)
            go_wp2
            go_roundw
            case rel => exact ⟨j + 1, by omega, by go_num, Lib.hid (by rw [HGO.out, HG0.out]; simpa using HO.out), Lib.hid (by rw [← HMS.out HG0.out]; exact HX.out), HM2, HD2, hb2, hz2⟩
            case measure => simp [intOf]; omega
          · go_wp2_with fail
            refine (HND.out _ hb2 HM2.out).mono ?_
            rintro e w2 ⟨rfl, hb3⟩
            have HO3 := Lib.hid (own_after HO.out hb3)
            have HX3 := Lib.hid (HX.out.after hb3)
            have HM3 := Lib.hid (HM2.out.after hb3)
            have HD3 := Lib.hid (HD2.out.after hb3)
            have hb4 : Below w.heap.size w w2 := by (repeat' (first | (with_reducible first | exact Below.refl _ _ | assumption | refine Below.alloc ?_ ?_ _ | refine Below.setCell ?_ ?_ _ | refine below_row ?_ ?_ _ | refine Below.drew ?_ | refine below_drewN ?_ _ | refine Below.trans ?_ (Below.mono (by assumption) ?_)) | exact Nat.le_refl _ | omega | (simp; done) | (simp; omega) | exact Below.size (by assumption)))
            have hz4 : wo.heap.size ≤ w2.heap.size := Nat.le_trans hz2 hb3.size
            clear hb3 d0 d1 d2 hlook
            cases nn
            · have HG0 : Hid (gg = true) := Lib.hid (by rw [HGW.out]; rfl)
              have g0 : w2.cell? ⟨w.heap.size + 1, j, none⟩ = some (.int .i64 ((mixL xs zs k j)[j]'HML.out)) := (HX3.out.cell j).trans (rowN_at HML.out)
              generalize (mixL xs zs k j)[j]'HML.out = old at *
              have f0 := HX3.out.free j
              have zg3 := HX3.out.lt
              have hwk : IntKind.i64.wrap ((k : Int) + 1) = (k : Int) + 1 := IntWalk.i64_in _ (by omega)
              have zm3 := HM3.out.lt
              go_wp2_with (at_builtin; go_loud (refine wpList_append_own _ rfl _ _ 29 rfl wo.heap.size 3 i0 (.int .i64 0) 1 8 Try.underlying29 hi iz0 iz1 iz2 rfl (by decide) _ _ _ rfl ((own_put HO3.out (by show w.heap.size + 1 < wo.heap.size; exact zg) _).alloc _) ⟨w2.heap.size, 0, none⟩ 1 1 [.int .i64 d] rfl rfl (World.news_of_block (cs := #[.int .i64 d]) (t := 3) (fr := (0, 0)) (Lies.new (by simp))) (by simp [Value.oneCell']) (by unfold maxLen; omega) (by omega) (by simp; omega) ?_; intro v' w3 hown' hgrow _; have HOW := Lib.hid ((own_put HO3.out (p := ⟨w.heap.size + 1, j, none⟩) (by show w.heap.size + 1 < wo.heap.size; exact zg) (.int .i64 ((k : Int) + 1))).alloc (.cells #[.int .i64 d] 3)); have HB5 := Lib.hid (below_own (w0 := w) (B := w.heap.size) (by (repeat' (first | (with_reducible first | exact Below.refl _ _ | assumption | refine Below.alloc ?_ ?_ _ | refine Below.setCell ?_ ?_ _ | refine below_row ?_ ?_ _ | refine Below.drew ?_ | refine below_drewN ?_ _ | refine Below.trans ?_ (Below.mono (by assumption) ?_)) | exact Nat.le_refl _ | omega | (simp; done) | (simp; omega) | exact Below.size (by assumption)))) HOW.out hgrow (by omega) (by simp; omega)); have HX5 := Lib.hid (lies_below ((HX3.out.store j (.int .i64 ((k : Int) + 1))).alloc (.cells #[.int .i64 d] 3)) HOW.out hgrow zg); have HD5 := Lib.hid (lies_below ((HD3.out.other (p := ⟨w.heap.size + 1, j, none⟩) (by show w.heap.size ≠ w.heap.size + 1; omega) (.int .i64 ((k : Int) + 1))).alloc (.cells #[.int .i64 d] 3)) HOW.out hgrow zd); have HM5 := Lib.hid (((HM3.out.set (p := ⟨w.heap.size + 1, j, none⟩) (by show w.heap.size + 1 + 1 + 1 ≠ w.heap.size + 1; omega) (.int .i64 ((k : Int) + 1))).alloc (.cells #[.int .i64 d] 3)).kept (hgrow.block _ (by simp; omega) (fun e => by have := (HOW.out.lt _ e.symm).1; omega))); have hz5 : wo.heap.size ≤ w3.heap.size := (by have := hgrow.size; simp at this; omega); have HO5 := Lib.hid hown'; clear hown' hgrow HOW))
              go_roundw
              case rel => exact ⟨j + 1, by omega, by go_num, Lib.hid (by rw [HGO.out, HG0.out, if_pos rfl, List.length_append]; unfold cellsN; rw [List.map_append]; exact HO5.out), Lib.hid (by rw [← HMG.out HG0.out, ← rowN_set]; exact HX5.out), HM5, HD5, HB5.out, hz5⟩
              case measure => simp [intOf]; omega
            · have HG0 : Hid (gg = false) := Lib.hid (by rw [HGW.out]; rfl)
              go_wp2
              go_roundw
              case rel => exact ⟨j + 1, by omega, by go_num, Lib.hid (by rw [HGO.out, HG0.out]; simpa using HO3.out), Lib.hid (by rw [← HMS.out HG0.out]; exact HX3.out), HM3, HD3, hb4, hz4⟩
              case measure => simp [intOf]; omega
        · have hje : j = zs.length := by omega
          subst hje
          have HX3 : Hid (Lies wr (w.heap.size + 1) 3 (rowN (zs.map (depW xs zs (k + 1))))) := Lib.hid (by rw [← mixL_end]; exact HX.out)
          obtain ⟨A6, c6, g6, rfl, -⟩ := own_form HO.out
          have hgl := goneL_le xs zs k zs.length
          have HGN : Hid (∀ x ∈ goneL xs zs k zs.length, NIn x) := Lib.hid (fun x hx => HZN.out x (List.mem_of_mem_take (List.mem_filter.1 hx).1))
          clear HX
          obtain ⟨wp, rfl⟩ : ∃ wp : World, wp = wr := ⟨_, rfl⟩
          go_wp2_with fail
          go_loopw [53] (fun i wr => ∃ (j : Nat), j ≤ (goneL xs zs k zs.length).length ∧ i = .int .i64 j ∧ Hid (wr.ownsRow wo.heap.size 3 1 (.slice A6 (goneL xs zs k zs.length).length c6) (goneL xs zs k zs.length).length (cellsN (goneL xs zs k zs.length))) ∧ Hid (Lies wr (w.heap.size + 1) 3 (rowN (zs.map (depW xs zs (k + 1))))) ∧ Hid (BMap wr (w.heap.size + 1 + 1 + 1) zs.length (lessW xs zs k j)) ∧ Hid (Lies wr w.heap.size 118 #[.slice A xs.length c, .slice (some ⟨bN, oN, none⟩) zs.length cN, vD]) ∧ Below w.heap.size w wr) (fun i _ => (goneL xs zs k zs.length).length - (intOf i).toNat)
          case atStart => exact ⟨0, by omega, rfl, HO, HX3, Lib.hid (HM2.out.ext (fun x _ => (lessW_zero _ _ _ x).symm)), HD2, hb2⟩
          case round =>
            obtain ⟨j, hj, rfl, HO7, HX7, HM7, HD7, hb7⟩ := hrel
            have HLS := Lib.hid (fun h x => lessW_step (xs := xs) (zs := zs) (k := k) (j := j) h x)
            have HWN := Lib.hid (fun x => wait_next (xs := xs) (zs := zs) (k := k) x)
            by_cases hjt : j < (goneL xs zs k zs.length).length
            · obtain ⟨A8, c8, b8, o8, hv8, hA8, hc8⟩ := ints_of_own HO7.out
              obtain rfl := hA8 (by omega)
              simp only [Value.slice.injEq, true_and] at hv8
              obtain ⟨rfl, rfl⟩ := hv8
              have r0 := hc8 j hjt
              have hN := HGN.out _ (List.getElem_mem hjt)
              obtain ⟨w9, hrun, hm9, ht9⟩ := HM7.out.del hN 0
              have HM9 := Lib.hid (hm9.ext (fun x _ => HLS.out hjt x))
              have HB9 := Lib.hid (turned_below ht9 (by omega) w hb7 hb7.size)
              have HX9 := Lib.hid (HX7.out.turned1 ht9 (by omega))
              have HD9 := Lib.hid (HD7.out.turned1 ht9 (by omega))
              have HO9 := Lib.hid (own_at HO7.out (fun g hg => turned_other ht9 (by have := (HO7.out.lt g hg).1; omega)))
              clear hm9 ht9 hc8
              generalize (goneL xs zs k zs.length)[j] = d at *
              go_wp2
              go_roundw
              case rel => exact ⟨j + 1, by omega, by go_num, HO9, HX9, HM9, HD9, HB9.out⟩
              case measure => simp [intOf]; omega
            · have hje : j = (goneL xs zs k zs.length).length := by omega
              have HM9 : Hid (BMap wr (w.heap.size + 1 + 1 + 1) zs.length (waitW xs zs (k + 1))) := Lib.hid (HM7.out.ext (fun x _ => by rw [← HWN.out]; unfold lessW; rw [hje, List.take_length]))
              clear HM7
              subst hje
              go_wp2
              go_roundw
              case rel => exact ⟨k + 1, by omega, by go_num, HX7, HM9, HD7, hb7⟩
              case measure => simp [intOf]; omega
    · have hke : k = zs.length := by omega
      have HR : Hid (Lies wr (w.heap.size + 1) 3 (rowN (chainsL xs zs))) := Lib.hid (by unfold chainsL; have := HGk.out; rwa [hke] at this)
      clear HGk
      subst hke
      go_wp2
      go_ret
      exact ⟨rfl, HR.out, hb⟩
end
section
open Go.RowKit

theorem namedB_iff {x : Iss} : namedB x = true ↔ (1 ≤ x.d ∧ x.d ≤ 9999) ∧ (1 ≤ x.l ∧ x.l ≤ 8) ∧ (1 ≤ x.k ∧ x.k ≤ 3) := by
  unfold namedB inB
  simp only [Bool.and_eq_true, decide_eq_true_eq, and_assoc]
theorem orderB_iff {b x : Iss} : orderB b x = true ↔ (x.d = b.d ∧ x.l = b.l + 1 ∧ x.k = b.k) ∨ (b.d < x.d ∧ x.l = 1) := by
  unfold orderB
  by_cases h : x.d = b.d
  · rw [if_pos h]; simp only [Bool.and_eq_true, decide_eq_true_eq]
    constructor
    · intro h2; exact .inl ⟨h, h2⟩
    · rintro (⟨-, h2⟩ | ⟨h2, -⟩)
      · exact h2
      · omega
  · rw [if_neg h]; simp only [Bool.and_eq_true, decide_eq_true_eq]
    constructor
    · intro h2; exact .inr h2
    · rintro (⟨h2, -⟩ | h2)
      · exact absurd h2 h
      · exact h2
theorem met_parts {b x : Iss} (h : metB b x = true) : namedB x = true ∧ orderB b x = true ∧ madeB x = true ∧ measuredB x = true := by
  unfold metB at h
  simp only [Bool.and_eq_true] at h
  exact ⟨h.1.1.1, h.1.1.2, h.1.2, h.2⟩
theorem right_cons {b x : Iss} {xs : List Iss} (h : rightB b (x :: xs) = true) : metB b x = true ∧ rightB x xs = true := by
  rw [rightB, Bool.and_eq_true] at h; exact h
theorem right_ge : ∀ {xs : List Iss} {b : Iss}, rightB b xs = true → ∀ x ∈ xs, b.d ≤ x.d
  | [], _, _, _, hx => by cases hx
  | y :: r, b, h, x, hx => by
    obtain ⟨h1, h2⟩ := right_cons h
    have ho := orderB_iff.1 (met_parts h1).2.1
    have hy : b.d ≤ y.d := by rcases ho with ho | ho <;> omega
    rcases List.mem_cons.1 hx with rfl | hx
    · exact hy
    · exact Int.le_trans hy (right_ge h2 x hx)
theorem right_sorted : ∀ {xs : List Iss} {b : Iss}, rightB b xs = true → xs.Pairwise (fun x y => x.d ≤ y.d)
  | [], _, _ => List.Pairwise.nil
  | y :: r, b, h => List.Pairwise.cons (fun x hx => right_ge (right_cons h).2 x hx) (right_sorted (right_cons h).2)
theorem right_named : ∀ {xs : List Iss} {b : Iss}, rightB b xs = true → ∀ x ∈ xs, namedB x = true ∧ madeB x = true ∧ measuredB x = true
  | [], _, _, _, hx => by cases hx
  | y :: r, b, h, x, hx => by
    obtain ⟨h1, h2⟩ := right_cons h
    rcases List.mem_cons.1 hx with rfl | hx
    · obtain ⟨a, -, c, d⟩ := met_parts h1; exact ⟨a, c, d⟩
    · exact right_named h2 x hx
theorem numbersL_cons (x : Iss) (r : List Iss) : numbersL (x :: r) = if x.l = 1 then x.d :: numbersL r else numbersL r := by
  unfold numbersL
  by_cases h : x.l = 1 <;> simp [h]
theorem right_numbers : ∀ {xs : List Iss} {b : Iss}, (b.d = 0 ∨ 1 ≤ b.l) → rightB b xs = true → (∀ n ∈ numbersL xs, b.d < n) ∧ (numbersL xs).Pairwise (· < ·)
  | [], _, _, _ => ⟨by simp [numbersL], by simp [numbersL]⟩
  | y :: r, b, hb, h => by
    obtain ⟨h1, h2⟩ := right_cons h
    obtain ⟨hn, ho, -, -⟩ := met_parts h1
    have hn := namedB_iff.1 hn
    obtain ⟨i1, i2⟩ := right_numbers (b := y) (.inr (by omega)) h2
    rw [numbersL_cons]
    rcases orderB_iff.1 ho with ⟨e1, e2, -⟩ | ⟨e1, e2⟩
    · have : 1 ≤ b.l := by rcases hb with hb | hb <;> omega
      rw [if_neg (by omega)]
      exact ⟨fun n hn => by have := i1 n hn; omega, i2⟩
    · rw [if_pos e2]
      refine ⟨fun n hn => ?_, List.Pairwise.cons (fun n hn => i1 n hn) i2⟩
      rcases List.mem_cons.1 hn with rfl | hn
      · exact e1
      · have := i1 n hn; omega
theorem numbers_strict {xs : List Iss} (h : rightB zeroI xs = true) : (numbersL xs).Pairwise (· < ·) := (right_numbers (.inl rfl) h).2
theorem numbers_mem {xs : List Iss} {n : Int} (h : n ∈ numbersL xs) : ∃ x ∈ xs, x.l = 1 ∧ x.d = n := by
  unfold numbersL at h
  obtain ⟨x, hx, rfl⟩ := List.mem_map.1 h
  rw [List.mem_filter] at hx
  exact ⟨x, hx.1, by simpa using hx.2, rfl⟩
theorem numbers_in {xs : List Iss} (h : rightB zeroI xs = true) : ∀ n ∈ numbersL xs, 1 ≤ n ∧ n ≤ 9999 := by
  intro n hn
  obtain ⟨x, hx, -, rfl⟩ := numbers_mem hn
  exact (namedB_iff.1 (right_named h x hx).1).1
theorem numbers_nin {xs : List Iss} (h : rightB zeroI xs = true) : ∀ n ∈ numbersL xs, NIn n := fun n hn => by
  have := numbers_in h n hn; unfold NIn; omega
/-- Each issue's drawing is numbered: its issue A stands before it. -/
theorem right_has : ∀ {xs : List Iss} {b : Iss}, rightB b xs = true → ∀ x ∈ xs, x.d = b.d ∨ x.d ∈ numbersL xs
  | [], _, _, _, hx => by cases hx
  | y :: r, b, h, x, hx => by
    obtain ⟨h1, h2⟩ := right_cons h
    have ho := orderB_iff.1 (met_parts h1).2.1
    have hy : y.d = b.d ∨ y.d ∈ numbersL (y :: r) := by
      rcases ho with ⟨e1, -, -⟩ | ⟨e1, e2⟩
      · exact .inl e1
      · right; rw [numbersL_cons, if_pos e2]; simp
    rcases List.mem_cons.1 hx with rfl | hx
    · exact hy
    · rcases right_has h2 x hx with e | e
      · rw [e]; exact hy
      · right; rw [numbersL_cons]; split
        · exact List.mem_cons_of_mem _ e
        · exact e
theorem numbers_has {xs : List Iss} (h : rightB zeroI xs = true) : ∀ x ∈ xs, x.d ∈ numbersL xs := by
  intro x hx
  rcases right_has h x hx with e | e
  · have := (namedB_iff.1 (right_named h x hx).1).1
    rw [e] at this
    exact absurd this.1 (by decide)
  · exact e
theorem complete_mem {xs : List Iss} {zs : List Int} (h : completeB xs zs = true) : ∀ x ∈ xs, ∀ it ∈ x.items, it.1 ∈ zs := by
  unfold completeB at h
  rw [List.all_eq_true] at h
  intro x hx it hit
  have := h x hx
  rw [List.all_eq_true] at this
  simpa using this it hit

/-- Check's error of a register. -/
def layE (xs : List Iss) : Int :=
  if (inB 1 60 xs.length && rightB zeroI xs) = false then 20
  else if (decide ((numbersL xs).length ≤ 20) && completeB xs (numbersL xs)) = false then 20
  else if (0 : Int) ∈ chainsL xs (numbersL xs) then 21
  else if 6 < maxL (chainsL xs (numbersL xs)) then 20 else 0
theorem layE_ok {xs : List Iss} (h : layE xs = 0) : (1 ≤ xs.length ∧ xs.length ≤ 60) ∧ rightB zeroI xs = true ∧ (numbersL xs).length ≤ 20 ∧ completeB xs (numbersL xs) = true ∧ (0 : Int) ∉ chainsL xs (numbersL xs) ∧ maxL (chainsL xs (numbersL xs)) ≤ 6 := by
  unfold layE at h
  split at h; · omega
  rename_i h1
  split at h; · omega
  rename_i h2
  split at h; · omega
  rename_i h3
  split at h; · omega
  rename_i h4
  simp only [Bool.not_eq_false, Bool.and_eq_true, decide_eq_true_eq] at h1 h2
  have h5 := h1.1
  unfold inB at h5
  simp at h5
  exact ⟨by omega, h1.2, h2.1, h2.2, h3, by omega⟩
end
section
open Go.RowKit Go.Maps

/-- Block b holds a map of at most n numbers, which tells S: 0 where nothing is. -/
def IMap (w : World) (b n : Nat) (S : Int → Int) : Prop :=
  ∃ D : DataW Unit, w.ownsMap Try.prog 3 (plainElem Try.prog 3) b n D ∧ ∀ x, NIn x → D.atKey (.int .i64 x) (.lit (.int .i64 0)) = .lit (.int .i64 (S x))
theorem zero_int (w : World) : (zeroValue 3).run Try.prog w = .ok (.int .i64 0) w := by kernel_rfl
theorem IMap.lt {w : World} {b n : Nat} {S : Int → Int} (h : IMap w b n S) : b < w.heap.size := by obtain ⟨D, h1, -⟩ := h; exact h1.lt
theorem IMap.kept {w w' : World} {b n : Nat} {S : Int → Int} (h : IMap w b n S) (he : w'.heap[b]? = w.heap[b]?) : IMap w' b n S := by
  obtain ⟨D, ⟨es, cl, h1, h2⟩, h3⟩ := h
  exact ⟨D, ⟨es, cl, he.trans h1, h2⟩, h3⟩
theorem IMap.after {w w' : World} {b n : Nat} {S : Int → Int} (h : IMap w b n S) (hb : Below w.heap.size w w') : IMap w' b n S := h.kept (hb.block b h.lt)
theorem IMap.alloc {w : World} {b n : Nat} {S : Int → Int} (h : IMap w b n S) (o : Obj) : IMap (w.alloc o) b n S := h.kept (Below.heap_alloc w o b h.lt)
theorem IMap.drew {w : World} {b n : Nat} {S : Int → Int} (h : IMap w b n S) : IMap w.drew b n S := h
theorem IMap.drewN {w : World} {b n : Nat} {S : Int → Int} (h : IMap w b n S) (k : Nat) : IMap (w.drewN k) b n S := h
theorem IMap.set {w : World} {b n : Nat} {S : Int → Int} (h : IMap w b n S) {p : Addr} (hp : b ≠ p.block) (u : Value) : IMap (w.setCell p u) b n S := h.kept (Below.heap_setCell w p u b hp)
theorem IMap.ext {w : World} {b n : Nat} {S T : Int → Int} (h : IMap w b n S) (e : ∀ x, NIn x → S x = T x) : IMap w b n T := by
  obtain ⟨D, h1, h3⟩ := h
  exact ⟨D, h1, fun x hx => by rw [h3 x hx, e x hx]⟩
theorem IMap.more {w : World} {b n m : Nat} {S : Int → Int} (h : IMap w b n S) (hm : n ≤ m) : IMap w b m S := by
  obtain ⟨D, h1, h3⟩ := h
  exact ⟨D, h1.mono hm, h3⟩
theorem IMap.made (w : World) : IMap (w.alloc (.map #[] 0)) w.heap.size 0 (fun _ => 0) := ⟨_, World.ownsMap_made _ _ _ _, fun x _ => rfl⟩
theorem IMap.ne {w : World} {b n g : Nat} {S : Int → Int} {t : TypeId} {cs : Array Value} (h : IMap w b n S) (hl : Lies w g t cs) : g ≠ b := by
  rintro rfl
  obtain ⟨D, ⟨es, cl, h1, h2⟩, h3⟩ := h
  unfold Lies at hl
  rw [hl] at h1
  cases h1
theorem IMap.look {w : World} {b n : Nat} {S : Int → Int} (h : IMap w b n S) {x : Int} (hx : NIn x) : (Instr.lookup 100 (.map (some b)) (.int .i64 x) false).run Try.prog w = .ok (.int .i64 (S x)) w := by
  obtain ⟨D, h1, h3⟩ := h
  obtain ⟨v, ps, hrun, hv⟩ := h1.lookup (int_keyed Try.underlying3) Try.underlying100 (zero_int w) (plainElem_int Try.underlying3 (nin_wf (x := 0) (by unfold NIn; omega))) (key_i64 hx)
  obtain ⟨c, rfl, hc, -⟩ := plainElem_int_inv Try.underlying3 hv
  rw [h3 x hx] at hc
  simp only [Prod.mk.injEq, DataW.lit.injEq, Lit.int.injEq, true_and] at hc
  rw [← hc.1] at hrun
  exact hrun
theorem IMap.put {w : World} {b n : Nat} {S : Int → Int} (h : IMap w b n S) (hn : n < 1000000) {x : Int} (hx : NIn x) {v : Int} (hv : NIn v) :
    ∃ w', (Instr.mapUpdate 100 (.map (some b)) (.int .i64 x) (.int .i64 v)).run Try.prog w = .ok () w' ∧ IMap w' b (n + 1) (fun y => if y = x then v else S y) ∧ w.mapTurned w' b := by
  obtain ⟨D, h1, h3⟩ := h
  obtain ⟨w', hrun, h4, h5⟩ := h1.store (int_keyed Try.underlying3) Try.underlying100 (by unfold maxLen; omega) (key_i64 hx) (plainElem_int Try.underlying3 (nin_wf hv))
  refine ⟨w', hrun, ⟨_, h4, fun y hy => ?_⟩, h5⟩
  show _ = DataW.lit (Lit.int .i64 (if y = x then _ else S y))
  by_cases e : y = x
  · subst e
    rw [if_pos rfl, Maps.atKey_put_same h1.isMap (isKey_i64 y)]
  · rw [if_neg e, Maps.atKey_put_other (by intro h; injection h with _ h; exact e h), h3 y hy]
/-- All but one block is as it was. -/
theorem lies_grown1 {w w' : World} {g b : Nat} {t : TypeId} {cs : Array Value} (h : Lies w g t cs) (hg : w.grownBy w' (some b)) (hne : g ≠ b) : Lies w' g t cs := (hg.block g h.lt (fun e => hne (by injection e))).trans h
theorem grown_below {w w0 w' : World} {b B : Nat} (hb : Below B w0 w) (hg : w.grownBy w' (some b)) (hB : B ≤ b) (hs : B ≤ w.heap.size) : Below B w0 w' := hb.grown hg hs (fun k e => by injection e with e; omega)
theorem grown_of_below {w w' : World} (hb : Below w.heap.size w w') (row : Option Nat) : w.grownBy w' row := ⟨hb.os, hb.tape, hb.output, hb.size, fun k hk _ => hb.block k hk⟩
end
end Go.Proofs.Ytkjfceajakhlfaa
