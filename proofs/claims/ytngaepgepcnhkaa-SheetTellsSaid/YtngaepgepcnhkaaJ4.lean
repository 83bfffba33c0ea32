/- The iterator over the issues of a drawing. -/
import Derived.Test.YtngaepgepcnhkaaJ3
import Derived.Test.YtngaepgepcnhkaaRange
import Derived.Shelf.Abstract
import Derived.Shelf.RegionOpen
import Derived.OwnWalkIn
import Derived.TacticsInMore
import Derived.LoopNIn
import Derived.LoopIn
import Derived.Sort.QuietIn
namespace Go.Proofs.Ytngaepgepcnhkaa
set_option linter.unusedVariables false
set_option linter.unusedSimpArgs false
open Go.RowKit Go.Shelf
attribute [local go_sem] Oper.semAt_some

theorem OwnTurns.below {β : Type} {base : Nat} {J : β → World → Prop} (h : OwnTurns base J) {s : β} {W W' : World} (hs : J s W) (hb : Below W.heap.size W W') : J s W' :=
  h s W W' none hs ⟨hb.os, hb.tape, hb.output, hb.size, fun k hk _ => hb.block k hk⟩ (fun _ e => by cases e)
theorem CellsKept.refl (X : Nat → Prop) (A : World) : CellsKept X A A := ⟨Nat.le_refl _, fun _ _ _ _ _ e => e⟩
theorem CellsKept.after {X : Nat → Prop} {w W W' : World} (h : CellsKept X w W) (hb : Below W.heap.size W W') : CellsKept X w W' :=
  ⟨Nat.le_trans h.1 hb.size, fun g cs t fr hx e => (hb.block g (Array.getElem?_eq_some_iff.1 (h.2 g cs t fr hx e)).1).trans (h.2 g cs t fr hx e)⟩
theorem CellsKept.of_below {X : Nat → Prop} {w W : World} (hb : Below w.heap.size w W) : CellsKept X w W := (CellsKept.refl X w).after hb
theorem CellsKept.cell {X : Nat → Prop} {A B : World} (h : CellsKept X A B) {g o : Nat} {v : Value} (hx : ¬ X g) (hl : A.cell? ⟨g, o, none⟩ = some v) : B.cell? ⟨g, o, none⟩ = some v := by
  unfold World.cell? at hl ⊢
  cases hg : A.heap[g]? with
  | none => simp [hg] at hl
  | some ob =>
    cases ob with
    | cells cs t fr => simp only [hg] at hl; simp only [h.2 g cs t fr hx hg]; exact hl
    | _ => simp [hg] at hl

theorem Lies.turned {w W : World} {g base : Nat} {t : TypeId} {cs : Array Value} (h : Lies w g t cs) {row : Option Nat} (hg : w.grownBy W row) (hlt : g < base) (hr : ∀ r, row = some r → base ≤ r) : Lies W g t cs :=
  (hg.block g h.lt (fun e => by have := hr g e.symm; omega)).trans h
theorem Lies.put {w : World} {g l : Nat} {t : TypeId} {cs : Array Value} (h : Lies w g t cs) {o : Obj} (o' : Obj) (hl : w.heap[l]? = some o) (ho : o.isCells = false) : Lies (w.putObj l o') g t cs := by
  have hne : g ≠ l := by
    rintro rfl
    have h' := h
    unfold Lies at h'
    rw [hl] at h'; cases h'; cases ho
  exact (World.putObj_heap_other hne).trans h
theorem KeepsOthers.of_below {A B : World} (h : Below A.heap.size A B) : KeepsOthers A B := ⟨h.size, fun k o hk _ => (h.block k (Array.getElem?_eq_some_iff.1 hk).1).trans hk⟩

/-- The places of a drawing's issues. -/
def idxs (xs : List Iss) (t : Int) : List (Fin xs.length) := (List.finRange xs.length).filter fun k => decide (xs[k].d = t)
def restI (xs : List Iss) (t : Int) (at_ : Nat) : List (Fin xs.length) := ((List.finRange xs.length).drop at_).filter fun k => decide (xs[k].d = t)
abbrev encF (xs : List Iss) (vi vd : Nat → Value) (k : Fin xs.length) : Array Value := #[.agg #[.int .i64 (xs[k].d), .int .i64 (xs[k].l), .int .u8 (xs[k].k), vi k, vd k]]

theorem restI_start {xs : List Iss} {t : Int} {r : Nat} (h : ∀ i (h : i < xs.length), i < r → xs[i].d < t) : restI xs t r = idxs xs t := by
  unfold restI idxs
  conv => rhs; rw [← List.take_append_drop r (List.finRange xs.length)]
  rw [List.filter_append]
  have : ((List.finRange xs.length).take r).filter (fun k => decide (xs[k].d = t)) = [] := by
    rw [List.filter_eq_nil_iff]
    intro k hk
    obtain ⟨i, hi, rfl⟩ := List.getElem_of_mem hk
    simp only [List.length_take, List.length_finRange] at hi
    have := h i (by omega) (by omega)
    simp; omega
  rw [this, List.nil_append]
theorem restI_step {xs : List Iss} {t : Int} {k : Nat} (hk : k < xs.length) (h : xs[k].d = t) : restI xs t k = ⟨k, hk⟩ :: restI xs t (k + 1) := by
  unfold restI
  rw [List.drop_eq_getElem_cons (by simpa using hk), List.filter_cons_of_pos (by simpa using h)]
  simp
theorem restI_end {xs : List Iss} {t : Int} {k : Nat} (h : ∀ i (h : i < xs.length), k ≤ i → xs[i].d ≠ t) : restI xs t k = [] := by
  unfold restI
  rw [List.filter_eq_nil_iff]
  intro y hy
  obtain ⟨i, hi, rfl⟩ := List.getElem_of_mem hy
  simp only [List.length_drop, List.length_finRange] at hi
  have := h (k + i) (by omega) (by omega)
  simpa using this

set_option maxRecDepth 100000 in
set_option maxHeartbeats 2000000 in
theorem isit_any (n : Nat) (hn : 3 ≤ n) (dB nB : Nat) (A : Option Addr) (c b off : Nat) (vN vD : Value) (xs : List Iss) (vi vd : Nat → Value) (t : Int) (X : Nat → Prop) (w : World) (hl : xs.length ≤ 1000) (hs : xs.Pairwise (fun x y => x.d ≤ y.d))
    (hd : Lies w dB 118 #[.slice A xs.length c, vN, vD]) (ht : Lies w nB 3 #[.int .i64 t]) (hA : 0 < xs.length → A = some ⟨b, off, none⟩) (hc : IssRow w b off xs vi vd)
    (hXd : ¬ X dB) (hXt : ¬ X nB) (hXb : 0 < xs.length → ¬ X b) :
    IterOwn Fence.wide n Try.prog 111 #[.pointer (some ⟨dB, 0, none⟩), .pointer (some ⟨nB, 0, none⟩)] (encF xs vi vd) X (fun ks => ks = idxs xs t) (fun pre => pre <+: idxs xs t) w := by
  intro l J Jx W0 hb0 hJ hJx hY h0
  have hd' := hd.after hb0
  have ht' := ht.after hb0
  have HBS := Lib.hid (bsf_any A c b off xs vi vd t W0 hs hA hl (hc.after hb0))
  have HSrt := Lib.hid hs
  have p0 := hd'.cell 0
  have q0 := ht'.cell 0
  have z1 := hd'.lt
  have z2 := ht'.lt
  have HC := Lib.hid hc
  have HA := Lib.hid hA
  have HXb := Lib.hid hXb
  have HY := Lib.hid hY
  have HJ := Lib.hid hJ
  have H0 := Lib.hid h0
  have HD := Lib.hid hd
  have HT := Lib.hid ht
  have zb := hb0.size
  have HK0 : Hid (CellsKept X w W0) := Lib.hid (CellsKept.of_below hb0)
  clear hd ht hc hA hY hJ hJx h0 hd' ht' hs hXb
  refine callsIn_of_wp Try.func111 rfl trivial ?_ rfl
  simp only [Try.ntmps111, List.size_toArray, List.length_cons, List.length_nil, Nat.reduceAdd, Nat.reduceSub, Array.replicate_succ, Array.replicate_zero, List.push_toArray, List.append_toArray, List.nil_append, List.cons_append]
  gi_wp2_with fail
  refine ⟨trivial, (fun h => (by cases h)), ?_⟩
  refine (callsIn_wide.2 HBS.out).mono ?_
  rintro e w1 ⟨r, f, hr, hlo, hhi, rfl, hb1⟩
  have HHI := Lib.hid hhi
  have HLO := Lib.hid (restI_start hlo)
  have HK1 := Lib.hid (HK0.out.after hb1)
  have HJ1 := Lib.hid (HJ.out.below H0.out hb1)
  clear hlo hhi hb1 p0 q0 HBS HK0
  gi_wp2_with fail
  gi_loopw [4] (fun i wr => ∃ (k : Nat) (pre : List (Fin xs.length)), r ≤ k ∧ k ≤ xs.length ∧ i = .int .i64 k ∧ Hid (pre ++ restI xs t k = idxs xs t) ∧ Hid (J pre wr) ∧ Hid (CellsKept X w wr)) (fun i _ => xs.length - (intOf i).toNat)
  case atStart => exact ⟨r, [], by omega, hr, rfl, Lib.hid HLO.out, HJ1, HK1⟩
  case round =>
    obtain ⟨k, pre, hrk, hk, rfl, hrun, hJp, hCK⟩ := hrel
    have hdw := hCK.out.lies hXd HD.out
    have htw := hCK.out.lies hXt HT.out
    have p0 := hdw.cell 0
    have q0 := htw.cell 0
    have z3 := hdw.lt
    have z4 := htw.lt
    clear hdw htw
    by_cases hlt : k < xs.length
    · obtain rfl := HA.out (by omega)
      obtain ⟨y0, y1, y2, y3, y4, -, -, -⟩ := HC.out k hlt
      have hXb := HXb.out (by omega)
      have r0 := hCK.out.cell hXb y0
      have r1 := hCK.out.cell hXb y1
      have r2 := hCK.out.cell hXb y2
      have r3 := hCK.out.cell hXb y3
      have r4 := hCK.out.cell hXb y4
      clear y0 y1 y2 y3 y4
      have kl1 : (k : Int) < (xs.length : Int) := by omega
      by_cases hdt : xs[k].d = t
      · have HR := Lib.hid (restI_step hlt hdt)
        have hde : (xs[k].d == t) = true := by simpa using hdt
        clear hdt
        gi_wp2_with fail
        gi_quiet (fail)
        have HJ2 := Lib.hid (HJ.out.below hJp.out (below_drewN (Below.refl _ wr) nq))
        have HK2 := Lib.hid (hCK.out.after (below_drewN (Below.refl _ wr) nq))
        obtain ⟨fn, tmps, assign, body, hy0, hR⟩ := HY.out pre ⟨k, hlt⟩ _ HJ2.out
        have hy : (Instr.yield l #[.agg #[.int .i64 (xs[k].d), .int .i64 (xs[k].l), .int .u8 (xs[k].k), vi k, vd k]]).run Try.prog _ = _ := hy0
        have HRR := Lib.hid hR
        clear hy0 hR
        gi_wp2_with fail
        refine ⟨(fun h => (by cases h)), HRR.out.mono ?_⟩
        rintro e W3 (⟨rfl, hJ4, hk4⟩ | ⟨rfl, hJx4⟩)
        · have HK4 := Lib.hid (HK2.out.trans hk4)
          have HJ4 := Lib.hid hJ4
          clear hk4 hJ4
          gi_wp2
          go_roundw
          case rel => exact ⟨k + 1, pre ++ [⟨k, hlt⟩], by omega, by omega, by go_num, Lib.hid (by rw [List.append_assoc, List.singleton_append, ← HR.out]; exact hrun.out), HJ4, HK4⟩
          case measure => simp [intOf]; omega
        · gi_wp2
          refine bodyPost_ret (results_none rfl _ _ _) rfl ?_
          exact ⟨⟨_, rfl⟩, .inr ⟨_, ⟨restI xs t (k + 1), by rw [List.append_assoc, List.singleton_append, ← HR.out]; exact hrun.out⟩, hJx4⟩⟩
      · have hde : (xs[k].d == t) = false := by simpa using hdt
        have HE := Lib.hid (restI_end (xs := xs) (t := t) (k := k) (fun i h hi => by
          have h1 := HHI.out k hlt hrk
          by_cases e : i = k
          · subst e; exact hdt
          · have := List.pairwise_iff_getElem.1 HSrt.out k i hlt h (by omega)
            omega))
        clear hdt
        gi_wp2_with fail
        gi_quiet (fail)
        gi_wp2
        go_end0
        refine ⟨⟨_, rfl⟩, .inl ⟨pre, ?_, HJ.out.below hJp.out (below_drewN (Below.refl _ wr) _)⟩⟩
        have := hrun.out
        rw [HE.out, List.append_nil] at this
        exact this
    · have kl1 : ¬ (k : Int) < (xs.length : Int) := by omega
      have kl2 : decide ((k : Int) < (xs.length : Int)) = false := by simpa using kl1
      have kl3 : decide (k < xs.length) = false := by simpa using hlt
      have HE := Lib.hid (restI_end (xs := xs) (t := t) (k := k) (fun i h hi => by omega))
      gi_wp2_with fail
      gi_quiet (fail)
      gi_wp2
      go_end0
      refine ⟨⟨_, rfl⟩, .inl ⟨pre, ?_, HJ.out.below hJp.out (below_drewN (Below.refl _ wr) _)⟩⟩
      have := hrun.out
      rw [HE.out, List.append_nil] at this
      exact this
end Go.Proofs.Ytngaepgepcnhkaa
