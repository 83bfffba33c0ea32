/- A range over an iterator that makes memory alone: the caller's invariant may speak of rows of its own; issuesOf as such an iterator. -/
import Derived.Test.YtkjfceajakhlfaaLB
namespace Go.Proofs.Ytkjfceajakhlfaa
set_option linter.unusedVariables false
set_option linter.unusedSimpArgs false
open Go.RowKit
section
variable {P : Program}

/-- J abides new blocks. -/
def UpTurns {β : Type} (J : β → World → Prop) : Prop := ∀ s A B, J s A → Below A.heap.size A B → J s B

/-- The contract of an iterator that makes memory alone. -/
def IterUp {α : Type} (F : Fence) (n : Nat) (P : Program) (gf : Nat) (lb : Array Value) (encs : α → Array Value) (X : Nat → Prop) (S Sp : List α → Prop) (w : World) : Prop :=
  ∀ (l : Nat) (J Jx : List α → World → Prop) (W : World), Below w.heap.size w W → UpTurns J → UpTurns Jx →
    (∀ pre x W1, J pre W1 → Sp (pre ++ [x]) → YieldAt F (n - 1) P l (encs x) W1 fun e W' =>
      (e = .returned (.bool true) ∧ J (pre ++ [x]) W' ∧ CellsKept X W1 W') ∨ (e = .returned (.bool false) ∧ Jx (pre ++ [x]) W')) →
    J [] W →
    CallsIn F n P gf (#[.func (.yield l) #[] #[]] ++ lb) W fun e W' => (∃ v, e = .returned v) ∧ ((∃ xs, S xs ∧ J xs W') ∨ (∃ pre, Sp pre ∧ Jx pre W'))

theorem range_up {α : Type} {F : Fence} {n : Nat} {g : Operand} {ps : Array Tmp} {assign body : Code} {Q : Exit → Act → World → Prop} {a : Act} {w : World}
    (hro : F.round = none) (h1 : 1 ≤ n) {gf : Nat} {lb : Array Value} (hg : a.eval g = .func (.func gf) #[] lb) (hFg : F.fn gf) (eg : ∀ args w, (callFunc gf args).run P w = .ok (.enter gf args) w)
    {encs : α → Array Value} {X : Nat → Prop} {S Sp : List α → Prop} {w0 : World} (hseq : IterUp F (n - 1) P gf lb encs X S Sp w0)
    (hb0 : Below w0.heap.size w0 w) (hps : ∀ x, (encs x).size = ps.size)
    (I : List α → World → Prop) (Ix : Code → List α → World → Prop) (hI : UpTurns I) (hIx : ∀ c, UpTurns (Ix c)) (hIp : ∀ s W l o o', I s W → w.heap.size ≤ l → W.heap[l]? = some o → o.isCells = false → I s (W.putObj l o')) (hIxp : ∀ c s W l o o', Ix c s W → w.heap.size ≤ l → W.heap[l]? = some o → o.isCells = false → Ix c s (W.putObj l o')) (h0 : I [] w) (Ia : List α → α → Act → World → Prop)
    (hIa : ∀ pre x a' W l o o', Ia pre x a' W → w.heap.size ≤ l → W.heap[l]? = some o → o.isCells = false → Ia pre x a' (W.putObj l o'))
    (hassign : ∀ (l : Nat) (pre : List α) (x : α) (W : World) (K : Act → World → Prop), Sp (pre ++ [x]) → I pre W → w.heap.size ≤ W.heap.size → (∀ a' W', KeepsOthers W W' → CellsKept X W W' → Ia pre x a' W' → K a' W') →
      assign.wpIn (F.inRound l) (n - 1 - 1) P (Exit.then K (fun _ _ _ => False)) { tmps := (ps.zip (encs x)).foldl (fun t (p, v) => t.setIfInBounds p v) a.tmps, defers := [] } W)
    (hbody : ∀ (l : Nat) (pre : List α) (x : α) (a' : Act) (W : World), Sp (pre ++ [x]) → Ia pre x a' W → w.heap.size ≤ W.heap.size → body.wpIn (F.inRound l) (n - 1 - 1) P (ownPostK (CellsKept X) I Ix (pre ++ [x]) W) a' W)
    (hdone : ∀ (D : Nat) (xs : List α) (W : World), w.heap.size ≤ D → S xs → I xs W → W.heap[D]? = some (.deferred (some [])) → Q .normal { a with defers := { target := .collected D, args := #[] } :: a.defers } W)
    (hstop : ∀ (D : Nat) (c : Code) (pre : List α) (W : World), w.heap.size ≤ D → Sp pre → Ix c pre W → W.heap[D]? = some (.deferred (some [])) → c.wpIn F n P Q { a with defers := { target := .collected D, args := #[] } :: a.defers } W) :
    (Code.rangeFunc g ps assign body).wpIn F n P Q a w := by
  refine wpIn_rangeFunc fun fn hfn => ?_
  rw [hro]
  let rec_ : LoopState → Option Code → Loop := fun st pe => { state := st, pending := pe, fn, tmps := a.tmps, params := ps, assign, body, defers := w.heap.size }
  let D := w.heap.size
  let L := w.heap.size + 1
  let Wb := (w.alloc (.deferred (some []))).alloc (.loop (rec_ .ready none))
  have hLD : D ≠ L := by show w.heap.size ≠ w.heap.size + 1; omega
  have hD1 : Wb.heap[D]? = some (.deferred (some [])) := (Below.heap_alloc _ _ _ (by show w.heap.size < _; simp)).trans (World.alloc_heap_new w _)
  have hL1 : Wb.heap[L]? = some (.loop (rec_ .ready none)) := by
    have h := World.alloc_heap_new (w.alloc (.deferred (some []))) (.loop (rec_ .ready none))
    rwa [World.size_alloc] at h
  refine ⟨L, [{ target := .collected D, args := #[] }], Wb, { target := .fn (.func gf) lb, args := #[.func (.yield L) #[] #[]] }, Wb, gf, #[.func (.yield L) #[] #[]] ++ lb, Wb,
    run_enterLoop_outer _ _ _ _ _, by (simp only [resolve, rangeCall, hg]; simp [go_sem]), ?_, by simp [invoke, go_sem, eg], fun _ => h1, ?_⟩
  · intro f' hf'
    simp [Target.leads] at hf'
    subst hf'; exact hFg
  have keepR : ∀ {A B : World} {k : Nat} {o : Obj}, Below A.heap.size A B → A.heap[k]? = some o → B.heap[k]? = some o := fun hb hk => (hb.block _ (Array.getElem?_eq_some_iff.1 hk).1).trans hk
  have hsz : Wb.heap.size = w.heap.size + 2 := by show ((w.alloc _).alloc _).heap.size = _; simp
  refine (hseq L (fun pre W => I pre W ∧ w.heap.size ≤ W.heap.size ∧ W.heap[L]? = some (.loop (rec_ .ready none)) ∧ W.heap[D]? = some (.deferred (some [])))
    (fun pre W => ∃ c, Ix c pre W ∧ W.heap[L]? = some (.loop (rec_ .done (some c))) ∧ W.heap[D]? = some (.deferred (some []))) Wb
    (hb0.trans (Below.mono (((Below.refl w.heap.size w).alloc (Nat.le_refl _) _).alloc (by simp) _) hb0.size)) ?_ ?_ ?_ ⟨hI _ _ _ (hI _ _ _ h0 ((Below.refl _ _).alloc (Nat.le_refl _) _)) ((Below.refl _ _).alloc (Nat.le_refl _) _), by omega, hL1, hD1⟩).mono ?_
  · rintro s A B ⟨hi, hs, hl, hd⟩ hgr
    exact ⟨hI s A B hi hgr, Nat.le_trans hs hgr.size, keepR hgr hl, keepR hgr hd⟩
  · rintro s A B ⟨c, hi, hl, hd⟩ hgr
    exact ⟨c, hIx c s A B hi hgr, keepR hgr hl, keepR hgr hd⟩
  · rintro pre x W0 ⟨hi0, hs0, hl0, hd0⟩ hsp
    have hy := run_yield (P := P) (args := encs x) hl0 (hps x)
    refine ⟨fn, _, assign, body, hy, roundIn_of_wpIn hfn (hassign _ pre x W0 _ hsp hi0 hs0 fun a' W hka hca hia => ?_)⟩
    have hl := hka.same _ _ hl0 rfl
    have hd := hka.same _ _ hd0 rfl
    refine ⟨_, run_beginRound hl rfl, ?_⟩
    have hlt : L < W.heap.size := (Array.getElem?_eq_some_iff.1 hl).1
    let W2 := W.putObj L (.loop (rec_ .busy none))
    have hl2 : W2.heap[L]? = some (.loop (rec_ .busy none)) := World.putObj_heap_same hlt
    have hd2 : W2.heap[D]? = some (.deferred (some [])) := (World.putObj_heap_other hLD).trans hd
    refine wpIn_mono (hbody _ pre x a' W2 hsp (hIa pre x a' W L _ _ hia (by show w.heap.size ≤ w.heap.size + 1; omega) hl rfl) (by show _ ≤ (W.putObj L _).heap.size; simp; exact Nat.le_trans hs0 hka.size)) ?_
    have fin : ∀ (jump : Option Code) (W3 : World), KeepsOthers W2 W3 → (Instr.endRound L jump).run P W3 = .ok (.bool jump.isNone) (W3.putObj L (.loop (rec_ (if jump.isNone then .ready else .done) jump))) ∧
        W3.heap[L]? = some (.loop (rec_ .busy none)) ∧ (W3.putObj L (.loop (rec_ (if jump.isNone then .ready else .done) jump))).heap[L]? = some (.loop (rec_ (if jump.isNone then .ready else .done) jump)) ∧
        (W3.putObj L (.loop (rec_ (if jump.isNone then .ready else .done) jump))).heap[D]? = some (.deferred (some [])) ∧ w.heap.size ≤ (W3.putObj L (.loop (rec_ (if jump.isNone then .ready else .done) jump))).heap.size := by
      intro jump W3 hk
      have hl3 := hk.same _ _ hl2 rfl
      have hlt3 := (Array.getElem?_eq_some_iff.1 hl3).1
      exact ⟨run_endRound (P := P) jump hl3, hl3, World.putObj_heap_same hlt3, (World.putObj_heap_other hLD).trans (hk.same _ _ hd2 rfl), by simp; have : L = w.heap.size + 1 := rfl; omega⟩
    have hLw : w.heap.size ≤ L := by show w.heap.size ≤ w.heap.size + 1; omega
    rintro e a3 W3 hp
    cases e with
    | normal =>
      obtain ⟨hk, hkp, hi3⟩ := hp
      obtain ⟨hr, hl3, hl4, hd4, hs4⟩ := fin none W3 hk
      exact ⟨_, _, hr, .inl ⟨rfl, ⟨hIp _ _ _ _ _ hi3 hLw hl3 rfl, hs4, hl4, hd4⟩, (((hca.trans (CellsKept.put _ hl rfl))).trans hkp).trans (CellsKept.put _ hl3 rfl)⟩⟩
    | ret =>
      obtain ⟨hk, hi3⟩ := hp
      obtain ⟨hr, hl3, hl4, hd4, -⟩ := fin (some .ret) W3 hk
      exact ⟨_, _, hr, .inr ⟨rfl, .ret, hIxp _ _ _ _ _ _ hi3 hLw hl3 rfl, hl4, hd4⟩⟩
    | exit id =>
      obtain ⟨hk, hi3⟩ := hp
      obtain ⟨hr, hl3, hl4, hd4, -⟩ := fin (some (.exit id)) W3 hk
      exact ⟨_, _, hr, .inr ⟨rfl, .exit id, hIxp _ _ _ _ _ _ hi3 hLw hl3 rfl, hl4, hd4⟩⟩
    | goto t =>
      obtain ⟨hk, hi3⟩ := hp
      obtain ⟨hr, hl3, hl4, hd4, -⟩ := fin (some (.goto t)) W3 hk
      exact ⟨_, _, hr, .inr ⟨rfl, .goto t, hIxp _ _ _ _ _ _ hi3 hLw hl3 rfl, hl4, hd4⟩⟩
    | panic ch => exact hp.elim
    | outgrown => exact hp.elim
  · have hLw : w.heap.size ≤ L := by show w.heap.size ≤ w.heap.size + 1; omega
    rintro e W2 ⟨⟨v, rfl⟩, (⟨xs, hS, hi, hs, hl, hd⟩ | ⟨pre, hSp, c, hi, hl, hd⟩)⟩
    · exact ⟨none, _, run_endLoop (P := P) hl (by simp [rec_]), hdone D xs _ (Nat.le_refl _) hS (hIp _ _ _ _ _ hi hLw hl rfl) ((World.putObj_heap_other hLD).trans hd)⟩
    · exact ⟨some c, _, run_endLoop (P := P) hl (by simp [rec_]), hstop D c pre _ (Nat.le_refl _) hSp (hIxp _ _ _ _ _ _ hi hLw hl rfl) ((World.putObj_heap_other hLD).trans hd)⟩
end
set_option maxRecDepth 100000 in
set_option maxHeartbeats 2000000 in
theorem isup_any (n : Nat) (hn : 3 ≤ n) (dB nB : Nat) (A : Option Addr) (c b off : Nat) (vN vD : Value) (xs : List Iss) (vi vd : Nat → Value) (t : Int) (X : Nat → Prop) (w : World) (hl : xs.length ≤ 1000) (hs : xs.Pairwise (fun x y => x.d ≤ y.d))
    (hd : Lies w dB 118 #[.slice A xs.length c, vN, vD]) (ht : Lies w nB 3 #[.int .i64 t]) (hA : 0 < xs.length → A = some ⟨b, off, none⟩) (hc : IssRow w b off xs vi vd)
    (hXd : ¬ X dB) (hXt : ¬ X nB) (hXb : 0 < xs.length → ¬ X b) :
    IterUp Fence.wide n Try.prog 111 #[.pointer (some ⟨dB, 0, none⟩), .pointer (some ⟨nB, 0, none⟩)] (encF xs vi vd) X (fun ks => ks = idxs xs t) (fun pre => pre <+: idxs xs t) w := by
  intro l J Jx W0 hb0 hJ hJx hY h0
  have hd' := hd.after hb0
  have ht' := ht.after hb0
  have HBS := Lib.hid (bsf_any A c b off xs vi vd t W0 hs hA hl (hc.after hb0))
  have HSrt := Lib.hid hs
  have p0 := hd'.cell 0
  have q0 := ht'.cell 0
  have z1 := hd'.lt
  have z2 := ht'.lt
  have HC := Lib.hid hc
  have HA := Lib.hid hA
  have HXb := Lib.hid hXb
  have HY := Lib.hid hY
  have HJ := Lib.hid hJ
  have H0 := Lib.hid h0
  have HD := Lib.hid hd
  have HT := Lib.hid ht
  have zb := hb0.size
  have HK0 : Hid (CellsKept X w W0) := Lib.hid (CellsKept.of_below hb0)
  clear hd ht hc hA hY hJ hJx h0 hd' ht' hs hXb
  refine callsIn_of_wp Try.func111 rfl trivial ?_ rfl
  simp only [Try.ntmps111, List.size_toArray, List.length_cons, List.length_nil, Nat.reduceAdd, Nat.reduceSub, Array.replicate_succ, Array.replicate_zero, List.push_toArray, List.append_toArray, List.nil_append, List.cons_append]
  gi_wp2_with fail
  refine ⟨trivial, (fun h => (by cases h)), ?_⟩
  refine (callsIn_wide.2 HBS.out).mono ?_
  rintro e w1 ⟨r, f, hr, hlo, hhi, rfl, hb1⟩
  have HHI := Lib.hid hhi
  have HLO := Lib.hid (restI_start hlo)
  have HK1 := Lib.hid (HK0.out.after hb1)
  have HJ1 := Lib.hid (HJ.out _ _ _ H0.out hb1)
  clear hlo hhi hb1 p0 q0 HBS HK0
  gi_wp2_with fail
  gi_loopw [4] (fun i wr => ∃ (k : Nat) (pre : List (Fin xs.length)), r ≤ k ∧ k ≤ xs.length ∧ i = .int .i64 k ∧ Hid (pre ++ restI xs t k = idxs xs t) ∧ Hid (J pre wr) ∧ Hid (CellsKept X w wr)) (fun i _ => xs.length - (intOf i).toNat)
  case atStart => exact ⟨r, [], by omega, hr, rfl, Lib.hid HLO.out, HJ1, HK1⟩
  case round =>
    obtain ⟨k, pre, hrk, hk, rfl, hrun, hJp, hCK⟩ := hrel
    have hdw := hCK.out.lies hXd HD.out
    have htw := hCK.out.lies hXt HT.out
    have p0 := hdw.cell 0
    have q0 := htw.cell 0
    have z3 := hdw.lt
    have z4 := htw.lt
    clear hdw htw
    by_cases hlt : k < xs.length
    · obtain rfl := HA.out (by omega)
      obtain ⟨y0, y1, y2, y3, y4, -, -, -⟩ := HC.out k hlt
      have hXb := HXb.out (by omega)
      have r0 := hCK.out.cell hXb y0
      have r1 := hCK.out.cell hXb y1
      have r2 := hCK.out.cell hXb y2
      have r3 := hCK.out.cell hXb y3
      have r4 := hCK.out.cell hXb y4
      clear y0 y1 y2 y3 y4
      have kl1 : (k : Int) < (xs.length : Int) := by omega
      by_cases hdt : xs[k].d = t
      · have HR := Lib.hid (restI_step hlt hdt)
        have hde : (xs[k].d == t) = true := by simpa using hdt
        clear hdt
        gi_wp2_with fail
        gi_quiet (fail)
        have HJ2 := Lib.hid (HJ.out _ _ _ hJp.out (below_drewN (Below.refl _ wr) nq))
        have HK2 := Lib.hid (hCK.out.after (below_drewN (Below.refl _ wr) nq))
        obtain ⟨fn, tmps, assign, body, hy0, hR⟩ := HY.out pre ⟨k, hlt⟩ _ HJ2.out ⟨restI xs t (k + 1), by rw [List.append_assoc, List.singleton_append, ← HR.out]; exact hrun.out⟩
        have hy : (Instr.yield l #[.agg #[.int .i64 (xs[k].d), .int .i64 (xs[k].l), .int .u8 (xs[k].k), vi k, vd k]]).run Try.prog _ = _ := hy0
        have HRR := Lib.hid hR
        clear hy0 hR
        gi_wp2_with fail
        refine ⟨(fun h => (by cases h)), HRR.out.mono ?_⟩
        rintro e W3 (⟨rfl, hJ4, hk4⟩ | ⟨rfl, hJx4⟩)
        · have HK4 := Lib.hid (HK2.out.trans hk4)
          have HJ4 := Lib.hid hJ4
          clear hk4 hJ4
          gi_wp2
          go_roundw
          case rel => exact ⟨k + 1, pre ++ [⟨k, hlt⟩], by omega, by omega, by go_num, Lib.hid (by rw [List.append_assoc, List.singleton_append, ← HR.out]; exact hrun.out), HJ4, HK4⟩
          case measure => simp [intOf]; omega
        · gi_wp2
          refine bodyPost_ret (results_none rfl _ _ _) rfl ?_
          exact ⟨⟨_, rfl⟩, .inr ⟨_, ⟨restI xs t (k + 1), by rw [List.append_assoc, List.singleton_append, ← HR.out]; exact hrun.out⟩, hJx4⟩⟩
      · have hde : (xs[k].d == t) = false := by simpa using hdt
        have HE := Lib.hid (restI_end (xs := xs) (t := t) (k := k) (fun i h hi => by
          have h1 := HHI.out k hlt hrk
          by_cases e : i = k
          · subst e; exact hdt
          · have := List.pairwise_iff_getElem.1 HSrt.out k i hlt h (by omega)
            omega))
        clear hdt
        gi_wp2_with fail
        gi_quiet (fail)
        gi_wp2
        go_end0
        refine ⟨⟨_, rfl⟩, .inl ⟨pre, ?_, HJ.out _ _ _ hJp.out (below_drewN (Below.refl _ wr) _)⟩⟩
        have := hrun.out
        rw [HE.out, List.append_nil] at this
        exact this
    · have kl1 : ¬ (k : Int) < (xs.length : Int) := by omega
      have kl2 : decide ((k : Int) < (xs.length : Int)) = false := by simpa using kl1
      have kl3 : decide (k < xs.length) = false := by simpa using hlt
      have HE := Lib.hid (restI_end (xs := xs) (t := t) (k := k) (fun i h hi => by omega))
      gi_wp2_with fail
      gi_quiet (fail)
      gi_wp2
      go_end0
      refine ⟨⟨_, rfl⟩, .inl ⟨pre, ?_, HJ.out _ _ _ hJp.out (below_drewN (Below.refl _ wr) _)⟩⟩
      have := hrun.out
      rw [HE.out, List.append_nil] at this
      exact this
end Go.Proofs.Ytkjfceajakhlfaa
