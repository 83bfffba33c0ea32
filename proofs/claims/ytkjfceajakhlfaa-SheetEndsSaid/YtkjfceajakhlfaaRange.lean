/- A range over an iterator that keeps cells of its own: the caller's law. -/
import Derived.Test.YtkjfceajakhlfaaBase
import Derived.RangeFuncNested
import Derived.RangeFuncBound
import Derived.RangeFuncCalls
import Derived.RangeFuncLeaves
import Derived.RangeFuncKeeps
namespace Go.Proofs.Ytkjfceajakhlfaa
set_option linter.unusedVariables false
set_option linter.unusedSimpArgs false
open Go.RowKit
variable {P : Program}

/-- J abides what an iterator may do to memory of its own: new blocks, and stores into blocks of cells from base on. -/
def OwnTurns {β : Type} (base : Nat) (J : β → World → Prop) : Prop :=
  ∀ s A B row, J s A → A.grownBy B row → (∀ r, row = some r → base ≤ r ∧ ∃ cs t fr, A.heap[r]? = some (.cells cs t fr)) → J s B
/-- I abides a turn of whatever block lies from base on. -/
def AnyTurns {β : Type} (base : Nat) (I : β → World → Prop) : Prop :=
  ∀ s A B row, I s A → A.grownBy B row → (∀ r, row = some r → base ≤ r) → I s B
theorem grown_put {W : World} {l : Nat} (o : Obj) : W.grownBy (W.putObj l o) (some l) :=
  ⟨rfl, rfl, rfl, by simp, fun i _ hi => World.putObj_heap_other (fun e => hi (by rw [e]))⟩
theorem AnyTurns.put {β : Type} {base : Nat} {I : β → World → Prop} (h : AnyTurns base I) {s : β} {W : World} (hs : I s W) {l : Nat} (hl : base ≤ l) (o : Obj) : I s (W.putObj l o) :=
  h s W _ _ hs (grown_put o) (fun r e => by injection e with e; omega)
theorem AnyTurns.fresh {β : Type} {base : Nat} {I : β → World → Prop} (h : AnyTurns base I) {s : β} {W : World} (hs : I s W) (o : Obj) : I s (W.alloc o) :=
  h s W _ none hs (World.grownBy_alloc W o none) (fun r e => by cases e)

/-- What a round keeps: each block of cells, but those of X. -/
def CellsKept (X : Nat → Prop) (A B : World) : Prop := A.heap.size ≤ B.heap.size ∧ ∀ g cs t fr, ¬ X g → A.heap[g]? = some (.cells cs t fr) → B.heap[g]? = some (.cells cs t fr)
theorem CellsKept.trans {X : Nat → Prop} {A B C : World} (h : CellsKept X A B) (k : CellsKept X B C) : CellsKept X A C :=
  ⟨Nat.le_trans h.1 k.1, fun g cs t fr hx e => k.2 g cs t fr hx (h.2 g cs t fr hx e)⟩
theorem CellsKept.put {X : Nat → Prop} {W : World} {l : Nat} {o : Obj} (o' : Obj) (h : W.heap[l]? = some o) (ho : o.isCells = false) : CellsKept X W (W.putObj l o') :=
  ⟨by simp, fun g cs t fr _ e => by
    by_cases hg : g = l
    · subst hg; rw [h] at e; cases e; cases ho
    · rw [World.putObj_heap_other hg]; exact e⟩
theorem CellsKept.lies {X : Nat → Prop} {A B : World} (h : CellsKept X A B) {g : Nat} {t : TypeId} {cs : Array Value} (hx : ¬ X g) (hl : Lies A g t cs) : Lies B g t cs := h.2 g cs t (0, 0) hx hl

/-- The contract of an iterator that keeps cells of its own. -/
def IterOwn {α : Type} (F : Fence) (n : Nat) (P : Program) (gf : Nat) (lb : Array Value) (encs : α → Array Value) (X : Nat → Prop) (S Sp : List α → Prop) (w : World) : Prop :=
  ∀ (l : Nat) (J Jx : List α → World → Prop) (W : World), Below w.heap.size w W → OwnTurns W.heap.size J → OwnTurns W.heap.size Jx →
    (∀ pre x W1, J pre W1 → YieldAt F (n - 1) P l (encs x) W1 fun e W' =>
      (e = .returned (.bool true) ∧ J (pre ++ [x]) W' ∧ CellsKept X W1 W') ∨ (e = .returned (.bool false) ∧ Jx (pre ++ [x]) W')) →
    J [] W →
    CallsIn F n P gf (#[.func (.yield l) #[] #[]] ++ lb) W fun e W' => (∃ v, e = .returned v) ∧ ((∃ xs, S xs ∧ J xs W') ∨ (∃ pre, Sp pre ∧ Jx pre W'))

theorem range_own {α : Type} {F : Fence} {n : Nat} {g : Operand} {ps : Array Tmp} {assign body : Code} {Q : Exit → Act → World → Prop} {a : Act} {w : World}
    (hro : F.round = none) (h1 : 1 ≤ n) {gf : Nat} {lb : Array Value} (hg : a.eval g = .func (.func gf) #[] lb) (hFg : F.fn gf) (eg : ∀ args w, (callFunc gf args).run P w = .ok (.enter gf args) w)
    {encs : α → Array Value} {X : Nat → Prop} {S Sp : List α → Prop} {w0 : World} (hseq : IterOwn F (n - 1) P gf lb encs X S Sp w0)
    (hb0 : Below w0.heap.size w0 w) (hps : ∀ x, (encs x).size = ps.size)
    (I : List α → World → Prop) (Ix : Code → List α → World → Prop) (hI : AnyTurns w.heap.size I) (hIx : ∀ c, AnyTurns w.heap.size (Ix c)) (h0 : I [] w) (Ia : List α → α → Act → World → Prop)
    (hIa : ∀ pre x a' W l o o', Ia pre x a' W → w.heap.size ≤ l → W.heap[l]? = some o → o.isCells = false → Ia pre x a' (W.putObj l o'))
    (hassign : ∀ (l : Nat) (pre : List α) (x : α) (W : World) (K : Act → World → Prop), I pre W → w.heap.size ≤ W.heap.size → (∀ a' W', KeepsOthers W W' → CellsKept X W W' → Ia pre x a' W' → K a' W') →
      assign.wpIn (F.inRound l) (n - 1 - 1) P (Exit.then K (fun _ _ _ => False)) { tmps := (ps.zip (encs x)).foldl (fun t (p, v) => t.setIfInBounds p v) a.tmps, defers := [] } W)
    (hbody : ∀ (l : Nat) (pre : List α) (x : α) (a' : Act) (W : World), Ia pre x a' W → w.heap.size ≤ W.heap.size → body.wpIn (F.inRound l) (n - 1 - 1) P (ownPostK (CellsKept X) I Ix (pre ++ [x]) W) a' W)
    (hdone : ∀ (D : Nat) (xs : List α) (W : World), w.heap.size ≤ D → S xs → I xs W → W.heap[D]? = some (.deferred (some [])) → Q .normal { a with defers := { target := .collected D, args := #[] } :: a.defers } W)
    (hstop : ∀ (D : Nat) (c : Code) (pre : List α) (W : World), w.heap.size ≤ D → Sp pre → Ix c pre W → W.heap[D]? = some (.deferred (some [])) → c.wpIn F n P Q { a with defers := { target := .collected D, args := #[] } :: a.defers } W) :
    (Code.rangeFunc g ps assign body).wpIn F n P Q a w := by
  refine wpIn_rangeFunc fun fn hfn => ?_
  rw [hro]
  let rec_ : LoopState → Option Code → Loop := fun st pe => { state := st, pending := pe, fn, tmps := a.tmps, params := ps, assign, body, defers := w.heap.size }
  let D := w.heap.size
  let L := w.heap.size + 1
  let Wb := (w.alloc (.deferred (some []))).alloc (.loop (rec_ .ready none))
  have hLD : D ≠ L := by show w.heap.size ≠ w.heap.size + 1; omega
  have hD1 : Wb.heap[D]? = some (.deferred (some [])) := (Below.heap_alloc _ _ _ (by show w.heap.size < _; simp)).trans (World.alloc_heap_new w _)
  have hL1 : Wb.heap[L]? = some (.loop (rec_ .ready none)) := by
    have h := World.alloc_heap_new (w.alloc (.deferred (some []))) (.loop (rec_ .ready none))
    rwa [World.size_alloc] at h
  refine ⟨L, [{ target := .collected D, args := #[] }], Wb, { target := .fn (.func gf) lb, args := #[.func (.yield L) #[] #[]] }, Wb, gf, #[.func (.yield L) #[] #[]] ++ lb, Wb,
    run_enterLoop_outer _ _ _ _ _, by (simp only [resolve, rangeCall, hg]; simp [go_sem]), ?_, by simp [invoke, go_sem, eg], fun _ => h1, ?_⟩
  · intro f' hf'
    simp [Target.leads] at hf'
    subst hf'; exact hFg
  -- what lies at the loop's own two blocks is no cells
  have keepR : ∀ {A B : World} {row : Option Nat} {k : Nat} {o : Obj}, A.grownBy B row → (∀ r, row = some r → Wb.heap.size ≤ r ∧ ∃ cs t fr, A.heap[r]? = some (.cells cs t fr)) → A.heap[k]? = some o → o.isCells = false → B.heap[k]? = some o := by
    intro A B row k o hgr hr hk ho
    refine (hgr.block k (Array.getElem?_eq_some_iff.1 hk).1 ?_).trans hk
    intro e
    obtain ⟨_, cs, t, fr, hc⟩ := hr k e.symm
    rw [hk] at hc
    cases hc
    cases ho
  have hsz : Wb.heap.size = w.heap.size + 2 := by show ((w.alloc _).alloc _).heap.size = _; simp
  refine (hseq L (fun pre W => I pre W ∧ w.heap.size ≤ W.heap.size ∧ W.heap[L]? = some (.loop (rec_ .ready none)) ∧ W.heap[D]? = some (.deferred (some [])))
    (fun pre W => ∃ c, Ix c pre W ∧ W.heap[L]? = some (.loop (rec_ .done (some c))) ∧ W.heap[D]? = some (.deferred (some []))) Wb
    (hb0.trans (Below.mono (((Below.refl w.heap.size w).alloc (Nat.le_refl _) _).alloc (by simp) _) hb0.size)) ?_ ?_ ?_ ⟨hI.fresh (hI.fresh h0 _) _, by omega, hL1, hD1⟩).mono ?_
  · rintro s A B row ⟨hi, hs, hl, hd⟩ hgr hr
    exact ⟨hI s A B row hi hgr (fun r e => by have := (hr r e).1; omega), Nat.le_trans hs hgr.size, keepR hgr hr hl rfl, keepR hgr hr hd rfl⟩
  · rintro s A B row ⟨c, hi, hl, hd⟩ hgr hr
    exact ⟨c, hIx c s A B row hi hgr (fun r e => by have := (hr r e).1; omega), keepR hgr hr hl rfl, keepR hgr hr hd rfl⟩
  · rintro pre x W0 ⟨hi0, hs0, hl0, hd0⟩
    have hy := run_yield (P := P) (args := encs x) hl0 (hps x)
    refine ⟨fn, _, assign, body, hy, roundIn_of_wpIn hfn (hassign _ pre x W0 _ hi0 hs0 fun a' W hka hca hia => ?_)⟩
    have hl := hka.same _ _ hl0 rfl
    have hd := hka.same _ _ hd0 rfl
    refine ⟨_, run_beginRound hl rfl, ?_⟩
    have hlt : L < W.heap.size := (Array.getElem?_eq_some_iff.1 hl).1
    let W2 := W.putObj L (.loop (rec_ .busy none))
    have hl2 : W2.heap[L]? = some (.loop (rec_ .busy none)) := World.putObj_heap_same hlt
    have hd2 : W2.heap[D]? = some (.deferred (some [])) := (World.putObj_heap_other hLD).trans hd
    refine wpIn_mono (hbody _ pre x a' W2 (hIa pre x a' W L _ _ hia (by show w.heap.size ≤ w.heap.size + 1; omega) hl rfl) (by show _ ≤ (W.putObj L _).heap.size; simp; exact Nat.le_trans hs0 hka.size)) ?_
    have fin : ∀ (jump : Option Code) (W3 : World), KeepsOthers W2 W3 → (Instr.endRound L jump).run P W3 = .ok (.bool jump.isNone) (W3.putObj L (.loop (rec_ (if jump.isNone then .ready else .done) jump))) ∧
        W3.heap[L]? = some (.loop (rec_ .busy none)) ∧ (W3.putObj L (.loop (rec_ (if jump.isNone then .ready else .done) jump))).heap[L]? = some (.loop (rec_ (if jump.isNone then .ready else .done) jump)) ∧
        (W3.putObj L (.loop (rec_ (if jump.isNone then .ready else .done) jump))).heap[D]? = some (.deferred (some [])) ∧ w.heap.size ≤ (W3.putObj L (.loop (rec_ (if jump.isNone then .ready else .done) jump))).heap.size := by
      intro jump W3 hk
      have hl3 := hk.same _ _ hl2 rfl
      have hlt3 := (Array.getElem?_eq_some_iff.1 hl3).1
      exact ⟨run_endRound (P := P) jump hl3, hl3, World.putObj_heap_same hlt3, (World.putObj_heap_other hLD).trans (hk.same _ _ hd2 rfl), by simp; have : L = w.heap.size + 1 := rfl; omega⟩
    have hLw : w.heap.size ≤ L := by show w.heap.size ≤ w.heap.size + 1; omega
    rintro e a3 W3 hp
    cases e with
    | normal =>
      obtain ⟨hk, hkp, hi3⟩ := hp
      obtain ⟨hr, hl3, hl4, hd4, hs4⟩ := fin none W3 hk
      exact ⟨_, _, hr, .inl ⟨rfl, ⟨hI.put hi3 hLw _, hs4, hl4, hd4⟩, (((hca.trans (CellsKept.put _ hl rfl))).trans hkp).trans (CellsKept.put _ hl3 rfl)⟩⟩
    | ret =>
      obtain ⟨hk, hi3⟩ := hp
      obtain ⟨hr, hl3, hl4, hd4, -⟩ := fin (some .ret) W3 hk
      exact ⟨_, _, hr, .inr ⟨rfl, .ret, (hIx _).put hi3 hLw _, hl4, hd4⟩⟩
    | exit id =>
      obtain ⟨hk, hi3⟩ := hp
      obtain ⟨hr, hl3, hl4, hd4, -⟩ := fin (some (.exit id)) W3 hk
      exact ⟨_, _, hr, .inr ⟨rfl, .exit id, (hIx _).put hi3 hLw _, hl4, hd4⟩⟩
    | goto t =>
      obtain ⟨hk, hi3⟩ := hp
      obtain ⟨hr, hl3, hl4, hd4, -⟩ := fin (some (.goto t)) W3 hk
      exact ⟨_, _, hr, .inr ⟨rfl, .goto t, (hIx _).put hi3 hLw _, hl4, hd4⟩⟩
    | panic ch => exact hp.elim
    | outgrown => exact hp.elim
  · have hLw : w.heap.size ≤ L := by show w.heap.size ≤ w.heap.size + 1; omega
    rintro e W2 ⟨⟨v, rfl⟩, (⟨xs, hS, hi, hs, hl, hd⟩ | ⟨pre, hSp, c, hi, hl, hd⟩)⟩
    · exact ⟨none, _, run_endLoop (P := P) hl (by simp [rec_]), hdone D xs _ (Nat.le_refl _) hS (hI.put hi hLw _) ((World.putObj_heap_other hLD).trans hd)⟩
    · exact ⟨some c, _, run_endLoop (P := P) hl (by simp [rec_]), hstop D c pre _ (Nat.le_refl _) hSp ((hIx c).put hi hLw _) ((World.putObj_heap_other hLD).trans hd)⟩
end Go.Proofs.Ytkjfceajakhlfaa
