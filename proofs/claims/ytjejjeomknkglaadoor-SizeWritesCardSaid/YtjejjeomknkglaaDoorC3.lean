/- A size drawn again, once or more often: Redraw, Convert, Lost. -/
import Derived.Test.YtjejjeomknkglaaDoorC2
namespace Go.Proofs.YtjejjeomknkglaaDoor
set_option linter.unusedVariables false
set_option linter.unusedSimpArgs false
open Go.RowKit Go.Shelf
attribute [local go_sem] Oper.semAt_some

set_option maxHeartbeats 400000 in
theorem redrawing_any (n l u : Int) (A : Option Addr) (k c : Nat) (w : World) :
    Calls Tryd.prog 54 #[.agg #[.int .i64 n, .int .i64 l, .int .i64 u], .slice A k c] w fun e w' => e = .returned (.func (.func 64) #[] #[.pointer (some ⟨w.heap.size, 0, none⟩), .pointer (some ⟨w.heap.size + 1, 0, none⟩)]) ∧ (w.alloc (.cells #[.int .i64 n, .int .i64 l, .int .i64 u] 23)).alloc (.cells #[.slice A k c] 89) = w' := by
  have hmf : ∀ (fn : Fn) (first cap : Array Value) (w : World), (Instr.makeFunc fn first cap).run Tryd.prog w = .ok (.func fn first cap) w := fun _ _ _ _ => rfl
  go_enter Tryd.func54, Tryd.ntmps54
  go_wp2
  go_ret
  exact ⟨rfl, rfl⟩

/-- What is left of a size that is drawn again in some units, one after the other; none where a step has no sizes. -/
def foldD : List Int → D3 → Option D3
  | [], d => some d
  | u :: us, d => if (stepD u d).2.2 < (stepD u d).2.1 then none else foldD us (stepD u d)
/-- The last size, of those that came. -/
def lastD (d0 : D3) (pre : List D3) : D3 := pre.getLast?.getD d0
theorem lastD_snoc (d0 x : D3) (pre : List D3) : lastD d0 (pre ++ [x]) = x := by simp [lastD]
def goodD (d : D3) : Prop := d.2.1 ≤ d.2.2
def AllGood (pre : List D3) : Prop := ∀ x ∈ pre, goodD x
def SomeBad (pre : List D3) : Prop := ∃ x ∈ pre, ¬ goodD x
theorem fold_all : ∀ (us : List Int) (d : D3), AllGood (runD us d) → foldD us d = some (lastD d (runD us d))
  | [], d, _ => rfl
  | u :: us, d, h => by
    have h1 : goodD (stepD u d) := h _ (by simp [runD])
    have h2 := fold_all us (stepD u d) (fun x hx => h x (by simp [runD, hx]))
    unfold foldD
    unfold goodD at h1
    rw [if_neg (by omega), h2]
    cases hr : runD us (stepD u d) with
    | nil => simp [lastD, runD, hr]
    | cons y ys =>
      have hs : (stepD u d :: y :: ys).getLast? = (y :: ys).getLast? := List.getLast?_cons_cons
      show some (((y :: ys).getLast?).getD (stepD u d)) = some ((((runD (u :: us) d)).getLast?).getD d)
      rw [show runD (u :: us) d = stepD u d :: y :: ys from by simp [runD, hr], hs]
      cases hq : (y :: ys).getLast? with
      | none => simp at hq
      | some z => rfl
theorem fold_bad : ∀ (us : List Int) (d : D3) (pre : List D3), pre <+: runD us d → SomeBad pre → foldD us d = none
  | [], d, pre, hp, ⟨x, hx, _⟩ => by
    have : pre = [] := by simpa [runD] using hp
    subst this; cases hx
  | u :: us, d, pre, hp, ⟨x, hx, hb⟩ => by
    unfold foldD
    by_cases h1 : (stepD u d).2.2 < (stepD u d).2.1
    · rw [if_pos h1]
    · rw [if_neg h1]
      cases pre with
      | nil => cases hx
      | cons y ys =>
        obtain ⟨t, ht⟩ := hp
        simp only [runD, List.cons_append, List.cons.injEq] at ht
        obtain ⟨rfl, ht⟩ := ht
        rcases List.mem_cons.1 hx with rfl | hx
        · exact absurd hb (by unfold goodD; omega)
        · exact fold_bad us (stepD u d) ys ⟨t, ht⟩ ⟨x, hx, hb⟩

/-- What Redraw returns where the size, their number and the units are right. -/
def Redrawn (us : List Int) (d : D3) (w : World) (e : Ending) (w' : World) : Prop :=
  ((foldD us d = none ∧ e = .returned (.tuple #[.agg #[.int .i64 0, .int .i64 0, .int .i64 0], .int .i64 6])) ∨ (∃ x, foldD us d = some x ∧ e = .returned (.tuple #[.agg #[.int .i64 x.1, .int .i64 x.2.1, .int .i64 x.2.2], .int .i64 0]))) ∧ Below w.heap.size w w'

theorem CellsKept.stored {X : Nat → Prop} {A W : World} (h : CellsKept X A W) {g : Nat} (hx : X g) (i : Nat) (u : Value) : CellsKept X A (W.setCell ⟨g, i, none⟩ u) :=
  ⟨by simp [World.setCell]; exact h.1, fun k cs' t fr hk e => (Below.heap_setCell W ⟨g, i, none⟩ u k (by show k ≠ g; rintro rfl; exact hk hx)).trans (h.2 k cs' t fr hk e)⟩
theorem CellsKept.refl (X : Nat → Prop) (A : World) : CellsKept X A A := ⟨Nat.le_refl _, fun _ _ _ _ _ e => e⟩
theorem Lies.turned {w W : World} {g base : Nat} {t : TypeId} {cs : Array Value} (h : Lies w g t cs) {row : Option Nat} (hg : w.grownBy W row) (hlt : g < base) (hr : ∀ r, row = some r → base ≤ r) : Lies W g t cs :=
  (hg.block g h.lt (fun e => by have := hr g e.symm; omega)).trans h
theorem Lies.put {w : World} {g l : Nat} {t : TypeId} {cs : Array Value} (h : Lies w g t cs) {o : Obj} (o' : Obj) (hl : w.heap[l]? = some o) (ho : o.isCells = false) : Lies (w.putObj l o') g t cs := by
  have hne : g ≠ l := by
    rintro rfl
    have h' := h
    unfold Lies at h'
    rw [hl] at h'; cases h'; cases ho
  exact (World.putObj_heap_other hne).trans h

/-- Two results that both lie in memory. -/
theorem results_two_cells {P : Program} {fn : Func} {p q : Tmp} {ty tq : TypeId} (h : fn.results = #[.cell p ty, .cell q tq]) (tmps : Array Value) (w : World) (g g2 : Nat) (t t2 : TypeId) (cs : Array Value) (v : Value) (d d2 : TypeDesc)
    (hp : tmps.getD p undef = .pointer (some ⟨g, 0, none⟩)) (hq : tmps.getD q undef = .pointer (some ⟨g2, 0, none⟩)) (hg : Lies w g t cs) (hg2 : Lies w g2 t2 #[v])
    (hu : P.underlying ty = some d) (hd : (match d with | .struct _ | .array _ _ => true | _ => false) = true) (hi : (P.info? ty).map (·.size) = some cs.size)
    (hu2 : P.underlying tq = some d2) (hd2 : (match d2 with | .struct _ | .array _ _ => true | _ => false) = false) :
    (results fn tmps).run P w = .ok (.tuple #[.agg cs, v]) w := by
  have hp' : tmps[p]?.getD undef = .pointer (some ⟨g, 0, none⟩) := by simpa using hp
  have hq' : tmps[q]?.getD undef = .pointer (some ⟨g2, 0, none⟩) := by simpa using hq
  have hc : w.cell? ⟨g2, 0, none⟩ = some v := hg2.cell 0
  have e1 := run_loadVar_row (P := P) w g t ty cs (0, 0) d hg hu hd hi
  have e2 : (loadVar tq ⟨g2, 0, none⟩).run P w = .ok v w := by
    have ha : (isAgg tq).run P w = .ok false w := by
      cases d2 <;> first | (cases hd2; done) | simp [isAgg, run_underlying hu2]
    simp [loadVar, ha, go_sem, hc]
  simp [results, h, hp', hq', asAddr, e1, e2]

set_option maxRecDepth 100000 in
set_option maxHeartbeats 4000000 in
theorem Redraw_go (A : Option Addr) (b off : Nat) (us : List Int) (c : Nat) (n l u : Int) (w : World) (hA : 0 < us.length → A = some ⟨b, off, none⟩) (hl : us.length ≤ 20) (hc : cellsU w b off us) (hu : allU us = true) (hd : okD n l u = true) :
    Calls Tryd.prog 31 #[.agg #[.int .i64 n, .int .i64 l, .int .i64 u], .slice A us.length c] w (Redrawn us (n, l, u) w) := by
  obtain ⟨d1, d2, d3, d4, d5⟩ := okD_iff.1 hd
  refine (callsIn_wide (n := 5)).1 ?_
  refine callsIn_of_wp_marks Tryd.func31 rfl trivial ?_ rfl
  simp only [Tryd.ntmps31, List.size_toArray, List.length_cons, List.length_nil, Nat.reduceAdd, Nat.reduceSub, Array.replicate_succ, Array.replicate_zero, List.push_toArray, List.append_toArray, List.nil_append, List.cons_append]
  gi_wp2_with fail
  refine ⟨trivial, (callsIn_wide.2 (Check_ok n l u _ hd)).mono ?_⟩
  rintro e w1 ⟨rfl, hb1⟩
  have s1 := hb1.size; try simp only [World.size_alloc, World.size_setCell, World.size_drew, setRow_size] at s1
  have LD := (((Lies.new (u := w) (t := 23) (cs := #[.int .i64 n, .int .i64 l, .int .i64 u]) rfl).alloc _).alloc _).after hb1
  have L4 := ((Lies.new (t := 23) (cs := #[.int .i64 0, .int .i64 0, .int .i64 0]) rfl).alloc _).after hb1
  have L5 := (Lies.new (t := 24) (cs := #[.int .i64 0]) rfl).after hb1
  simp only [World.size_alloc] at L4 L5
  have hbw1 : Below w.heap.size w w1 := Below.trans (((Below.refl w.heap.size w).alloc (Nat.le_refl _) _).alloc (by simp) _ |>.alloc (by simp; omega) _) (hb1.mono (by simp; omega))
  have HC := Lib.hid (show cellsU w1 b off us from fun i h => cell_later hbw1 (hc i h))
  clear hc
  have hlen : ((us.length : Nat) : Int) ≤ 20 := by omega
  have h20 : decide ((20 : Int) < (us.length : Int)) = false := by simp; omega
  gi_wp2_with fail
  refine ⟨trivial, (callsIn_wide.2 (scalesOf_any A b off us c _ hA (by omega) HC.out)).mono ?_⟩
  rintro e w2 (⟨_, v, bs, rfl, hown, hS, hb2⟩ | ⟨hno, _⟩)
  rotate_left
  · rw [hu] at hno; cases hno
  have s2 := hb2.size; try simp only [World.size_alloc, World.size_setCell, World.size_drew, setRow_size] at s2
  obtain ⟨A2, c2, g2, rfl, -⟩ := own_form hown
  have LD2 := LD.after hb2
  have L42 := Lib.hid (L4.after hb2)
  have L52 := Lib.hid (L5.after hb2)
  have hbw2 := hbw1.trans (hb2.mono (by omega))
  have HO := Lib.hid hown
  have HS := Lib.hid hS
  clear LD L4 L5 hown hS
  obtain ⟨p0, p1, p2, -, -, -⟩ := LD2.c3
  have zd := LD2.lt
  clear LD2
  gi_wp2_with fail
  refine ⟨trivial, (callsIn_wide.2 (redrawing_any n l u _ _ _ _)).mono ?_⟩
  rintro e w3 ⟨rfl, rfl⟩
  gi_wp2_with fail
  obtain ⟨wR, hwR⟩ : ∃ W, ((w2.alloc (.cells #[.int .i64 n, .int .i64 l, .int .i64 u] 23)).alloc (.cells #[.int .i64 n, .int .i64 l, .int .i64 u] 23)).alloc (.cells #[.slice A2 us.length c2] 89) = W := ⟨_, rfl⟩
  have hsR : wR.heap.size = w2.heap.size + 3 := by rw [← hwR]; simp
  have M9 : Lies wR w2.heap.size 23 #[.int .i64 n, .int .i64 l, .int .i64 u] := by rw [← hwR]; exact ((Lies.new rfl).alloc _).alloc _
  have Md : Lies wR (w2.heap.size + 1) 23 #[.int .i64 n, .int .i64 l, .int .i64 u] := by rw [← hwR]; exact (Lies.new (by simp)).alloc _
  have Ml : Lies wR (w2.heap.size + 1 + 1) 89 #[.slice A2 us.length c2] := by rw [← hwR]; exact Lies.new (by simp)
  have M4 : Lies wR (w.heap.size + 1) 23 #[.int .i64 0, .int .i64 0, .int .i64 0] := by rw [← hwR]; exact ((L42.out.alloc _).alloc _).alloc _
  have M5 : Lies wR (w.heap.size + 1 + 1) 24 #[.int .i64 0] := by rw [← hwR]; exact ((L52.out.alloc _).alloc _).alloc _
  have MO : wR.ownsRow w1.heap.size 44 7 (.slice A2 us.length c2) us.length (allCells us bs) := by rw [← hwR]; exact ((HO.out.alloc _).alloc _).alloc _
  have MS : ScL wR w1.heap.size us bs := by rw [← hwR]; exact HS.out.map fun _ _ _ o => ((o.alloc _).alloc _).alloc _
  have hbR : Below w.heap.size w wR := by rw [← hwR]; exact ((hbw2.alloc (by omega) _).alloc (by simp; omega) _).alloc (by simp; omega) _
  rw [hwR]
  clear HC HO HS L42 L52
  let X : Nat → Prop := fun g => g = w2.heap.size ∨ g = w.heap.size + 1 ∨ g = w.heap.size + 1 + 1
  have hX : ∀ g, X g → g < wR.heap.size ∧ ∀ cs t fr, wR.heap[g]? = some (.cells cs t fr) → t = 23 ∨ t = 24 := by
    rintro g (rfl | rfl | rfl)
    · exact ⟨M9.lt, fun cs t fr h => .inl (by have := M9; unfold Lies at this; rw [h] at this; injection this with this; injection this)⟩
    · exact ⟨M4.lt, fun cs t fr h => .inl (by have := M4; unfold Lies at this; rw [h] at this; injection this with this; injection this)⟩
    · exact ⟨M5.lt, fun cs t fr h => .inr (by have := M5; unfold Lies at this; rw [h] at this; injection this with this; injection this)⟩
  have hit := iter_any 4 (by omega) (w2.heap.size + 1) (w2.heap.size + 1 + 1) w1.heap.size _ us bs (n, l, u) X wR (by omega) Md Ml MO MS (by show ¬ (_ ∨ _ ∨ _); omega) (by show ¬ (_ ∨ _ ∨ _); omega) hX d1 d2 d3 (by show l ≤ _; omega) (by show 0 ≤ u; omega) d5
  refine range_own (F := Fence.wide) (X := X) rfl (by omega) (gf := 64) rfl trivial (enters_of Tryd.func64 (by kernel_rfl) rfl) hit (Below.refl _ _) (fun _ => rfl)
    (fun pre W => Lies W w2.heap.size 23 #[.int .i64 ((lastD (n, l, u) pre).1), .int .i64 ((lastD (n, l, u) pre).2.1), .int .i64 ((lastD (n, l, u) pre).2.2)] ∧ Lies W (w.heap.size + 1) 23 #[.int .i64 0, .int .i64 0, .int .i64 0] ∧ Lies W (w.heap.size + 1 + 1) 24 #[.int .i64 0] ∧ AllGood pre ∧ Below w.heap.size w W)
    (fun j pre W => j = Code.ret ∧ Lies W (w.heap.size + 1) 23 #[.int .i64 0, .int .i64 0, .int .i64 0] ∧ Lies W (w.heap.size + 1 + 1) 24 #[.int .i64 6] ∧ SomeBad pre ∧ Below w.heap.size w W) ?_ ?_ ⟨M9, M4, M5, (fun x hx => by cases hx), hbR⟩
    (fun pre x a' W => ∃ B, wR.heap.size ≤ B ∧ a' = { tmps := #[.agg #[.int .i64 n, .int .i64 l, .int .i64 u], .slice A us.length c, .pointer (some ⟨w.heap.size, 0, none⟩), undef, .pointer (some ⟨w.heap.size + 1, 0, none⟩), .pointer (some ⟨w.heap.size + 1 + 1, 0, none⟩), .int .i64 0, .slice A2 us.length c2, .int .i64 0, .pointer (some ⟨w2.heap.size, 0, none⟩), .pointer (some ⟨B, 0, none⟩), .agg #[.int .i64 n, .int .i64 l, .int .i64 u], .int .i64 0, .int .i64 0, .bool false, undef, undef, .slice A us.length c, .int .i64 (us.length : Int), .bool false, undef, .tuple #[.slice A2 us.length c2, .int .i64 0], .slice A us.length c, .tuple #[.slice A2 us.length c2, .int .i64 0], .slice A2 us.length c2, .int .i64 0, .int .i64 0, .bool false, undef, undef, .agg #[.int .i64 n, .int .i64 l, .int .i64 u], .agg #[.int .i64 n, .int .i64 l, .int .i64 u], .slice A2 us.length c2, .func (.func 64) #[] #[.pointer (some ⟨w2.heap.size + 1, 0, none⟩), .pointer (some ⟨w2.heap.size + 1 + 1, 0, none⟩)], .agg #[.int .i64 x.1, .int .i64 x.2.1, .int .i64 x.2.2], undef, undef, undef, undef, undef, undef, undef, undef], defers := [] } ∧ Lies W B 23 #[.int .i64 x.1, .int .i64 x.2.1, .int .i64 x.2.2] ∧
      Lies W (w.heap.size + 1) 23 #[.int .i64 0, .int .i64 0, .int .i64 0] ∧ Lies W (w.heap.size + 1 + 1) 24 #[.int .i64 0] ∧ Lies W w2.heap.size 23 #[.int .i64 ((lastD (n, l, u) pre).1), .int .i64 ((lastD (n, l, u) pre).2.1), .int .i64 ((lastD (n, l, u) pre).2.2)] ∧ AllGood pre ∧ Below w.heap.size w W) ?_ ?assign ?body ?done ?stop
  · rintro pre A B row ⟨i1, i2, i3, i4, i5⟩ hg hr
    exact ⟨i1.turned hg (by omega) hr, i2.turned hg (by omega) hr, i3.turned hg (by omega) hr, i4, i5.grown hg (by have := i5.size; omega) (fun k e => by have := hr k e; omega)⟩
  · rintro j pre A B row ⟨i1, i2, i3, i4, i5⟩ hg hr
    exact ⟨i1, i2.turned hg (by omega) hr, i3.turned hg (by omega) hr, i4, i5.grown hg (by have := i5.size; omega) (fun k e => by have := hr k e; omega)⟩
  · rintro pre x a' W l' o o' ⟨B, hB, rfl, j1, j2, j3, j4, j5, j6⟩ hl' ho hcl
    exact ⟨B, hB, rfl, j1.put o' ho hcl, j2.put o' ho hcl, j3.put o' ho hcl, j4.put o' ho hcl, j5, j6.grown (grown_put o') (by have := j6.size; omega) (fun k e => by injection e with e; omega)⟩
  case assign =>
    rintro l' pre ⟨xn, xl, xu⟩ W K ⟨i1, i2, i3, i4, i5⟩ hsW hK
    have HI1 := Lib.hid i1
    have HI2 := Lib.hid i2
    have HI3 := Lib.hid i3
    have HK := Lib.hid hK
    clear i1 i2 i3 hK
    gi_wp2
    refine HK.out _ _ (KeepsOthers.alloc _ _) ⟨by simp, fun g cs t fr _ e => (Below.heap_alloc _ _ g (Array.getElem?_eq_some_iff.1 e).1).trans e⟩ ⟨W.heap.size, hsW, rfl, Lies.made _ _ _, HI2.out.alloc _, HI3.out.alloc _, HI1.out.alloc _, i4, i5.alloc (by have := i5.size; omega) _⟩
  case body =>
    rintro l' pre ⟨xn, xl, xu⟩ a' W ⟨B, hB, rfl, j1, j2, j3, j4, j5, j6⟩ hsW
    obtain ⟨x0, x1, x2, -, -, -⟩ := j1.c3
    obtain ⟨r0, r1, r2, f0, f1, f2⟩ := j2.c3
    have q0 := j3.cell 0
    have g0 := j3.free 0
    have z0 := j1.lt
    have z1 := j2.lt
    have z2 := j3.lt
    have z3 := j4.lt
    have J2 := Lib.hid j2
    have J3 := Lib.hid j3
    have J4 := Lib.hid j4
    simp only at x0 x1 x2
    clear j1 j2 j3
    by_cases hx : xu < xl
    · gi_wp2
      refine ⟨(((KeepsOthers.setCell _ _ _).trans (KeepsOthers.setCell _ _ _)).trans (KeepsOthers.setCell _ _ _)).trans (KeepsOthers.setCell _ _ _), rfl, ?_, ?_, ⟨_, List.mem_append_right _ (List.mem_singleton.2 rfl), by unfold goodD; simp only; omega⟩, ?_⟩
      · exact ((((J2.out.store 0 _).store 1 _).store 2 _).other (by show _ ≠ w.heap.size + 1 + 1; omega) _)
      · exact (((J3.out.other (by show _ ≠ w.heap.size + 1; omega) _).other (by show _ ≠ w.heap.size + 1; omega) _).other (by show _ ≠ w.heap.size + 1; omega) _).store 0 _
      · exact (((j6.setCell (p := ⟨w.heap.size + 1, 0, none⟩) (by simp) _).setCell (p := ⟨w.heap.size + 1, 1, none⟩) (by simp) _).setCell (p := ⟨w.heap.size + 1, 2, none⟩) (by simp) _).setCell (p := ⟨w.heap.size + 1 + 1, 0, none⟩) (by simp; omega) _
    · have l0 := j4.cell 0
      have l1 := j4.cell 1
      have l2 := j4.cell 2
      have m0 := j4.free 0
      have m1 := j4.free 1
      have m2 := j4.free 2
      clear j4
      gi_wp2
      refine ⟨((KeepsOthers.setCell _ _ _).trans (KeepsOthers.setCell _ _ _)).trans (KeepsOthers.setCell _ _ _), (((CellsKept.refl X W).stored (.inl rfl) 0 _).stored (.inl rfl) 1 _).stored (.inl rfl) 2 _, ?_, ?_, ?_, ?_, ?_⟩
      · rw [lastD_snoc]; exact ((J4.out.store 0 _).store 1 _).store 2 _
      · exact ((J2.out.other (by show _ ≠ w2.heap.size; omega) _).other (by show _ ≠ w2.heap.size; omega) _).other (by show _ ≠ w2.heap.size; omega) _
      · exact ((J3.out.other (by show _ ≠ w2.heap.size; omega) _).other (by show _ ≠ w2.heap.size; omega) _).other (by show _ ≠ w2.heap.size; omega) _
      · intro x hxm
        rcases List.mem_append.1 hxm with hxm | hxm
        · exact j5 x hxm
        · obtain rfl := List.mem_singleton.1 hxm
          unfold goodD; simp only; omega
      · exact ((j6.setCell (p := ⟨w2.heap.size, 0, none⟩) (by simp; omega) _).setCell (p := ⟨w2.heap.size, 1, none⟩) (by simp; omega) _).setCell (p := ⟨w2.heap.size, 2, none⟩) (by simp; omega) _
  case done =>
    rintro D xs W hD rfl ⟨i1, i2, i3, i4, i5⟩ hK
    have hf := fold_all us (n, l, u) i4
    have HI1 := Lib.hid i1
    have HI2 := Lib.hid i2
    have HI3 := Lib.hid i3
    have HF := Lib.hid hf
    have HKK := Lib.hid hK
    generalize lastD (n, l, u) (runD us (n, l, u)) = x at *
    obtain ⟨xn, xl, xu⟩ := x
    obtain ⟨x0, x1, x2, -, -, -⟩ := i1.c3
    obtain ⟨r0, r1, r2, f0, f1, f2⟩ := i2.c3
    have q0 := i3.cell 0
    have g0 := i3.free 0
    have z1 := i2.lt
    have z2 := i3.lt
    have z3 := i1.lt
    simp only at x0 x1 x2
    clear i1 i2 i3 hf hK
    gi_wp2
    have M4' : Lies ((((W.setCell ⟨w.heap.size + 1, 0, none⟩ (.int .i64 xn)).setCell ⟨w.heap.size + 1, 1, none⟩ (.int .i64 xl)).setCell ⟨w.heap.size + 1, 2, none⟩ (.int .i64 xu)).setCell ⟨w.heap.size + 1 + 1, 0, none⟩ (.int .i64 0)) (w.heap.size + 1) 23 #[.int .i64 xn, .int .i64 xl, .int .i64 xu] :=
      (((HI2.out.store 0 _).store 1 _).store 2 _).other (by show _ ≠ w.heap.size + 1 + 1; omega) _
    have M5' : Lies ((((W.setCell ⟨w.heap.size + 1, 0, none⟩ (.int .i64 xn)).setCell ⟨w.heap.size + 1, 1, none⟩ (.int .i64 xl)).setCell ⟨w.heap.size + 1, 2, none⟩ (.int .i64 xu)).setCell ⟨w.heap.size + 1 + 1, 0, none⟩ (.int .i64 0)) (w.heap.size + 1 + 1) 24 #[.int .i64 0] :=
      (((HI3.out.other (by show _ ≠ w.heap.size + 1; omega) _).other (by show _ ≠ w.heap.size + 1; omega) _).other (by show _ ≠ w.heap.size + 1; omega) _).store 0 _
    have hK' : ((((W.setCell ⟨w.heap.size + 1, 0, none⟩ (.int .i64 xn)).setCell ⟨w.heap.size + 1, 1, none⟩ (.int .i64 xl)).setCell ⟨w.heap.size + 1, 2, none⟩ (.int .i64 xu)).setCell ⟨w.heap.size + 1 + 1, 0, none⟩ (.int .i64 0)).heap[D]? = some (.deferred (some [])) :=
      (((Below.heap_setCell _ _ _ D (by show D ≠ w.heap.size + 1 + 1; omega)).trans (Below.heap_setCell _ _ _ D (by show D ≠ w.heap.size + 1; omega))).trans (Below.heap_setCell _ _ _ D (by show D ≠ w.heap.size + 1; omega))).trans ((Below.heap_setCell _ _ _ D (by show D ≠ w.heap.size + 1; omega)).trans HKK.out)
    have hB' := (((i5.setCell (p := ⟨w.heap.size + 1, 0, none⟩) (by simp) (.int .i64 xn)).setCell (p := ⟨w.heap.size + 1, 1, none⟩) (by simp) (.int .i64 xl)).setCell (p := ⟨w.heap.size + 1, 2, none⟩) (by simp) (.int .i64 xu)).setCell (p := ⟨w.heap.size + 1 + 1, 0, none⟩) (by simp; omega) (.int .i64 0)
    refine ⟨by simp, .inl ⟨_, _, rfl, run_takeDeferred hK', ?_⟩⟩
    refine ⟨_, results_two_cells rfl _ _ (w.heap.size + 1) (w.heap.size + 1 + 1) _ _ _ _ _ _ rfl rfl (M4'.put _ hK' rfl) (M5'.put _ hK' rfl) Tryd.underlying23 rfl (by kernel_rfl) Tryd.underlying24 rfl, .inr ⟨_, HF.out, rfl⟩, ?_⟩
    exact hB'.grown (grown_put _) (by have := hB'.size; omega) (fun k e => by injection e with e; omega)
  case stop =>
    rintro D cd pre W hD hpre ⟨rfl, i2, i3, i4, i5⟩ hK
    have HF := Lib.hid (fold_bad us (n, l, u) pre hpre i4)
    have HI2 := Lib.hid i2
    have HI3 := Lib.hid i3
    have HKK := Lib.hid hK
    clear i2 i3 hK
    gi_wp2
    refine ⟨by simp, .inl ⟨_, _, rfl, run_takeDeferred HKK.out, ?_⟩⟩
    refine ⟨_, results_two_cells rfl _ _ (w.heap.size + 1) (w.heap.size + 1 + 1) _ _ _ _ _ _ rfl rfl (HI2.out.put _ HKK.out rfl) (HI3.out.put _ HKK.out rfl) Tryd.underlying23 rfl (by kernel_rfl) Tryd.underlying24 rfl, .inl ⟨HF.out, rfl⟩, ?_⟩
    exact i5.grown (grown_put _) (by have := i5.size; omega) (fun k e => by injection e with e; omega)
end Go.Proofs.YtjejjeomknkglaaDoor
