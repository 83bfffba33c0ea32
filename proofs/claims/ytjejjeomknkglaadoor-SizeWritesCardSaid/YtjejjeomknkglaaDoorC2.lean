/- The iterator of package size that yields the sizes of a redrawing. -/
import Derived.Test.YtjejjeomknkglaaDoorC1
import Derived.Test.YtjejjeomknkglaaDoorA2
import Derived.Test.YtjejjeomknkglaaDoorRange
import Derived.Shelf.Abstract
import Derived.Shelf.RegionOpen
import Derived.OwnWalkIn
import Derived.TacticsInMore
import Derived.LoopNIn
import Derived.LoopIn
namespace Go.Proofs.YtjejjeomknkglaaDoor
set_option linter.unusedVariables false
set_option linter.unusedSimpArgs false
open Go.RowKit Go.Shelf
attribute [local go_sem] Oper.semAt_some

def stepD (u : Int) (d : D3) : D3 := (nearS (stepU u) d.1, upS (stepU u) d.2.1, downS (stepU u) d.2.2)
def runD : List Int → D3 → List D3
  | [], _ => []
  | u :: us, d => stepD u d :: runD us (stepD u d)
abbrev encD (d : D3) : Array Value := #[.agg #[.int .i64 d.1, .int .i64 d.2.1, .int .i64 d.2.2]]

theorem allCells_at {w : World} {base : Nat} : ∀ {us : List Int} {bs : List (Nat × Nat)} (_ : ScL w base us bs) (k j : Nat) (hk : k < us.length) (_ : j < 7), ∃ p, bs[k]? = some p ∧ (allCells us bs)[k * 7 + j]? = (scCells us[k] p)[j]? ∧ SOk w base (stepU us[k]) p.1 p.2
  | a :: us, b :: bs, h, 0, j, hk, hj => by
    refine ⟨b, rfl, ?_, h.1⟩
    show (scCells a b ++ allCells us bs)[0 * 7 + j]? = _
    rw [List.getElem?_append_left (by rw [scCells_length]; omega)]
    simp
  | a :: us, b :: bs, h, k + 1, j, hk, hj => by
    obtain ⟨p, h1, h2, h3⟩ := allCells_at h.2 k j (by simpa using hk) hj
    refine ⟨p, h1, ?_, h3⟩
    show (scCells a b ++ allCells us bs)[(k + 1) * 7 + j]? = _
    rw [List.getElem?_append_right (by rw [scCells_length]; omega), scCells_length]
    rw [show (k + 1) * 7 + j - 7 = k * 7 + j from by omega]
    exact h2
  | [], _, _, k, _, hk, _ => absurd hk (by simp)
  | _ :: _, [], h, _, _, _, _ => h.elim

theorem CellsKept.after {X : Nat → Prop} {w W W' : World} (h : CellsKept X w W) (hb : Below W.heap.size W W') : CellsKept X w W' :=
  ⟨Nat.le_trans h.1 hb.size, fun g cs t fr hx e => (hb.block g (Array.getElem?_eq_some_iff.1 (h.2 g cs t fr hx e)).1).trans (h.2 g cs t fr hx e)⟩
theorem CellsKept.row {X : Nat → Prop} {w W : World} (h : CellsKept X w W) {g : Nat} (hg : w.heap.size ≤ g) (cs : Array Value) : CellsKept X w (W.setRow g cs) :=
  ⟨by simp; exact h.1, fun k cs' t fr hx e => (setRow_other W g k cs (by have := (Array.getElem?_eq_some_iff.1 e).1; omega)).trans (h.2 k cs' t fr hx e)⟩
theorem grown_below {W W' : World} (hb : Below W.heap.size W W') : W.grownBy W' none := ⟨hb.os, hb.tape, hb.output, hb.size, fun k hk _ => hb.block k hk⟩
theorem grown_row (W : World) (g : Nat) (cs : Array Value) : W.grownBy (W.setRow g cs) (some g) := ⟨rfl, rfl, rfl, by simp, fun k _ hk => setRow_other W g k cs (fun e => hk (by rw [e]))⟩
theorem OwnTurns.below {β : Type} {base : Nat} {J : β → World → Prop} (h : OwnTurns base J) {s : β} {W W' : World} (hs : J s W) (hb : Below W.heap.size W W') : J s W' := h s W W' none hs (grown_below hb) (fun _ e => by cases e)
theorem OwnTurns.row {β : Type} {base : Nat} {J : β → World → Prop} (h : OwnTurns base J) {s : β} {W : World} (hs : J s W) {g : Nat} {t : TypeId} {cs : Array Value} (hl : Lies W g t cs) (hg : base ≤ g) (cs' : Array Value) : J s (W.setRow g cs') :=
  h s W _ (some g) hs (grown_row W g cs') (fun r e => by injection e with e; subst e; exact ⟨hg, cs, t, (0, 0), hl⟩)

theorem own_form {w : World} {base : Nat} {e : TypeId} {size n : Nat} {v : Value} {xs : List Value} (h : w.ownsRow base e size v n xs) :
    ∃ A c g, v = .slice A n c ∧ (0 < n → A = some ⟨g, 0, none⟩ ∧ ∃ cur, Lies w g e cur ∧ ∀ j, j < n * size → cur[j]? = xs[j]?) := by
  rcases h.2 with ⟨rfl, rfl⟩ | ⟨g, cap, cur, rfl, _, hh, hc, _, hs, ht⟩
  · exact ⟨none, 0, 0, rfl, fun h => by omega⟩
  · refine ⟨_, cap, g, rfl, fun _ => ⟨rfl, cur, hh, fun j hj => ?_⟩⟩
    rw [← ht, List.getElem?_take_of_lt hj]
    simp

theorem OwnTurns.cell {β : Type} {base : Nat} {J : β → World → Prop} (h : OwnTurns base J) {s : β} {W : World} (hs : J s W) {g : Nat} {t : TypeId} {cs : Array Value} (hl : Lies W g t cs) (hg : base ≤ g) (i : Nat) (u : Value) : J s (W.setCell ⟨g, i, none⟩ u) :=
  h s W _ (some g) hs ⟨rfl, rfl, rfl, by simp [World.setCell], fun k _ hk => Below.heap_setCell W ⟨g, i, none⟩ u k (fun e => hk (by rw [e]))⟩ (fun r e => by injection e with e; subst e; exact ⟨hg, cs, t, (0, 0), hl⟩)
theorem CellsKept.cell {X : Nat → Prop} {w W : World} (h : CellsKept X w W) {g : Nat} (hg : w.heap.size ≤ g) (i : Nat) (u : Value) : CellsKept X w (W.setCell ⟨g, i, none⟩ u) :=
  ⟨by simp [World.setCell]; exact h.1, fun k cs' t fr hx e => (Below.heap_setCell W ⟨g, i, none⟩ u k (by have := (Array.getElem?_eq_some_iff.1 e).1; show k ≠ g; omega)).trans (h.2 k cs' t fr hx e)⟩

theorem SOk.kept {X : Nat → Prop} {A B : World} {base : Nat} {st : Int} {b1 b2 : Nat} (h : SOk A base st b1 b2) (hk : CellsKept X A B) (h1 : ¬ X b1) (h2 : ¬ X b2) : SOk B base st b1 b2 :=
  ⟨h.1, h.2.1, hk.lies h1 h.2.2.1, hk.lies h2 h.2.2.2⟩

set_option maxRecDepth 100000 in
set_option maxHeartbeats 2000000 in
theorem iter_any (n : Nat) (hn : 3 ≤ n) (dB lB base : Nat) (v : Value) (us : List Int) (bs : List (Nat × Nat)) (d0 : D3) (X : Nat → Prop) (w : World) (hl : us.length ≤ 1000)
    (hd : Lies w dB 23 #[.int .i64 d0.1, .int .i64 d0.2.1, .int .i64 d0.2.2]) (hL : Lies w lB 89 #[v]) (ho : w.ownsRow base 44 7 v us.length (allCells us bs)) (hS : ScL w base us bs)
    (hXd : ¬ X dB) (hXl : ¬ X lB) (hX : ∀ g, X g → g < w.heap.size ∧ ∀ cs t fr, w.heap[g]? = some (.cells cs t fr) → t = 23 ∨ t = 24)
    (b0 : 0 ≤ d0.1) (b1 : d0.1 ≤ 1000000000) (b2 : 0 ≤ d0.2.1) (b3 : d0.2.1 ≤ 1000000000) (b4 : 0 ≤ d0.2.2) (b5 : d0.2.2 ≤ 1000000000) :
    IterOwn Fence.wide n Tryd.prog 64 #[.pointer (some ⟨dB, 0, none⟩), .pointer (some ⟨lB, 0, none⟩)] encD X (fun xs => xs = runD us d0) (fun pre => pre <+: runD us d0) w := by
  intro l J Jx W0 hb0 hJ hJx hY h0
  have hd' := hd.after hb0
  have hL' := hL.after hb0
  obtain ⟨A, c, g, rfl, hA⟩ := own_form ho
  obtain ⟨p0, p1, p2, -, -, -⟩ := hd'.c3
  have q0 := hL'.cell 0
  have z1 := hd'.lt
  have z2 := hL'.lt
  have HK := Lib.hid (show CellsKept X w W0 from CellsKept.after ⟨Nat.le_refl _, fun _ _ _ _ _ e => e⟩ hb0)
  have HA := Lib.hid hA
  have HY := Lib.hid hY
  have HX := Lib.hid hX
  have HS := Lib.hid hS
  have HJ := Lib.hid hJ
  have HJx := Lib.hid hJx
  have H0 := Lib.hid h0
  have zb := hb0.size
  clear hd hL ho hS hX hA hY hJ hJx h0 hd' hL'
  refine callsIn_of_wp Tryd.func64 rfl trivial ?_ rfl
  simp only [Tryd.ntmps64, List.size_toArray, List.length_cons, List.length_nil, Nat.reduceAdd, Nat.reduceSub, Array.replicate_succ, Array.replicate_zero, List.push_toArray, List.append_toArray, List.nil_append, List.cons_append]
  gi_wp2
  gi_loopw [10] (fun i wr => ∃ (k : Nat) (pre : List D3) (d : D3), k ≤ us.length ∧ i = .int .i64 k ∧ Hid (pre ++ runD (us.drop k) d = runD us d0) ∧ Lies wr W0.heap.size 23 #[.int .i64 d.1, .int .i64 d.2.1, .int .i64 d.2.2] ∧ Hid (J pre wr) ∧ Hid (CellsKept X w wr) ∧
    (0 ≤ d.1 ∧ d.1 ≤ 1000000000 + 254 * k ∧ 0 ≤ d.2.1 ∧ d.2.1 ≤ 1000000000 + 254 * k ∧ 0 ≤ d.2.2 ∧ d.2.2 ≤ 1000000000 + 254 * k)) (fun i _ => us.length - (intOf i).toNat)
  case atStart => exact ⟨0, [], d0, by omega, rfl, Lib.hid rfl, Lies.made _ _ _, Lib.hid (HJ.out.below H0.out ((Below.refl _ _).alloc (Nat.le_refl _) _)), Lib.hid (HK.out.after ((Below.refl _ _).alloc (Nat.le_refl _) _)), by omega, by omega, by omega, by omega, by omega, by omega⟩
  case round =>
    obtain ⟨k, pre, ⟨dn, dl, du⟩, hk, rfl, hrun, hat, hJp, hCK, e0, e1, e2, e3, e4, e5⟩ := hrel
    simp only at hat e0 e1 e2 e3 e4 e5
    by_cases hlt : k < us.length
    · obtain ⟨rfl, cur, hcur, hcj⟩ := HA.out (by omega)
      have hgX : ¬ X g := fun hx => by
        have := (HX.out g hx).2 cur _ _ hcur
        revert this; decide
      have hgL := hCK.out.lies hgX hcur
      have hz0 := hat.lt
      have hz1 := hgL.lt
      have hz2 := hCK.out.1
      obtain ⟨⟨p1, p2⟩, hp, -, hso⟩ := allCells_at HS.out k 0 hlt (by omega)
      have hx1 : ¬ X p1 := fun hx => by
        have := (HX.out p1 hx).2 _ _ _ hso.2.2.1
        revert this; decide
      have hx2 : ¬ X p2 := fun hx => by
        have := (HX.out p2 hx).2 _ _ _ hso.2.2.2
        revert this; decide
      have HSO := Lib.hid (hso.kept hCK.out hx1 hx2)
      have hcells : ∀ j, j < 7 → wr.cell? ⟨g, k * 7 + j, none⟩ = (scCells us[k] (p1, p2))[j]? := fun j hj => by
        obtain ⟨p', hp', hj', -⟩ := allCells_at HS.out k j hlt hj
        rw [hp] at hp'
        injection hp' with hp'
        subst hp'
        exact (hgL.cell _).trans ((hcj _ (by omega)).trans hj')
      have hdrop : us.drop k = us[k] :: us.drop (k + 1) := List.drop_eq_getElem_cons hlt
      have HR := Lib.hid (show pre ++ stepD us[k] (dn, dl, du) :: runD (us.drop (k + 1)) (stepD us[k] (dn, dl, du)) = runD us d0 by
        have := hrun.out
        rw [hdrop] at this
        exact this)
      clear hcj hcur hrun hdrop hso hp
      generalize us[k] = u at *
      have hat0 := Lib.hid hat
      obtain ⟨a0, a1, a2, f0, f1, f2⟩ := hat.c3
      clear hat
      have hst := stepU_or u
      by_cases hu1 : u = 1
      · subst hu1
        have r0 : wr.cell? ⟨g, k * 7, none⟩ = _ := hcells 0 (by omega)
        have r1 := hcells 1 (by omega)
        have r2 := hcells 2 (by omega)
        have r3 := hcells 3 (by omega)
        have r4 := hcells 4 (by omega)
        have r5 := hcells 5 (by omega)
        have r6 := hcells 6 (by omega)
        simp only [scCells, if_true, List.getElem?_cons_zero, List.getElem?_cons_succ] at r0 r1 r2 r3 r4 r5 r6
        clear hcells
        gi_wp2_with fail
        refine ⟨trivial, (fun h => (by cases h)), ?_⟩
        refine (callsIn_wide.2 (again_any 1 100 3 dn dl du _ p1 p2 _ base (HSO.out.alloc _) (by omega) e0 (by omega) e2 (by omega) e4 (by omega))).mono ?_
        rintro e w1 ⟨rfl, hb1⟩
        have s1 := hb1.size; try simp only [World.size_alloc, World.size_setCell, World.size_drew, setRow_size] at s1
        have hat1 := (hat0.out.alloc _).after hb1
        have HJ1 := Lib.hid (HJ.out.below (HJ.out.below hJp.out ((Below.refl _ _).alloc (Nat.le_refl _) _)) hb1)
        have HC1 := Lib.hid ((hCK.out.after ((Below.refl _ _).alloc (Nat.le_refl _) _)).after hb1)
        have HJ3 := Lib.hid (HJ.out.cell (HJ.out.cell (HJ.out.cell HJ1.out hat1 (Nat.le_refl _) 0 (.int .i64 (nearS 100 dn))) (hat1.store 0 _) (Nat.le_refl _) 1 (.int .i64 (upS 100 dl))) ((hat1.store 0 _).store 1 _) (Nat.le_refl _) 2 (.int .i64 (downS 100 du)))
        have HC3 := Lib.hid (((HC1.out.cell zb 0 (.int .i64 (nearS 100 dn))).cell zb 1 (.int .i64 (upS 100 dl))).cell zb 2 (.int .i64 (downS 100 du)))
        have HA3 := Lib.hid (((hat1.store 0 (.int .i64 (nearS 100 dn))).store 1 (.int .i64 (upS 100 dl))).store 2 (.int .i64 (downS 100 du)))
        obtain ⟨fn, tmps, assign, body, hy0, hR⟩ := HY.out pre (nearS 100 dn, upS 100 dl, downS 100 du) _ HJ3.out
        have hy : (Instr.yield l #[.agg #[.int .i64 (nearS 100 dn), .int .i64 (upS 100 dl), .int .i64 (downS 100 du)]]).run Tryd.prog _ = _ := hy0
        have HRR := Lib.hid hR
        clear hy0 hR
        obtain ⟨a0, a1, a2, f0, f1, f2⟩ := hat1.c3
        have z0 := HA3.out.cell 0
        have z1 := HA3.out.cell 1
        have z2 := HA3.out.cell 2
        clear hat1 r0 r1 r2 r3 r4 r5 r6
        gi_wp2_with fail
        refine ⟨(fun h => (by cases h)), HRR.out.mono ?_⟩
        rintro e W3 (⟨rfl, hJ4, hk4⟩ | ⟨rfl, hJx4⟩)
        · have HK4 := Lib.hid hk4
          have HJ4 := Lib.hid hJ4
          clear hk4 hJ4
          gi_wp2
          go_roundw
          case rel =>
            refine ⟨k + 1, pre ++ [(nearS 100 dn, upS 100 dl, downS 100 du)], (nearS 100 dn, upS 100 dl, downS 100 du), by omega, by go_num, ?_, HK4.out.lies (fun hx => by have := (HX.out _ hx).1; omega) HA3.out, HJ4, Lib.hid (HC3.out.trans HK4.out), ?_⟩
            · exact Lib.hid (by rw [List.append_assoc]; exact HR.out)
            · have n1 := nearS_cases 100 dn
              have n2 := downS_bd (st := 100) e0 (by omega)
              have n3 := upS_bd (st := 100) e2 (by omega)
              have n4 := downS_bd (st := 100) e4 (by omega)
              simp only
              omega
          case measure => simp [intOf]; omega
        · gi_wp2
          refine bodyPost_ret (results_none rfl _ _ _) rfl ?_
          exact ⟨⟨_, rfl⟩, .inr ⟨_, ⟨_, by rw [List.append_assoc]; exact HR.out⟩, hJx4⟩⟩
      · have HR : Hid (pre ++ (nearS 254 dn, upS 254 dl, downS 254 du) :: runD (us.drop (k + 1)) (nearS 254 dn, upS 254 dl, downS 254 du) = runD us d0) := Lib.hid (by
          have := HR.out
          simp only [stepD, stepU, if_neg hu1] at this
          exact this)
        have HSO : Hid (SOk wr base 254 p1 p2) := Lib.hid (by have := HSO.out; simp only [stepU, if_neg hu1] at this; exact this)
        have r0 : wr.cell? ⟨g, k * 7, none⟩ = _ := hcells 0 (by omega)
        have r1 := hcells 1 (by omega)
        have r2 := hcells 2 (by omega)
        have r3 := hcells 3 (by omega)
        have r4 := hcells 4 (by omega)
        have r5 := hcells 5 (by omega)
        have r6 := hcells 6 (by omega)
        simp only [scCells, if_neg hu1, List.getElem?_cons_zero, List.getElem?_cons_succ] at r0 r1 r2 r3 r4 r5 r6
        clear hcells
        gi_wp2_with fail
        refine ⟨trivial, (fun h => (by cases h)), ?_⟩
        refine (callsIn_wide.2 (again_any 2 254 4 dn dl du _ p1 p2 _ base (HSO.out.alloc _) (by omega) e0 (by omega) e2 (by omega) e4 (by omega))).mono ?_
        rintro e w1 ⟨rfl, hb1⟩
        have s1 := hb1.size; try simp only [World.size_alloc, World.size_setCell, World.size_drew, setRow_size] at s1
        have hat1 := (hat0.out.alloc _).after hb1
        have HJ1 := Lib.hid (HJ.out.below (HJ.out.below hJp.out ((Below.refl _ _).alloc (Nat.le_refl _) _)) hb1)
        have HC1 := Lib.hid ((hCK.out.after ((Below.refl _ _).alloc (Nat.le_refl _) _)).after hb1)
        have HJ3 := Lib.hid (HJ.out.cell (HJ.out.cell (HJ.out.cell HJ1.out hat1 (Nat.le_refl _) 0 (.int .i64 (nearS 254 dn))) (hat1.store 0 _) (Nat.le_refl _) 1 (.int .i64 (upS 254 dl))) ((hat1.store 0 _).store 1 _) (Nat.le_refl _) 2 (.int .i64 (downS 254 du)))
        have HC3 := Lib.hid (((HC1.out.cell zb 0 (.int .i64 (nearS 254 dn))).cell zb 1 (.int .i64 (upS 254 dl))).cell zb 2 (.int .i64 (downS 254 du)))
        have HA3 := Lib.hid (((hat1.store 0 (.int .i64 (nearS 254 dn))).store 1 (.int .i64 (upS 254 dl))).store 2 (.int .i64 (downS 254 du)))
        obtain ⟨fn, tmps, assign, body, hy0, hR⟩ := HY.out pre (nearS 254 dn, upS 254 dl, downS 254 du) _ HJ3.out
        have hy : (Instr.yield l #[.agg #[.int .i64 (nearS 254 dn), .int .i64 (upS 254 dl), .int .i64 (downS 254 du)]]).run Tryd.prog _ = _ := hy0
        have HRR := Lib.hid hR
        clear hy0 hR
        obtain ⟨a0, a1, a2, f0, f1, f2⟩ := hat1.c3
        have z0 := HA3.out.cell 0
        have z1 := HA3.out.cell 1
        have z2 := HA3.out.cell 2
        clear hat1 r0 r1 r2 r3 r4 r5 r6
        gi_wp2_with fail
        refine ⟨(fun h => (by cases h)), HRR.out.mono ?_⟩
        rintro e W3 (⟨rfl, hJ4, hk4⟩ | ⟨rfl, hJx4⟩)
        · have HK4 := Lib.hid hk4
          have HJ4 := Lib.hid hJ4
          clear hk4 hJ4
          gi_wp2
          go_roundw
          case rel =>
            refine ⟨k + 1, pre ++ [(nearS 254 dn, upS 254 dl, downS 254 du)], (nearS 254 dn, upS 254 dl, downS 254 du), by omega, by go_num, ?_, HK4.out.lies (fun hx => by have := (HX.out _ hx).1; omega) HA3.out, HJ4, Lib.hid (HC3.out.trans HK4.out), ?_⟩
            · exact Lib.hid (by rw [List.append_assoc]; exact HR.out)
            · have n1 := nearS_cases 254 dn
              have n2 := downS_bd (st := 254) e0 (by omega)
              have n3 := upS_bd (st := 254) e2 (by omega)
              have n4 := downS_bd (st := 254) e4 (by omega)
              simp only
              omega
          case measure => simp [intOf]; omega
        · gi_wp2
          refine bodyPost_ret (results_none rfl _ _ _) rfl ?_
          exact ⟨⟨_, rfl⟩, .inr ⟨_, ⟨_, by rw [List.append_assoc]; exact HR.out⟩, hJx4⟩⟩
    · have hke : k = us.length := by omega
      subst hke
      gi_wp2
      go_end0
      refine ⟨⟨_, rfl⟩, .inl ⟨pre, ?_, hJp.out⟩⟩
      have := hrun.out
      rw [List.drop_length] at this
      simpa [runD] using this
end Go.Proofs.YtjejjeomknkglaaDoor
