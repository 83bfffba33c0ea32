/- The walks of package size: Read. -/
import Derived.Test.YtjejjeomknkglaaDoorU2
import Derived.Test.YtjejjeomknkglaaDoorB2
import Derived.Recover
import Derived.Defers
import Derived.Stop.Asserts
import Derived.Deep.RegionHeld3
namespace Go.Proofs.YtjejjeomknkglaaDoor
set_option linter.unusedVariables false
set_option linter.unusedSimpArgs false
open Go.RowKit

set_option maxHeartbeats 1000000 in
theorem catch_idle (g2 g3 g4 : Nat) (w : World) :
    CallsD Tryd.prog 23 #[.pointer (some ⟨g2, 0, none⟩), .pointer (some ⟨g3, 0, none⟩), .pointer (some ⟨g4, 0, none⟩)] .returning w fun e u' w' => e = .returned (.tuple #[]) ∧ u' = .returning ∧ w' = w := by
  refine callsD_of_wpS Tryd.func23 rfl fun c₀ cs hu => ?_
  apply wpS_seq
  apply wpS_region
  simp [wpOpsS, go_sem, recoverD, hu, Tryd.ntmps23, Exit.thenS]
  refine wpS_of_wp ?_
  simp only [show (#[Value.pointer (some { block := g2, off := 0 }), Value.pointer (some { block := g3, off := 0 }), Value.pointer (some { block := g4, off := 0 })] ++ (Array.replicate 10 undef).setIfInBounds 0 Value.nilIface : Array Value) = #[.pointer (some ⟨g2, 0, none⟩), .pointer (some ⟨g3, 0, none⟩), .pointer (some ⟨g4, 0, none⟩), .nilIface, undef, undef, undef, undef, undef, undef, undef, undef, undef] from rfl]
  go_wp2
  cases c₀
  simp_all [bodyPostS, results, Tryd.results23]
/-- The three results of Read, in blocks of their own. -/
def Cells3 (w : World) (g2 g3 g4 : Nat) (d0 d1 d2 u e : Int) : Prop := Lies w g2 23 #[.int .i64 d0, .int .i64 d1, .int .i64 d2] ∧ Lies w g3 5 #[.int .u8 u] ∧ Lies w g4 24 #[.int .i64 e]
set_option maxRecDepth 100000 in
set_option maxHeartbeats 1000000 in
theorem catch_wrong (g2 g3 g4 : Nat) (d0 d1 d2 u ee : Int) (older : List PanicEntry) (w : World) (h : Cells3 w g2 g3 g4 d0 d1 d2 u ee) :
    CallsD Tryd.prog 23 #[.pointer (some ⟨g2, 0, none⟩), .pointer (some ⟨g3, 0, none⟩), .pointer (some ⟨g4, 0, none⟩)] (.panicking ({ v := .iface 57 (.agg #[]), recovered := false } :: older)) w fun e u' w' =>
      e = .returned (.tuple #[]) ∧ u' = .panicking ({ v := .iface 57 (.agg #[]), recovered := true } :: older) ∧
      w' = (((((w.setCell ⟨g2, 0, none⟩ (.int .i64 0)).setCell ⟨g2, 1, none⟩ (.int .i64 0)).setCell ⟨g2, 2, none⟩ (.int .i64 0)).setCell ⟨g3, 0, none⟩ (.int .u8 0)).setCell ⟨g4, 0, none⟩ (.int .i64 13)) := by
  obtain ⟨h2, h3, h4⟩ := h
  have n23 : ¬ g2 = g3 := by rintro rfl; unfold Lies at h2 h3; rw [h2] at h3; simp at h3
  have n24 : ¬ g2 = g4 := by rintro rfl; unfold Lies at h2 h4; rw [h2] at h4; simp at h4
  have n34 : ¬ g3 = g4 := by rintro rfl; unfold Lies at h3 h4; rw [h3] at h4; simp at h4
  have m23 : ¬ g3 = g2 := fun e => n23 e.symm
  have m24 : ¬ g4 = g2 := fun e => n24 e.symm
  have m34 : ¬ g4 = g3 := fun e => n34 e.symm
  obtain ⟨a0, a1, a2, f0, f1, f2⟩ := h2.c3
  have b0 := h3.cell 0
  have c0 := h4.cell 0
  have k0 := h3.free 0
  have k1 := h4.free 0
  have z2 := h2.lt
  have z3 := h3.lt
  have z4 := h4.lt
  clear h2 h3 h4
  have ta1 : ∀ W, (Instr.typeAssert (.iface 57 (.agg #[])) 20 57 true).run Tryd.prog W = .ok (.tuple #[.agg #[], .bool true]) W := fun _ => by kernel_rfl
  have ta2 : ∀ W, (Instr.typeAssert (.iface 57 (.agg #[])) 20 59 true).run Tryd.prog W = .ok (.tuple #[.nilIface, .bool false]) W := fun W => run_typeAssert_lacksB Tryd.underlying59 (by kernel_rfl) (by kernel_rfl) _ _ W
  refine callsD_of_wpS Tryd.func23 rfl fun c₁ cs hu => ?_
  apply wpS_seq
  apply wpS_region
  simp [wpOpsS, go_sem, recoverD, hu, Tryd.ntmps23, Exit.thenS]
  refine wpS_of_wp ?_
  simp only [show (#[Value.pointer (some { block := g2, off := 0 }), Value.pointer (some { block := g3, off := 0 }), Value.pointer (some { block := g4, off := 0 })] ++ (Array.replicate 10 undef).setIfInBounds 0 (.iface 57 (.agg #[])) : Array Value) = #[.pointer (some ⟨g2, 0, none⟩), .pointer (some ⟨g3, 0, none⟩), .pointer (some ⟨g4, 0, none⟩), (.iface 57 (.agg #[])), undef, undef, undef, undef, undef, undef, undef, undef, undef] from rfl]
  go_wp2
  exact ⟨rfl, _, rfl, _, results_none rfl _ _ _, rfl, rfl, rfl⟩

theorem results_ccc {P : Program} {fn : Func} {p q r : Tmp} {ty tq tr : TypeId} (h : fn.results = #[.cell p ty, .cell q tq, .cell r tr]) (tmps : Array Value) (w : World) (g g2 g3 : Nat) (t t2 t3 : TypeId) (cs : Array Value) (v x : Value) (d d2 d3 : TypeDesc)
    (hp : tmps.getD p undef = .pointer (some ⟨g, 0, none⟩)) (hq : tmps.getD q undef = .pointer (some ⟨g2, 0, none⟩)) (hr : tmps.getD r undef = .pointer (some ⟨g3, 0, none⟩)) (hg : Lies w g t cs) (hg2 : Lies w g2 t2 #[v]) (hg3 : Lies w g3 t3 #[x])
    (hu : P.underlying ty = some d) (hd : (match d with | .struct _ | .array _ _ => true | _ => false) = true) (hi : (P.info? ty).map (·.size) = some cs.size)
    (hu2 : P.underlying tq = some d2) (hd2 : (match d2 with | .struct _ | .array _ _ => true | _ => false) = false)
    (hu3 : P.underlying tr = some d3) (hd3 : (match d3 with | .struct _ | .array _ _ => true | _ => false) = false) :
    (results fn tmps).run P w = .ok (.tuple #[.agg cs, v, x]) w := by
  have hp' : tmps[p]?.getD undef = .pointer (some ⟨g, 0, none⟩) := by simpa using hp
  have hq' : tmps[q]?.getD undef = .pointer (some ⟨g2, 0, none⟩) := by simpa using hq
  have hr' : tmps[r]?.getD undef = .pointer (some ⟨g3, 0, none⟩) := by simpa using hr
  have hc : w.cell? ⟨g2, 0, none⟩ = some v := hg2.cell 0
  have hc3 : w.cell? ⟨g3, 0, none⟩ = some x := hg3.cell 0
  have e1 := run_loadVar_row (P := P) w g t ty cs (0, 0) d hg hu hd hi
  have e2 : (loadVar tq ⟨g2, 0, none⟩).run P w = .ok v w := by
    have ha : (isAgg tq).run P w = .ok false w := by
      cases d2 <;> first | (cases hd2; done) | simp [isAgg, run_underlying hu2]
    simp [loadVar, ha, go_sem, hc]
  have e3 : (loadVar tr ⟨g3, 0, none⟩).run P w = .ok x w := by
    have ha : (isAgg tr).run P w = .ok false w := by
      cases d3 <;> first | (cases hd3; done) | simp [isAgg, run_underlying hu3]
    simp [loadVar, ha, go_sem, hc3]
  simp [results, h, hp', hq', hr', asAddr, e1, e2, e3]

theorem cell_new {u : World} {cs : Array Value} {t : TypeId} {k i : Nat} {v : Value} (hk : u.heap.size = k) (hv : cs[i]? = some v) : ((u.alloc (.cells cs t)).drew).cell? ⟨k, i, none⟩ = some v := by
  subst hk
  exact ((Lies.made u t cs).drew.cell i).trans hv
/-- What Read comes to. -/
def readR (r : Option (D3 × Int)) : D3 × Int × Int := match r with | some (d, u) => (d, u, 0) | none => ((0, 0, 0), 0, 13)
def DidRead (r : Option (D3 × Int)) (w : World) (e : Ending) (w' : World) : Prop :=
  e = .returned (.tuple #[.agg #[.int .i64 ((readR r).1.1), .int .i64 ((readR r).1.2.1), .int .i64 ((readR r).1.2.2)], .int .u8 (readR r).2.1, .int .i64 ((readR r).2.2)]) ∧ Below w.heap.size w w'
set_option maxRecDepth 100000 in
set_option maxHeartbeats 2000000 in
theorem Read_wrong (s : ByteArray) (w : World) (he : Env w) (hl : s.size ≤ 1000000) (hr : readS s = none) : Calls Tryd.prog 9 #[.string s] w (DidRead none w) := by
  have hmf : ∀ (fn : Fn) (first cap : Array Value) (w : World), (Instr.makeFunc fn first cap).run Tryd.prog w = .ok (.func fn first cap) w := fun _ _ _ _ => rfl
  have HR : Hid (∀ W, Below w.heap.size w W → Calls Tryd.prog 24 #[.string s] W (Panics W)) := Lib.hid (fun W hW => by
    have h := read_any s W (he.after hW) hl
    rw [hr] at h
    exact h)
  clear he hr
  go_enter_defers Tryd.func9, Tryd.ntmps9
  go_wp2_with fail
  refine (HR.out _ (by (repeat' (first | (with_reducible exact Below.refl _ _) | (with_reducible assumption) | (with_reducible refine Below.alloc ?_ ?_ _) | (with_reducible refine Below.setCell ?_ ?_ _) | (with_reducible refine below_row ?_ ?_ _) | (with_reducible refine Below.drew ?_) | (with_reducible refine below_drewN ?_ _) | (with_reducible refine Below.trans ?_ (Below.mono (by assumption) ?_)) | (first | exact Nat.le_refl _ | omega | (simp; done) | (simp; omega)))))).mono ?_
  rintro e w1 ⟨rfl, hb1⟩
  have s1 := hb1.size; try simp only [World.size_alloc, World.size_setCell, World.size_drew, setRow_size] at s1
  have L2 := Lib.hid ((((Lies.new (u := w) (t := 23) (cs := #[.int .i64 0, .int .i64 0, .int .i64 0]) rfl).alloc _).alloc _).after hb1)
  have L3 := Lib.hid (((Lies.new (u := w.alloc (.cells #[.int .i64 0, .int .i64 0, .int .i64 0] 23)) (t := 5) (cs := #[.int .u8 0]) rfl).alloc _).after hb1)
  have L4 := Lib.hid ((Lies.new (u := (w.alloc (.cells #[.int .i64 0, .int .i64 0, .int .i64 0] 23)).alloc (.cells #[.int .u8 0] 5)) (t := 24) (cs := #[.int .i64 0]) rfl).after hb1)
  simp only [World.size_alloc] at L2 L3 L4
  go_wp2
  refine leaves_cons (f := 23) (args := #[.pointer (some ⟨w.heap.size, 0, none⟩), .pointer (some ⟨w.heap.size + 1, 0, none⟩), .pointer (some ⟨w.heap.size + 1 + 1, 0, none⟩)]) (by simp) (by simp [go_sem]) ?_
  refine (catch_wrong _ _ _ 0 0 0 0 0 [] _ ⟨L2.out, L3.out, L4.out⟩).mono ?_
  rintro e u' w'' ⟨rfl, rfl, rfl⟩
  have n1 : w.heap.size ≠ w.heap.size + 1 := by omega
  have n2 : w.heap.size ≠ w.heap.size + 1 + 1 := by omega
  have n3 : w.heap.size + 1 ≠ w.heap.size + 1 + 1 := by omega
  have K2 := ((((L2.out.store 0 (.int .i64 0)).store 1 (.int .i64 0)).store 2 (.int .i64 0)).other (p := ⟨w.heap.size + 1, 0, none⟩) n1 (.int .u8 0)).other (p := ⟨w.heap.size + 1 + 1, 0, none⟩) n2 (.int .i64 13)
  have K3 := ((((L3.out.other (p := ⟨w.heap.size, 0, none⟩) n1.symm (.int .i64 0)).other (p := ⟨w.heap.size, 1, none⟩) n1.symm (.int .i64 0)).other (p := ⟨w.heap.size, 2, none⟩) n1.symm (.int .i64 0)).store 0 (.int .u8 0)).other (p := ⟨w.heap.size + 1 + 1, 0, none⟩) n3 (.int .i64 13)
  have K4 := ((((L4.out.other (p := ⟨w.heap.size, 0, none⟩) n2.symm (.int .i64 0)).other (p := ⟨w.heap.size, 1, none⟩) n2.symm (.int .i64 0)).other (p := ⟨w.heap.size, 2, none⟩) n2.symm (.int .i64 0)).other (p := ⟨w.heap.size + 1, 0, none⟩) n3.symm (.int .u8 0)).store 0 (.int .i64 13)
  exact ⟨_, results_ccc rfl _ _ w.heap.size (w.heap.size + 1) (w.heap.size + 1 + 1) _ _ _ _ _ _ _ _ _ rfl rfl rfl K2 K3 K4 Tryd.underlying23 rfl (by kernel_rfl) Tryd.underlying5 rfl Tryd.underlying24 rfl, rfl, by (repeat' (first | (with_reducible exact Below.refl _ _) | (with_reducible assumption) | (with_reducible refine Below.alloc ?_ ?_ _) | (with_reducible refine Below.setCell ?_ ?_ _) | (with_reducible refine below_row ?_ ?_ _) | (with_reducible refine Below.drew ?_) | (with_reducible refine below_drewN ?_ _) | (with_reducible refine Below.trans ?_ (Below.mono (by assumption) ?_)) | (first | exact Nat.le_refl _ | omega | (simp; done) | (simp; omega))))⟩
set_option maxRecDepth 100000 in
set_option maxHeartbeats 2000000 in
theorem Read_good (s : ByteArray) (w : World) (he : Env w) (hl : s.size ≤ 1000000) (n l u un : Int) (hr : readS s = some ((n, l, u), un)) : Calls Tryd.prog 9 #[.string s] w (DidRead (some ((n, l, u), un)) w) := by
  have hmf : ∀ (fn : Fn) (first cap : Array Value) (w : World), (Instr.makeFunc fn first cap).run Tryd.prog w = .ok (.func fn first cap) w := fun _ _ _ _ => rfl
  have HR : Hid (∀ W, Below w.heap.size w W → Calls Tryd.prog 24 #[.string s] W fun e w' => ∃ st pl m c1 c2, e = .returned (.agg #[.int .i64 n, .int .i64 l, .int .i64 u, .int .u8 un, .int .i64 st, .int .i64 pl, .string m, .func (.func 57) #[] #[.pointer (some ⟨c1, 0, none⟩)], .func (.func 58) #[] #[.pointer (some ⟨c1, 0, none⟩)], .func (.func 59) #[] #[.pointer (some ⟨c2, 0, none⟩), .pointer (some ⟨c1, 0, none⟩)]]) ∧ Below W.heap.size W w') := Lib.hid (fun W hW => by
    have h := read_any s W (he.after hW) hl
    rw [hr] at h
    refine h.mono ?_
    rintro e w' ⟨_, st, pl, m, c1, c2, rfl, h1, h2⟩
    exact ⟨st, pl, m, c1, c2, h1, h2⟩)
  clear he hr
  go_enter_defers Tryd.func9, Tryd.ntmps9
  go_wp2_with fail
  refine (HR.out _ (by (repeat' (first | (with_reducible exact Below.refl _ _) | (with_reducible assumption) | (with_reducible refine Below.alloc ?_ ?_ _) | (with_reducible refine Below.setCell ?_ ?_ _) | (with_reducible refine below_row ?_ ?_ _) | (with_reducible refine Below.drew ?_) | (with_reducible refine below_drewN ?_ _) | (with_reducible refine Below.trans ?_ (Below.mono (by assumption) ?_)) | (first | exact Nat.le_refl _ | omega | (simp; done) | (simp; omega)))))).mono ?_
  rintro e w1 ⟨st, pl, m, c1, c2, rfl, hb1⟩
  have s1 := hb1.size; try simp only [World.size_alloc, World.size_setCell, World.size_drew, setRow_size] at s1
  have L2 := Lib.hid ((((Lies.new (u := w) (t := 23) (cs := #[.int .i64 0, .int .i64 0, .int .i64 0]) rfl).alloc _).alloc _).after hb1)
  have L3 := Lib.hid (((Lies.new (u := w.alloc (.cells #[.int .i64 0, .int .i64 0, .int .i64 0] 23)) (t := 5) (cs := #[.int .u8 0]) rfl).alloc _).after hb1)
  have L4 := Lib.hid ((Lies.new (u := (w.alloc (.cells #[.int .i64 0, .int .i64 0, .int .i64 0] 23)).alloc (.cells #[.int .u8 0] 5)) (t := 24) (cs := #[.int .i64 0]) rfl).after hb1)
  simp only [World.size_alloc] at L2 L3 L4
  go_wp2_with fail
  obtain ⟨r0, r1, r2, f0, f1, f2⟩ := L2.out.c3
  have q0 := L3.out.cell 0
  have g0 := L3.out.free 0
  have t0 := L4.out.cell 0
  have h0 := L4.out.free 0
  have e1 : ¬ w1.heap.size = w.heap.size := by omega
  have e2 : ¬ w1.heap.size = w.heap.size + 1 := by omega
  have e3 : ¬ w1.heap.size = w.heap.size + 1 + 1 := by omega
  have e1' : ¬ w.heap.size = w1.heap.size := by omega
  have e2' : ¬ w.heap.size + 1 = w1.heap.size := by omega
  have e3' : ¬ w.heap.size + 1 + 1 = w1.heap.size := by omega
  have z2 := L2.out.lt
  have z3 := L3.out.lt
  have z4 := L4.out.lt
  go_region_held3 (fun W => W.cell? ⟨w1.heap.size, 0, none⟩ = some (.int .i64 n) ∧ W.cell? ⟨w1.heap.size, 1, none⟩ = some (.int .i64 l) ∧ W.cell? ⟨w1.heap.size, 2, none⟩ = some (.int .i64 u) ∧ W.cell? ⟨w1.heap.size, 3, none⟩ = some (.int .u8 un)) (first | exact ⟨cell_new (by simp only [World.size_setCell]) rfl, cell_new (by simp only [World.size_setCell]) rfl, cell_new (by simp only [World.size_setCell]) rfl, cell_new (by simp only [World.size_setCell]) rfl⟩ | go_keep) (fail)
  go_wp2
  refine leaves_cons (f := 23) (args := #[.pointer (some ⟨w.heap.size, 0, none⟩), .pointer (some ⟨w.heap.size + 1, 0, none⟩), .pointer (some ⟨w.heap.size + 1 + 1, 0, none⟩)]) (by simp) (by simp [go_sem]) ?_
  refine (catch_idle _ _ _ _).mono ?_
  rintro e u' w'' ⟨rfl, rfl, rfl⟩
  have n1 : w.heap.size ≠ w.heap.size + 1 := by omega
  have n2 : w.heap.size ≠ w.heap.size + 1 + 1 := by omega
  have n3 : w.heap.size + 1 ≠ w.heap.size + 1 + 1 := by omega
  have K2 := ((((L2.out.store 0 (.int .i64 n)).store 1 (.int .i64 l)).store 2 (.int .i64 u)).other (p := ⟨w.heap.size + 1, 0, none⟩) n1 (.int .u8 un)).other (p := ⟨w.heap.size + 1 + 1, 0, none⟩) n2 (.int .i64 0)
  have K3 := ((((L3.out.other (p := ⟨w.heap.size, 0, none⟩) n1.symm (.int .i64 n)).other (p := ⟨w.heap.size, 1, none⟩) n1.symm (.int .i64 l)).other (p := ⟨w.heap.size, 2, none⟩) n1.symm (.int .i64 u)).store 0 (.int .u8 un)).other (p := ⟨w.heap.size + 1 + 1, 0, none⟩) n3 (.int .i64 0)
  have K4 := ((((L4.out.other (p := ⟨w.heap.size, 0, none⟩) n2.symm (.int .i64 n)).other (p := ⟨w.heap.size, 1, none⟩) n2.symm (.int .i64 l)).other (p := ⟨w.heap.size, 2, none⟩) n2.symm (.int .i64 u)).other (p := ⟨w.heap.size + 1, 0, none⟩) n3.symm (.int .u8 un)).store 0 (.int .i64 0)
  exact ⟨_, results_ccc rfl _ _ w.heap.size (w.heap.size + 1) (w.heap.size + 1 + 1) _ _ _ _ _ _ _ _ _ rfl rfl rfl (K2.alloc _).drew (K3.alloc _).drew (K4.alloc _).drew Tryd.underlying23 rfl (by kernel_rfl) Tryd.underlying5 rfl Tryd.underlying24 rfl, rfl, by (repeat' (first | (with_reducible exact Below.refl _ _) | (with_reducible assumption) | (with_reducible refine Below.alloc ?_ ?_ _) | (with_reducible refine Below.setCell ?_ ?_ _) | (with_reducible refine below_row ?_ ?_ _) | (with_reducible refine Below.drew ?_) | (with_reducible refine below_drewN ?_ _) | (with_reducible refine Below.trans ?_ (Below.mono (by assumption) ?_)) | (first | exact Nat.le_refl _ | omega | (simp; done) | (simp; omega))))⟩
theorem Read_any (s : ByteArray) (w : World) (he : Env w) (hl : s.size ≤ 1000000) : Calls Tryd.prog 9 #[.string s] w (DidRead (readS s) w) := by
  cases h : readS s with
  | none => exact Read_wrong s w he hl h
  | some r => obtain ⟨⟨n, l, u⟩, un⟩ := r; exact Read_good s w he hl n l u un h
end Go.Proofs.YtjejjeomknkglaaDoor
