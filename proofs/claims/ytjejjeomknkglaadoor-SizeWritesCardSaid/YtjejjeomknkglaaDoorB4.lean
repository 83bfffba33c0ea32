/- The walks of package size: a size drawn again. -/
import Derived.Test.YtjejjeomknkglaaDoorB3
import Derived.Deep.RegionHeld3
namespace Go.Proofs.YtjejjeomknkglaaDoor
set_option linter.unusedVariables false
set_option linter.unusedSimpArgs false
open Go.RowKit

/-- A size that is written out, and a scale: the cells of a draft. -/
def Again (st n l u : Int) (w : World) (e : Ending) (w' : World) : Prop := e = .returned (.agg #[.int .i64 (nearS st n), .int .i64 (upS st l), .int .i64 (downS st u)]) ∧ Below w.heap.size w w'

set_option maxHeartbeats 4000000 in
set_option maxRecDepth 100000 in
theorem again_any (un st pl n l u : Int) (m : ByteArray) (b1 b2 : Nat) (w : World) (base : Nat) (ho : SOk w base st b1 b2) (hst : st = 100 ∨ st = 254)
    (n0 : 0 ≤ n) (n1 : n ≤ 1000000000000) (l0 : 0 ≤ l) (l1 : l ≤ 1000000000000) (u0 : 0 ≤ u) (u1 : u ≤ 1000000000000) :
    Calls Tryd.prog 42 #[.agg #[.int .i64 n, .int .i64 l, .int .i64 u, .int .u8 un, .int .i64 st, .int .i64 pl, .string m, .func (.func 57) #[] #[.pointer (some ⟨b1, 0, none⟩)], .func (.func 58) #[] #[.pointer (some ⟨b1, 0, none⟩)], .func (.func 59) #[] #[.pointer (some ⟨b2, 0, none⟩), .pointer (some ⟨b1, 0, none⟩)]]] w (Again st n l u w) := by
  have h1 := ho.c1
  have h2 := ho.c2
  clear ho
  have k1 : b1 < w.heap.size := World.block_lt_of_cell? w _ h1
  have k2 : b2 < w.heap.size := World.block_lt_of_cell? w _ h2
  have HN := Lib.hid (fun W c1 c2 => near_any n st b1 b2 W c1 c2 n0 n1 hst)
  have HU := Lib.hid (fun W c1 => up_any l st b1 W c1 l0 l1 hst)
  have HD := Lib.hid (fun W c1 => down_any u st b1 W c1 u0 u1 hst)
  clear hst
  have e1 : ¬ b1 = w.heap.size + 1 := by omega
  have e2 : ¬ b2 = w.heap.size + 1 := by omega
  have e3 : ¬ w.heap.size + 1 = b1 := by omega
  have e4 : ¬ w.heap.size + 1 = b2 := by omega
  go_enter Tryd.func42, Tryd.ntmps42
  go_wp2_with fail
  go_region_held3 (fun W => W.cell? ⟨b1, 0, none⟩ = some (.int .i64 st) ∧ W.cell? ⟨b2, 0, none⟩ = some (.func (.func 58) #[] #[.pointer (some ⟨b1, 0, none⟩)]) ∧
    W.cell? ⟨w.heap.size, 0, none⟩ = some (.int .i64 n) ∧ W.cell? ⟨w.heap.size, 1, none⟩ = some (.int .i64 l) ∧ W.cell? ⟨w.heap.size, 2, none⟩ = some (.int .i64 u) ∧
    W.cell? ⟨w.heap.size, 7, none⟩ = some (.func (.func 57) #[] #[.pointer (some ⟨b1, 0, none⟩)]) ∧ W.cell? ⟨w.heap.size, 8, none⟩ = some (.func (.func 58) #[] #[.pointer (some ⟨b1, 0, none⟩)]) ∧
    W.cell? ⟨w.heap.size, 9, none⟩ = some (.func (.func 59) #[] #[.pointer (some ⟨b2, 0, none⟩), .pointer (some ⟨b1, 0, none⟩)])) (go_keep)
    (first | (go_at_call 59; refine (HN.out _ ?_ ?_).mono ?_; (simp [*]); (simp [*]); rintro e w' ⟨rfl, k, rfl⟩) | (go_at_call 57; refine (HU.out _ ?_).mono ?_; (simp [*]); rintro e w' ⟨rfl, k, rfl⟩) | (go_at_call 58; refine (HD.out _ ?_).mono ?_; (simp [*]); rintro e w' ⟨rfl, k, rfl⟩))
  go_wp2
  refine bodyPost_ret (v := .agg #[.int .i64 (nearS st n), .int .i64 (upS st l), .int .i64 (downS st u)]) (by simp [results, Tryd.results42, go_sem]) rfl ⟨rfl, ?_⟩
  (repeat' (first | (with_reducible exact Below.refl _ _) | (with_reducible assumption) | (with_reducible refine Below.alloc ?_ ?_ _) | (with_reducible refine Below.setCell ?_ ?_ _) | (with_reducible refine below_row ?_ ?_ _) | (with_reducible refine Below.drew ?_) | (with_reducible refine below_drewN ?_ _) | (with_reducible refine Below.trans ?_ (Below.mono (by assumption) ?_)) | (first | exact Nat.le_refl _ | omega | (simp; done) | (simp; omega))))

/-- Drawn again nothing moves. -/
def exactS (st n l u : Int) : Bool := decide (n % st = 0 ∧ l % st = 0 ∧ u % st = 0)
theorem exactS_iff {st n l u : Int} (hst : st = 100 ∨ st = 254) (hd : okD n l u = true) : exactS st n l u = true ↔ (nearS st n = n ∧ upS st l = l ∧ downS st u = u) := by
  obtain ⟨h1, h2, h3, h4, h5⟩ := okD_iff.1 hd
  have hn := nearS_cases st n
  generalize nearS st n = x at *
  simp only [exactS, decide_eq_true_eq, upS, downS] at *
  rcases hst with rfl | rfl <;> omega
end Go.Proofs.YtjejjeomknkglaaDoor
