/- The walks of package size: whether a draft is exact. -/
import Derived.Test.YtjejjeomknkglaaDoorB4
import Derived.Test.YtjejjeomknkglaaDoorE0
namespace Go.Proofs.YtjejjeomknkglaaDoor
set_option linter.unusedVariables false
set_option linter.unusedSimpArgs false
open Go.RowKit

set_option maxHeartbeats 4000000 in
set_option maxRecDepth 100000 in
theorem exact_any (un st pl n l u : Int) (m : ByteArray) (b1 b2 : Nat) (w : World) (base : Nat) (ho : SOk w base st b1 b2) (hst : st = 100 ∨ st = 254) (hd : okD n l u = true) :
    Calls Tryd.prog 16 #[.agg #[.int .i64 n, .int .i64 l, .int .i64 u, .int .u8 un, .int .i64 st, .int .i64 pl, .string m, .func (.func 57) #[] #[.pointer (some ⟨b1, 0, none⟩)], .func (.func 58) #[] #[.pointer (some ⟨b1, 0, none⟩)], .func (.func 59) #[] #[.pointer (some ⟨b2, 0, none⟩), .pointer (some ⟨b1, 0, none⟩)]]] w fun e w' => e = .returned (.bool (exactS st n l u)) ∧ Below w.heap.size w w' := by
  have hx := exactS_iff hst hd
  obtain ⟨h1, h2, h3, h4, h5⟩ := okD_iff.1 hd
  have HA : Hid (∀ W, Below w.heap.size w W → Calls Tryd.prog 42 #[.agg #[.int .i64 n, .int .i64 l, .int .i64 u, .int .u8 un, .int .i64 st, .int .i64 pl, .string m, .func (.func 57) #[] #[.pointer (some ⟨b1, 0, none⟩)], .func (.func 58) #[] #[.pointer (some ⟨b1, 0, none⟩)], .func (.func 59) #[] #[.pointer (some ⟨b2, 0, none⟩), .pointer (some ⟨b1, 0, none⟩)]]] W fun e w' => e = .returned (.agg #[.int .i64 (nearS st n), .int .i64 (upS st l), .int .i64 (downS st u)]) ∧ Below W.heap.size W w') := Lib.hid (fun W (hW : Below w.heap.size w W) => again_any un st pl n l u m b1 b2 W base (ho.after hW) hst h1 (by omega) h3 (by omega) (by omega) (by omega))
  have HX : Hid ((exactS st n l u = true) = (nearS st n = n ∧ upS st l = l ∧ downS st u = u)) := Lib.hid (propext hx)
  clear hx ho hst hd
  generalize nearS st n = x at *
  generalize upS st l = y at *
  generalize downS st u = z at *
  have hcase : (exactS st n l u = true ∧ n = x ∧ l = y ∧ u = z) ∨ (exactS st n l u = false ∧ ¬ x = n) ∨ (exactS st n l u = false ∧ n = x ∧ ¬ y = l) ∨ (exactS st n l u = false ∧ n = x ∧ l = y ∧ ¬ z = u) := by
    have hh := HX.out
    by_cases e : exactS st n l u = true
    · rw [hh] at e; exact .inl ⟨hh.symm ▸ e, e.1.symm, e.2.1.symm, e.2.2.symm⟩
    · have e' : exactS st n l u = false := by simpa using e
      rw [hh] at e
      by_cases a : x = n
      · by_cases b : y = l
        · exact .inr (.inr (.inr ⟨e', a.symm, b.symm, fun c => e ⟨a, b, c⟩⟩))
        · exact .inr (.inr (.inl ⟨e', a.symm, b⟩))
      · exact .inr (.inl ⟨e', a⟩)
  clear HX
  rcases hcase with ⟨hE, rfl, rfl, rfl⟩ | ⟨hE, a⟩ | ⟨hE, rfl, b⟩ | ⟨hE, rfl, rfl, c⟩
  case' inr.inl => have hq : ∀ W, (binOp .eql 23 (.agg #[.int .i64 x, .int .i64 y, .int .i64 z]) (.agg #[.int .i64 n, .int .i64 l, .int .i64 u])).run Tryd.prog W = .ok (.bool false) W := fun W => by rw [eqD]; simp [a]
  case' inr.inr.inl => have hq : ∀ W, (binOp .eql 23 (.agg #[.int .i64 n, .int .i64 y, .int .i64 z]) (.agg #[.int .i64 n, .int .i64 l, .int .i64 u])).run Tryd.prog W = .ok (.bool false) W := fun W => by rw [eqD]; simp [b]
  case' inr.inr.inr => have hq : ∀ W, (binOp .eql 23 (.agg #[.int .i64 n, .int .i64 l, .int .i64 z]) (.agg #[.int .i64 n, .int .i64 l, .int .i64 u])).run Tryd.prog W = .ok (.bool false) W := fun W => by rw [eqD]; simp [c]
  all_goals
    rw [hE]
    clear hE
    go_enter Tryd.func16, Tryd.ntmps16
    go_wp2_with fail
    go_region_held3 (fun W => W.cell? ⟨w.heap.size, 0, none⟩ = some (.int .i64 n) ∧ W.cell? ⟨w.heap.size, 1, none⟩ = some (.int .i64 l) ∧ W.cell? ⟨w.heap.size, 2, none⟩ = some (.int .i64 u) ∧
      W.cell? ⟨w.heap.size, 3, none⟩ = some (.int .u8 un) ∧ W.cell? ⟨w.heap.size, 4, none⟩ = some (.int .i64 st) ∧ W.cell? ⟨w.heap.size, 5, none⟩ = some (.int .i64 pl) ∧ W.cell? ⟨w.heap.size, 6, none⟩ = some (.string m) ∧
      W.cell? ⟨w.heap.size, 7, none⟩ = some (.func (.func 57) #[] #[.pointer (some ⟨b1, 0, none⟩)]) ∧ W.cell? ⟨w.heap.size, 8, none⟩ = some (.func (.func 58) #[] #[.pointer (some ⟨b1, 0, none⟩)]) ∧
      W.cell? ⟨w.heap.size, 9, none⟩ = some (.func (.func 59) #[] #[.pointer (some ⟨b2, 0, none⟩), .pointer (some ⟨b1, 0, none⟩)])) (go_keep)
      (first | (go_at_call 42; refine (HA.out _ (by (repeat' (first | (with_reducible exact Below.refl _ _) | (with_reducible assumption) | (with_reducible refine Below.alloc ?_ ?_ _) | (with_reducible refine Below.setCell ?_ ?_ _) | (with_reducible refine below_row ?_ ?_ _) | (with_reducible refine Below.drew ?_) | (with_reducible refine below_drewN ?_ _) | (with_reducible refine Below.trans ?_ (Below.mono (by assumption) ?_)) | (first | exact Nat.le_refl _ | omega | (simp; done) | (simp; omega)))))).mono ?_; rintro e w' ⟨rfl, hb2⟩; have hw' : Below w.heap.size w w' := Below.trans (by (repeat' (first | (with_reducible exact Below.refl _ _) | (with_reducible assumption) | (with_reducible refine Below.alloc ?_ ?_ _) | (with_reducible refine Below.setCell ?_ ?_ _) | (with_reducible refine below_row ?_ ?_ _) | (with_reducible refine Below.drew ?_) | (with_reducible refine below_drewN ?_ _) | (with_reducible refine Below.trans ?_ (Below.mono (by assumption) ?_)) | (first | exact Nat.le_refl _ | omega | (simp; done) | (simp; omega))))) (hb2.mono (by simp)); have hb3 : Below (w.heap.size + 1) (w.alloc (.cells #[.int .i64 n, .int .i64 l, .int .i64 u, .int .u8 un, .int .i64 st, .int .i64 pl, .string m, .func (.func 57) #[] #[.pointer (some ⟨b1, 0, none⟩)], .func (.func 58) #[] #[.pointer (some ⟨b1, 0, none⟩)], .func (.func 59) #[] #[.pointer (some ⟨b2, 0, none⟩), .pointer (some ⟨b1, 0, none⟩)]] 48)) w' := Below.trans (by (repeat' (first | (with_reducible exact Below.refl _ _) | (with_reducible assumption) | (with_reducible refine Below.alloc ?_ ?_ _) | (with_reducible refine Below.setCell ?_ ?_ _) | (with_reducible refine below_row ?_ ?_ _) | (with_reducible refine Below.drew ?_) | (with_reducible refine below_drewN ?_ _) | (with_reducible refine Below.trans ?_ (Below.mono (by assumption) ?_)) | (first | exact Nat.le_refl _ | omega | (simp; done) | (simp; omega))))) (hb2.mono (by simp)); have LL := (Lies.made w 48 #[.int .i64 n, .int .i64 l, .int .i64 u, .int .u8 un, .int .i64 st, .int .i64 pl, .string m, .func (.func 57) #[] #[.pointer (some ⟨b1, 0, none⟩)], .func (.func 58) #[] #[.pointer (some ⟨b1, 0, none⟩)], .func (.func 59) #[] #[.pointer (some ⟨b2, 0, none⟩), .pointer (some ⟨b1, 0, none⟩)]]).keep hb3 (by simp); have c0 := LL.cell 0; have c1 := LL.cell 1; have c2 := LL.cell 2; have c3 := LL.cell 3; have c4 := LL.cell 4; have c5 := LL.cell 5; have c6 := LL.cell 6; have c7 := LL.cell 7; have c8 := LL.cell 8; have c9 := LL.cell 9; clear LL))
    all_goals
      go_wp2
      go_ret
      exact ⟨rfl, by (repeat' (first | (with_reducible exact Below.refl _ _) | (with_reducible assumption) | (with_reducible refine Below.alloc ?_ ?_ _) | (with_reducible refine Below.setCell ?_ ?_ _) | (with_reducible refine below_row ?_ ?_ _) | (with_reducible refine Below.drew ?_) | (with_reducible refine below_drewN ?_ _) | (with_reducible refine Below.trans ?_ (Below.mono (by assumption) ?_)) | (first | exact Nat.le_refl _ | omega | (simp; done) | (simp; omega))))⟩
end Go.Proofs.YtjejjeomknkglaaDoor
