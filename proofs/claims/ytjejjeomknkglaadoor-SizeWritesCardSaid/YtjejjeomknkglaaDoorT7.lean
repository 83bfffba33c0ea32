/- The walks of package size: the scale of a mark. -/
import Derived.Test.YtjejjeomknkglaaDoorB2
namespace Go.Proofs.YtjejjeomknkglaaDoor
set_option linter.unusedVariables false
set_option linter.unusedSimpArgs false
open Go.RowKit

set_option maxHeartbeats 400000 in
theorem ofMark_any (un st pl : Int) (m p : ByteArray) (b1 b2 bl ba cap : Nat) (r : Bool) (W : World) (h1 : W.cell? ⟨bl, 0, none⟩ = some (.slice (some ⟨ba, 0, none⟩) 4 cap)) (h2 : W.cell? ⟨ba, 3, none⟩ = some (.string p)) (hr : (m.toList == p.toList) = r) :
    Calls Tryd.prog 51 #[.agg #[.int .u8 un, .int .i64 st, .int .i64 pl, .string m, .func (.func 57) #[] #[.pointer (some ⟨b1, 0, none⟩)], .func (.func 58) #[] #[.pointer (some ⟨b1, 0, none⟩)], .func (.func 59) #[] #[.pointer (some ⟨b2, 0, none⟩), .pointer (some ⟨b1, 0, none⟩)]], .pointer (some ⟨bl, 0, none⟩)] W (Says r W) := by
  have z1 : bl < W.heap.size := World.block_lt_of_cell? W _ h1
  have z2 : ba < W.heap.size := World.block_lt_of_cell? W _ h2
  go_enter Tryd.func51, Tryd.ntmps51
  go_wp2
  go_quiet (fail)
  go_wp2
  go_ret
  exact ⟨rfl, by (repeat' (first | (with_reducible exact Below.refl _ _) | (with_reducible assumption) | (with_reducible refine Below.alloc ?_ ?_ _) | (with_reducible refine Below.setCell ?_ ?_ _) | (with_reducible refine below_row ?_ ?_ _) | (with_reducible refine Below.drew ?_) | (with_reducible refine below_drewN ?_ _) | (with_reducible refine Below.trans ?_ (Below.mono (by assumption) ?_)) | (first | exact Nat.le_refl _ | omega | (simp; done) | (simp; omega))))⟩
theorem enter_ofMark (args : Array Value) (W : World) : (callFunc 51 args).run Tryd.prog W = .ok (.enter 51 args) W := by
  simp [go_sem]
/-- What first comes to: a scale. -/
def FoundSc (un st pl : Int) (m : ByteArray) (w : World) (e : Ending) (w' : World) : Prop :=
  (∃ c1 c2, e = .returned (.tuple #[.agg #[.int .u8 un, .int .i64 st, .int .i64 pl, .string m, .func (.func 57) #[] #[.pointer (some ⟨c1, 0, none⟩)], .func (.func 58) #[] #[.pointer (some ⟨c1, 0, none⟩)], .func (.func 59) #[] #[.pointer (some ⟨c2, 0, none⟩), .pointer (some ⟨c1, 0, none⟩)]], .bool true])) ∧ Below w.heap.size w w'
/-- The array of the scales, and the words, as the call of first has them. -/
def Ready (p : ByteArray) (bl ba cap g : Nat) (W : World) : Prop :=
  W.cell? ⟨bl, 0, none⟩ = some (.slice (some ⟨ba, 0, none⟩) 4 cap) ∧ W.cell? ⟨ba, 3, none⟩ = some (.string p) ∧
  ∃ b1 b2 b3 b4, Lies W g 45 #[.int .u8 1, .int .i64 100, .int .i64 3, .string (⟨#[109, 109]⟩), .func (.func 57) #[] #[.pointer (some ⟨b1, 0, none⟩)], .func (.func 58) #[] #[.pointer (some ⟨b1, 0, none⟩)], .func (.func 59) #[] #[.pointer (some ⟨b2, 0, none⟩), .pointer (some ⟨b1, 0, none⟩)], .int .u8 2, .int .i64 254, .int .i64 4, .string (⟨#[105, 110]⟩), .func (.func 57) #[] #[.pointer (some ⟨b3, 0, none⟩)], .func (.func 58) #[] #[.pointer (some ⟨b3, 0, none⟩)], .func (.func 59) #[] #[.pointer (some ⟨b4, 0, none⟩), .pointer (some ⟨b3, 0, none⟩)]]
theorem firstM_1 (bl ba cap g : Nat) (W : World) (h : Ready ⟨#[109, 109]⟩ bl ba cap g W) :
    Calls Tryd.prog 44 #[.slice (some ⟨g, 0, none⟩) 2 2, .func (.func 51) #[] #[.pointer (some ⟨bl, 0, none⟩)]] W (FoundSc 1 100 3 ⟨#[109, 109]⟩ W) := by
  obtain ⟨h1, h2, b1, b2, b3, b4, h3⟩ := h
  refine (firstS_1 51 g 2 (.pointer (some ⟨bl, 0, none⟩)) 1 100 3 2 254 4 _ _ b1 b2 b3 b4 W enter_ofMark h3 (fun W' hW => ofMark_any _ _ _ _ _ _ _ bl ba cap true W' (cell_later hW h1) (cell_later hW h2) (by simp))).mono ?_
  rintro e w' ⟨rfl, hb⟩
  exact ⟨⟨_, _, rfl⟩, hb⟩
theorem firstM_2 (bl ba cap g : Nat) (W : World) (h : Ready ⟨#[105, 110]⟩ bl ba cap g W) :
    Calls Tryd.prog 44 #[.slice (some ⟨g, 0, none⟩) 2 2, .func (.func 51) #[] #[.pointer (some ⟨bl, 0, none⟩)]] W (FoundSc 2 254 4 ⟨#[105, 110]⟩ W) := by
  obtain ⟨h1, h2, b1, b2, b3, b4, h3⟩ := h
  refine (firstS_2 51 g 2 (.pointer (some ⟨bl, 0, none⟩)) 1 100 3 2 254 4 _ _ b1 b2 b3 b4 W enter_ofMark h3 (fun W' hW => ofMark_any _ _ _ _ _ _ _ bl ba cap false W' (cell_later hW h1) (cell_later hW h2) (by decide +kernel)) (fun W' hW => ofMark_any _ _ _ _ _ _ _ bl ba cap true W' (cell_later hW h1) (cell_later hW h2) (by simp))).mono ?_
  rintro e w' ⟨rfl, hb⟩
  exact ⟨⟨_, _, rfl⟩, hb⟩
theorem firstM_0 (p : ByteArray) (bl ba cap g : Nat) (W : World) (h : Ready p bl ba cap g W) (h5 : ((⟨#[109, 109]⟩ : ByteArray).toList == p.toList) = false) (h6 : ((⟨#[105, 110]⟩ : ByteArray).toList == p.toList) = false) :
    Calls Tryd.prog 44 #[.slice (some ⟨g, 0, none⟩) 2 2, .func (.func 51) #[] #[.pointer (some ⟨bl, 0, none⟩)]] W fun e w' => e = .returned (.tuple #[.agg #[.int .u8 0, .int .i64 0, .int .i64 0, .string ⟨#[]⟩, .nilFunc, .nilFunc, .nilFunc], .bool false]) ∧ Below W.heap.size W w' := by
  obtain ⟨h1, h2, b1, b2, b3, b4, h3⟩ := h
  exact firstS_0 51 g 2 (.pointer (some ⟨bl, 0, none⟩)) 1 100 3 2 254 4 _ _ b1 b2 b3 b4 W enter_ofMark h3 (fun W' hW => ofMark_any _ _ _ _ _ _ _ bl ba cap false W' (cell_later hW h1) (cell_later hW h2) h5) (fun W' hW => ofMark_any _ _ _ _ _ _ _ bl ba cap false W' (cell_later hW h1) (cell_later hW h2) h6)
end Go.Proofs.YtjejjeomknkglaaDoor
