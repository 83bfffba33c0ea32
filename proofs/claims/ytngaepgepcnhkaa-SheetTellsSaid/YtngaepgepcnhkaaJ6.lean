/- The desk's small functions: nameOf, place; needs and its closure. -/
import Derived.Test.YtngaepgepcnhkaaJ4
import Derived.Test.YtngaepgepcnhkaaJ5
import Derived.Test.YtngaepgepcnhkaaH4
namespace Go.Proofs.Ytngaepgepcnhkaa
set_option linter.unusedVariables false
set_option linter.unusedSimpArgs false
open Go.RowKit Go.Shelf
attribute [local go_sem] Oper.semAt_some

set_option maxHeartbeats 400000 in
theorem nameOf_any (d l k : Int) (vi vd : Value) (w : World) : Calls Try.prog 83 #[.agg #[.int .i64 d, .int .i64 l, .int .u8 k, vi, vd]] w fun e w' => e = .returned (.agg #[.int .i64 d, .int .i64 l]) ∧ Below w.heap.size w w' := by
  go_enter Try.func83, Try.ntmps83
  go_wp2
  exact bodyPost_ret (v := .agg #[.int .i64 d, .int .i64 l]) (by simp [results, Try.results83, go_sem]) rfl ⟨rfl, by (repeat' (first | (with_reducible exact Below.refl _ _) | (with_reducible assumption) | (with_reducible refine Below.alloc ?_ ?_ _) | (with_reducible refine Below.setCell ?_ ?_ _) | (with_reducible refine below_row ?_ ?_ _) | (with_reducible refine Below.drew ?_) | (with_reducible refine below_drewN ?_ _) | (with_reducible refine Below.trans ?_ (Below.mono (by assumption) ?_)) | (first | exact Nat.le_refl _ | omega | (simp; done) | (simp; omega) | (exact Below.size (by assumption)))))⟩
/-- What place tells. -/
def PlaceAt (zs : List Int) (t : Int) (w : World) (e : Ending) (w' : World) : Prop :=
  ∃ r : Nat, r ≤ zs.length ∧ (∀ i (h : i < zs.length), i < r → zs[i] < t) ∧ (∀ i (h : i < zs.length), r ≤ i → t ≤ zs[i]) ∧ e = .returned (.tuple #[.int .i64 r, .bool (decide (t ∈ zs))]) ∧ Below w.heap.size w w'
set_option maxHeartbeats 400000 in
theorem place_any (vI vD : Value) (A : Option Addr) (c b off : Nat) (l : List Int) (t : Int) (w : World) (hs : l.Pairwise (· < ·)) (hA : 0 < l.length → A = some ⟨b, off, none⟩) (hl : l.length ≤ 1000) (hc : ∀ i (h : i < l.length), w.cell? ⟨b, off + i, none⟩ = some (.int .i64 (l[i]))) :
    Calls Try.prog 72 #[.agg #[vI, .slice A l.length c, vD], .int .i64 t] w (PlaceAt l t w) := by
  have HB := Lib.hid (bSearch_any A c b off l t (w.alloc (.cells #[vI, .slice A l.length c, vD] 118)) hs hA hl (fun i h => cell_keep ((Below.refl _ _).alloc (Nat.le_refl _) _) (hc i h)))
  clear hc hA hs
  go_enter Try.func72, Try.ntmps72
  go_wp2_with fail
  refine HB.out.mono ?_
  rintro e w1 ⟨r, hr, h1, h2, rfl, rfl⟩
  have H1 := Lib.hid h1
  have H2 := Lib.hid h2
  clear h1 h2
  go_wp2
  go_ret2
  exact ⟨r, hr, H1.out, H2.out, rfl, by (repeat' (first | (with_reducible exact Below.refl _ _) | (with_reducible assumption) | (with_reducible refine Below.alloc ?_ ?_ _) | (with_reducible refine Below.setCell ?_ ?_ _) | (with_reducible refine below_row ?_ ?_ _) | (with_reducible refine Below.drew ?_) | (with_reducible refine below_drewN ?_ _) | (with_reducible refine Below.trans ?_ (Below.mono (by assumption) ?_)) | (first | exact Nat.le_refl _ | omega | (simp; done) | (simp; omega) | (exact Below.size (by assumption)))))⟩

set_option maxHeartbeats 400000 in
theorem needs1_any (S : Int → Bool) (m n g : Nat) (x c : Int) (w : World) (hx : NIn x) (hm : BMap w m n S) (hg : Lies w g 112 #[.map (some m)]) :
    Calls Try.prog 137 #[.agg #[.int .i64 x, .int .i64 c], .pointer (some ⟨g, 0, none⟩)] w fun e w' => e = .returned (.bool (S x)) ∧ Below w.heap.size w w' := by
  have hl := (hm.alloc (.cells #[.int .i64 x, .int .i64 c] 52)).look hx
  have g0 := (hg.alloc (.cells #[.int .i64 x, .int .i64 c] 52)).cell 0
  have zg := hg.lt
  generalize S x = r at *
  clear hm hg
  go_enter Try.func137, Try.ntmps137
  go_wp2
  go_ret
  exact ⟨rfl, by (repeat' (first | (with_reducible exact Below.refl _ _) | (with_reducible assumption) | (with_reducible refine Below.alloc ?_ ?_ _) | (with_reducible refine Below.setCell ?_ ?_ _) | (with_reducible refine below_row ?_ ?_ _) | (with_reducible refine Below.drew ?_) | (with_reducible refine below_drewN ?_ _) | (with_reducible refine Below.trans ?_ (Below.mono (by assumption) ?_)) | (first | exact Nat.le_refl _ | omega | (simp; done) | (simp; omega) | (exact Below.size (by assumption)))))⟩
theorem enter_n1 : ∀ (args : Array Value) (W : World), (callFunc 137 args).run Try.prog W = .ok (.enter 137 args) W := enters_of Try.func137 (by kernel_rfl) rfl
end Go.Proofs.Ytngaepgepcnhkaa
