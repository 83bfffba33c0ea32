/- The walks of package size: read. -/
import Derived.Test.YtjejjeomknkglaaDoorT6
import Derived.Test.YtjejjeomknkglaaDoorT7
import Derived.Test.YtjejjeomknkglaaDoorT3
import Derived.Test.YtjejjeomknkglaaDoorA2
namespace Go.Proofs.YtjejjeomknkglaaDoor
set_option linter.unusedVariables false
set_option linter.unusedSimpArgs false
open Go.RowKit

/-- The words of a text, four at most. -/
def piecesB (s : ByteArray) : List ByteArray := Lib.splitB ⟨#[32]⟩ 0 (min 4 (s.size + 1) - 1) s
/-- A size and its unit that a text is of; none of a wrong one. -/
def readU (un st : Int) (pl : Nat) (mk a b c s : ByteArray) : Option (D3 × Int) :=
  match numL st a.data.toList, numL st b.data.toList, numL st c.data.toList with
  | some n, some l, some u => if okD n (n + l) (n + u) = true ∧ bs (textL st pl mk.data.toList n (n + l) (n + u)) = s then some ((n, n + l, n + u), un) else none
  | _, _, _ => none
def readS (s : ByteArray) : Option (D3 × Int) :=
  match piecesB s with
  | [a, b, c, m] => if m = ⟨#[109, 109]⟩ then readU 1 100 3 m a b c s else if m = ⟨#[105, 110]⟩ then readU 2 254 4 m a b c s else none
  | _ => none

def wrongP : List PanicEntry := [{ v := .iface 57 (.agg #[]), recovered := false }]
/-- read has a text that is wrong. -/
def Panics (w : World) (e : Ending) (w' : World) : Prop := e = .panicked wrongP ∧ Below w.heap.size w w'

theorem env_max {w : World} (he : Env w) : ∃ m, w.cell? ⟨0, 0, none⟩ = some (.int .i64 m) := he.2

set_option maxHeartbeats 1000000 in
theorem read_few (s : ByteArray) (w : World) (he : Env w) (hl : s.size ≤ 1000000) (hp : (piecesB s).length < 4) :
    Calls Tryd.prog 24 #[.string s] w (Panics w) := by
  have HE := Lib.hid (fun W (hW : Below w.heap.size w W) => he.after hW)
  have hp' : ((piecesB s).length : Int) < 4 := by omega
  have HS : Hid (∀ W, Below w.heap.size w W → Calls Tryd.prog 50 #[.string s, .string ⟨#[32]⟩, .int .i64 4] W fun e w' => e = .returned (.slice (some ⟨W.heap.size, 0, none⟩) (piecesB s).length (min 4 (s.size + 1))) ∧ w' = W.alloc (.cells (Lib.cellsOf (piecesB s) (min 4 (s.size + 1))) 9)) := Lib.hid (fun W hW => by
    obtain ⟨mx, hmx⟩ := (HE.out W hW).2
    exact Tryd.strings_SplitN s ⟨#[32]⟩ 4 mx W (by omega) hmx (by decide) (by omega) (by omega))
  generalize piecesB s = ps at *
  generalize min 4 (s.size + 1) = N at *
  clear he HE hp
  go_enter Tryd.func24, Tryd.ntmps24
  go_wp2_with fail
  refine (HS.out _ (by (repeat' (first | (with_reducible exact Below.refl _ _) | (with_reducible assumption) | (with_reducible refine Below.alloc ?_ ?_ _) | (with_reducible refine Below.setCell ?_ ?_ _) | (with_reducible refine below_row ?_ ?_ _) | (with_reducible refine Below.drew ?_) | (with_reducible refine below_drewN ?_ _) | (with_reducible refine Below.trans ?_ (Below.mono (by assumption) ?_)) | (first | exact Nat.le_refl _ | omega | (simp; done) | (simp; omega)))))).mono ?_
  rintro e w1 ⟨rfl, rfl⟩
  go_wp2
  exact body_panic rfl ⟨rfl, by (repeat' (first | (with_reducible exact Below.refl _ _) | (with_reducible assumption) | (with_reducible refine Below.alloc ?_ ?_ _) | (with_reducible refine Below.setCell ?_ ?_ _) | (with_reducible refine below_row ?_ ?_ _) | (with_reducible refine Below.drew ?_) | (with_reducible refine below_drewN ?_ _) | (with_reducible refine Below.trans ?_ (Below.mono (by assumption) ?_)) | (first | exact Nat.le_refl _ | omega | (simp; done) | (simp; omega))))⟩
/-- SplitN, where it gives four words. -/
theorem split_four (s a b c p : ByteArray) (w : World) (he : Env w) (hl : s.size ≤ 1000000) (hp : piecesB s = [a, b, c, p]) :
    ∀ W, Below w.heap.size w W → Calls Tryd.prog 50 #[.string s, .string ⟨#[32]⟩, .int .i64 4] W fun e w' => e = .returned (.slice (some ⟨W.heap.size, 0, none⟩) 4 4) ∧ w' = W.alloc (.cells #[.string a, .string b, .string c, .string p] 9) := fun W hW => by
  obtain ⟨mx, hmx⟩ := (he.after hW).2
  have h := Tryd.strings_SplitN s ⟨#[32]⟩ 4 mx W (by omega) hmx (by decide) (by omega) (by omega)
  have hN : min 4 (s.size + 1) = 4 := by
    have h4 := Lib.splitB_length_le ⟨#[32]⟩ 0 (min 4 (s.size + 1) - 1) s
    rw [show Lib.splitB ⟨#[32]⟩ 0 (min 4 (s.size + 1) - 1) s = piecesB s from rfl, hp] at h4
    simp only [List.length_cons, List.length_nil] at h4
    omega
  rw [show Lib.splitB ⟨#[32]⟩ 0 (min 4 (s.size + 1) - 1) s = piecesB s from rfl, hp, hN] at h
  exact h
set_option maxHeartbeats 2000000 in
theorem read_mark (s a b c p : ByteArray) (w : World) (he : Env w) (hl : s.size ≤ 1000000) (hp : piecesB s = [a, b, c, p]) (h5 : ((⟨#[109, 109]⟩ : ByteArray).toList == p.toList) = false) (h6 : ((⟨#[105, 110]⟩ : ByteArray).toList == p.toList) = false) :
    Calls Tryd.prog 24 #[.string s] w (Panics w) := by
  have HS := Lib.hid (split_four s a b c p w he hl hp)
  have HF := Lib.hid (fun bl ba cap g W h => firstM_0 p bl ba cap g W h h5 h6)
  clear he hp h5 h6
  go_enter Tryd.func24, Tryd.ntmps24
  go_wp2_with fail
  refine (HS.out _ (by (repeat' (first | (with_reducible exact Below.refl _ _) | (with_reducible assumption) | (with_reducible refine Below.alloc ?_ ?_ _) | (with_reducible refine Below.setCell ?_ ?_ _) | (with_reducible refine below_row ?_ ?_ _) | (with_reducible refine Below.drew ?_) | (with_reducible refine below_drewN ?_ _) | (with_reducible refine Below.trans ?_ (Below.mono (by assumption) ?_)) | (first | exact Nat.le_refl _ | omega | (simp; done) | (simp; omega)))))).mono ?_
  rintro e w1 ⟨rfl, rfl⟩
  go_wp2_with fail
  refine (scales_any _).mono ?_
  rintro e w2 ⟨b1, b2, b3, b4, rfl, -, -, hb2⟩
  have s2 := hb2.size; try simp only [World.size_alloc, World.size_setCell, World.size_drew, setRow_size] at s2
  have LA := Lib.hid (((Lies.new (u := w.alloc (.cells #[.int .i64 0, .int .i64 0, .int .i64 0, .int .u8 0, .int .i64 0, .int .i64 0, .string ⟨#[]⟩, .nilFunc, .nilFunc, .nilFunc] 48)) (t := 9) (cs := #[.string a, .string b, .string c, .string p]) rfl).alloc _).after hb2)
  have LL := Lib.hid ((Lies.new (u := (w.alloc (.cells #[.int .i64 0, .int .i64 0, .int .i64 0, .int .u8 0, .int .i64 0, .int .i64 0, .string ⟨#[]⟩, .nilFunc, .nilFunc, .nilFunc] 48)).alloc (.cells #[.string a, .string b, .string c, .string p] 9)) (t := 61) (cs := #[.slice (some ⟨w.heap.size + 1, 0, none⟩) 4 4]) rfl).after hb2)
  simp only [World.size_alloc] at LA LL
  go_wp2_with fail
  refine (HF.out _ _ 4 _ _ ⟨(LL.out.alloc _).cell 0, (LA.out.alloc _).cell 3, b1, b2, b3, b4, Lies.new rfl⟩).mono ?_
  rintro e w3 ⟨rfl, hb3⟩
  have s3 := hb3.size; try simp only [World.size_alloc, World.size_setCell, World.size_drew, setRow_size] at s3
  go_wp2
  exact body_panic rfl ⟨rfl, by (repeat' (first | (with_reducible exact Below.refl _ _) | (with_reducible assumption) | (with_reducible refine Below.alloc ?_ ?_ _) | (with_reducible refine Below.setCell ?_ ?_ _) | (with_reducible refine below_row ?_ ?_ _) | (with_reducible refine Below.drew ?_) | (with_reducible refine below_drewN ?_ _) | (with_reducible refine Below.trans ?_ (Below.mono (by assumption) ?_)) | (first | exact Nat.le_refl _ | omega | (simp; done) | (simp; omega))))⟩

def Has (st : Int) (x : ByteArray) : Prop := (∃ v, numL st x.data.toList = some v) ∧ x.size ≤ 1000000
def Lacks (st : Int) (x : ByteArray) : Prop := numL st x.data.toList = none ∧ x.size ≤ 1000000
end Go.Proofs.YtjejjeomknkglaaDoor
