/- The walks of package size: the functions of a scale, newScale. -/
import Derived.Test.YtjejjeomknkglaaDoorA1
import Derived.Laws.EntriesVeiled
namespace Go.Proofs.YtjejjeomknkglaaDoor
set_option linter.unusedVariables false
set_option linter.unusedSimpArgs false
open Go.RowKit

/-- A function that only reads: it returns v, and at most draws. -/
def Quietly (v : Value) (w : World) (e : Ending) (w' : World) : Prop := e = .returned v ∧ ∃ k, w' = w.drewN k

def upS (st n : Int) : Int := (n + st - 1) / st * st
def downS (st n : Int) : Int := n / st * st
def nearS (st n : Int) : Int := if downS st n + st - n < n - downS st n ∧ downS st n + st ≤ 1000000000 then downS st n + st else downS st n

set_option maxHeartbeats 400000 in
theorem up_any (n st : Int) (g : Nat) (w : World) (hc : w.cell? ⟨g, 0, none⟩ = some (.int .i64 st)) (h0 : 0 ≤ n) (h1 : n ≤ 1000000000000) (hst : st = 100 ∨ st = 254) :
    Calls Tryd.prog 57 #[.int .i64 n, .pointer (some ⟨g, 0, none⟩)] w (Quietly (.int .i64 (upS st n)) w) := by
  rcases hst with rfl | rfl
  all_goals
    go_enter Tryd.func57, Tryd.ntmps57
    go_wp2
    go_quiet (fail)
    go_wp2
    go_ret
    exact ⟨ret_int rfl, _, rfl⟩
set_option maxHeartbeats 400000 in
theorem down_any (n st : Int) (g : Nat) (w : World) (hc : w.cell? ⟨g, 0, none⟩ = some (.int .i64 st)) (h0 : 0 ≤ n) (h1 : n ≤ 1000000000000) (hst : st = 100 ∨ st = 254) :
    Calls Tryd.prog 58 #[.int .i64 n, .pointer (some ⟨g, 0, none⟩)] w (Quietly (.int .i64 (downS st n)) w) := by
  rcases hst with rfl | rfl
  all_goals
    go_enter Tryd.func58, Tryd.ntmps58
    go_wp2
    go_quiet (fail)
    go_wp2
    go_ret
    exact ⟨ret_int rfl, _, rfl⟩

theorem downS_bd {st n : Int} (h0 : 0 ≤ n) (hst : st = 100 ∨ st = 254) : 0 ≤ downS st n ∧ downS st n ≤ n ∧ n < downS st n + st := by
  unfold downS
  rcases hst with rfl | rfl <;> omega
theorem upS_bd {st n : Int} (h0 : 0 ≤ n) (hst : st = 100 ∨ st = 254) : n ≤ upS st n ∧ upS st n < n + st := by
  unfold upS
  rcases hst with rfl | rfl <;> omega
theorem nearS_cases (st n : Int) : (downS st n + st - n < n - downS st n ∧ downS st n + st ≤ 1000000000 ∧ nearS st n = downS st n + st) ∨ (downS st n + st - n < n - downS st n ∧ 1000000000 < downS st n + st ∧ nearS st n = downS st n) ∨ (n - downS st n ≤ downS st n + st - n ∧ nearS st n = downS st n) := by
  unfold nearS
  by_cases h1 : downS st n + st - n < n - downS st n
  · by_cases h2 : downS st n + st ≤ 1000000000
    · exact .inl ⟨h1, h2, if_pos ⟨h1, h2⟩⟩
    · exact .inr (.inl ⟨h1, by omega, if_neg (by omega)⟩)
  · exact .inr (.inr ⟨by omega, if_neg (by omega)⟩)

set_option maxHeartbeats 400000 in
theorem near_any (n st : Int) (g g2 : Nat) (w : World) (hc : w.cell? ⟨g, 0, none⟩ = some (.int .i64 st)) (hc2 : w.cell? ⟨g2, 0, none⟩ = some (.func (.func 58) #[] #[.pointer (some ⟨g, 0, none⟩)])) (h0 : 0 ≤ n) (h1 : n ≤ 1000000000000) (hst : st = 100 ∨ st = 254) :
    Calls Tryd.prog 59 #[.int .i64 n, .pointer (some ⟨g2, 0, none⟩), .pointer (some ⟨g, 0, none⟩)] w (Quietly (.int .i64 (nearS st n)) w) := by
  have HD := Lib.hid (down_any n st g w hc h0 h1 hst)
  obtain ⟨d0, d1, d2⟩ := downS_bd h0 hst
  have hn := nearS_cases st n
  have s1 : 1 ≤ st := by omega
  have s2 : st ≤ 254 := by omega
  clear hst
  generalize downS st n = d at *
  rcases hn with ⟨k1, k2, hn⟩ | ⟨k1, k2, hn⟩ | ⟨k1, hn⟩
  all_goals
    rw [hn]
    clear hn
    go_enter Tryd.func59, Tryd.ntmps59
    go_wp2_with fail
    refine HD.out.mono ?_
    rintro e w1 ⟨rfl, k, rfl⟩
    go_wp2
    go_ret
    exact ⟨ret_int rfl, _, rfl⟩
/-- What the functions of a scale have captured, in blocks from base on. -/
def SOk (w : World) (base : Nat) (st : Int) (b1 b2 : Nat) : Prop :=
  base ≤ b1 ∧ base ≤ b2 ∧ Lies w b1 3 #[.int .i64 st] ∧ Lies w b2 42 #[.func (.func 58) #[] #[.pointer (some ⟨b1, 0, none⟩)]]
section
variable {w w' : World} {base : Nat} {st : Int} {b1 b2 : Nat}
theorem SOk.c1 (h : SOk w base st b1 b2) : w.cell? ⟨b1, 0, none⟩ = some (.int .i64 st) := h.2.2.1.cell 0
theorem SOk.c2 (h : SOk w base st b1 b2) : w.cell? ⟨b2, 0, none⟩ = some (.func (.func 58) #[] #[.pointer (some ⟨b1, 0, none⟩)]) := h.2.2.2.cell 0
theorem SOk.after (h : SOk w base st b1 b2) (hb : Below w.heap.size w w') : SOk w' base st b1 b2 :=
  ⟨h.1, h.2.1, h.2.2.1.after hb, h.2.2.2.after hb⟩
theorem SOk.alloc (h : SOk w base st b1 b2) (o : Obj) : SOk (w.alloc o) base st b1 b2 := h.after ((Below.refl _ _).alloc (Nat.le_refl _) _)
theorem SOk.drewN (h : SOk w base st b1 b2) (k : Nat) : SOk (w.drewN k) base st b1 b2 := h
theorem SOk.row (h : SOk w base st b1 b2) {g : Nat} (hg : g < base) (cs : Array Value) : SOk (w.setRow g cs) base st b1 b2 :=
  ⟨h.1, h.2.1, h.2.2.1.elsewhere (by have := h.1; omega) cs, h.2.2.2.elsewhere (by have := h.2.1; omega) cs⟩
theorem SOk.from_ (h : SOk w base st b1 b2) {base' : Nat} (hb : base' ≤ base) : SOk w base' st b1 b2 := ⟨by have := h.1; omega, by have := h.2.1; omega, h.2.2.1, h.2.2.2⟩
theorem SOk.grown (h : SOk w base st b1 b2) {row : Option Nat} (hg : w.grownBy w' row) (h1 : row ≠ some b1) (h2 : row ≠ some b2) : SOk w' base st b1 b2 :=
  ⟨h.1, h.2.1, (hg.block b1 h.2.2.1.lt (Ne.symm h1)).trans h.2.2.1, (hg.block b2 h.2.2.2.lt (Ne.symm h2)).trans h.2.2.2⟩
end

def NewSc (u st pl : Int) (m : ByteArray) (w : World) (e : Ending) (w' : World) : Prop :=
  ∃ b1 b2, e = .returned (.agg #[.int .u8 u, .int .i64 st, .int .i64 pl, .string m, .func (.func 57) #[] #[.pointer (some ⟨b1, 0, none⟩)], .func (.func 58) #[] #[.pointer (some ⟨b1, 0, none⟩)], .func (.func 59) #[] #[.pointer (some ⟨b2, 0, none⟩), .pointer (some ⟨b1, 0, none⟩)]]) ∧ SOk w' w.heap.size st b1 b2 ∧ Below w.heap.size w w'
set_option maxHeartbeats 400000 in
theorem newScale_any (u st pl : Int) (m : ByteArray) (w : World) :
    Calls Tryd.prog 41 #[.int .u8 u, .int .i64 st, .int .i64 pl, .string m] w (NewSc u st pl m w) := by
  have hmf : ∀ (fn : Fn) (first cap : Array Value) (w : World), (Instr.makeFunc fn first cap).run Tryd.prog w = .ok (.func fn first cap) w := fun _ _ _ _ => rfl
  go_enter Tryd.func41, Tryd.ntmps41
  go_wp2
  refine bodyPost_ret (v := .agg #[.int .u8 u, .int .i64 st, .int .i64 pl, .string m, .func (.func 57) #[] #[.pointer (some ⟨w.heap.size, 0, none⟩)], .func (.func 58) #[] #[.pointer (some ⟨w.heap.size, 0, none⟩)], .func (.func 59) #[] #[.pointer (some ⟨w.heap.size + 1 + 1, 0, none⟩), .pointer (some ⟨w.heap.size, 0, none⟩)]]) (by simp [results, Tryd.results41, go_sem]) rfl ⟨_, _, rfl, ⟨Nat.le_refl _, by omega, ?_, ?_⟩, ?_⟩
  · exact ((Lies.new rfl).alloc _).alloc _
  · exact Lies.new (by simp)
  · (repeat' (first | (with_reducible exact Below.refl _ _) | (with_reducible assumption) | (with_reducible refine Below.alloc ?_ ?_ _) | (with_reducible refine Below.setCell ?_ ?_ _) | (with_reducible refine below_row ?_ ?_ _) | (with_reducible refine Below.drew ?_) | (with_reducible refine below_drewN ?_ _) | (with_reducible refine Below.trans ?_ (Below.mono (by assumption) ?_)) | (first | exact Nat.le_refl _ | omega | (simp; done) | (simp; omega))))

/-- The marks of the units. -/
def markMm : ByteArray := ⟨#[109, 109]⟩
def markIn : ByteArray := ⟨#[105, 110]⟩
def TwoSc (w : World) (e : Ending) (w' : World) : Prop :=
  ∃ b1 b2 b3 b4, e = .returned (.agg #[.int .u8 1, .int .i64 100, .int .i64 3, .string (⟨#[109, 109]⟩), .func (.func 57) #[] #[.pointer (some ⟨b1, 0, none⟩)], .func (.func 58) #[] #[.pointer (some ⟨b1, 0, none⟩)], .func (.func 59) #[] #[.pointer (some ⟨b2, 0, none⟩), .pointer (some ⟨b1, 0, none⟩)], .int .u8 2, .int .i64 254, .int .i64 4, .string (⟨#[105, 110]⟩), .func (.func 57) #[] #[.pointer (some ⟨b3, 0, none⟩)], .func (.func 58) #[] #[.pointer (some ⟨b3, 0, none⟩)], .func (.func 59) #[] #[.pointer (some ⟨b4, 0, none⟩), .pointer (some ⟨b3, 0, none⟩)]]) ∧ SOk w' w.heap.size 100 b1 b2 ∧ SOk w' w.heap.size 254 b3 b4 ∧ Below w.heap.size w w'
set_option maxHeartbeats 400000 in
theorem scales_any (w : World) :
    Calls Tryd.prog 15 #[] w (TwoSc w) := by
  go_enter Tryd.func15, Tryd.ntmps15
  go_wp2_with fail
  refine (newScale_any _ _ _ _ _).mono ?_
  rintro e w1 ⟨b1, b2, rfl, ho1, hb1⟩
  have s1 := hb1.size; try simp only [World.size_alloc, World.size_setCell, World.size_drew, setRow_size] at s1
  have LR := (Lies.new (u := w) (t := 45) (cs := #[.int .u8 0, .int .i64 0, .int .i64 0, .string ⟨#[]⟩, .nilFunc, .nilFunc, .nilFunc, .int .u8 0, .int .i64 0, .int .i64 0, .string ⟨#[]⟩, .nilFunc, .nilFunc, .nilFunc]) rfl).after hb1
  rw [World.size_alloc] at ho1
  have hO1 := Lib.hid ho1
  clear ho1
  go_wp2_with fail
  refine (newScale_any _ _ _ _ _).mono ?_
  rintro e w2 ⟨b3, b4, rfl, ho2, hb2⟩
  have s2 := hb2.size; try simp only [World.size_alloc, World.size_setCell, World.size_drew, setRow_size] at s2
  have LR2 := LR.after hb2
  have hO2 := Lib.hid ho2
  clear ho2 LR
  have HL := Lib.hid LR2
  clear LR2
  go_wp2_with (refine wpList_store_row rfl 45 _ _ rfl w.heap.size #[.int .u8 1, .int .i64 100, .int .i64 3, .string (⟨#[109, 109]⟩), .func (.func 57) #[] #[.pointer (some ⟨b1, 0, none⟩)], .func (.func 58) #[] #[.pointer (some ⟨b1, 0, none⟩)], .func (.func 59) #[] #[.pointer (some ⟨b2, 0, none⟩), .pointer (some ⟨b1, 0, none⟩)], .int .u8 2, .int .i64 254, .int .i64 4, .string (⟨#[105, 110]⟩), .func (.func 57) #[] #[.pointer (some ⟨b3, 0, none⟩)], .func (.func 58) #[] #[.pointer (some ⟨b3, 0, none⟩)], .func (.func 59) #[] #[.pointer (some ⟨b4, 0, none⟩), .pointer (some ⟨b3, 0, none⟩)]] rfl rfl _ _ HL.out (by kernel_rfl) rfl (by kernel_rfl) ?_)
  refine bodyPost_ret (results_cell_row rfl _ _ w.heap.size _ _ (0, 0) _ rfl (HL.out.row _) Tryd.underlying45 rfl (by kernel_rfl)) rfl ⟨b1, b2, b3, b4, rfl, ?_, ?_, ?_⟩
  · exact ((hO1.out.after hb2).row (by omega) _).from_ (by omega)
  · exact (hO2.out.row (by omega) _).from_ (by omega)
  · (repeat' (first | (with_reducible exact Below.refl _ _) | (with_reducible assumption) | (with_reducible refine Below.alloc ?_ ?_ _) | (with_reducible refine Below.setCell ?_ ?_ _) | (with_reducible refine below_row ?_ ?_ _) | (with_reducible refine Below.drew ?_) | (with_reducible refine below_drewN ?_ _) | (with_reducible refine Below.trans ?_ (Below.mono (by assumption) ?_)) | (first | exact Nat.le_refl _ | omega | (simp; done) | (simp; omega))))
end Go.Proofs.YtjejjeomknkglaaDoor
