/- The walks of package size: Write. -/
import Derived.Test.YtjejjeomknkglaaDoorT3
import Derived.Test.YtjejjeomknkglaaDoorC1
namespace Go.Proofs.YtjejjeomknkglaaDoor
set_option linter.unusedVariables false
set_option linter.unusedSimpArgs false
open Go.RowKit

def mmL : List UInt8 := [109, 109]
def inL : List UInt8 := [105, 110]
/-- What Write returns. -/
def writeS (un n l u : Int) : List UInt8 × Int :=
  if okD n l u = false then ([], 10) else if un = 1 then (if exactS 100 n l u = true then (textL 100 3 mmL n l u, 0) else ([], 12))
  else if un = 2 then (if exactS 254 n l u = true then (textL 254 4 inL n l u, 0) else ([], 12)) else ([], 11)
def Wrote (r : List UInt8 × Int) (w : World) (e : Ending) (w' : World) : Prop := e = .returned (.tuple #[.string (bs r.1), .int .i64 r.2]) ∧ Below w.heap.size w w'

set_option maxHeartbeats 1000000 in
theorem Write_bad (un n l u : Int) (w : World) (h : okD n l u = false) :
    Calls Tryd.prog 7 #[.agg #[.int .i64 n, .int .i64 l, .int .i64 u], .int .u8 un] w (Wrote ([], 10) w) := by
  go_enter Tryd.func7, Tryd.ntmps7
  go_wp2_with fail
  refine (Check_no n l u _ h).mono ?_
  rintro e w1 ⟨rfl, hb1⟩
  have s1 := hb1.size; try simp only [World.size_alloc, World.size_setCell, World.size_drew, setRow_size] at s1
  go_wp2_with fail
  go_ret2
  exact ⟨rfl, by (repeat' (first | (with_reducible exact Below.refl _ _) | (with_reducible assumption) | (with_reducible refine Below.alloc ?_ ?_ _) | (with_reducible refine Below.setCell ?_ ?_ _) | (with_reducible refine below_row ?_ ?_ _) | (with_reducible refine Below.drew ?_) | (with_reducible refine below_drewN ?_ _) | (with_reducible refine Below.trans ?_ (Below.mono (by assumption) ?_)) | (first | exact Nat.le_refl _ | omega | (simp; done) | (simp; omega))))⟩
set_option maxHeartbeats 1000000 in
theorem Write_unit (un n l u : Int) (w : World) (h : okD n l u = true) (h1 : ¬ un = 1) (h2 : ¬ un = 2) :
    Calls Tryd.prog 7 #[.agg #[.int .i64 n, .int .i64 l, .int .i64 u], .int .u8 un] w (Wrote ([], 11) w) := by
  have e1 : ((1 : Int) == un) = false := by rw [beq_eq_false_iff_ne]; omega
  have e2 : ((2 : Int) == un) = false := by rw [beq_eq_false_iff_ne]; omega
  have HS := Lib.hid (fun W => scaleOf_0 un e1 e2 W)
  clear e1 e2 h1 h2
  go_enter Tryd.func7, Tryd.ntmps7
  go_wp2_with fail
  refine (Check_ok n l u _ h).mono ?_
  rintro e w1 ⟨rfl, hb1⟩
  have s1 := hb1.size; try simp only [World.size_alloc, World.size_setCell, World.size_drew, setRow_size] at s1
  go_wp2_with fail
  refine (HS.out _).mono ?_
  rintro e w2 ⟨rfl, hb2⟩
  have s2 := hb2.size; try simp only [World.size_alloc, World.size_setCell, World.size_drew, setRow_size] at s2
  go_wp2_with fail
  go_ret2
  exact ⟨rfl, by (repeat' (first | (with_reducible exact Below.refl _ _) | (with_reducible assumption) | (with_reducible refine Below.alloc ?_ ?_ _) | (with_reducible refine Below.setCell ?_ ?_ _) | (with_reducible refine below_row ?_ ?_ _) | (with_reducible refine Below.drew ?_) | (with_reducible refine below_drewN ?_ _) | (with_reducible refine Below.trans ?_ (Below.mono (by assumption) ?_)) | (first | exact Nat.le_refl _ | omega | (simp; done) | (simp; omega))))⟩
set_option maxHeartbeats 2000000 in
theorem Write_step (un st n l u : Int) (pl : Nat) (m : ByteArray) (r : Bool) (w : World) (h : okD n l u = true) (hst : st = 100 ∨ st = 254) (hS : ∀ W, Calls Tryd.prog 20 #[.int .u8 un] W (GotSc un st pl m W)) (hx : exactS st n l u = false) :
    Calls Tryd.prog 7 #[.agg #[.int .i64 n, .int .i64 l, .int .i64 u], .int .u8 un] w (Wrote ([], 12) w) := by
  have HE : Hid (∀ W base b1 b2, SOk W base st b1 b2 → Calls Tryd.prog 16 #[.agg #[.int .i64 n, .int .i64 l, .int .i64 u, .int .u8 un, .int .i64 st, .int .i64 (pl : Int), .string m, .func (.func 57) #[] #[.pointer (some ⟨b1, 0, none⟩)], .func (.func 58) #[] #[.pointer (some ⟨b1, 0, none⟩)], .func (.func 59) #[] #[.pointer (some ⟨b2, 0, none⟩), .pointer (some ⟨b1, 0, none⟩)]]] W fun e w' => e = .returned (.bool false) ∧ Below W.heap.size W w') := Lib.hid (fun W base b1 b2 ho => hx ▸ exact_any un st pl n l u _ b1 b2 W base ho hst h)
  have HS := Lib.hid hS
  clear hS hst hx
  go_enter Tryd.func7, Tryd.ntmps7
  go_wp2_with fail
  refine (Check_ok n l u _ h).mono ?_
  rintro e w1 ⟨rfl, hb1⟩
  have s1 := hb1.size; try simp only [World.size_alloc, World.size_setCell, World.size_drew, setRow_size] at s1
  have LD := Lib.hid ((Lies.new (u := w) (t := 23) (cs := #[.int .i64 n, .int .i64 l, .int .i64 u]) rfl).after hb1)
  go_wp2_with fail
  refine (HS.out _).mono ?_
  rintro e w2 ⟨b1, b2, rfl, ho, hb2⟩
  have s2 := hb2.size; try simp only [World.size_alloc, World.size_setCell, World.size_drew, setRow_size] at s2
  have LD2 := Lib.hid (LD.out.after hb2)
  have HO := Lib.hid ho
  clear ho
  obtain ⟨p0, p1, p2, -, -, -⟩ := LD2.out.c3
  have zD2 := LD2.out.lt
  go_wp2_with fail
  refine (HE.out _ _ b1 b2 ((HO.out.alloc _).alloc _)).mono ?_
  rintro e w3 ⟨rfl, hb3⟩
  have s3 := hb3.size; try simp only [World.size_alloc, World.size_setCell, World.size_drew, setRow_size] at s3
  go_wp2_with fail
  go_ret2
  exact ⟨rfl, by (repeat' (first | (with_reducible exact Below.refl _ _) | (with_reducible assumption) | (with_reducible refine Below.alloc ?_ ?_ _) | (with_reducible refine Below.setCell ?_ ?_ _) | (with_reducible refine below_row ?_ ?_ _) | (with_reducible refine Below.drew ?_) | (with_reducible refine below_drewN ?_ _) | (with_reducible refine Below.trans ?_ (Below.mono (by assumption) ?_)) | (first | exact Nat.le_refl _ | omega | (simp; done) | (simp; omega))))⟩
set_option maxHeartbeats 2000000 in
theorem Write_go (un st n l u : Int) (pl : Nat) (m : ByteArray) (w : World) (he : Env w) (h : okD n l u = true) (hst : st = 100 ∨ st = 254) (hpl : pl = 3 ∨ pl = 4) (hm : m.size ≤ 10) (hS : ∀ W, Calls Tryd.prog 20 #[.int .u8 un] W (GotSc un st pl m W)) (hx : exactS st n l u = true) :
    Calls Tryd.prog 7 #[.agg #[.int .i64 n, .int .i64 l, .int .i64 u], .int .u8 un] w (Wrote (textL st pl m.data.toList n l u, 0) w) := by
  have HE : Hid (∀ W base b1 b2, SOk W base st b1 b2 → Calls Tryd.prog 16 #[.agg #[.int .i64 n, .int .i64 l, .int .i64 u, .int .u8 un, .int .i64 st, .int .i64 (pl : Int), .string m, .func (.func 57) #[] #[.pointer (some ⟨b1, 0, none⟩)], .func (.func 58) #[] #[.pointer (some ⟨b1, 0, none⟩)], .func (.func 59) #[] #[.pointer (some ⟨b2, 0, none⟩), .pointer (some ⟨b1, 0, none⟩)]]] W fun e w' => e = .returned (.bool true) ∧ Below W.heap.size W w') := Lib.hid (fun W base b1 b2 ho => hx ▸ exact_any un st pl n l u _ b1 b2 W base ho hst h)
  have HT : Hid (∀ W b1 b2, Below w.heap.size w W → Calls Tryd.prog 21 #[.agg #[.int .i64 n, .int .i64 l, .int .i64 u, .int .u8 un, .int .i64 st, .int .i64 (pl : Int), .string m, .func (.func 57) #[] #[.pointer (some ⟨b1, 0, none⟩)], .func (.func 58) #[] #[.pointer (some ⟨b1, 0, none⟩)], .func (.func 59) #[] #[.pointer (some ⟨b2, 0, none⟩), .pointer (some ⟨b1, 0, none⟩)]]] W fun e w' => e = .returned (.string (bs (textL st pl m.data.toList n l u))) ∧ Below W.heap.size W w') := Lib.hid (fun W b1 b2 hW => text_any un st n l u pl m b1 b2 W (he.after hW) hst hpl h hm)
  have HS := Lib.hid hS
  clear hS hst hx hpl he
  go_enter Tryd.func7, Tryd.ntmps7
  go_wp2_with fail
  refine (Check_ok n l u _ h).mono ?_
  rintro e w1 ⟨rfl, hb1⟩
  have s1 := hb1.size; try simp only [World.size_alloc, World.size_setCell, World.size_drew, setRow_size] at s1
  have LD := Lib.hid ((Lies.new (u := w) (t := 23) (cs := #[.int .i64 n, .int .i64 l, .int .i64 u]) rfl).after hb1)
  go_wp2_with fail
  refine (HS.out _).mono ?_
  rintro e w2 ⟨b1, b2, rfl, ho, hb2⟩
  have s2 := hb2.size; try simp only [World.size_alloc, World.size_setCell, World.size_drew, setRow_size] at s2
  have LD2 := Lib.hid (LD.out.after hb2)
  have HO := Lib.hid ho
  clear ho
  obtain ⟨p0, p1, p2, -, -, -⟩ := LD2.out.c3
  have zD2 := LD2.out.lt
  go_wp2_with fail
  refine (HE.out _ _ b1 b2 ((HO.out.alloc _).alloc _)).mono ?_
  rintro e w3 ⟨rfl, hb3⟩
  have s3 := hb3.size; try simp only [World.size_alloc, World.size_setCell, World.size_drew, setRow_size] at s3
  have LW := (Lies.new (u := w2.alloc (.cells #[.int .u8 un, .int .i64 st, .int .i64 (pl : Int), .string m, .func (.func 57) #[] #[.pointer (some ⟨b1, 0, none⟩)], .func (.func 58) #[] #[.pointer (some ⟨b1, 0, none⟩)], .func (.func 59) #[] #[.pointer (some ⟨b2, 0, none⟩), .pointer (some ⟨b1, 0, none⟩)]] 44)) (t := 48) (cs := #[.int .i64 n, .int .i64 l, .int .i64 u, .int .u8 un, .int .i64 st, .int .i64 (pl : Int), .string m, .func (.func 57) #[] #[.pointer (some ⟨b1, 0, none⟩)], .func (.func 58) #[] #[.pointer (some ⟨b1, 0, none⟩)], .func (.func 59) #[] #[.pointer (some ⟨b2, 0, none⟩), .pointer (some ⟨b1, 0, none⟩)]]) rfl).after hb3
  simp only [World.size_alloc] at LW
  have LC := fun i => LW.cell i
  have zW := LW.lt
  clear LW
  go_wp2_with fail
  refine (HT.out _ b1 b2 (by (repeat' (first | (with_reducible exact Below.refl _ _) | (with_reducible assumption) | (with_reducible refine Below.alloc ?_ ?_ _) | (with_reducible refine Below.setCell ?_ ?_ _) | (with_reducible refine below_row ?_ ?_ _) | (with_reducible refine Below.drew ?_) | (with_reducible refine below_drewN ?_ _) | (with_reducible refine Below.trans ?_ (Below.mono (by assumption) ?_)) | (first | exact Nat.le_refl _ | omega | (simp; done) | (simp; omega)))))).mono ?_
  rintro e w4 ⟨rfl, hb4⟩
  have s4 := hb4.size; try simp only [World.size_alloc, World.size_setCell, World.size_drew, setRow_size] at s4
  go_wp2_with fail
  go_ret2
  exact ⟨rfl, by (repeat' (first | (with_reducible exact Below.refl _ _) | (with_reducible assumption) | (with_reducible refine Below.alloc ?_ ?_ _) | (with_reducible refine Below.setCell ?_ ?_ _) | (with_reducible refine below_row ?_ ?_ _) | (with_reducible refine Below.drew ?_) | (with_reducible refine below_drewN ?_ _) | (with_reducible refine Below.trans ?_ (Below.mono (by assumption) ?_)) | (first | exact Nat.le_refl _ | omega | (simp; done) | (simp; omega))))⟩
theorem Write_any (un n l u : Int) (w : World) (he : Env w) : Calls Tryd.prog 7 #[.agg #[.int .i64 n, .int .i64 l, .int .i64 u], .int .u8 un] w (Wrote (writeS un n l u) w) := by
  unfold writeS
  by_cases h : okD n l u = false
  · rw [if_pos h]; exact Write_bad un n l u w h
  · have h' : okD n l u = true := by simpa using h
    rw [if_neg h]
    by_cases h1 : un = 1
    · subst h1
      rw [if_pos rfl]
      by_cases hx : exactS 100 n l u = true
      · rw [if_pos hx]; exact Write_go 1 100 n l u 3 ⟨#[109, 109]⟩ w he h' (.inl rfl) (.inl rfl) (by decide) scaleOf_1 hx
      · rw [if_neg hx]; exact Write_step 1 100 n l u 3 _ true w h' (.inl rfl) scaleOf_1 (by simpa using hx)
    · rw [if_neg h1]
      by_cases h2 : un = 2
      · subst h2
        rw [if_pos rfl]
        by_cases hx : exactS 254 n l u = true
        · rw [if_pos hx]; exact Write_go 2 254 n l u 4 ⟨#[105, 110]⟩ w he h' (.inr rfl) (.inr rfl) (by decide) scaleOf_2 hx
        · rw [if_neg hx]; exact Write_step 2 254 n l u 4 _ true w h' (.inr rfl) scaleOf_2 (by simpa using hx)
      · rw [if_neg h2]; exact Write_unit un n l u w h' h1 h2
end Go.Proofs.YtjejjeomknkglaaDoor
