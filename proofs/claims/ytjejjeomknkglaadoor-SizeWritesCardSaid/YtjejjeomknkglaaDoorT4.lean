/- The walks of package size: Exact. -/
import Derived.Test.YtjejjeomknkglaaDoorB5
namespace Go.Proofs.YtjejjeomknkglaaDoor
set_option linter.unusedVariables false
set_option linter.unusedSimpArgs false
open Go.RowKit

set_option maxHeartbeats 1000000 in
theorem Exact_bad (n l u : Int) (w : World) (h : okD n l u = false) :
    Calls Tryd.prog 5 #[.agg #[.int .i64 n, .int .i64 l, .int .i64 u]] w fun e w' => e = .returned (.tuple #[.int .u8 0, .int .i64 10]) ∧ Below w.heap.size w w' := by
  go_enter Tryd.func5, Tryd.ntmps5
  go_wp2_with fail
  refine (Check_no n l u _ h).mono ?_
  rintro e w1 ⟨rfl, hb1⟩
  have s1 := hb1.size; try simp only [World.size_alloc, World.size_setCell, World.size_drew, setRow_size] at s1
  go_wp2_with fail
  go_ret2
  exact ⟨rfl, by (repeat' (first | (with_reducible exact Below.refl _ _) | (with_reducible assumption) | (with_reducible refine Below.alloc ?_ ?_ _) | (with_reducible refine Below.setCell ?_ ?_ _) | (with_reducible refine below_row ?_ ?_ _) | (with_reducible refine Below.drew ?_) | (with_reducible refine below_drewN ?_ _) | (with_reducible refine Below.trans ?_ (Below.mono (by assumption) ?_)) | (first | exact Nat.le_refl _ | omega | (simp; done) | (simp; omega))))⟩

/-- The units in which a size is exact, added up. -/
def exactU (n l u : Int) : Int := (bif exactS 100 n l u then 1 else 0) + (bif exactS 254 n l u then 2 else 0)

set_option maxHeartbeats 4000000 in
theorem Exact_ok (n l u : Int) (w : World) (h : okD n l u = true) :
    Calls Tryd.prog 5 #[.agg #[.int .i64 n, .int .i64 l, .int .i64 u]] w fun e w' => e = .returned (.tuple #[.int .u8 (exactU n l u), .int .i64 0]) ∧ Below w.heap.size w w' := by
  have HE1 : Hid (∀ W base b1 b2, SOk W base 100 b1 b2 → Calls Tryd.prog 16 #[.agg #[.int .i64 n, .int .i64 l, .int .i64 u, .int .u8 1, .int .i64 100, .int .i64 3, .string (⟨#[109, 109]⟩), .func (.func 57) #[] #[.pointer (some ⟨b1, 0, none⟩)], .func (.func 58) #[] #[.pointer (some ⟨b1, 0, none⟩)], .func (.func 59) #[] #[.pointer (some ⟨b2, 0, none⟩), .pointer (some ⟨b1, 0, none⟩)]]] W fun e w' => e = .returned (.bool (exactS 100 n l u)) ∧ Below W.heap.size W w') := Lib.hid (fun W base b1 b2 ho => exact_any 1 100 3 n l u _ b1 b2 W base ho (.inl rfl) h)
  have HE2 : Hid (∀ W base b1 b2, SOk W base 254 b1 b2 → Calls Tryd.prog 16 #[.agg #[.int .i64 n, .int .i64 l, .int .i64 u, .int .u8 2, .int .i64 254, .int .i64 4, .string (⟨#[105, 110]⟩), .func (.func 57) #[] #[.pointer (some ⟨b1, 0, none⟩)], .func (.func 58) #[] #[.pointer (some ⟨b1, 0, none⟩)], .func (.func 59) #[] #[.pointer (some ⟨b2, 0, none⟩), .pointer (some ⟨b1, 0, none⟩)]]] W fun e w' => e = .returned (.bool (exactS 254 n l u)) ∧ Below W.heap.size W w') := Lib.hid (fun W base b1 b2 ho => exact_any 2 254 4 n l u _ b1 b2 W base ho (.inr rfl) h)
  have H1 := Lib.hid h
  clear h
  unfold exactU
  generalize exactS 100 n l u = p at *
  generalize exactS 254 n l u = q at *
  go_enter Tryd.func5, Tryd.ntmps5
  go_wp2_with fail
  refine (Check_ok n l u _ H1.out).mono ?_
  rintro e w1 ⟨rfl, hb1⟩
  have s1 := hb1.size; try simp only [World.size_alloc, World.size_setCell, World.size_drew, setRow_size] at s1
  have LD := Lib.hid ((Lies.new (u := w) (t := 23) (cs := #[.int .i64 n, .int .i64 l, .int .i64 u]) rfl).after hb1)
  have zD := LD.out.lt
  go_wp2_with fail
  refine (scales_any _).mono ?_
  rintro e w2 ⟨b1, b2, b3, b4, rfl, ho1, ho2, hb2⟩
  have s2 := hb2.size; try simp only [World.size_alloc, World.size_setCell, World.size_drew, setRow_size] at s2
  have LD2 := Lib.hid (LD.out.after hb2)
  have HO1 := Lib.hid ho1
  have HO2 := Lib.hid ho2
  clear ho1 ho2
  have i0 : ∀ W, (Instr.index 45 (.agg #[.int .u8 1, .int .i64 100, .int .i64 3, .string (⟨#[109, 109]⟩), .func (.func 57) #[] #[.pointer (some ⟨b1, 0, none⟩)], .func (.func 58) #[] #[.pointer (some ⟨b1, 0, none⟩)], .func (.func 59) #[] #[.pointer (some ⟨b2, 0, none⟩), .pointer (some ⟨b1, 0, none⟩)], .int .u8 2, .int .i64 254, .int .i64 4, .string (⟨#[105, 110]⟩), .func (.func 57) #[] #[.pointer (some ⟨b3, 0, none⟩)], .func (.func 58) #[] #[.pointer (some ⟨b3, 0, none⟩)], .func (.func 59) #[] #[.pointer (some ⟨b4, 0, none⟩), .pointer (some ⟨b3, 0, none⟩)]]) (.int .i64 0)).run Tryd.prog W = .ok (.agg #[.int .u8 1, .int .i64 100, .int .i64 3, .string (⟨#[109, 109]⟩), .func (.func 57) #[] #[.pointer (some ⟨b1, 0, none⟩)], .func (.func 58) #[] #[.pointer (some ⟨b1, 0, none⟩)], .func (.func 59) #[] #[.pointer (some ⟨b2, 0, none⟩), .pointer (some ⟨b1, 0, none⟩)]]) W := fun _ => by kernel_rfl
  have i1 : ∀ W, (Instr.index 45 (.agg #[.int .u8 1, .int .i64 100, .int .i64 3, .string (⟨#[109, 109]⟩), .func (.func 57) #[] #[.pointer (some ⟨b1, 0, none⟩)], .func (.func 58) #[] #[.pointer (some ⟨b1, 0, none⟩)], .func (.func 59) #[] #[.pointer (some ⟨b2, 0, none⟩), .pointer (some ⟨b1, 0, none⟩)], .int .u8 2, .int .i64 254, .int .i64 4, .string (⟨#[105, 110]⟩), .func (.func 57) #[] #[.pointer (some ⟨b3, 0, none⟩)], .func (.func 58) #[] #[.pointer (some ⟨b3, 0, none⟩)], .func (.func 59) #[] #[.pointer (some ⟨b4, 0, none⟩), .pointer (some ⟨b3, 0, none⟩)]]) (.int .i64 1)).run Tryd.prog W = .ok (.agg #[.int .u8 2, .int .i64 254, .int .i64 4, .string (⟨#[105, 110]⟩), .func (.func 57) #[] #[.pointer (some ⟨b3, 0, none⟩)], .func (.func 58) #[] #[.pointer (some ⟨b3, 0, none⟩)], .func (.func 59) #[] #[.pointer (some ⟨b4, 0, none⟩), .pointer (some ⟨b3, 0, none⟩)]]) W := fun _ => by kernel_rfl
  obtain ⟨p0, p1, p2, -, -, -⟩ := LD2.out.c3
  have zD2 := LD2.out.lt
  go_wp2_with fail
  refine wp_loop_rounds 3 ?_
  rw [rounds_succ]
  go_wp2_with fail
  refine (HE1.out _ _ b1 b2 (HO1.out.alloc _)).mono ?_
  rintro e w3 ⟨rfl, hb3⟩
  have s3 := hb3.size; try simp only [World.size_alloc, World.size_setCell, World.size_drew, setRow_size] at s3
  have LS3 := (Lies.made w2 44 #[.int .u8 1, .int .i64 100, .int .i64 3, .string (⟨#[109, 109]⟩), .func (.func 57) #[] #[.pointer (some ⟨b1, 0, none⟩)], .func (.func 58) #[] #[.pointer (some ⟨b1, 0, none⟩)], .func (.func 59) #[] #[.pointer (some ⟨b2, 0, none⟩), .pointer (some ⟨b1, 0, none⟩)]]).after hb3
  have LD3 := Lib.hid ((LD2.out.alloc _).after hb3)
  have HO3 := Lib.hid ((HO2.out.alloc _).after hb3)
  have u0 := LS3.cell 0
  have zs := LS3.lt
  clear LS3 p0 p1 p2
  obtain ⟨p0, p1, p2, -, -, -⟩ := LD3.out.c3
  have zD3 := LD3.out.lt
  cases p
  all_goals
    go_wp2_with fail
    rw [rounds_succ]
    go_wp2_with fail
    refine (HE2.out _ _ b3 b4 (HO3.out.alloc _)).mono ?_
    rintro e w4 ⟨rfl, hb4⟩
    have s4 := hb4.size; try simp only [World.size_alloc, World.size_setCell, World.size_drew, setRow_size] at s4
    have LS4 := (Lies.made w3 44 #[.int .u8 2, .int .i64 254, .int .i64 4, .string (⟨#[105, 110]⟩), .func (.func 57) #[] #[.pointer (some ⟨b3, 0, none⟩)], .func (.func 58) #[] #[.pointer (some ⟨b3, 0, none⟩)], .func (.func 59) #[] #[.pointer (some ⟨b4, 0, none⟩), .pointer (some ⟨b3, 0, none⟩)]]).after hb4
    have v0 := LS4.cell 0
    have zs4 := LS4.lt
    clear LS4
    cases q
    all_goals
      go_wp2_with fail
      rw [rounds_succ]
      go_wp2_with fail
      go_ret2
      exact ⟨rfl, by (repeat' (first | (with_reducible exact Below.refl _ _) | (with_reducible assumption) | (with_reducible refine Below.alloc ?_ ?_ _) | (with_reducible refine Below.setCell ?_ ?_ _) | (with_reducible refine below_row ?_ ?_ _) | (with_reducible refine Below.drew ?_) | (with_reducible refine below_drewN ?_ _) | (with_reducible refine Below.trans ?_ (Below.mono (by assumption) ?_)) | (first | exact Nat.le_refl _ | omega | (simp; done) | (simp; omega))))⟩

/-- What Exact returns. -/
def exactR (n l u : Int) : Int × Int := bif okD n l u then (exactU n l u, 0) else (0, 10)
theorem Exact_any (n l u : Int) (w : World) :
    Calls Tryd.prog 5 #[.agg #[.int .i64 n, .int .i64 l, .int .i64 u]] w fun e w' => e = .returned (.tuple #[.int .u8 (exactR n l u).1, .int .i64 ((exactR n l u).2)]) ∧ Below w.heap.size w w' := by
  unfold exactR
  cases h : okD n l u
  · exact Exact_bad n l u w h
  · exact Exact_ok n l u w h
end Go.Proofs.YtjejjeomknkglaaDoor
