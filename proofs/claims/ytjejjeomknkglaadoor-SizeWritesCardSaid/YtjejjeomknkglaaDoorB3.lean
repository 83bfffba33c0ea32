/- The walks of package size: scaleOf. -/
import Derived.Test.YtjejjeomknkglaaDoorB2
namespace Go.Proofs.YtjejjeomknkglaaDoor
set_option linter.unusedVariables false
set_option linter.unusedSimpArgs false
open Go.RowKit

set_option maxHeartbeats 400000 in
theorem ofUnit_any (u st pl unit : Int) (m : ByteArray) (b1 b2 g : Nat) (r : Bool) (w : World) (hc : w.cell? ⟨g, 0, none⟩ = some (.int .u8 unit)) (hr : (u == unit) = r) :
    Calls Tryd.prog 45 #[.agg #[.int .u8 u, .int .i64 st, .int .i64 pl, .string m, .func (.func 57) #[] #[.pointer (some ⟨b1, 0, none⟩)], .func (.func 58) #[] #[.pointer (some ⟨b1, 0, none⟩)], .func (.func 59) #[] #[.pointer (some ⟨b2, 0, none⟩), .pointer (some ⟨b1, 0, none⟩)]], .pointer (some ⟨g, 0, none⟩)] w (Says r w) := by
  have hg : g < w.heap.size := World.block_lt_of_cell? w _ hc
  subst hr
  go_enter Tryd.func45, Tryd.ntmps45
  go_wp2
  go_ret
  exact ⟨rfl, by (repeat' (first | (with_reducible exact Below.refl _ _) | (with_reducible assumption) | (with_reducible refine Below.alloc ?_ ?_ _) | (with_reducible refine Below.setCell ?_ ?_ _) | (with_reducible refine below_row ?_ ?_ _) | (with_reducible refine Below.drew ?_) | (with_reducible refine below_drewN ?_ _) | (with_reducible refine Below.trans ?_ (Below.mono (by assumption) ?_)) | (first | exact Nat.le_refl _ | omega | (simp; done) | (simp; omega))))⟩

theorem enter_ofUnit (args : Array Value) (W : World) : (callFunc 45 args).run Tryd.prog W = .ok (.enter 45 args) W := by
  simp [go_sem]

def GotSc (u st pl : Int) (m : ByteArray) (w : World) (e : Ending) (w' : World) : Prop :=
  ∃ b1 b2, e = .returned (.tuple #[.agg #[.int .u8 u, .int .i64 st, .int .i64 pl, .string m, .func (.func 57) #[] #[.pointer (some ⟨b1, 0, none⟩)], .func (.func 58) #[] #[.pointer (some ⟨b1, 0, none⟩)], .func (.func 59) #[] #[.pointer (some ⟨b2, 0, none⟩), .pointer (some ⟨b1, 0, none⟩)]], .int .i64 0]) ∧ SOk w' w.heap.size st b1 b2 ∧ Below w.heap.size w w'

set_option maxHeartbeats 1000000 in
theorem scaleOf_1 (w : World) : Calls Tryd.prog 20 #[.int .u8 1] w (GotSc 1 100 3 ⟨#[109, 109]⟩ w) := by
  have hmf : ∀ (fn : Fn) (first cap : Array Value) (w : World), (Instr.makeFunc fn first cap).run Tryd.prog w = .ok (.func fn first cap) w := fun _ _ _ _ => rfl
  go_enter Tryd.func20, Tryd.ntmps20
  go_wp2_with fail
  refine (scales_any _).mono ?_
  rintro e w1 ⟨b1, b2, b3, b4, rfl, ho1, ho2, hb1⟩
  have s1 := hb1.size; try simp only [World.size_alloc, World.size_setCell, World.size_drew, setRow_size] at s1
  have LU := Lib.hid (((Lies.new (u := w) (t := 5) (cs := #[.int .u8 1]) rfl).alloc _).after hb1)
  have LR := Lib.hid ((Lies.new (u := w.alloc (.cells #[.int .u8 1] 5)) (t := 44) (cs := #[.int .u8 0, .int .i64 0, .int .i64 0, .string ⟨#[]⟩, .nilFunc, .nilFunc, .nilFunc]) rfl).after hb1)
  simp only [World.size_alloc] at ho1 ho2 LR
  have HO1 := Lib.hid ho1
  have HO2 := Lib.hid ho2
  clear ho1 ho2
  go_wp2_with fail
  refine (firstS_1 45 _ 2 _ 1 100 3 2 254 4 _ _ b1 b2 b3 b4 _ enter_ofUnit (Lies.new rfl) (fun W hW => ofUnit_any _ _ _ _ _ _ _ _ true W (((LU.out.alloc _).after hW).cell 0) rfl)).mono ?_
  rintro e w2 ⟨rfl, hb2⟩
  have s2 := hb2.size; try simp only [World.size_alloc, World.size_setCell, World.size_drew, setRow_size] at s2
  have LR2 := Lib.hid ((LR.out.alloc _).after hb2)
  go_wp2_with (refine wpList_store_row rfl 44 _ _ rfl (w.heap.size + 1) #[.int .u8 1, .int .i64 100, .int .i64 3, .string (⟨#[109, 109]⟩), .func (.func 57) #[] #[.pointer (some ⟨b1, 0, none⟩)], .func (.func 58) #[] #[.pointer (some ⟨b1, 0, none⟩)], .func (.func 59) #[] #[.pointer (some ⟨b2, 0, none⟩), .pointer (some ⟨b1, 0, none⟩)]] rfl rfl _ _ (LR2.out.alloc _) (by kernel_rfl) rfl (by kernel_rfl) ?_)
  refine bodyPost_ret (results_cell_tmp rfl _ _ (w.heap.size + 1) _ _ _ rfl ((LR2.out.alloc _).row _) Tryd.underlying44 rfl (by kernel_rfl)) rfl ⟨_, _, rfl, ?_, ?_⟩
  · exact (((((HO1.out.alloc _).after hb2).alloc _).row (by omega) _).from_ (by omega))
  · (repeat' (first | (with_reducible exact Below.refl _ _) | (with_reducible assumption) | (with_reducible refine Below.alloc ?_ ?_ _) | (with_reducible refine Below.setCell ?_ ?_ _) | (with_reducible refine below_row ?_ ?_ _) | (with_reducible refine Below.drew ?_) | (with_reducible refine below_drewN ?_ _) | (with_reducible refine Below.trans ?_ (Below.mono (by assumption) ?_)) | (first | exact Nat.le_refl _ | omega | (simp; done) | (simp; omega))))

set_option maxHeartbeats 1000000 in
theorem scaleOf_2 (w : World) : Calls Tryd.prog 20 #[.int .u8 2] w (GotSc 2 254 4 ⟨#[105, 110]⟩ w) := by
  have hmf : ∀ (fn : Fn) (first cap : Array Value) (w : World), (Instr.makeFunc fn first cap).run Tryd.prog w = .ok (.func fn first cap) w := fun _ _ _ _ => rfl
  go_enter Tryd.func20, Tryd.ntmps20
  go_wp2_with fail
  refine (scales_any _).mono ?_
  rintro e w1 ⟨b1, b2, b3, b4, rfl, ho1, ho2, hb1⟩
  have s1 := hb1.size; try simp only [World.size_alloc, World.size_setCell, World.size_drew, setRow_size] at s1
  have LU := Lib.hid (((Lies.new (u := w) (t := 5) (cs := #[.int .u8 2]) rfl).alloc _).after hb1)
  have LR := Lib.hid ((Lies.new (u := w.alloc (.cells #[.int .u8 2] 5)) (t := 44) (cs := #[.int .u8 0, .int .i64 0, .int .i64 0, .string ⟨#[]⟩, .nilFunc, .nilFunc, .nilFunc]) rfl).after hb1)
  simp only [World.size_alloc] at ho1 ho2 LR
  have HO1 := Lib.hid ho1
  have HO2 := Lib.hid ho2
  clear ho1 ho2
  go_wp2_with fail
  refine (firstS_2 45 _ 2 _ 1 100 3 2 254 4 _ _ b1 b2 b3 b4 _ enter_ofUnit (Lies.new rfl) (fun W hW => ofUnit_any _ _ _ _ _ _ _ _ false W (((LU.out.alloc _).after hW).cell 0) rfl) (fun W hW => ofUnit_any _ _ _ _ _ _ _ _ true W (((LU.out.alloc _).after hW).cell 0) rfl)).mono ?_
  rintro e w2 ⟨rfl, hb2⟩
  have s2 := hb2.size; try simp only [World.size_alloc, World.size_setCell, World.size_drew, setRow_size] at s2
  have LR2 := Lib.hid ((LR.out.alloc _).after hb2)
  go_wp2_with (refine wpList_store_row rfl 44 _ _ rfl (w.heap.size + 1) #[.int .u8 2, .int .i64 254, .int .i64 4, .string (⟨#[105, 110]⟩), .func (.func 57) #[] #[.pointer (some ⟨b3, 0, none⟩)], .func (.func 58) #[] #[.pointer (some ⟨b3, 0, none⟩)], .func (.func 59) #[] #[.pointer (some ⟨b4, 0, none⟩), .pointer (some ⟨b3, 0, none⟩)]] rfl rfl _ _ (LR2.out.alloc _) (by kernel_rfl) rfl (by kernel_rfl) ?_)
  refine bodyPost_ret (results_cell_tmp rfl _ _ (w.heap.size + 1) _ _ _ rfl ((LR2.out.alloc _).row _) Tryd.underlying44 rfl (by kernel_rfl)) rfl ⟨_, _, rfl, ?_, ?_⟩
  · exact (((((HO2.out.alloc _).after hb2).alloc _).row (by omega) _).from_ (by omega))
  · (repeat' (first | (with_reducible exact Below.refl _ _) | (with_reducible assumption) | (with_reducible refine Below.alloc ?_ ?_ _) | (with_reducible refine Below.setCell ?_ ?_ _) | (with_reducible refine below_row ?_ ?_ _) | (with_reducible refine Below.drew ?_) | (with_reducible refine below_drewN ?_ _) | (with_reducible refine Below.trans ?_ (Below.mono (by assumption) ?_)) | (first | exact Nat.le_refl _ | omega | (simp; done) | (simp; omega))))

set_option maxHeartbeats 1000000 in
theorem scaleOf_0 (unit : Int) (h1 : (1 == unit) = false) (h2 : (2 == unit) = false) (w : World) : Calls Tryd.prog 20 #[.int .u8 unit] w fun e w' => e = .returned (.tuple #[.agg #[.int .u8 0, .int .i64 0, .int .i64 0, .string ⟨#[]⟩, .nilFunc, .nilFunc, .nilFunc], .int .i64 11]) ∧ Below w.heap.size w w' := by
  have hmf : ∀ (fn : Fn) (first cap : Array Value) (w : World), (Instr.makeFunc fn first cap).run Tryd.prog w = .ok (.func fn first cap) w := fun _ _ _ _ => rfl
  go_enter Tryd.func20, Tryd.ntmps20
  go_wp2_with fail
  refine (scales_any _).mono ?_
  rintro e w1 ⟨b1, b2, b3, b4, rfl, ho1, ho2, hb1⟩
  have s1 := hb1.size; try simp only [World.size_alloc, World.size_setCell, World.size_drew, setRow_size] at s1
  have LU := Lib.hid (((Lies.new (u := w) (t := 5) (cs := #[.int .u8 unit]) rfl).alloc _).after hb1)
  have LR := Lib.hid ((Lies.new (u := w.alloc (.cells #[.int .u8 unit] 5)) (t := 44) (cs := #[.int .u8 0, .int .i64 0, .int .i64 0, .string ⟨#[]⟩, .nilFunc, .nilFunc, .nilFunc]) rfl).after hb1)
  simp only [World.size_alloc] at ho1 ho2 LR
  have HO1 := Lib.hid ho1
  have HO2 := Lib.hid ho2
  clear ho1 ho2
  go_wp2_with fail
  refine (firstS_0 45 _ 2 _ 1 100 3 2 254 4 _ _ b1 b2 b3 b4 _ enter_ofUnit (Lies.new rfl) (fun W hW => ofUnit_any _ _ _ _ _ _ _ _ false W (((LU.out.alloc _).after hW).cell 0) h1) (fun W hW => ofUnit_any _ _ _ _ _ _ _ _ false W (((LU.out.alloc _).after hW).cell 0) h2)).mono ?_
  rintro e w2 ⟨rfl, hb2⟩
  have s2 := hb2.size; try simp only [World.size_alloc, World.size_setCell, World.size_drew, setRow_size] at s2
  have LR2 := Lib.hid ((LR.out.alloc _).after hb2)
  go_wp2_with (refine wpList_store_row rfl 44 _ _ rfl (w.heap.size + 1) #[.int .u8 0, .int .i64 0, .int .i64 0, .string ⟨#[]⟩, .nilFunc, .nilFunc, .nilFunc] rfl rfl _ _ (LR2.out.alloc _) (by kernel_rfl) rfl (by kernel_rfl) ?_)
  refine bodyPost_ret (results_cell_tmp rfl _ _ (w.heap.size + 1) _ _ _ rfl ((LR2.out.alloc _).row _) Tryd.underlying44 rfl (by kernel_rfl)) rfl ⟨rfl, ?_⟩
  (repeat' (first | (with_reducible exact Below.refl _ _) | (with_reducible assumption) | (with_reducible refine Below.alloc ?_ ?_ _) | (with_reducible refine Below.setCell ?_ ?_ _) | (with_reducible refine below_row ?_ ?_ _) | (with_reducible refine Below.drew ?_) | (with_reducible refine below_drewN ?_ _) | (with_reducible refine Below.trans ?_ (Below.mono (by assumption) ?_)) | (first | exact Nat.le_refl _ | omega | (simp; done) | (simp; omega))))
end Go.Proofs.YtjejjeomknkglaaDoor
