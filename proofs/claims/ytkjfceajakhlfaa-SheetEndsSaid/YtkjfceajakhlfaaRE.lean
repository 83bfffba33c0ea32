/- ready: a register that is valid, and not great. -/
import Derived.Test.YtkjfceajakhlfaaRX
import Derived.Test.YtkjfceajakhlfaaLC
import Derived.Test.YtkjfceajakhlfaaLH
namespace Go.Proofs.Ytkjfceajakhlfaa
set_option linter.unusedVariables false
set_option linter.unusedSimpArgs false
open Go.RowKit

/-- A register that is valid, and not great. -/
def readyB (xs : List Iss) : Bool := !greatB xs && decide (layE xs = 0)
theorem ready_parts {xs : List Iss} (h : readyB xs = true) : greatB xs = false ∧ layE xs = 0 := by
  unfold readyB at h
  simp at h
  exact h
set_option maxRecDepth 100000 in
set_option maxHeartbeats 4000000 in
theorem ready_any (A : Option Addr) (c b off : Nat) (xs : List Iss) (vi vd : Nat → Value) (w : World) (hm : xs.length ≤ 9223372036854775807) (hm2 : ∀ x ∈ xs, x.items.length ≤ 9223372036854775807 ∧ x.dims.length ≤ 9223372036854775807) (hA : 0 < xs.length → A = some ⟨b, off, none⟩) (hc : IssRow w b off xs vi vd) :
    Calls Try.prog 55 #[.agg #[.slice A xs.length c]] w fun e w' => e = .returned (.bool (readyB xs)) ∧ Below w.heap.size w w' := by
  have HG := Lib.hid (fun W (hW : Below w.heap.size w W) => rGreat_any A c b off xs vi vd W hm hm2 hA (hc.after hW))
  have LI := Lib.hid (Lies.made w 24 #[.slice A xs.length c])
  by_cases hg : greatB xs = true
  · have HR : Hid (readyB xs = false) := Lib.hid (by unfold readyB; rw [hg]; rfl)
    rw [hg] at HG
    clear hA hc hm2 hg
    generalize readyB xs = rb at *
    go_enter Try.func55, Try.ntmps55
    go_wp2_with fail
    refine (HG.out _ (by exact BeL)).mono ?_
    rintro e w1 ⟨rfl, hb1⟩
    have s1 := hb1.size; try simp only [World.size_alloc, World.size_setCell, World.size_drew, setRow_size] at s1
    go_wp2
    go_ret
    exact ⟨ret_bool HR.out.symm, by exact BeL⟩
  · rw [Bool.not_eq_true] at hg
    obtain ⟨hlen, hsml⟩ := great_no hg
    have hr : RegAt w (.slice A xs.length c) xs := ⟨⟨A, c, b, off, rfl, hA, fun i hi => ⟨vi i, vd i, hc i hi⟩⟩, by omega, fun x hx => ⟨by have := (hsml x hx).1; omega, by have := (hsml x hx).2; omega⟩⟩
    have HC := Lib.hid (fun W (hW : Below w.heap.size w W) => rCheck_any (hr.after hW))
    have HR : Hid (readyB xs = (layE xs == 0)) := Lib.hid (by unfold readyB; rw [hg]; simp [BEq.beq])
    rw [hg] at HG
    clear hA hc hm2 hg hr hsml
    generalize readyB xs = rb at *
    generalize layE xs = ly at *
    go_enter Try.func55, Try.ntmps55
    go_wp2_with fail
    refine (HG.out _ (by exact BeL)).mono ?_
    rintro e w1 ⟨rfl, hb1⟩
    have s1 := hb1.size; try simp only [World.size_alloc, World.size_setCell, World.size_drew, setRow_size] at s1
    have LI1 := Lib.hid (LI.out.after hb1)
    have x0 := LI1.out.cell 0
    have zi := LI1.out.lt
    have hbw1 : Below w.heap.size w w1 := by exact BeL
    clear hb1
    go_wp2_with fail
    refine (HC.out _ (by exact BeL)).mono ?_
    rintro e w2 ⟨rfl, hb2⟩
    go_wp2
    go_ret
    exact ⟨ret_bool HR.out.symm, by exact BeL⟩
end Go.Proofs.Ytkjfceajakhlfaa
