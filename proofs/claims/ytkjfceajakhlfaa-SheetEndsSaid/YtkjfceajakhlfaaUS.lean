/- same: two issues, be a list nil or empty. -/
import Derived.Test.YtkjfceajakhlfaaUI
import Derived.Test.YtkjfceajakhlfaaUD
import Derived.Test.YtkjfceajakhlfaaLG
import Derived.BigQuiet
import Derived.Test.YtkjfceajakhlfaaHT
namespace Go.Proofs.Ytkjfceajakhlfaa
set_option linter.unusedVariables false
set_option linter.unusedSimpArgs false
open Go.RowKit Go.BigFrame

theorem diffL_nil {α : Type} [DecidableEq α] {a b : List α} : (diffL a b).length = 0 ↔ a = b := by
  unfold diffL diffJ
  rw [List.length_map, List.length_eq_zero_iff, List.filter_eq_nil_iff]
  constructor
  · intro h
    apply List.ext_getElem?
    intro i
    by_cases hi : i < max a.length b.length
    · have := h i (List.mem_range.2 hi)
      simpa using this
    · rw [List.getElem?_eq_none (by omega), List.getElem?_eq_none (by omega)]
  · rintro rfl i _
    simp
theorem diffI_v {w : World} {u v : Value} {a b : List (Int × Int)} (h1 : ItemsAt w u a) (h2 : ItemsAt w v b) (hla : a.length ≤ 1000) (hlb : b.length ≤ 1000) : Calls Try.prog 124 #[u, v, .func (.func 125) #[] #[]] w fun e w' => (∃ A c, e = .returned (.slice A (diffL a b).length c)) ∧ Below w.heap.size w w' := by
  obtain ⟨A, cA, bA, oA, rfl, hA, hc⟩ := h1
  obtain ⟨B, cB, bB, oB, rfl, hB, hd⟩ := h2
  refine (diffI_any A B cA bA oA cB bB oB a b w hla hlb hA hc hB hd).mono ?_
  rintro e w' ⟨v, rfl, hown, hb⟩
  obtain ⟨A8, c8, g8, rfl, -⟩ := own_form hown
  exact ⟨⟨_, _, rfl⟩, hb⟩
theorem diffD_v {w : World} {u v : Value} {a b : List D3} (h1 : DimsAt w u a) (h2 : DimsAt w v b) (hla : a.length ≤ 1000) (hlb : b.length ≤ 1000) : Calls Try.prog 91 #[u, v, .func (.func 92) #[] #[]] w fun e w' => (∃ A c, e = .returned (.slice A (diffL a b).length c)) ∧ Below w.heap.size w w' := by
  obtain ⟨A, cA, bA, oA, rfl, hA, hc⟩ := h1
  obtain ⟨B, cB, bB, oB, rfl, hB, hd⟩ := h2
  refine (diffS_any A B cA bA oA cB bB oB a b w hla hlb hA hc hB hd).mono ?_
  rintro e w' ⟨v, rfl, hown, hb⟩
  obtain ⟨A8, c8, g8, rfl, -⟩ := own_form hown
  exact ⟨⟨_, _, rfl⟩, hb⟩

/-- A world above w: all that w had is as it was. -/
structure Up (w : World) where
  val : World
  ok : Below w.heap.size w val
theorem Up.call {w : World} {n : Up w} {f : FuncId} {args : Array Value} {v : Value} (h : Calls Try.prog f args n.val fun e w' => e = .returned v ∧ Below n.val.heap.size n.val w') : Calls Try.prog f args n.val fun e w'' => e = .returned v ∧ ∃ m : Up w, w'' = m.val :=
  h.mono fun _ w' ⟨he, hb⟩ => ⟨he, ⟨w', n.ok.trans (hb.mono n.ok.size)⟩, rfl⟩
/-- A region that draws its order, whose calls may make memory but tell one thing in whatever world above w: one walk, in the text's order; what is guarded and not wanted is passed over. -/
theorem wp_region_up {id : Nat} {Q : Exit → Act → World → Prop} {a : Act} {w : World} {l : List Oper} (hm : Try.prog.follows .mixedOrders = true) (hB : Region.lexB .any l.toArray = true)
    (h : wpQuiet Try.prog l.toArray (fun w' => ∃ n : Up w, w' = n.val) (fun a' => ∀ w', (∃ n : Up w, w' = n.val) → Q .normal a' w') l a) : (Code.region id l.toArray true).wp Try.prog Q a w :=
  wp_region_quiet (C := fun w' => ∃ n : Up w, w' = n.val) hm hB ⟨⟨w.drew, (Below.refl _ _).drew⟩, rfl⟩ (by simpa using h)


set_option maxRecDepth 100000 in
set_option maxHeartbeats 16000000 in
theorem same_any (x y : Iss) (vi vd vi2 vd2 : Value) (w : World) (hl1 : x.items.length ≤ 1000) (hl2 : y.items.length ≤ 1000) (hl3 : x.dims.length ≤ 1000) (hl4 : y.dims.length ≤ 1000) (h1 : ItemsAt w vi x.items) (h2 : ItemsAt w vi2 y.items) (h3 : DimsAt w vd x.dims) (h4 : DimsAt w vd2 y.dims) :
    Calls Try.prog 95 #[.agg #[.int .i64 x.d, .int .i64 x.l, .int .u8 x.k, vi, vd], .agg #[.int .i64 y.d, .int .i64 y.l, .int .u8 y.k, vi2, vd2]] w fun e w' => e = .returned (.bool (sameI x y)) ∧ Below w.heap.size w w' := by
  obtain ⟨d, l, k, il, dl⟩ := x
  obtain ⟨d', l', k', il', dl'⟩ := y
  simp only at hl1 hl2 hl3 hl4 h1 h2 h3 h4 ⊢
  unfold sameI
  simp only
  have HDI := Lib.hid (fun W (hW : Below w.heap.size w W) => diffI_v (h1.after hW) (h2.after hW) hl1 hl2)
  have HDD := Lib.hid (fun W (hW : Below w.heap.size w W) => diffD_v (h3.after hW) (h4.after hW) hl3 hl4)
  obtain ⟨A1, c1, b1, o1, rfl, -, -⟩ := h1
  obtain ⟨A2, c2, b2, o2, rfl, -, -⟩ := h2
  obtain ⟨A3, c3, b3, o3, rfl, -, -⟩ := h3
  obtain ⟨A4, c4, b4, o4, rfl, -, -⟩ := h4
  have HZI := Lib.hid (diffL_nil (a := il) (b := il'))
  have HZD := Lib.hid (diffL_nil (a := dl) (b := dl'))
  have HNX := Lib.hid (fun W => nameOf_any d l k (.slice A1 il.length c1) (.slice A3 dl.length c3) W)
  have HNY := Lib.hid (fun W => nameOf_any d' l' k' (.slice A2 il'.length c2) (.slice A4 dl'.length c4) W)
  obtain ⟨wA, hWA⟩ : ∃ W, (w.alloc (.cells #[.int .i64 d, .int .i64 l, .int .u8 k, .slice A1 il.length c1, .slice A3 dl.length c3] 45)).alloc (.cells #[.int .i64 d', .int .i64 l', .int .u8 k', .slice A2 il'.length c2, .slice A4 dl'.length c4] 45) = W := ⟨_, rfl⟩
  have HWA := Lib.hid hWA
  have hbA : Below w.heap.size w wA := by rw [← hWA]; (repeat' (first | (with_reducible first | exact Below.refl _ _ | assumption | refine Below.alloc ?_ ?_ _ | refine Below.setCell ?_ ?_ _ | refine below_row ?_ ?_ _ | refine Below.drew ?_ | refine below_drewN ?_ _ | refine Below.trans ?_ (Below.mono (by assumption) ?_)) | exact Nat.le_refl _ | omega | (simp; done) | (simp; omega) | exact Below.size (by assumption)))
  have hLX : Lies wA w.heap.size 45 #[.int .i64 d, .int .i64 l, .int .u8 k, .slice A1 il.length c1, .slice A3 dl.length c3] := by rw [← hWA]; exact (Lies.made w 45 #[.int .i64 d, .int .i64 l, .int .u8 k, .slice A1 il.length c1, .slice A3 dl.length c3]).alloc _
  have hLY : Lies wA (w.heap.size + 1) 45 #[.int .i64 d', .int .i64 l', .int .u8 k', .slice A2 il'.length c2, .slice A4 dl'.length c4] := by rw [← hWA]; exact Lies.new (by simp)
  have hsA : wA.heap.size = w.heap.size + 2 := by rw [← hWA]; simp
  have HALL := Lib.hid (fun W (hW : Below wA.heap.size wA W) => And.intro (hLX.after hW) (hLY.after hW))
  have HDIA := Lib.hid (fun W (hW : Below wA.heap.size wA W) => HDI.out W (hbA.trans (hW.mono hbA.size)))
  have HDDA := Lib.hid (fun W (hW : Below wA.heap.size wA W) => HDD.out W (hbA.trans (hW.mono hbA.size)))
  have hbwA := hbA.size
  generalize il.length = ni at *
  generalize dl.length = nd at *
  generalize il'.length = ni' at *
  generalize dl'.length = nd' at *
  clear hWA HDI HDD hl1 hl2 hl3 hl4
  generalize (diffL il il').length = qi at *
  generalize (diffL dl dl').length = qd at *
  have HR0 : ∀ b1 b2 b3 b4 b5 r : Bool, decide (d = d') = b1 → decide (l = l') = b2 → decide (k = k') = b3 → decide (il = il') = b4 → decide (dl = dl') = b5 → (b1 && b2 && b3 && b4 && b5) = r → Hid ((decide (d = d') && decide (l = l') && decide (k = k') && decide (il = il') && decide (dl = dl')) = r) := fun _ _ _ _ _ _ h1 h2 h3 h4 h5 h => Lib.hid (by rw [h1, h2, h3, h4, h5]; exact h)
  have HRR := Lib.hid HR0
  clear HR0
  obtain ⟨b4, hb4⟩ : ∃ b, decide (il = il') = b := ⟨_, rfl⟩
  obtain ⟨b5, hb5⟩ : ∃ b, decide (dl = dl') = b := ⟨_, rfl⟩
  obtain ⟨b1, hb1⟩ : ∃ b, decide (d = d') = b := ⟨_, rfl⟩
  obtain ⟨b2, hb2⟩ : ∃ b, decide (l = l') = b := ⟨_, rfl⟩
  obtain ⟨b3, hb3⟩ : ∃ b, decide (k = k') = b := ⟨_, rfl⟩
  have e1 : (d == d') = b1 := by rw [← hb1]; rfl
  have e2 : (l == l') = b2 := by rw [← hb2]; rfl
  have e3 : (k == k') = b3 := by rw [← hb3]; rfl
  have e4 : ((qi : Int) == 0) = b4 := by rw [← hb4, Bool.eq_iff_iff]; simp; rw [← HZI.out]
  have e5 : ((qd : Int) == 0) = b5 := by rw [← hb5, Bool.eq_iff_iff]; simp; rw [← HZD.out]
  have HR := HRR.out b1 b2 b3 b4 b5 _ hb1 hb2 hb3 hb4 hb5 rfl
  generalize (decide (d = d') && decide (l = l') && decide (k = k') && decide (il = il') && decide (dl = dl')) = rr at *
  clear HRR hb1 hb2 hb3 hb4 hb5 HZI HZD
  cases b1 <;> cases b2
  case true.true =>
    cases b3
    case false =>
      go_enter Try.func95, Try.ntmps95
      go_wp2_with fail
      rw [HWA.out]
      have hup : Nonempty (Up wA) := ⟨⟨wA, Below.refl _ _⟩⟩
      have ux0 : ∀ n : Up wA, n.val.cell? ⟨w.heap.size, 0, none⟩ = some (.int .i64 d) := fun n => (HALL.out n.val n.ok).1.cell 0
      have ux1 : ∀ n : Up wA, n.val.cell? ⟨w.heap.size, 1, none⟩ = some (.int .i64 l) := fun n => (HALL.out n.val n.ok).1.cell 1
      have ux2 : ∀ n : Up wA, n.val.cell? ⟨w.heap.size, 2, none⟩ = some (.int .u8 k) := fun n => (HALL.out n.val n.ok).1.cell 2
      have ux3 : ∀ n : Up wA, n.val.cell? ⟨w.heap.size, 3, none⟩ = some (.slice A1 ni c1) := fun n => (HALL.out n.val n.ok).1.cell 3
      have ux4 : ∀ n : Up wA, n.val.cell? ⟨w.heap.size, 4, none⟩ = some (.slice A3 nd c3) := fun n => (HALL.out n.val n.ok).1.cell 4
      have uy0 : ∀ n : Up wA, n.val.cell? ⟨w.heap.size + 1, 0, none⟩ = some (.int .i64 d') := fun n => (HALL.out n.val n.ok).2.cell 0
      have uy1 : ∀ n : Up wA, n.val.cell? ⟨w.heap.size + 1, 1, none⟩ = some (.int .i64 l') := fun n => (HALL.out n.val n.ok).2.cell 1
      have uy2 : ∀ n : Up wA, n.val.cell? ⟨w.heap.size + 1, 2, none⟩ = some (.int .u8 k') := fun n => (HALL.out n.val n.ok).2.cell 2
      have uy3 : ∀ n : Up wA, n.val.cell? ⟨w.heap.size + 1, 3, none⟩ = some (.slice A2 ni' c2) := fun n => (HALL.out n.val n.ok).2.cell 3
      have uy4 : ∀ n : Up wA, n.val.cell? ⟨w.heap.size + 1, 4, none⟩ = some (.slice A4 nd' c4) := fun n => (HALL.out n.val n.ok).2.cell 4
      have ux : ∀ n : Up wA, w.heap.size < n.val.heap.size := fun n => (HALL.out n.val n.ok).1.lt
      have uy : ∀ n : Up wA, w.heap.size + 1 < n.val.heap.size := fun n => (HALL.out n.val n.ok).2.lt
      refine wp_region_up (by kernel_rfl) (by kernel_rfl) ?_
      repeat (first | go_big_quiet_skip | (go_big_quiet_want; go_big_quiet_op; first | go_big_quiet_on | go_big_quiet_call ((go_at_call 83; first | exact Up.call (HNX.out _) | exact Up.call (HNY.out _)))))
      refine wpQuiet_nil ?_
      rintro _ ⟨⟨w7, hb7⟩, rfl⟩
      go_wp2_with fail
      go_ret
      exact ⟨ret_bool HR.out.symm, by (repeat' (first | (with_reducible first | exact Below.refl _ _ | assumption | refine Below.alloc ?_ ?_ _ | refine Below.setCell ?_ ?_ _ | refine below_row ?_ ?_ _ | refine Below.drew ?_ | refine below_drewN ?_ _ | refine Below.trans ?_ (Below.mono (by assumption) ?_)) | exact Nat.le_refl _ | omega | (simp; done) | (simp; omega) | exact Below.size (by assumption)))⟩
    case true =>
      cases b4
      case false =>
        go_enter Try.func95, Try.ntmps95
        go_wp2_with fail
        rw [HWA.out]
        have hall := HALL.out wA (Below.refl _ _)
        have x0 := hall.1.cell 0
        have x1 := hall.1.cell 1
        have x2 := hall.1.cell 2
        have x3 := hall.1.cell 3
        have x4 := hall.1.cell 4
        have y0 := hall.2.cell 0
        have y1 := hall.2.cell 1
        have y2 := hall.2.cell 2
        have y3 := hall.2.cell 3
        have y4 := hall.2.cell 4
        have zx := hall.1.lt
        have zy := hall.2.lt
        clear hall HWA
        refine wp_region_held_drew (S := fun W => W.cell? ⟨w.heap.size, 0, none⟩ = some (.int .i64 d) ∧ W.cell? ⟨w.heap.size, 1, none⟩ = some (.int .i64 l) ∧ W.cell? ⟨w.heap.size, 2, none⟩ = some (.int .u8 k) ∧ W.cell? ⟨w.heap.size, 3, none⟩ = some (.slice A1 ni c1) ∧ W.cell? ⟨w.heap.size, 4, none⟩ = some (.slice A3 nd c3) ∧ W.cell? ⟨w.heap.size + 1, 0, none⟩ = some (.int .i64 d') ∧ W.cell? ⟨w.heap.size + 1, 1, none⟩ = some (.int .i64 l') ∧ W.cell? ⟨w.heap.size + 1, 2, none⟩ = some (.int .u8 k') ∧ W.cell? ⟨w.heap.size + 1, 3, none⟩ = some (.slice A2 ni' c2) ∧ W.cell? ⟨w.heap.size + 1, 4, none⟩ = some (.slice A4 nd' c4)) (by kernel_rfl) ⟨x0, x1, x2, x3, x4, y0, y1, y2, y3, y4⟩ (fun hHeld => ?_)
        refine take_at (i := 0) (v := ?_) rfl (by kernel_rfl) (by kernel_rfl) (by kernel_rfl) (fun _ _ _ h => h) (Or.inl ⟨by rfl, ?_⟩) (by assumption) ?_
        rotate_left
        · (intro w hSw; (try dsimp only at hSw); go_simp; (try with_reducible rfl))
        try simp only [Act.put, List.setIfInBounds_toArray, List.set_cons_zero, List.set_cons_succ]
        refine take_at (i := 2) (v := ?_) rfl (by kernel_rfl) (by kernel_rfl) (by kernel_rfl) (fun _ _ _ h => h) (Or.inl ⟨by rfl, ?_⟩) (by assumption) ?_
        rotate_left
        · (intro w hSw; (try dsimp only at hSw); go_simp; (try with_reducible rfl))
        try simp only [Act.put, List.setIfInBounds_toArray, List.set_cons_zero, List.set_cons_succ]
        refine wpAnyH_ready (rs := [1]) (by kernel_rfl) (by simp) ?_
        refine cons_at rfl (fun K hK => ?_) AllReadyH.nil
        (first | (go_at_call 83; refine (HNX.out _).mono ?_; rintro e w3 ⟨rfl, hb3⟩; have hbA3 : Below wA.heap.size wA w3 := (by (repeat' (first | (with_reducible first | exact Below.refl _ _ | assumption | refine Below.alloc ?_ ?_ _ | refine Below.setCell ?_ ?_ _ | refine below_row ?_ ?_ _ | refine Below.drew ?_ | refine below_drewN ?_ _ | refine Below.trans ?_ (Below.mono (by assumption) ?_)) | exact Nat.le_refl _ | omega | (simp; done) | (simp; omega) | exact Below.size (by assumption)))); have hsz3 := hbA3.size; have hal3 := HALL.out w3 hbA3; have n3x0 := hal3.1.cell 0; have n3x1 := hal3.1.cell 1; have n3x2 := hal3.1.cell 2; have n3x3 := hal3.1.cell 3; have n3x4 := hal3.1.cell 4; have n3y0 := hal3.2.cell 0; have n3y1 := hal3.2.cell 1; have n3y2 := hal3.2.cell 2; have n3y3 := hal3.2.cell 3; have n3y4 := hal3.2.cell 4; clear hb3 hal3) | (go_simp; go_at_call 83; refine (HNX.out _).mono ?_; rintro e w3 ⟨rfl, hb3⟩; have hbA3 : Below wA.heap.size wA w3 := (by (repeat' (first | (with_reducible first | exact Below.refl _ _ | assumption | refine Below.alloc ?_ ?_ _ | refine Below.setCell ?_ ?_ _ | refine below_row ?_ ?_ _ | refine Below.drew ?_ | refine below_drewN ?_ _ | refine Below.trans ?_ (Below.mono (by assumption) ?_)) | exact Nat.le_refl _ | omega | (simp; done) | (simp; omega) | exact Below.size (by assumption)))); have hsz3 := hbA3.size; have hal3 := HALL.out w3 hbA3; have n3x0 := hal3.1.cell 0; have n3x1 := hal3.1.cell 1; have n3x2 := hal3.1.cell 2; have n3x3 := hal3.1.cell 3; have n3x4 := hal3.1.cell 4; have n3y0 := hal3.2.cell 0; have n3y1 := hal3.2.cell 1; have n3y2 := hal3.2.cell 2; have n3y3 := hal3.2.cell 3; have n3y4 := hal3.2.cell 4; clear hb3 hal3))
        refine hK.out _ _ ?_ (fun hHeld => ?_)
        · exact ⟨n3x0, n3x1, n3x2, n3x3, n3x4, n3y0, n3y1, n3y2, n3y3, n3y4⟩
        clear hK K
        try simp only [Act.put, List.setIfInBounds_toArray, List.set_cons_zero, List.set_cons_succ]
        refine wpAnyH_ready (rs := [3]) (by kernel_rfl) (by simp) ?_
        refine cons_at rfl (fun K hK => ?_) AllReadyH.nil
        (first | (go_at_call 83; refine (HNY.out _).mono ?_; rintro e w4 ⟨rfl, hb4⟩; have hbA4 : Below wA.heap.size wA w4 := (by (repeat' (first | (with_reducible first | exact Below.refl _ _ | assumption | refine Below.alloc ?_ ?_ _ | refine Below.setCell ?_ ?_ _ | refine below_row ?_ ?_ _ | refine Below.drew ?_ | refine below_drewN ?_ _ | refine Below.trans ?_ (Below.mono (by assumption) ?_)) | exact Nat.le_refl _ | omega | (simp; done) | (simp; omega) | exact Below.size (by assumption)))); have hsz4 := hbA4.size; have hal4 := HALL.out w4 hbA4; have n4x0 := hal4.1.cell 0; have n4x1 := hal4.1.cell 1; have n4x2 := hal4.1.cell 2; have n4x3 := hal4.1.cell 3; have n4x4 := hal4.1.cell 4; have n4y0 := hal4.2.cell 0; have n4y1 := hal4.2.cell 1; have n4y2 := hal4.2.cell 2; have n4y3 := hal4.2.cell 3; have n4y4 := hal4.2.cell 4; clear hb4 hal4) | (go_simp; go_at_call 83; refine (HNY.out _).mono ?_; rintro e w4 ⟨rfl, hb4⟩; have hbA4 : Below wA.heap.size wA w4 := (by (repeat' (first | (with_reducible first | exact Below.refl _ _ | assumption | refine Below.alloc ?_ ?_ _ | refine Below.setCell ?_ ?_ _ | refine below_row ?_ ?_ _ | refine Below.drew ?_ | refine below_drewN ?_ _ | refine Below.trans ?_ (Below.mono (by assumption) ?_)) | exact Nat.le_refl _ | omega | (simp; done) | (simp; omega) | exact Below.size (by assumption)))); have hsz4 := hbA4.size; have hal4 := HALL.out w4 hbA4; have n4x0 := hal4.1.cell 0; have n4x1 := hal4.1.cell 1; have n4x2 := hal4.1.cell 2; have n4x3 := hal4.1.cell 3; have n4x4 := hal4.1.cell 4; have n4y0 := hal4.2.cell 0; have n4y1 := hal4.2.cell 1; have n4y2 := hal4.2.cell 2; have n4y3 := hal4.2.cell 3; have n4y4 := hal4.2.cell 4; clear hb4 hal4))
        refine hK.out _ _ ?_ (fun hHeld => ?_)
        · exact ⟨n4x0, n4x1, n4x2, n4x3, n4x4, n4y0, n4y1, n4y2, n4y3, n4y4⟩
        clear hK K
        try simp only [Act.put, List.setIfInBounds_toArray, List.set_cons_zero, List.set_cons_succ]
        refine take_at (i := 4) (v := ?_) rfl (by kernel_rfl) (by kernel_rfl) (by kernel_rfl) (fun _ _ _ h => h) (Or.inl ⟨by rfl, ?_⟩) (by assumption) ?_
        rotate_left
        · (intro w hSw; (try dsimp only at hSw); go_simp; (try with_reducible rfl))
        try simp only [Act.put, List.setIfInBounds_toArray, List.set_cons_zero, List.set_cons_succ]
        refine take_at (i := 5) (v := ?_) rfl (by kernel_rfl) (by kernel_rfl) (by kernel_rfl) (fun _ _ _ h => h) (Or.inl ⟨by rfl, ?_⟩) (by assumption) ?_
        rotate_left
        · (intro w hSw; (try dsimp only at hSw); go_simp; (try with_reducible rfl))
        try simp only [Act.put, List.setIfInBounds_toArray, List.set_cons_zero, List.set_cons_succ]
        refine take_at (i := 6) (v := ?_) rfl (by kernel_rfl) (by kernel_rfl) (by kernel_rfl) (fun _ _ _ h => h) (Or.inl ⟨by rfl, ?_⟩) (by assumption) ?_
        rotate_left
        · (intro w hSw; (try dsimp only at hSw); go_simp; (try with_reducible rfl))
        try simp only [Act.put, List.setIfInBounds_toArray, List.set_cons_zero, List.set_cons_succ]
        refine take_at (i := 7) (v := ?_) rfl (by kernel_rfl) (by kernel_rfl) (by kernel_rfl) (fun _ _ _ h => h) (Or.inl ⟨by rfl, ?_⟩) (by assumption) ?_
        rotate_left
        · (intro w hSw; (try dsimp only at hSw); go_simp; (try with_reducible rfl))
        try simp only [Act.put, List.setIfInBounds_toArray, List.set_cons_zero, List.set_cons_succ]
        refine take_at (i := 8) (v := ?_) rfl (by kernel_rfl) (by kernel_rfl) (by kernel_rfl) (fun _ _ _ h => h) (Or.inl ⟨by rfl, ?_⟩) (by assumption) ?_
        rotate_left
        · (intro w hSw; (try dsimp only at hSw); go_simp; (try with_reducible rfl))
        try simp only [Act.put, List.setIfInBounds_toArray, List.set_cons_zero, List.set_cons_succ]
        refine take_at (i := 9) (v := ?_) rfl (by kernel_rfl) (by kernel_rfl) (by kernel_rfl) (fun _ _ _ h => h) (Or.inl ⟨by rfl, ?_⟩) (by assumption) ?_
        rotate_left
        · (intro w hSw; (try dsimp only at hSw); go_simp; (try with_reducible rfl))
        try simp only [Act.put, List.setIfInBounds_toArray, List.set_cons_zero, List.set_cons_succ]
        refine take_at (i := 10) (v := ?_) rfl (by kernel_rfl) (by kernel_rfl) (by kernel_rfl) (fun _ _ _ h => h) (Or.inl ⟨by rfl, ?_⟩) (by assumption) ?_
        rotate_left
        · (intro w hSw; (try dsimp only at hSw); go_simp; (try with_reducible rfl))
        try simp only [Act.put, List.setIfInBounds_toArray, List.set_cons_zero, List.set_cons_succ]
        refine take_at (i := 11) (v := ?_) rfl (by kernel_rfl) (by kernel_rfl) (by kernel_rfl) (fun _ _ _ h => h) (Or.inl ⟨by rfl, ?_⟩) (by assumption) ?_
        rotate_left
        · (intro w hSw; (try dsimp only at hSw); go_simp; (try with_reducible rfl))
        try simp only [Act.put, List.setIfInBounds_toArray, List.set_cons_zero, List.set_cons_succ]
        refine take_at (i := 12) (v := ?_) rfl (by kernel_rfl) (by kernel_rfl) (by kernel_rfl) (fun _ _ _ h => h) (Or.inl ⟨by rfl, ?_⟩) (by assumption) ?_
        rotate_left
        · (intro w hSw; (try dsimp only at hSw); go_simp; (try with_reducible rfl))
        try simp only [Act.put, List.setIfInBounds_toArray, List.set_cons_zero, List.set_cons_succ]
        refine take_at (i := 13) (v := ?_) rfl (by kernel_rfl) (by kernel_rfl) (by kernel_rfl) (fun _ _ _ h => h) (Or.inl ⟨by rfl, ?_⟩) (by assumption) ?_
        rotate_left
        · (intro w hSw; (try dsimp only at hSw); go_simp; (try with_reducible rfl))
        try simp only [Act.put, List.setIfInBounds_toArray, List.set_cons_zero, List.set_cons_succ]
        refine take_at (i := 14) (v := ?_) rfl (by kernel_rfl) (by kernel_rfl) (by kernel_rfl) (fun _ _ _ h => h) (Or.inl ⟨by rfl, ?_⟩) (by assumption) ?_
        rotate_left
        · (intro w hSw; (try dsimp only at hSw); go_simp; (try with_reducible rfl))
        try simp only [Act.put, List.setIfInBounds_toArray, List.set_cons_zero, List.set_cons_succ]
        refine take_at (i := 15) (v := ?_) rfl (by kernel_rfl) (by kernel_rfl) (by kernel_rfl) (fun _ _ _ h => h) (Or.inl ⟨by rfl, ?_⟩) (by assumption) ?_
        rotate_left
        · (intro w hSw; (try dsimp only at hSw); go_simp; (try with_reducible rfl))
        try simp only [Act.put, List.setIfInBounds_toArray, List.set_cons_zero, List.set_cons_succ]
        refine take_at (i := 16) (v := ?_) rfl (by kernel_rfl) (by kernel_rfl) (by kernel_rfl) (fun _ _ _ h => h) (Or.inl ⟨by rfl, ?_⟩) (by assumption) ?_
        rotate_left
        · (intro w hSw; (try dsimp only at hSw); go_simp; (try with_reducible rfl))
        try simp only [Act.put, List.setIfInBounds_toArray, List.set_cons_zero, List.set_cons_succ]
        refine wpAnyH_ready (rs := [17]) (by kernel_rfl) (by simp) ?_
        refine cons_at rfl (fun K hK => ?_) AllReadyH.nil
        (first | (go_at_call 124; refine (HDIA.out _ (by (repeat' (first | (with_reducible first | exact Below.refl _ _ | assumption | refine Below.alloc ?_ ?_ _ | refine Below.setCell ?_ ?_ _ | refine below_row ?_ ?_ _ | refine Below.drew ?_ | refine below_drewN ?_ _ | refine Below.trans ?_ (Below.mono (by assumption) ?_)) | exact Nat.le_refl _ | omega | (simp; done) | (simp; omega) | exact Below.size (by assumption))))).mono ?_; rintro e w5 ⟨⟨A5, c5, rfl⟩, hb5⟩; have hbA5 : Below wA.heap.size wA w5 := (by (repeat' (first | (with_reducible first | exact Below.refl _ _ | assumption | refine Below.alloc ?_ ?_ _ | refine Below.setCell ?_ ?_ _ | refine below_row ?_ ?_ _ | refine Below.drew ?_ | refine below_drewN ?_ _ | refine Below.trans ?_ (Below.mono (by assumption) ?_)) | exact Nat.le_refl _ | omega | (simp; done) | (simp; omega) | exact Below.size (by assumption)))); have hsz5 := hbA5.size; have hal5 := HALL.out w5 hbA5; have n5x0 := hal5.1.cell 0; have n5x1 := hal5.1.cell 1; have n5x2 := hal5.1.cell 2; have n5x3 := hal5.1.cell 3; have n5x4 := hal5.1.cell 4; have n5y0 := hal5.2.cell 0; have n5y1 := hal5.2.cell 1; have n5y2 := hal5.2.cell 2; have n5y3 := hal5.2.cell 3; have n5y4 := hal5.2.cell 4; clear hb5 hal5) | (go_simp; go_at_call 124; refine (HDIA.out _ (by (repeat' (first | (with_reducible first | exact Below.refl _ _ | assumption | refine Below.alloc ?_ ?_ _ | refine Below.setCell ?_ ?_ _ | refine below_row ?_ ?_ _ | refine Below.drew ?_ | refine below_drewN ?_ _ | refine Below.trans ?_ (Below.mono (by assumption) ?_)) | exact Nat.le_refl _ | omega | (simp; done) | (simp; omega) | exact Below.size (by assumption))))).mono ?_; rintro e w5 ⟨⟨A5, c5, rfl⟩, hb5⟩; have hbA5 : Below wA.heap.size wA w5 := (by (repeat' (first | (with_reducible first | exact Below.refl _ _ | assumption | refine Below.alloc ?_ ?_ _ | refine Below.setCell ?_ ?_ _ | refine below_row ?_ ?_ _ | refine Below.drew ?_ | refine below_drewN ?_ _ | refine Below.trans ?_ (Below.mono (by assumption) ?_)) | exact Nat.le_refl _ | omega | (simp; done) | (simp; omega) | exact Below.size (by assumption)))); have hsz5 := hbA5.size; have hal5 := HALL.out w5 hbA5; have n5x0 := hal5.1.cell 0; have n5x1 := hal5.1.cell 1; have n5x2 := hal5.1.cell 2; have n5x3 := hal5.1.cell 3; have n5x4 := hal5.1.cell 4; have n5y0 := hal5.2.cell 0; have n5y1 := hal5.2.cell 1; have n5y2 := hal5.2.cell 2; have n5y3 := hal5.2.cell 3; have n5y4 := hal5.2.cell 4; clear hb5 hal5))
        refine hK.out _ _ ?_ (fun hHeld => ?_)
        · exact ⟨n5x0, n5x1, n5x2, n5x3, n5x4, n5y0, n5y1, n5y2, n5y3, n5y4⟩
        clear hK K
        try simp only [Act.put, List.setIfInBounds_toArray, List.set_cons_zero, List.set_cons_succ]
        refine take_at (i := 18) (v := ?_) rfl (by kernel_rfl) (by kernel_rfl) (by kernel_rfl) (fun _ _ _ h => h) (Or.inl ⟨by rfl, ?_⟩) (by assumption) ?_
        rotate_left
        · (intro w hSw; (try dsimp only at hSw); go_simp; (try with_reducible rfl))
        try simp only [Act.put, List.setIfInBounds_toArray, List.set_cons_zero, List.set_cons_succ]
        refine take_at (i := 19) (v := ?_) rfl (by kernel_rfl) (by kernel_rfl) (by kernel_rfl) (fun _ _ _ h => h) (Or.inl ⟨by rfl, ?_⟩) (by assumption) ?_
        rotate_left
        · (intro w hSw; (try dsimp only at hSw); go_simp; (try with_reducible rfl))
        try simp only [Act.put, List.setIfInBounds_toArray, List.set_cons_zero, List.set_cons_succ]
        refine take_at (i := 20) (v := ?_) rfl (by kernel_rfl) (by kernel_rfl) (by kernel_rfl) (fun _ _ _ h => h) (Or.inl ⟨by rfl, ?_⟩) (by assumption) ?_
        rotate_left
        · (intro w hSw; (try dsimp only at hSw); go_simp; (try with_reducible rfl))
        try simp only [Act.put, List.setIfInBounds_toArray, List.set_cons_zero, List.set_cons_succ]
        refine take_at (i := 21) (v := ?_) rfl (by kernel_rfl) (by kernel_rfl) (by kernel_rfl) (fun _ _ _ h => h) (Or.inl ⟨by rfl, ?_⟩) (by assumption) ?_
        rotate_left
        · (intro w hSw; (try dsimp only at hSw); go_simp; (try with_reducible rfl))
        try simp only [Act.put, List.setIfInBounds_toArray, List.set_cons_zero, List.set_cons_succ]
        refine take_at (i := 22) (v := undef) rfl (by kernel_rfl) (by kernel_rfl) (by kernel_rfl) (fun _ _ _ h => h) (Or.inr ⟨by rfl, rfl⟩) (by assumption) ?_
        try simp only [Act.put, List.setIfInBounds_toArray, List.set_cons_zero, List.set_cons_succ]
        refine take_at (i := 23) (v := undef) rfl (by kernel_rfl) (by kernel_rfl) (by kernel_rfl) (fun _ _ _ h => h) (Or.inr ⟨by rfl, rfl⟩) (by assumption) ?_
        try simp only [Act.put, List.setIfInBounds_toArray, List.set_cons_zero, List.set_cons_succ]
        refine take_at (i := 24) (v := undef) rfl (by kernel_rfl) (by kernel_rfl) (by kernel_rfl) (fun _ _ _ h => h) (Or.inr ⟨by rfl, rfl⟩) (by assumption) ?_
        try simp only [Act.put, List.setIfInBounds_toArray, List.set_cons_zero, List.set_cons_succ]
        refine take_at (i := 25) (v := undef) rfl (by kernel_rfl) (by kernel_rfl) (by kernel_rfl) (fun _ _ _ h => h) (Or.inr ⟨by rfl, rfl⟩) (by assumption) ?_
        try simp only [Act.put, List.setIfInBounds_toArray, List.set_cons_zero, List.set_cons_succ]
        refine take_at (i := 26) (v := undef) rfl (by kernel_rfl) (by kernel_rfl) (by kernel_rfl) (fun _ _ _ h => h) (Or.inr ⟨by rfl, rfl⟩) (by assumption) ?_
        try simp only [Act.put, List.setIfInBounds_toArray, List.set_cons_zero, List.set_cons_succ]
        refine take_at (i := 27) (v := undef) rfl (by kernel_rfl) (by kernel_rfl) (by kernel_rfl) (fun _ _ _ h => h) (Or.inr ⟨by rfl, rfl⟩) (by assumption) ?_
        try simp only [Act.put, List.setIfInBounds_toArray, List.set_cons_zero, List.set_cons_succ]
        refine take_at (i := 28) (v := undef) rfl (by kernel_rfl) (by kernel_rfl) (by kernel_rfl) (fun _ _ _ h => h) (Or.inr ⟨by rfl, rfl⟩) (by assumption) ?_
        try simp only [Act.put, List.setIfInBounds_toArray, List.set_cons_zero, List.set_cons_succ]
        refine take_at (i := 29) (v := ?_) rfl (by kernel_rfl) (by kernel_rfl) (by kernel_rfl) (fun _ _ _ h => h) (Or.inl ⟨by rfl, ?_⟩) (by assumption) ?_
        rotate_left
        · (intro w hSw; (try dsimp only at hSw); go_simp; (try with_reducible rfl))
        try simp only [Act.put, List.setIfInBounds_toArray, List.set_cons_zero, List.set_cons_succ]
        refine take_at (i := 30) (v := ?_) rfl (by kernel_rfl) (by kernel_rfl) (by kernel_rfl) (fun _ _ _ h => h) (Or.inl ⟨by rfl, ?_⟩) (by assumption) ?_
        rotate_left
        · (intro w hSw; (try dsimp only at hSw); go_simp; (try with_reducible rfl))
        try simp only [Act.put, List.setIfInBounds_toArray, List.set_cons_zero, List.set_cons_succ]
        refine wpAnyH_done (by kernel_rfl) ?_ _
        all_goals (go_wp2_with fail; go_ret)
        all_goals exact ⟨ret_bool HR.out.symm, by (repeat' (first | (with_reducible first | exact Below.refl _ _ | assumption | refine Below.alloc ?_ ?_ _ | refine Below.setCell ?_ ?_ _ | refine below_row ?_ ?_ _ | refine Below.drew ?_ | refine below_drewN ?_ _ | refine Below.trans ?_ (Below.mono (by assumption) ?_)) | exact Nat.le_refl _ | omega | (simp; done) | (simp; omega) | exact Below.size (by assumption)))⟩
      case true =>
        cases b5
        all_goals
          go_enter Try.func95, Try.ntmps95
          go_wp2_with fail
          rw [HWA.out]
          have hall := HALL.out wA (Below.refl _ _)
          have x0 := hall.1.cell 0
          have x1 := hall.1.cell 1
          have x2 := hall.1.cell 2
          have x3 := hall.1.cell 3
          have x4 := hall.1.cell 4
          have y0 := hall.2.cell 0
          have y1 := hall.2.cell 1
          have y2 := hall.2.cell 2
          have y3 := hall.2.cell 3
          have y4 := hall.2.cell 4
          have zx := hall.1.lt
          have zy := hall.2.lt
          clear hall HWA
          go_region_held3 (fun W => W.cell? ⟨w.heap.size, 0, none⟩ = some (.int .i64 d) ∧ W.cell? ⟨w.heap.size, 1, none⟩ = some (.int .i64 l) ∧ W.cell? ⟨w.heap.size, 2, none⟩ = some (.int .u8 k) ∧ W.cell? ⟨w.heap.size, 3, none⟩ = some (.slice A1 ni c1) ∧ W.cell? ⟨w.heap.size, 4, none⟩ = some (.slice A3 nd c3) ∧ W.cell? ⟨w.heap.size + 1, 0, none⟩ = some (.int .i64 d') ∧ W.cell? ⟨w.heap.size + 1, 1, none⟩ = some (.int .i64 l') ∧ W.cell? ⟨w.heap.size + 1, 2, none⟩ = some (.int .u8 k') ∧ W.cell? ⟨w.heap.size + 1, 3, none⟩ = some (.slice A2 ni' c2) ∧ W.cell? ⟨w.heap.size + 1, 4, none⟩ = some (.slice A4 nd' c4)) (go_keep) (first
            | (go_at_call 83; (with_reducible refine (HNX.out _).mono ?_); rintro e w3 ⟨rfl, hb3⟩; have hbA3 : Below wA.heap.size wA w3 := (by (repeat' (first | (with_reducible first | exact Below.refl _ _ | assumption | refine Below.alloc ?_ ?_ _ | refine Below.setCell ?_ ?_ _ | refine below_row ?_ ?_ _ | refine Below.drew ?_ | refine below_drewN ?_ _ | refine Below.trans ?_ (Below.mono (by assumption) ?_)) | exact Nat.le_refl _ | omega | (simp; done) | (simp; omega) | exact Below.size (by assumption)))); have hsz3 := hbA3.size; have hal3 := HALL.out w3 hbA3; have n3x0 := hal3.1.cell 0; have n3x1 := hal3.1.cell 1; have n3x2 := hal3.1.cell 2; have n3x3 := hal3.1.cell 3; have n3x4 := hal3.1.cell 4; have n3y0 := hal3.2.cell 0; have n3y1 := hal3.2.cell 1; have n3y2 := hal3.2.cell 2; have n3y3 := hal3.2.cell 3; have n3y4 := hal3.2.cell 4; clear hb3 hal3)
            | (go_at_call 83; (with_reducible refine (HNY.out _).mono ?_); rintro e w4 ⟨rfl, hb4⟩; have hbA4 : Below wA.heap.size wA w4 := (by (repeat' (first | (with_reducible first | exact Below.refl _ _ | assumption | refine Below.alloc ?_ ?_ _ | refine Below.setCell ?_ ?_ _ | refine below_row ?_ ?_ _ | refine Below.drew ?_ | refine below_drewN ?_ _ | refine Below.trans ?_ (Below.mono (by assumption) ?_)) | exact Nat.le_refl _ | omega | (simp; done) | (simp; omega) | exact Below.size (by assumption)))); have hsz4 := hbA4.size; have hal4 := HALL.out w4 hbA4; have n4x0 := hal4.1.cell 0; have n4x1 := hal4.1.cell 1; have n4x2 := hal4.1.cell 2; have n4x3 := hal4.1.cell 3; have n4x4 := hal4.1.cell 4; have n4y0 := hal4.2.cell 0; have n4y1 := hal4.2.cell 1; have n4y2 := hal4.2.cell 2; have n4y3 := hal4.2.cell 3; have n4y4 := hal4.2.cell 4; clear hb4 hal4)
            | (go_at_call 124; (with_reducible refine (HDIA.out _ (by (repeat' (first | (with_reducible first | exact Below.refl _ _ | assumption | refine Below.alloc ?_ ?_ _ | refine Below.setCell ?_ ?_ _ | refine below_row ?_ ?_ _ | refine Below.drew ?_ | refine below_drewN ?_ _ | refine Below.trans ?_ (Below.mono (by assumption) ?_)) | exact Nat.le_refl _ | omega | (simp; done) | (simp; omega) | exact Below.size (by assumption))))).mono ?_); rintro e w5 ⟨⟨A5, c5, rfl⟩, hb5⟩; have hbA5 : Below wA.heap.size wA w5 := (by (repeat' (first | (with_reducible first | exact Below.refl _ _ | assumption | refine Below.alloc ?_ ?_ _ | refine Below.setCell ?_ ?_ _ | refine below_row ?_ ?_ _ | refine Below.drew ?_ | refine below_drewN ?_ _ | refine Below.trans ?_ (Below.mono (by assumption) ?_)) | exact Nat.le_refl _ | omega | (simp; done) | (simp; omega) | exact Below.size (by assumption)))); have hsz5 := hbA5.size; have hal5 := HALL.out w5 hbA5; have n5x0 := hal5.1.cell 0; have n5x1 := hal5.1.cell 1; have n5x2 := hal5.1.cell 2; have n5x3 := hal5.1.cell 3; have n5x4 := hal5.1.cell 4; have n5y0 := hal5.2.cell 0; have n5y1 := hal5.2.cell 1; have n5y2 := hal5.2.cell 2; have n5y3 := hal5.2.cell 3; have n5y4 := hal5.2.cell 4; clear hb5 hal5)
            | (go_at_call 91; (with_reducible refine (HDDA.out _ (by (repeat' (first | (with_reducible first | exact Below.refl _ _ | assumption | refine Below.alloc ?_ ?_ _ | refine Below.setCell ?_ ?_ _ | refine below_row ?_ ?_ _ | refine Below.drew ?_ | refine below_drewN ?_ _ | refine Below.trans ?_ (Below.mono (by assumption) ?_)) | exact Nat.le_refl _ | omega | (simp; done) | (simp; omega) | exact Below.size (by assumption))))).mono ?_); rintro e w6 ⟨⟨A6, c6, rfl⟩, hb6⟩; have hbA6 : Below wA.heap.size wA w6 := (by (repeat' (first | (with_reducible first | exact Below.refl _ _ | assumption | refine Below.alloc ?_ ?_ _ | refine Below.setCell ?_ ?_ _ | refine below_row ?_ ?_ _ | refine Below.drew ?_ | refine below_drewN ?_ _ | refine Below.trans ?_ (Below.mono (by assumption) ?_)) | exact Nat.le_refl _ | omega | (simp; done) | (simp; omega) | exact Below.size (by assumption)))); have hsz6 := hbA6.size; have hal6 := HALL.out w6 hbA6; have n6x0 := hal6.1.cell 0; have n6x1 := hal6.1.cell 1; have n6x2 := hal6.1.cell 2; have n6x3 := hal6.1.cell 3; have n6x4 := hal6.1.cell 4; have n6y0 := hal6.2.cell 0; have n6y1 := hal6.2.cell 1; have n6y2 := hal6.2.cell 2; have n6y3 := hal6.2.cell 3; have n6y4 := hal6.2.cell 4; clear hb6 hal6))
          all_goals (go_wp2_with fail; go_ret)
          all_goals exact ⟨ret_bool HR.out.symm, by (repeat' (first | (with_reducible first | exact Below.refl _ _ | assumption | refine Below.alloc ?_ ?_ _ | refine Below.setCell ?_ ?_ _ | refine below_row ?_ ?_ _ | refine Below.drew ?_ | refine below_drewN ?_ _ | refine Below.trans ?_ (Below.mono (by assumption) ?_)) | exact Nat.le_refl _ | omega | (simp; done) | (simp; omega) | exact Below.size (by assumption)))⟩
  all_goals
    have hzz := hbA.size
    go_enter Try.func95, Try.ntmps95
    go_wp2_with fail
    rw [HWA.out]
    have hup : Nonempty (Up wA) := ⟨⟨wA, Below.refl _ _⟩⟩
    have ux0 : ∀ n : Up wA, n.val.cell? ⟨w.heap.size, 0, none⟩ = some (.int .i64 d) := fun n => (HALL.out n.val n.ok).1.cell 0
    have ux1 : ∀ n : Up wA, n.val.cell? ⟨w.heap.size, 1, none⟩ = some (.int .i64 l) := fun n => (HALL.out n.val n.ok).1.cell 1
    have ux2 : ∀ n : Up wA, n.val.cell? ⟨w.heap.size, 2, none⟩ = some (.int .u8 k) := fun n => (HALL.out n.val n.ok).1.cell 2
    have ux3 : ∀ n : Up wA, n.val.cell? ⟨w.heap.size, 3, none⟩ = some (.slice A1 ni c1) := fun n => (HALL.out n.val n.ok).1.cell 3
    have ux4 : ∀ n : Up wA, n.val.cell? ⟨w.heap.size, 4, none⟩ = some (.slice A3 nd c3) := fun n => (HALL.out n.val n.ok).1.cell 4
    have uy0 : ∀ n : Up wA, n.val.cell? ⟨w.heap.size + 1, 0, none⟩ = some (.int .i64 d') := fun n => (HALL.out n.val n.ok).2.cell 0
    have uy1 : ∀ n : Up wA, n.val.cell? ⟨w.heap.size + 1, 1, none⟩ = some (.int .i64 l') := fun n => (HALL.out n.val n.ok).2.cell 1
    have uy2 : ∀ n : Up wA, n.val.cell? ⟨w.heap.size + 1, 2, none⟩ = some (.int .u8 k') := fun n => (HALL.out n.val n.ok).2.cell 2
    have uy3 : ∀ n : Up wA, n.val.cell? ⟨w.heap.size + 1, 3, none⟩ = some (.slice A2 ni' c2) := fun n => (HALL.out n.val n.ok).2.cell 3
    have uy4 : ∀ n : Up wA, n.val.cell? ⟨w.heap.size + 1, 4, none⟩ = some (.slice A4 nd' c4) := fun n => (HALL.out n.val n.ok).2.cell 4
    have ux : ∀ n : Up wA, w.heap.size < n.val.heap.size := fun n => (HALL.out n.val n.ok).1.lt
    have uy : ∀ n : Up wA, w.heap.size + 1 < n.val.heap.size := fun n => (HALL.out n.val n.ok).2.lt
    refine wp_region_up (by kernel_rfl) (by kernel_rfl) ?_
    repeat (first | go_big_quiet_skip | (go_big_quiet_want; go_big_quiet_op; first | go_big_quiet_on | go_big_quiet_call ((go_at_call 83; first | exact Up.call (HNX.out _) | exact Up.call (HNY.out _)))))
    refine wpQuiet_nil ?_
    rintro _ ⟨⟨w7, hb7⟩, rfl⟩
    go_wp2_with fail
    go_ret
    exact ⟨ret_bool HR.out.symm, by (repeat' (first | (with_reducible first | exact Below.refl _ _ | assumption | refine Below.alloc ?_ ?_ _ | refine Below.setCell ?_ ?_ _ | refine below_row ?_ ?_ _ | refine Below.drew ?_ | refine below_drewN ?_ _ | refine Below.trans ?_ (Below.mono (by assumption) ?_)) | exact Nat.le_refl _ | omega | (simp; done) | (simp; omega) | exact Below.size (by assumption)))⟩
end Go.Proofs.Ytkjfceajakhlfaa
