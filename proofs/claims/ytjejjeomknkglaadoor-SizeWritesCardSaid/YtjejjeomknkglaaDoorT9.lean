/- The walks of package size: read, where a word is no number. -/
import Derived.Test.YtjejjeomknkglaaDoorT8
import Derived.Deep.RegionHeld3
namespace Go.Proofs.YtjejjeomknkglaaDoor
set_option linter.unusedVariables false
set_option linter.unusedSimpArgs false
open Go.RowKit

set_option maxHeartbeats 4000000 in
set_option maxRecDepth 100000 in
theorem read_num1 (un st : Int) (pl : Nat) (s a b c p : ByteArray) (w : World) (he : Env w) (hl : s.size ≤ 1000000) (hp : piecesB s = [a, b, c, p]) (hst : st = 100 ∨ st = 254) (hpl : pl = 3 ∨ pl = 4)
    (hF : ∀ bl ba cap g W, Ready p bl ba cap g W → Calls Tryd.prog 44 #[.slice (some ⟨g, 0, none⟩) 2 2, .func (.func 51) #[] #[.pointer (some ⟨bl, 0, none⟩)]] W (FoundSc un st pl p W)) (hm : p.size ≤ 10)
    (h3 : a.size ≤ 1000000 ∧ b.size ≤ 1000000 ∧ c.size ≤ 1000000) (ha : Lacks st a) :
    Calls Tryd.prog 24 #[.string s] w (Panics w) := by
  have HS := Lib.hid (split_four s a b c p w he hl hp)
  have HF := Lib.hid hF
  obtain ⟨V, hV⟩ : ∃ V : ByteArray → Int, ∀ x v, numL st x.data.toList = some v → V x = v := ⟨fun x => (numL st x.data.toList).getD 0, fun x v h => by simp only [h, Option.getD_some]⟩
  have HN : Hid (∀ x W c1 c2, Has st x → Calls Tryd.prog 52 #[.agg #[.int .u8 un, .int .i64 st, .int .i64 (pl : Int), .string p, .func (.func 57) #[] #[.pointer (some ⟨c1, 0, none⟩)], .func (.func 58) #[] #[.pointer (some ⟨c1, 0, none⟩)], .func (.func 59) #[] #[.pointer (some ⟨c2, 0, none⟩), .pointer (some ⟨c1, 0, none⟩)]], .string x] W fun e w' => e = .returned (.int .i64 (V x)) ∧ Below W.heap.size W w') := Lib.hid (fun x W c1 c2 ⟨⟨v, hx⟩, hsz⟩ => by
    have h := number_any un st pl p c1 c2 x W hst hsz
    rw [hx] at h
    rw [hV x v hx]
    exact h)
  have HQ : Hid (∀ x W c1 c2, Lacks st x → Calls Tryd.prog 52 #[.agg #[.int .u8 un, .int .i64 st, .int .i64 (pl : Int), .string p, .func (.func 57) #[] #[.pointer (some ⟨c1, 0, none⟩)], .func (.func 58) #[] #[.pointer (some ⟨c1, 0, none⟩)], .func (.func 59) #[] #[.pointer (some ⟨c2, 0, none⟩), .pointer (some ⟨c1, 0, none⟩)]], .string x] W fun e w' => e = .panicked wrongP ∧ Below W.heap.size W w') := Lib.hid (fun x W c1 c2 ⟨hx, hsz⟩ => by
    have h := number_any un st pl p c1 c2 x W hst hsz
    rw [hx] at h
    exact h)
  clear hV he hst hpl
  clear hF hp
  go_enter Tryd.func24, Tryd.ntmps24
  go_wp2_with fail
  refine (HS.out _ (by (repeat' (first | (with_reducible exact Below.refl _ _) | (with_reducible assumption) | (with_reducible refine Below.alloc ?_ ?_ _) | (with_reducible refine Below.setCell ?_ ?_ _) | (with_reducible refine below_row ?_ ?_ _) | (with_reducible refine Below.drew ?_) | (with_reducible refine below_drewN ?_ _) | (with_reducible refine Below.trans ?_ (Below.mono (by assumption) ?_)) | (first | exact Nat.le_refl _ | omega | (simp; done) | (simp; omega)))))).mono ?_
  rintro e w1 ⟨rfl, rfl⟩
  go_wp2_with fail
  refine (scales_any _).mono ?_
  rintro e w2 ⟨b1, b2, b3, b4, rfl, -, -, hb2⟩
  have s2 := hb2.size; try simp only [World.size_alloc, World.size_setCell, World.size_drew, setRow_size] at s2
  have LA := Lib.hid (((Lies.new (u := w.alloc (.cells #[.int .i64 0, .int .i64 0, .int .i64 0, .int .u8 0, .int .i64 0, .int .i64 0, .string ⟨#[]⟩, .nilFunc, .nilFunc, .nilFunc] 48)) (t := 9) (cs := #[.string a, .string b, .string c, .string p]) rfl).alloc _).after hb2)
  have LL := Lib.hid ((Lies.new (u := (w.alloc (.cells #[.int .i64 0, .int .i64 0, .int .i64 0, .int .u8 0, .int .i64 0, .int .i64 0, .string ⟨#[]⟩, .nilFunc, .nilFunc, .nilFunc] 48)).alloc (.cells #[.string a, .string b, .string c, .string p] 9)) (t := 61) (cs := #[.slice (some ⟨w.heap.size + 1, 0, none⟩) 4 4]) rfl).after hb2)
  simp only [World.size_alloc] at LA LL
  go_wp2_with fail
  refine (HF.out _ _ 4 _ _ ⟨(LL.out.alloc _).cell 0, (LA.out.alloc _).cell 3, b1, b2, b3, b4, Lies.new rfl⟩).mono ?_
  rintro e w3 ⟨⟨c1, c2, rfl⟩, hb3⟩
  have s3 := hb3.size; try simp only [World.size_alloc, World.size_setCell, World.size_drew, setRow_size] at s3
  have LA3 := Lib.hid ((LA.out.alloc _).after hb3)
  have LL3 := Lib.hid ((LL.out.alloc _).after hb3)
  have q0 := LL3.out.cell 0
  have r0 := LA3.out.cell 0
  have r1 := LA3.out.cell 1
  have r2 := LA3.out.cell 2
  have zA := LA3.out.lt
  have zL := LL3.out.lt
  have e1 : ¬ w3.heap.size = w.heap.size + 1 := by omega
  have e2 : ¬ w3.heap.size = w.heap.size + 1 + 1 := by omega
  have e3 : ¬ w.heap.size + 1 = w3.heap.size := by omega
  have e4 : ¬ w.heap.size + 1 + 1 = w3.heap.size := by omega
  have hbw : Below w.heap.size w w3 := by (repeat' (first | (with_reducible exact Below.refl _ _) | (with_reducible assumption) | (with_reducible refine Below.alloc ?_ ?_ _) | (with_reducible refine Below.setCell ?_ ?_ _) | (with_reducible refine below_row ?_ ?_ _) | (with_reducible refine Below.drew ?_) | (with_reducible refine below_drewN ?_ _) | (with_reducible refine Below.trans ?_ (Below.mono (by assumption) ?_)) | (first | exact Nat.le_refl _ | omega | (simp; done) | (simp; omega))))
  clear HF HS hb2 hb3 s2 LA LL
  go_wp2_with fail
  refine wp_region_held_drew (S := (fun W => W.cell? ⟨w.heap.size + 1 + 1, 0, none⟩ = some (.slice (some ⟨w.heap.size + 1, 0, none⟩) 4 4) ∧ W.cell? ⟨w.heap.size + 1, 0, none⟩ = some (.string a) ∧ W.cell? ⟨w.heap.size + 1, 1, none⟩ = some (.string b) ∧ W.cell? ⟨w.heap.size + 1, 2, none⟩ = some (.string c) ∧
      W.cell? ⟨w3.heap.size, 0, none⟩ = some (.int .u8 un) ∧ W.cell? ⟨w3.heap.size, 1, none⟩ = some (.int .i64 st) ∧ W.cell? ⟨w3.heap.size, 2, none⟩ = some (.int .i64 pl) ∧ W.cell? ⟨w3.heap.size, 3, none⟩ = some (.string p) ∧
      W.cell? ⟨w3.heap.size, 4, none⟩ = some (.func (.func 57) #[] #[.pointer (some ⟨c1, 0, none⟩)]) ∧ W.cell? ⟨w3.heap.size, 5, none⟩ = some (.func (.func 58) #[] #[.pointer (some ⟨c1, 0, none⟩)]) ∧
      W.cell? ⟨w3.heap.size, 6, none⟩ = some (.func (.func 59) #[] #[.pointer (some ⟨c2, 0, none⟩), .pointer (some ⟨c1, 0, none⟩)]))) (by kernel_rfl) ?_ (fun hHeld => ?_)
  · try dsimp only
    go_keep
  refine wpAnyH_take (i := 0) (v := ?_) rfl (by kernel_rfl) (by kernel_rfl) (by kernel_rfl) (fun _ _ _ h => h) (Or.inl ⟨by rfl, ?_⟩) (by assumption) ?_
  rotate_left
  · intro W hSw; (try dsimp only at hSw); go_simp; try with_reducible rfl
  try simp only [Act.put, List.setIfInBounds_toArray, List.set_cons_zero, List.set_cons_succ]
  refine wpAnyH_take (i := 1) (v := ?_) rfl (by kernel_rfl) (by kernel_rfl) (by kernel_rfl) (fun _ _ _ h => h) (Or.inl ⟨by rfl, ?_⟩) (by assumption) ?_
  rotate_left
  · intro W hSw; (try dsimp only at hSw); go_simp; try with_reducible rfl
  try simp only [Act.put, List.setIfInBounds_toArray, List.set_cons_zero, List.set_cons_succ]
  refine wpAnyH_take (i := 2) (v := ?_) rfl (by kernel_rfl) (by kernel_rfl) (by kernel_rfl) (fun _ _ _ h => h) (Or.inl ⟨by rfl, ?_⟩) (by assumption) ?_
  rotate_left
  · intro W hSw; (try dsimp only at hSw); go_simp; try with_reducible rfl
  try simp only [Act.put, List.setIfInBounds_toArray, List.set_cons_zero, List.set_cons_succ]
  refine wpAnyH_take (i := 3) (v := ?_) rfl (by kernel_rfl) (by kernel_rfl) (by kernel_rfl) (fun _ _ _ h => h) (Or.inl ⟨by rfl, ?_⟩) (by assumption) ?_
  rotate_left
  · intro W hSw; (try dsimp only at hSw); go_simp; try with_reducible rfl
  try simp only [Act.put, List.setIfInBounds_toArray, List.set_cons_zero, List.set_cons_succ]
  refine wpAnyH_take (i := 5) (v := ?_) rfl (by kernel_rfl) (by kernel_rfl) (by kernel_rfl) (fun _ _ _ h => h) (Or.inl ⟨by rfl, ?_⟩) (by assumption) ?_
  rotate_left
  · intro W hSw; (try dsimp only at hSw); go_simp; try with_reducible rfl
  try simp only [Act.put, List.setIfInBounds_toArray, List.set_cons_zero, List.set_cons_succ]
  refine wpAnyH_take (i := 6) (v := ?_) rfl (by kernel_rfl) (by kernel_rfl) (by kernel_rfl) (fun _ _ _ h => h) (Or.inl ⟨by rfl, ?_⟩) (by assumption) ?_
  rotate_left
  · intro W hSw; (try dsimp only at hSw); go_simp; try with_reducible rfl
  try simp only [Act.put, List.setIfInBounds_toArray, List.set_cons_zero, List.set_cons_succ]
  refine wpAnyH_take (i := 7) (v := ?_) rfl (by kernel_rfl) (by kernel_rfl) (by kernel_rfl) (fun _ _ _ h => h) (Or.inl ⟨by rfl, ?_⟩) (by assumption) ?_
  rotate_left
  · intro W hSw; (try dsimp only at hSw); go_simp; try with_reducible rfl
  try simp only [Act.put, List.setIfInBounds_toArray, List.set_cons_zero, List.set_cons_succ]
  refine wpAnyH_take (i := 8) (v := ?_) rfl (by kernel_rfl) (by kernel_rfl) (by kernel_rfl) (fun _ _ _ h => h) (Or.inl ⟨by rfl, ?_⟩) (by assumption) ?_
  rotate_left
  · intro W hSw; (try dsimp only at hSw); go_simp; try with_reducible rfl
  try simp only [Act.put, List.setIfInBounds_toArray, List.set_cons_zero, List.set_cons_succ]
  refine wpAnyH_take (i := 10) (v := ?_) rfl (by kernel_rfl) (by kernel_rfl) (by kernel_rfl) (fun _ _ _ h => h) (Or.inl ⟨by rfl, ?_⟩) (by assumption) ?_
  rotate_left
  · intro W hSw; (try dsimp only at hSw); go_simp; try with_reducible rfl
  try simp only [Act.put, List.setIfInBounds_toArray, List.set_cons_zero, List.set_cons_succ]
  refine wpAnyH_take (i := 11) (v := ?_) rfl (by kernel_rfl) (by kernel_rfl) (by kernel_rfl) (fun _ _ _ h => h) (Or.inl ⟨by rfl, ?_⟩) (by assumption) ?_
  rotate_left
  · intro W hSw; (try dsimp only at hSw); go_simp; try with_reducible rfl
  try simp only [Act.put, List.setIfInBounds_toArray, List.set_cons_zero, List.set_cons_succ]
  refine wpAnyH_take (i := 12) (v := ?_) rfl (by kernel_rfl) (by kernel_rfl) (by kernel_rfl) (fun _ _ _ h => h) (Or.inl ⟨by rfl, ?_⟩) (by assumption) ?_
  rotate_left
  · intro W hSw; (try dsimp only at hSw); go_simp; try with_reducible rfl
  try simp only [Act.put, List.setIfInBounds_toArray, List.set_cons_zero, List.set_cons_succ]
  refine wpAnyH_take (i := 13) (v := ?_) rfl (by kernel_rfl) (by kernel_rfl) (by kernel_rfl) (fun _ _ _ h => h) (Or.inl ⟨by rfl, ?_⟩) (by assumption) ?_
  rotate_left
  · intro W hSw; (try dsimp only at hSw); go_simp; try with_reducible rfl
  try simp only [Act.put, List.setIfInBounds_toArray, List.set_cons_zero, List.set_cons_succ]
  refine wpAnyH_ready (rs := [4]) (by kernel_rfl) (by simp) ?_
  refine AllReadyH.cons rfl (fun K hK => ?_) AllReadyH.nil
  go_simp
  refine (HQ.out _ _ c1 c2 (by assumption)).mono ?_
  rintro e w' ⟨rfl, hb2⟩
  exact body_panic rfl ⟨rfl, by (repeat' (first | (with_reducible exact Below.refl _ _) | (with_reducible assumption) | (with_reducible refine Below.alloc ?_ ?_ _) | (with_reducible refine Below.setCell ?_ ?_ _) | (with_reducible refine below_row ?_ ?_ _) | (with_reducible refine Below.drew ?_) | (with_reducible refine below_drewN ?_ _) | (with_reducible refine Below.trans ?_ (Below.mono (by assumption) ?_)) | (first | exact Nat.le_refl _ | omega | (simp; done) | (simp; omega))))⟩
set_option maxHeartbeats 4000000 in
set_option maxRecDepth 100000 in
theorem read_num2 (un st : Int) (pl : Nat) (s a b c p : ByteArray) (w : World) (he : Env w) (hl : s.size ≤ 1000000) (hp : piecesB s = [a, b, c, p]) (hst : st = 100 ∨ st = 254) (hpl : pl = 3 ∨ pl = 4)
    (hF : ∀ bl ba cap g W, Ready p bl ba cap g W → Calls Tryd.prog 44 #[.slice (some ⟨g, 0, none⟩) 2 2, .func (.func 51) #[] #[.pointer (some ⟨bl, 0, none⟩)]] W (FoundSc un st pl p W)) (hm : p.size ≤ 10)
    (h3 : a.size ≤ 1000000 ∧ b.size ≤ 1000000 ∧ c.size ≤ 1000000) (ha : Has st a) (hb : Lacks st b) :
    Calls Tryd.prog 24 #[.string s] w (Panics w) := by
  have HS := Lib.hid (split_four s a b c p w he hl hp)
  have HF := Lib.hid hF
  obtain ⟨V, hV⟩ : ∃ V : ByteArray → Int, ∀ x v, numL st x.data.toList = some v → V x = v := ⟨fun x => (numL st x.data.toList).getD 0, fun x v h => by simp only [h, Option.getD_some]⟩
  have HN : Hid (∀ x W c1 c2, Has st x → Calls Tryd.prog 52 #[.agg #[.int .u8 un, .int .i64 st, .int .i64 (pl : Int), .string p, .func (.func 57) #[] #[.pointer (some ⟨c1, 0, none⟩)], .func (.func 58) #[] #[.pointer (some ⟨c1, 0, none⟩)], .func (.func 59) #[] #[.pointer (some ⟨c2, 0, none⟩), .pointer (some ⟨c1, 0, none⟩)]], .string x] W fun e w' => e = .returned (.int .i64 (V x)) ∧ Below W.heap.size W w') := Lib.hid (fun x W c1 c2 ⟨⟨v, hx⟩, hsz⟩ => by
    have h := number_any un st pl p c1 c2 x W hst hsz
    rw [hx] at h
    rw [hV x v hx]
    exact h)
  have HQ : Hid (∀ x W c1 c2, Lacks st x → Calls Tryd.prog 52 #[.agg #[.int .u8 un, .int .i64 st, .int .i64 (pl : Int), .string p, .func (.func 57) #[] #[.pointer (some ⟨c1, 0, none⟩)], .func (.func 58) #[] #[.pointer (some ⟨c1, 0, none⟩)], .func (.func 59) #[] #[.pointer (some ⟨c2, 0, none⟩), .pointer (some ⟨c1, 0, none⟩)]], .string x] W fun e w' => e = .panicked wrongP ∧ Below W.heap.size W w') := Lib.hid (fun x W c1 c2 ⟨hx, hsz⟩ => by
    have h := number_any un st pl p c1 c2 x W hst hsz
    rw [hx] at h
    exact h)
  clear hV he hst hpl
  clear hF hp
  go_enter Tryd.func24, Tryd.ntmps24
  go_wp2_with fail
  refine (HS.out _ (by (repeat' (first | (with_reducible exact Below.refl _ _) | (with_reducible assumption) | (with_reducible refine Below.alloc ?_ ?_ _) | (with_reducible refine Below.setCell ?_ ?_ _) | (with_reducible refine below_row ?_ ?_ _) | (with_reducible refine Below.drew ?_) | (with_reducible refine below_drewN ?_ _) | (with_reducible refine Below.trans ?_ (Below.mono (by assumption) ?_)) | (first | exact Nat.le_refl _ | omega | (simp; done) | (simp; omega)))))).mono ?_
  rintro e w1 ⟨rfl, rfl⟩
  go_wp2_with fail
  refine (scales_any _).mono ?_
  rintro e w2 ⟨b1, b2, b3, b4, rfl, -, -, hb2⟩
  have s2 := hb2.size; try simp only [World.size_alloc, World.size_setCell, World.size_drew, setRow_size] at s2
  have LA := Lib.hid (((Lies.new (u := w.alloc (.cells #[.int .i64 0, .int .i64 0, .int .i64 0, .int .u8 0, .int .i64 0, .int .i64 0, .string ⟨#[]⟩, .nilFunc, .nilFunc, .nilFunc] 48)) (t := 9) (cs := #[.string a, .string b, .string c, .string p]) rfl).alloc _).after hb2)
  have LL := Lib.hid ((Lies.new (u := (w.alloc (.cells #[.int .i64 0, .int .i64 0, .int .i64 0, .int .u8 0, .int .i64 0, .int .i64 0, .string ⟨#[]⟩, .nilFunc, .nilFunc, .nilFunc] 48)).alloc (.cells #[.string a, .string b, .string c, .string p] 9)) (t := 61) (cs := #[.slice (some ⟨w.heap.size + 1, 0, none⟩) 4 4]) rfl).after hb2)
  simp only [World.size_alloc] at LA LL
  go_wp2_with fail
  refine (HF.out _ _ 4 _ _ ⟨(LL.out.alloc _).cell 0, (LA.out.alloc _).cell 3, b1, b2, b3, b4, Lies.new rfl⟩).mono ?_
  rintro e w3 ⟨⟨c1, c2, rfl⟩, hb3⟩
  have s3 := hb3.size; try simp only [World.size_alloc, World.size_setCell, World.size_drew, setRow_size] at s3
  have LA3 := Lib.hid ((LA.out.alloc _).after hb3)
  have LL3 := Lib.hid ((LL.out.alloc _).after hb3)
  have q0 := LL3.out.cell 0
  have r0 := LA3.out.cell 0
  have r1 := LA3.out.cell 1
  have r2 := LA3.out.cell 2
  have zA := LA3.out.lt
  have zL := LL3.out.lt
  have e1 : ¬ w3.heap.size = w.heap.size + 1 := by omega
  have e2 : ¬ w3.heap.size = w.heap.size + 1 + 1 := by omega
  have e3 : ¬ w.heap.size + 1 = w3.heap.size := by omega
  have e4 : ¬ w.heap.size + 1 + 1 = w3.heap.size := by omega
  have hbw : Below w.heap.size w w3 := by (repeat' (first | (with_reducible exact Below.refl _ _) | (with_reducible assumption) | (with_reducible refine Below.alloc ?_ ?_ _) | (with_reducible refine Below.setCell ?_ ?_ _) | (with_reducible refine below_row ?_ ?_ _) | (with_reducible refine Below.drew ?_) | (with_reducible refine below_drewN ?_ _) | (with_reducible refine Below.trans ?_ (Below.mono (by assumption) ?_)) | (first | exact Nat.le_refl _ | omega | (simp; done) | (simp; omega))))
  clear HF HS hb2 hb3 s2 LA LL
  go_wp2_with fail
  refine wp_region_held_drew (S := (fun W => W.cell? ⟨w.heap.size + 1 + 1, 0, none⟩ = some (.slice (some ⟨w.heap.size + 1, 0, none⟩) 4 4) ∧ W.cell? ⟨w.heap.size + 1, 0, none⟩ = some (.string a) ∧ W.cell? ⟨w.heap.size + 1, 1, none⟩ = some (.string b) ∧ W.cell? ⟨w.heap.size + 1, 2, none⟩ = some (.string c) ∧
      W.cell? ⟨w3.heap.size, 0, none⟩ = some (.int .u8 un) ∧ W.cell? ⟨w3.heap.size, 1, none⟩ = some (.int .i64 st) ∧ W.cell? ⟨w3.heap.size, 2, none⟩ = some (.int .i64 pl) ∧ W.cell? ⟨w3.heap.size, 3, none⟩ = some (.string p) ∧
      W.cell? ⟨w3.heap.size, 4, none⟩ = some (.func (.func 57) #[] #[.pointer (some ⟨c1, 0, none⟩)]) ∧ W.cell? ⟨w3.heap.size, 5, none⟩ = some (.func (.func 58) #[] #[.pointer (some ⟨c1, 0, none⟩)]) ∧
      W.cell? ⟨w3.heap.size, 6, none⟩ = some (.func (.func 59) #[] #[.pointer (some ⟨c2, 0, none⟩), .pointer (some ⟨c1, 0, none⟩)]))) (by kernel_rfl) ?_ (fun hHeld => ?_)
  · try dsimp only
    go_keep
  refine wpAnyH_take (i := 0) (v := ?_) rfl (by kernel_rfl) (by kernel_rfl) (by kernel_rfl) (fun _ _ _ h => h) (Or.inl ⟨by rfl, ?_⟩) (by assumption) ?_
  rotate_left
  · intro W hSw; (try dsimp only at hSw); go_simp; try with_reducible rfl
  try simp only [Act.put, List.setIfInBounds_toArray, List.set_cons_zero, List.set_cons_succ]
  refine wpAnyH_take (i := 1) (v := ?_) rfl (by kernel_rfl) (by kernel_rfl) (by kernel_rfl) (fun _ _ _ h => h) (Or.inl ⟨by rfl, ?_⟩) (by assumption) ?_
  rotate_left
  · intro W hSw; (try dsimp only at hSw); go_simp; try with_reducible rfl
  try simp only [Act.put, List.setIfInBounds_toArray, List.set_cons_zero, List.set_cons_succ]
  refine wpAnyH_take (i := 2) (v := ?_) rfl (by kernel_rfl) (by kernel_rfl) (by kernel_rfl) (fun _ _ _ h => h) (Or.inl ⟨by rfl, ?_⟩) (by assumption) ?_
  rotate_left
  · intro W hSw; (try dsimp only at hSw); go_simp; try with_reducible rfl
  try simp only [Act.put, List.setIfInBounds_toArray, List.set_cons_zero, List.set_cons_succ]
  refine wpAnyH_take (i := 3) (v := ?_) rfl (by kernel_rfl) (by kernel_rfl) (by kernel_rfl) (fun _ _ _ h => h) (Or.inl ⟨by rfl, ?_⟩) (by assumption) ?_
  rotate_left
  · intro W hSw; (try dsimp only at hSw); go_simp; try with_reducible rfl
  try simp only [Act.put, List.setIfInBounds_toArray, List.set_cons_zero, List.set_cons_succ]
  refine wpAnyH_take (i := 5) (v := ?_) rfl (by kernel_rfl) (by kernel_rfl) (by kernel_rfl) (fun _ _ _ h => h) (Or.inl ⟨by rfl, ?_⟩) (by assumption) ?_
  rotate_left
  · intro W hSw; (try dsimp only at hSw); go_simp; try with_reducible rfl
  try simp only [Act.put, List.setIfInBounds_toArray, List.set_cons_zero, List.set_cons_succ]
  refine wpAnyH_take (i := 6) (v := ?_) rfl (by kernel_rfl) (by kernel_rfl) (by kernel_rfl) (fun _ _ _ h => h) (Or.inl ⟨by rfl, ?_⟩) (by assumption) ?_
  rotate_left
  · intro W hSw; (try dsimp only at hSw); go_simp; try with_reducible rfl
  try simp only [Act.put, List.setIfInBounds_toArray, List.set_cons_zero, List.set_cons_succ]
  refine wpAnyH_take (i := 7) (v := ?_) rfl (by kernel_rfl) (by kernel_rfl) (by kernel_rfl) (fun _ _ _ h => h) (Or.inl ⟨by rfl, ?_⟩) (by assumption) ?_
  rotate_left
  · intro W hSw; (try dsimp only at hSw); go_simp; try with_reducible rfl
  try simp only [Act.put, List.setIfInBounds_toArray, List.set_cons_zero, List.set_cons_succ]
  refine wpAnyH_take (i := 8) (v := ?_) rfl (by kernel_rfl) (by kernel_rfl) (by kernel_rfl) (fun _ _ _ h => h) (Or.inl ⟨by rfl, ?_⟩) (by assumption) ?_
  rotate_left
  · intro W hSw; (try dsimp only at hSw); go_simp; try with_reducible rfl
  try simp only [Act.put, List.setIfInBounds_toArray, List.set_cons_zero, List.set_cons_succ]
  refine wpAnyH_take (i := 10) (v := ?_) rfl (by kernel_rfl) (by kernel_rfl) (by kernel_rfl) (fun _ _ _ h => h) (Or.inl ⟨by rfl, ?_⟩) (by assumption) ?_
  rotate_left
  · intro W hSw; (try dsimp only at hSw); go_simp; try with_reducible rfl
  try simp only [Act.put, List.setIfInBounds_toArray, List.set_cons_zero, List.set_cons_succ]
  refine wpAnyH_take (i := 11) (v := ?_) rfl (by kernel_rfl) (by kernel_rfl) (by kernel_rfl) (fun _ _ _ h => h) (Or.inl ⟨by rfl, ?_⟩) (by assumption) ?_
  rotate_left
  · intro W hSw; (try dsimp only at hSw); go_simp; try with_reducible rfl
  try simp only [Act.put, List.setIfInBounds_toArray, List.set_cons_zero, List.set_cons_succ]
  refine wpAnyH_take (i := 12) (v := ?_) rfl (by kernel_rfl) (by kernel_rfl) (by kernel_rfl) (fun _ _ _ h => h) (Or.inl ⟨by rfl, ?_⟩) (by assumption) ?_
  rotate_left
  · intro W hSw; (try dsimp only at hSw); go_simp; try with_reducible rfl
  try simp only [Act.put, List.setIfInBounds_toArray, List.set_cons_zero, List.set_cons_succ]
  refine wpAnyH_take (i := 13) (v := ?_) rfl (by kernel_rfl) (by kernel_rfl) (by kernel_rfl) (fun _ _ _ h => h) (Or.inl ⟨by rfl, ?_⟩) (by assumption) ?_
  rotate_left
  · intro W hSw; (try dsimp only at hSw); go_simp; try with_reducible rfl
  try simp only [Act.put, List.setIfInBounds_toArray, List.set_cons_zero, List.set_cons_succ]
  refine wpAnyH_ready (rs := [4]) (by kernel_rfl) (by simp) ?_
  refine AllReadyH.cons rfl (fun K hK => ?_) AllReadyH.nil
  go_simp
  go_wp2_with (first | (go_at_call 52; refine (HN.out _ _ c1 c2 (by assumption)).mono ?_; rintro e w' ⟨rfl, hb2⟩; have hw' : Below w3.heap.size w3 w' := Below.trans (by (repeat' (first | (with_reducible exact Below.refl _ _) | (with_reducible assumption) | (with_reducible refine Below.alloc ?_ ?_ _) | (with_reducible refine Below.setCell ?_ ?_ _) | (with_reducible refine below_row ?_ ?_ _) | (with_reducible refine Below.drew ?_) | (with_reducible refine below_drewN ?_ _) | (with_reducible refine Below.trans ?_ (Below.mono (by assumption) ?_)) | (first | exact Nat.le_refl _ | omega | (simp; done) | (simp; omega))))) (hb2.mono (Below.size (B := w3.heap.size) (by (repeat' (first | (with_reducible exact Below.refl _ _) | (with_reducible assumption) | (with_reducible refine Below.alloc ?_ ?_ _) | (with_reducible refine Below.setCell ?_ ?_ _) | (with_reducible refine below_row ?_ ?_ _) | (with_reducible refine Below.drew ?_) | (with_reducible refine below_drewN ?_ _) | (with_reducible refine Below.trans ?_ (Below.mono (by assumption) ?_)) | (first | exact Nat.le_refl _ | omega | (simp; done) | (simp; omega))))))); have hb4 : Below (w3.heap.size + 1) (w3.alloc (.cells #[.int .u8 un, .int .i64 st, .int .i64 (pl : Int), .string p, .func (.func 57) #[] #[.pointer (some ⟨c1, 0, none⟩)], .func (.func 58) #[] #[.pointer (some ⟨c1, 0, none⟩)], .func (.func 59) #[] #[.pointer (some ⟨c2, 0, none⟩), .pointer (some ⟨c1, 0, none⟩)]] 44)) w' := Below.trans (by (repeat' (first | (with_reducible exact Below.refl _ _) | (with_reducible assumption) | (with_reducible refine Below.alloc ?_ ?_ _) | (with_reducible refine Below.setCell ?_ ?_ _) | (with_reducible refine below_row ?_ ?_ _) | (with_reducible refine Below.drew ?_) | (with_reducible refine below_drewN ?_ _) | (with_reducible refine Below.trans ?_ (Below.mono (by assumption) ?_)) | (first | exact Nat.le_refl _ | omega | (simp; done) | (simp; omega))))) (hb2.mono (by first | omega | (simp; done) | (simp; omega))); have LS := (Lies.made w3 44 #[.int .u8 un, .int .i64 st, .int .i64 (pl : Int), .string p, .func (.func 57) #[] #[.pointer (some ⟨c1, 0, none⟩)], .func (.func 58) #[] #[.pointer (some ⟨c1, 0, none⟩)], .func (.func 59) #[] #[.pointer (some ⟨c2, 0, none⟩), .pointer (some ⟨c1, 0, none⟩)]]).keep hb4 (by simp); have c0 := LS.cell 0; have c1' := LS.cell 1; have c2' := LS.cell 2; have c3 := LS.cell 3; have c4 := LS.cell 4; have c5 := LS.cell 5; have c6 := LS.cell 6; have LA4 := LA3.out.after hw'; have LL4 := LL3.out.after hw'; have d0 := LL4.cell 0; have d1 := LA4.cell 0; have d2 := LA4.cell 1; have d3 := LA4.cell 2; have sz : w3.heap.size + 1 ≤ w'.heap.size := (World.size_alloc _ _ ▸ hb4.size); clear LS LA4 LL4))
  refine hK.out _ _ ?_ (fun hHeld => ?_)
  · try dsimp only
    go_keep
  clear hK K
  refine wpAnyH_ready (rs := [9]) (by kernel_rfl) (by simp) ?_
  refine AllReadyH.cons rfl (fun K hK => ?_) AllReadyH.nil
  go_simp
  refine (HQ.out _ _ c1 c2 (by assumption)).mono ?_
  rintro e w' ⟨rfl, hb2⟩
  exact body_panic rfl ⟨rfl, by (repeat' (first | (with_reducible exact Below.refl _ _) | (with_reducible assumption) | (with_reducible refine Below.alloc ?_ ?_ _) | (with_reducible refine Below.setCell ?_ ?_ _) | (with_reducible refine below_row ?_ ?_ _) | (with_reducible refine Below.drew ?_) | (with_reducible refine below_drewN ?_ _) | (with_reducible refine Below.trans ?_ (Below.mono (by assumption) ?_)) | (first | exact Nat.le_refl _ | omega | (simp; done) | (simp; omega))))⟩
set_option maxHeartbeats 4000000 in
set_option maxRecDepth 100000 in
theorem read_num3 (un st : Int) (pl : Nat) (s a b c p : ByteArray) (w : World) (he : Env w) (hl : s.size ≤ 1000000) (hp : piecesB s = [a, b, c, p]) (hst : st = 100 ∨ st = 254) (hpl : pl = 3 ∨ pl = 4)
    (hF : ∀ bl ba cap g W, Ready p bl ba cap g W → Calls Tryd.prog 44 #[.slice (some ⟨g, 0, none⟩) 2 2, .func (.func 51) #[] #[.pointer (some ⟨bl, 0, none⟩)]] W (FoundSc un st pl p W)) (hm : p.size ≤ 10)
    (h3 : a.size ≤ 1000000 ∧ b.size ≤ 1000000 ∧ c.size ≤ 1000000) (ha : Has st a) (hb : Has st b) (hc : Lacks st c) :
    Calls Tryd.prog 24 #[.string s] w (Panics w) := by
  have HS := Lib.hid (split_four s a b c p w he hl hp)
  have HF := Lib.hid hF
  obtain ⟨V, hV⟩ : ∃ V : ByteArray → Int, ∀ x v, numL st x.data.toList = some v → V x = v := ⟨fun x => (numL st x.data.toList).getD 0, fun x v h => by simp only [h, Option.getD_some]⟩
  have HN : Hid (∀ x W c1 c2, Has st x → Calls Tryd.prog 52 #[.agg #[.int .u8 un, .int .i64 st, .int .i64 (pl : Int), .string p, .func (.func 57) #[] #[.pointer (some ⟨c1, 0, none⟩)], .func (.func 58) #[] #[.pointer (some ⟨c1, 0, none⟩)], .func (.func 59) #[] #[.pointer (some ⟨c2, 0, none⟩), .pointer (some ⟨c1, 0, none⟩)]], .string x] W fun e w' => e = .returned (.int .i64 (V x)) ∧ Below W.heap.size W w') := Lib.hid (fun x W c1 c2 ⟨⟨v, hx⟩, hsz⟩ => by
    have h := number_any un st pl p c1 c2 x W hst hsz
    rw [hx] at h
    rw [hV x v hx]
    exact h)
  have HQ : Hid (∀ x W c1 c2, Lacks st x → Calls Tryd.prog 52 #[.agg #[.int .u8 un, .int .i64 st, .int .i64 (pl : Int), .string p, .func (.func 57) #[] #[.pointer (some ⟨c1, 0, none⟩)], .func (.func 58) #[] #[.pointer (some ⟨c1, 0, none⟩)], .func (.func 59) #[] #[.pointer (some ⟨c2, 0, none⟩), .pointer (some ⟨c1, 0, none⟩)]], .string x] W fun e w' => e = .panicked wrongP ∧ Below W.heap.size W w') := Lib.hid (fun x W c1 c2 ⟨hx, hsz⟩ => by
    have h := number_any un st pl p c1 c2 x W hst hsz
    rw [hx] at h
    exact h)
  clear hV he hst hpl
  clear hF hp
  go_enter Tryd.func24, Tryd.ntmps24
  go_wp2_with fail
  refine (HS.out _ (by (repeat' (first | (with_reducible exact Below.refl _ _) | (with_reducible assumption) | (with_reducible refine Below.alloc ?_ ?_ _) | (with_reducible refine Below.setCell ?_ ?_ _) | (with_reducible refine below_row ?_ ?_ _) | (with_reducible refine Below.drew ?_) | (with_reducible refine below_drewN ?_ _) | (with_reducible refine Below.trans ?_ (Below.mono (by assumption) ?_)) | (first | exact Nat.le_refl _ | omega | (simp; done) | (simp; omega)))))).mono ?_
  rintro e w1 ⟨rfl, rfl⟩
  go_wp2_with fail
  refine (scales_any _).mono ?_
  rintro e w2 ⟨b1, b2, b3, b4, rfl, -, -, hb2⟩
  have s2 := hb2.size; try simp only [World.size_alloc, World.size_setCell, World.size_drew, setRow_size] at s2
  have LA := Lib.hid (((Lies.new (u := w.alloc (.cells #[.int .i64 0, .int .i64 0, .int .i64 0, .int .u8 0, .int .i64 0, .int .i64 0, .string ⟨#[]⟩, .nilFunc, .nilFunc, .nilFunc] 48)) (t := 9) (cs := #[.string a, .string b, .string c, .string p]) rfl).alloc _).after hb2)
  have LL := Lib.hid ((Lies.new (u := (w.alloc (.cells #[.int .i64 0, .int .i64 0, .int .i64 0, .int .u8 0, .int .i64 0, .int .i64 0, .string ⟨#[]⟩, .nilFunc, .nilFunc, .nilFunc] 48)).alloc (.cells #[.string a, .string b, .string c, .string p] 9)) (t := 61) (cs := #[.slice (some ⟨w.heap.size + 1, 0, none⟩) 4 4]) rfl).after hb2)
  simp only [World.size_alloc] at LA LL
  go_wp2_with fail
  refine (HF.out _ _ 4 _ _ ⟨(LL.out.alloc _).cell 0, (LA.out.alloc _).cell 3, b1, b2, b3, b4, Lies.new rfl⟩).mono ?_
  rintro e w3 ⟨⟨c1, c2, rfl⟩, hb3⟩
  have s3 := hb3.size; try simp only [World.size_alloc, World.size_setCell, World.size_drew, setRow_size] at s3
  have LA3 := Lib.hid ((LA.out.alloc _).after hb3)
  have LL3 := Lib.hid ((LL.out.alloc _).after hb3)
  have q0 := LL3.out.cell 0
  have r0 := LA3.out.cell 0
  have r1 := LA3.out.cell 1
  have r2 := LA3.out.cell 2
  have zA := LA3.out.lt
  have zL := LL3.out.lt
  have e1 : ¬ w3.heap.size = w.heap.size + 1 := by omega
  have e2 : ¬ w3.heap.size = w.heap.size + 1 + 1 := by omega
  have e3 : ¬ w.heap.size + 1 = w3.heap.size := by omega
  have e4 : ¬ w.heap.size + 1 + 1 = w3.heap.size := by omega
  have hbw : Below w.heap.size w w3 := by (repeat' (first | (with_reducible exact Below.refl _ _) | (with_reducible assumption) | (with_reducible refine Below.alloc ?_ ?_ _) | (with_reducible refine Below.setCell ?_ ?_ _) | (with_reducible refine below_row ?_ ?_ _) | (with_reducible refine Below.drew ?_) | (with_reducible refine below_drewN ?_ _) | (with_reducible refine Below.trans ?_ (Below.mono (by assumption) ?_)) | (first | exact Nat.le_refl _ | omega | (simp; done) | (simp; omega))))
  clear HF HS hb2 hb3 s2 LA LL
  go_wp2_with fail
  refine wp_region_held_drew (S := (fun W => W.cell? ⟨w.heap.size + 1 + 1, 0, none⟩ = some (.slice (some ⟨w.heap.size + 1, 0, none⟩) 4 4) ∧ W.cell? ⟨w.heap.size + 1, 0, none⟩ = some (.string a) ∧ W.cell? ⟨w.heap.size + 1, 1, none⟩ = some (.string b) ∧ W.cell? ⟨w.heap.size + 1, 2, none⟩ = some (.string c) ∧
      W.cell? ⟨w3.heap.size, 0, none⟩ = some (.int .u8 un) ∧ W.cell? ⟨w3.heap.size, 1, none⟩ = some (.int .i64 st) ∧ W.cell? ⟨w3.heap.size, 2, none⟩ = some (.int .i64 pl) ∧ W.cell? ⟨w3.heap.size, 3, none⟩ = some (.string p) ∧
      W.cell? ⟨w3.heap.size, 4, none⟩ = some (.func (.func 57) #[] #[.pointer (some ⟨c1, 0, none⟩)]) ∧ W.cell? ⟨w3.heap.size, 5, none⟩ = some (.func (.func 58) #[] #[.pointer (some ⟨c1, 0, none⟩)]) ∧
      W.cell? ⟨w3.heap.size, 6, none⟩ = some (.func (.func 59) #[] #[.pointer (some ⟨c2, 0, none⟩), .pointer (some ⟨c1, 0, none⟩)]))) (by kernel_rfl) ?_ (fun hHeld => ?_)
  · try dsimp only
    go_keep
  refine wpAnyH_take (i := 0) (v := ?_) rfl (by kernel_rfl) (by kernel_rfl) (by kernel_rfl) (fun _ _ _ h => h) (Or.inl ⟨by rfl, ?_⟩) (by assumption) ?_
  rotate_left
  · intro W hSw; (try dsimp only at hSw); go_simp; try with_reducible rfl
  try simp only [Act.put, List.setIfInBounds_toArray, List.set_cons_zero, List.set_cons_succ]
  refine wpAnyH_take (i := 1) (v := ?_) rfl (by kernel_rfl) (by kernel_rfl) (by kernel_rfl) (fun _ _ _ h => h) (Or.inl ⟨by rfl, ?_⟩) (by assumption) ?_
  rotate_left
  · intro W hSw; (try dsimp only at hSw); go_simp; try with_reducible rfl
  try simp only [Act.put, List.setIfInBounds_toArray, List.set_cons_zero, List.set_cons_succ]
  refine wpAnyH_take (i := 2) (v := ?_) rfl (by kernel_rfl) (by kernel_rfl) (by kernel_rfl) (fun _ _ _ h => h) (Or.inl ⟨by rfl, ?_⟩) (by assumption) ?_
  rotate_left
  · intro W hSw; (try dsimp only at hSw); go_simp; try with_reducible rfl
  try simp only [Act.put, List.setIfInBounds_toArray, List.set_cons_zero, List.set_cons_succ]
  refine wpAnyH_take (i := 3) (v := ?_) rfl (by kernel_rfl) (by kernel_rfl) (by kernel_rfl) (fun _ _ _ h => h) (Or.inl ⟨by rfl, ?_⟩) (by assumption) ?_
  rotate_left
  · intro W hSw; (try dsimp only at hSw); go_simp; try with_reducible rfl
  try simp only [Act.put, List.setIfInBounds_toArray, List.set_cons_zero, List.set_cons_succ]
  refine wpAnyH_take (i := 5) (v := ?_) rfl (by kernel_rfl) (by kernel_rfl) (by kernel_rfl) (fun _ _ _ h => h) (Or.inl ⟨by rfl, ?_⟩) (by assumption) ?_
  rotate_left
  · intro W hSw; (try dsimp only at hSw); go_simp; try with_reducible rfl
  try simp only [Act.put, List.setIfInBounds_toArray, List.set_cons_zero, List.set_cons_succ]
  refine wpAnyH_take (i := 6) (v := ?_) rfl (by kernel_rfl) (by kernel_rfl) (by kernel_rfl) (fun _ _ _ h => h) (Or.inl ⟨by rfl, ?_⟩) (by assumption) ?_
  rotate_left
  · intro W hSw; (try dsimp only at hSw); go_simp; try with_reducible rfl
  try simp only [Act.put, List.setIfInBounds_toArray, List.set_cons_zero, List.set_cons_succ]
  refine wpAnyH_take (i := 7) (v := ?_) rfl (by kernel_rfl) (by kernel_rfl) (by kernel_rfl) (fun _ _ _ h => h) (Or.inl ⟨by rfl, ?_⟩) (by assumption) ?_
  rotate_left
  · intro W hSw; (try dsimp only at hSw); go_simp; try with_reducible rfl
  try simp only [Act.put, List.setIfInBounds_toArray, List.set_cons_zero, List.set_cons_succ]
  refine wpAnyH_take (i := 8) (v := ?_) rfl (by kernel_rfl) (by kernel_rfl) (by kernel_rfl) (fun _ _ _ h => h) (Or.inl ⟨by rfl, ?_⟩) (by assumption) ?_
  rotate_left
  · intro W hSw; (try dsimp only at hSw); go_simp; try with_reducible rfl
  try simp only [Act.put, List.setIfInBounds_toArray, List.set_cons_zero, List.set_cons_succ]
  refine wpAnyH_take (i := 10) (v := ?_) rfl (by kernel_rfl) (by kernel_rfl) (by kernel_rfl) (fun _ _ _ h => h) (Or.inl ⟨by rfl, ?_⟩) (by assumption) ?_
  rotate_left
  · intro W hSw; (try dsimp only at hSw); go_simp; try with_reducible rfl
  try simp only [Act.put, List.setIfInBounds_toArray, List.set_cons_zero, List.set_cons_succ]
  refine wpAnyH_take (i := 11) (v := ?_) rfl (by kernel_rfl) (by kernel_rfl) (by kernel_rfl) (fun _ _ _ h => h) (Or.inl ⟨by rfl, ?_⟩) (by assumption) ?_
  rotate_left
  · intro W hSw; (try dsimp only at hSw); go_simp; try with_reducible rfl
  try simp only [Act.put, List.setIfInBounds_toArray, List.set_cons_zero, List.set_cons_succ]
  refine wpAnyH_take (i := 12) (v := ?_) rfl (by kernel_rfl) (by kernel_rfl) (by kernel_rfl) (fun _ _ _ h => h) (Or.inl ⟨by rfl, ?_⟩) (by assumption) ?_
  rotate_left
  · intro W hSw; (try dsimp only at hSw); go_simp; try with_reducible rfl
  try simp only [Act.put, List.setIfInBounds_toArray, List.set_cons_zero, List.set_cons_succ]
  refine wpAnyH_take (i := 13) (v := ?_) rfl (by kernel_rfl) (by kernel_rfl) (by kernel_rfl) (fun _ _ _ h => h) (Or.inl ⟨by rfl, ?_⟩) (by assumption) ?_
  rotate_left
  · intro W hSw; (try dsimp only at hSw); go_simp; try with_reducible rfl
  try simp only [Act.put, List.setIfInBounds_toArray, List.set_cons_zero, List.set_cons_succ]
  refine wpAnyH_ready (rs := [4]) (by kernel_rfl) (by simp) ?_
  refine AllReadyH.cons rfl (fun K hK => ?_) AllReadyH.nil
  go_simp
  go_wp2_with (first | (go_at_call 52; refine (HN.out _ _ c1 c2 (by assumption)).mono ?_; rintro e w' ⟨rfl, hb2⟩; have hw' : Below w3.heap.size w3 w' := Below.trans (by (repeat' (first | (with_reducible exact Below.refl _ _) | (with_reducible assumption) | (with_reducible refine Below.alloc ?_ ?_ _) | (with_reducible refine Below.setCell ?_ ?_ _) | (with_reducible refine below_row ?_ ?_ _) | (with_reducible refine Below.drew ?_) | (with_reducible refine below_drewN ?_ _) | (with_reducible refine Below.trans ?_ (Below.mono (by assumption) ?_)) | (first | exact Nat.le_refl _ | omega | (simp; done) | (simp; omega))))) (hb2.mono (Below.size (B := w3.heap.size) (by (repeat' (first | (with_reducible exact Below.refl _ _) | (with_reducible assumption) | (with_reducible refine Below.alloc ?_ ?_ _) | (with_reducible refine Below.setCell ?_ ?_ _) | (with_reducible refine below_row ?_ ?_ _) | (with_reducible refine Below.drew ?_) | (with_reducible refine below_drewN ?_ _) | (with_reducible refine Below.trans ?_ (Below.mono (by assumption) ?_)) | (first | exact Nat.le_refl _ | omega | (simp; done) | (simp; omega))))))); have hb4 : Below (w3.heap.size + 1) (w3.alloc (.cells #[.int .u8 un, .int .i64 st, .int .i64 (pl : Int), .string p, .func (.func 57) #[] #[.pointer (some ⟨c1, 0, none⟩)], .func (.func 58) #[] #[.pointer (some ⟨c1, 0, none⟩)], .func (.func 59) #[] #[.pointer (some ⟨c2, 0, none⟩), .pointer (some ⟨c1, 0, none⟩)]] 44)) w' := Below.trans (by (repeat' (first | (with_reducible exact Below.refl _ _) | (with_reducible assumption) | (with_reducible refine Below.alloc ?_ ?_ _) | (with_reducible refine Below.setCell ?_ ?_ _) | (with_reducible refine below_row ?_ ?_ _) | (with_reducible refine Below.drew ?_) | (with_reducible refine below_drewN ?_ _) | (with_reducible refine Below.trans ?_ (Below.mono (by assumption) ?_)) | (first | exact Nat.le_refl _ | omega | (simp; done) | (simp; omega))))) (hb2.mono (by first | omega | (simp; done) | (simp; omega))); have LS := (Lies.made w3 44 #[.int .u8 un, .int .i64 st, .int .i64 (pl : Int), .string p, .func (.func 57) #[] #[.pointer (some ⟨c1, 0, none⟩)], .func (.func 58) #[] #[.pointer (some ⟨c1, 0, none⟩)], .func (.func 59) #[] #[.pointer (some ⟨c2, 0, none⟩), .pointer (some ⟨c1, 0, none⟩)]]).keep hb4 (by simp); have c0 := LS.cell 0; have c1' := LS.cell 1; have c2' := LS.cell 2; have c3 := LS.cell 3; have c4 := LS.cell 4; have c5 := LS.cell 5; have c6 := LS.cell 6; have LA4 := LA3.out.after hw'; have LL4 := LL3.out.after hw'; have d0 := LL4.cell 0; have d1 := LA4.cell 0; have d2 := LA4.cell 1; have d3 := LA4.cell 2; have sz : w3.heap.size + 1 ≤ w'.heap.size := (World.size_alloc _ _ ▸ hb4.size); clear LS LA4 LL4))
  refine hK.out _ _ ?_ (fun hHeld => ?_)
  · try dsimp only
    go_keep
  clear hK K
  refine wpAnyH_ready (rs := [9]) (by kernel_rfl) (by simp) ?_
  refine AllReadyH.cons rfl (fun K hK => ?_) AllReadyH.nil
  go_simp
  go_wp2_with (first | (go_at_call 52; refine (HN.out _ _ c1 c2 (by assumption)).mono ?_; rintro e w' ⟨rfl, hb2⟩; have hw' : Below w3.heap.size w3 w' := Below.trans (by (repeat' (first | (with_reducible exact Below.refl _ _) | (with_reducible assumption) | (with_reducible refine Below.alloc ?_ ?_ _) | (with_reducible refine Below.setCell ?_ ?_ _) | (with_reducible refine below_row ?_ ?_ _) | (with_reducible refine Below.drew ?_) | (with_reducible refine below_drewN ?_ _) | (with_reducible refine Below.trans ?_ (Below.mono (by assumption) ?_)) | (first | exact Nat.le_refl _ | omega | (simp; done) | (simp; omega))))) (hb2.mono (Below.size (B := w3.heap.size) (by (repeat' (first | (with_reducible exact Below.refl _ _) | (with_reducible assumption) | (with_reducible refine Below.alloc ?_ ?_ _) | (with_reducible refine Below.setCell ?_ ?_ _) | (with_reducible refine below_row ?_ ?_ _) | (with_reducible refine Below.drew ?_) | (with_reducible refine below_drewN ?_ _) | (with_reducible refine Below.trans ?_ (Below.mono (by assumption) ?_)) | (first | exact Nat.le_refl _ | omega | (simp; done) | (simp; omega))))))); have hb4 : Below (w3.heap.size + 1) (w3.alloc (.cells #[.int .u8 un, .int .i64 st, .int .i64 (pl : Int), .string p, .func (.func 57) #[] #[.pointer (some ⟨c1, 0, none⟩)], .func (.func 58) #[] #[.pointer (some ⟨c1, 0, none⟩)], .func (.func 59) #[] #[.pointer (some ⟨c2, 0, none⟩), .pointer (some ⟨c1, 0, none⟩)]] 44)) w' := Below.trans (by (repeat' (first | (with_reducible exact Below.refl _ _) | (with_reducible assumption) | (with_reducible refine Below.alloc ?_ ?_ _) | (with_reducible refine Below.setCell ?_ ?_ _) | (with_reducible refine below_row ?_ ?_ _) | (with_reducible refine Below.drew ?_) | (with_reducible refine below_drewN ?_ _) | (with_reducible refine Below.trans ?_ (Below.mono (by assumption) ?_)) | (first | exact Nat.le_refl _ | omega | (simp; done) | (simp; omega))))) (hb2.mono (by first | omega | (simp; done) | (simp; omega))); have LS := (Lies.made w3 44 #[.int .u8 un, .int .i64 st, .int .i64 (pl : Int), .string p, .func (.func 57) #[] #[.pointer (some ⟨c1, 0, none⟩)], .func (.func 58) #[] #[.pointer (some ⟨c1, 0, none⟩)], .func (.func 59) #[] #[.pointer (some ⟨c2, 0, none⟩), .pointer (some ⟨c1, 0, none⟩)]]).keep hb4 (by simp); have c0 := LS.cell 0; have c1' := LS.cell 1; have c2' := LS.cell 2; have c3 := LS.cell 3; have c4 := LS.cell 4; have c5 := LS.cell 5; have c6 := LS.cell 6; have LA4 := LA3.out.after hw'; have LL4 := LL3.out.after hw'; have d0 := LL4.cell 0; have d1 := LA4.cell 0; have d2 := LA4.cell 1; have d3 := LA4.cell 2; have sz : w3.heap.size + 1 ≤ w'.heap.size := (World.size_alloc _ _ ▸ hb4.size); clear LS LA4 LL4))
  refine hK.out _ _ ?_ (fun hHeld => ?_)
  · try dsimp only
    go_keep
  clear hK K
  refine wpAnyH_ready (rs := [14]) (by kernel_rfl) (by simp) ?_
  refine AllReadyH.cons rfl (fun K hK => ?_) AllReadyH.nil
  go_simp
  refine (HQ.out _ _ c1 c2 (by assumption)).mono ?_
  rintro e w' ⟨rfl, hb2⟩
  exact body_panic rfl ⟨rfl, by (repeat' (first | (with_reducible exact Below.refl _ _) | (with_reducible assumption) | (with_reducible refine Below.alloc ?_ ?_ _) | (with_reducible refine Below.setCell ?_ ?_ _) | (with_reducible refine below_row ?_ ?_ _) | (with_reducible refine Below.drew ?_) | (with_reducible refine below_drewN ?_ _) | (with_reducible refine Below.trans ?_ (Below.mono (by assumption) ?_)) | (first | exact Nat.le_refl _ | omega | (simp; done) | (simp; omega))))⟩
end Go.Proofs.YtjejjeomknkglaaDoor
