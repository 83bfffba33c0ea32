/- The walks of package size: read, where all words are numbers. -/
import Derived.Test.YtjejjeomknkglaaDoorT8
import Derived.Deep.RegionHeld3
import Derived.IntWalk
namespace Go.Proofs.YtjejjeomknkglaaDoor
set_option linter.unusedVariables false
set_option linter.unusedSimpArgs false
open Go.RowKit

theorem numGo_bd {most : Int} (hm : 0 ≤ most) : ∀ (l : List UInt8) (s r : Int), 0 ≤ s → s ≤ 10 * most + 9 → numGo most s l = some r → 0 ≤ r ∧ r ≤ 10 * most + 9
  | [], s, r, h0, h1, h => by simp only [numGo, Option.some.injEq] at h; omega
  | c :: cs, s, r, h0, h1, h => by
    rw [numGo] at h
    split at h
    · exact numGo_bd hm cs s r h0 h1 h
    · split at h
      · cases h
      · rename_i hn
        have h2 : s ≤ most := by
          by_cases h2 : most < s
          · exact absurd (.inr (.inr h2)) hn
          · omega
        have h3 : ¬ c < 48 := fun e => hn (.inl e)
        have h4 : ¬ 57 < c := fun e => hn (.inr (.inl e))
        have h3' : 48 ≤ c.toNat := by
          have := mt UInt8.lt_iff_toNat_lt.2 h3; simp at this; omega
        have h4' : c.toNat ≤ 57 := by
          have := mt UInt8.lt_iff_toNat_lt.2 h4; simp at this; omega
        exact numGo_bd hm cs _ r (by omega) (by omega) h
theorem numL_bd {st v : Int} {l : List UInt8} (hst : st = 100 ∨ st = 254) (h : numL st l = some v) : -30000000000 ≤ v ∧ v ≤ 30000000000 := by
  unfold numL at h
  cases hg : numGo (1000000000 / st) 0 l with
  | none => rw [hg] at h; cases h
  | some s =>
    rw [hg, Option.map_some] at h
    have hb := numGo_bd (by rcases hst with rfl | rfl <;> omega) l 0 s (by omega) (by rcases hst with rfl | rfl <;> omega) hg
    injection h with h
    rcases hst with rfl | rfl
    · split at h <;> omega
    · split at h <;> omega

set_option maxHeartbeats 4000000 in
set_option maxRecDepth 100000 in
theorem read_dim (un st : Int) (pl : Nat) (s a b c p : ByteArray) (w : World) (he : Env w) (hl : s.size ≤ 1000000) (hp : piecesB s = [a, b, c, p]) (hst : st = 100 ∨ st = 254) (hpl : pl = 3 ∨ pl = 4)
    (hF : ∀ bl ba cap g W, Ready p bl ba cap g W → Calls Tryd.prog 44 #[.slice (some ⟨g, 0, none⟩) 2 2, .func (.func 51) #[] #[.pointer (some ⟨bl, 0, none⟩)]] W (FoundSc un st pl p W)) (hm : p.size ≤ 10)
    (h3 : a.size ≤ 1000000 ∧ b.size ≤ 1000000 ∧ c.size ≤ 1000000) (va vb vc : Int) (hva : numL st a.data.toList = some va) (hvb : numL st b.data.toList = some vb) (hvc : numL st c.data.toList = some vc) (hd : okD va (va + vb) (va + vc) = false) :
    Calls Tryd.prog 24 #[.string s] w (Panics w) := by
  have HS := Lib.hid (split_four s a b c p w he hl hp)
  have HF := Lib.hid hF
  obtain ⟨V, hV⟩ : ∃ V : ByteArray → Int, ∀ x v, numL st x.data.toList = some v → V x = v := ⟨fun x => (numL st x.data.toList).getD 0, fun x v h => by simp only [h, Option.getD_some]⟩
  have HN : Hid (∀ x W c1 c2, Has st x → Calls Tryd.prog 52 #[.agg #[.int .u8 un, .int .i64 st, .int .i64 (pl : Int), .string p, .func (.func 57) #[] #[.pointer (some ⟨c1, 0, none⟩)], .func (.func 58) #[] #[.pointer (some ⟨c1, 0, none⟩)], .func (.func 59) #[] #[.pointer (some ⟨c2, 0, none⟩), .pointer (some ⟨c1, 0, none⟩)]], .string x] W fun e w' => e = .returned (.int .i64 (V x)) ∧ Below W.heap.size W w') := Lib.hid (fun x W c1 c2 ⟨⟨v, hx⟩, hsz⟩ => by
    have h := number_any un st pl p c1 c2 x W hst hsz
    rw [hx] at h
    rw [hV x v hx]
    exact h)
  have ba := numL_bd hst hva
  have bb := numL_bd hst hvb
  have bc := numL_bd hst hvc
  have ea := hV a va hva
  have eb := hV b vb hvb
  have ec := hV c vc hvc
  have ha : Has st a := ⟨⟨va, hva⟩, h3.1⟩
  have hb : Has st b := ⟨⟨vb, hvb⟩, h3.2.1⟩
  have hc : Has st c := ⟨⟨vc, hvc⟩, h3.2.2⟩
  clear hva hvb hvc hV
  rw [← ea] at ba
  rw [← eb] at bb
  rw [← ec] at bc
  rw [← ea, ← eb, ← ec] at hd
  have EA := Lib.hid ea
  have EB := Lib.hid eb
  have EC := Lib.hid ec
  clear ea eb ec hl h3
  obtain ⟨ba0, ba1⟩ := ba
  obtain ⟨bb0, bb1⟩ := bb
  obtain ⟨bc0, bc1⟩ := bc
  have LZ0 := Lib.hid (Lies.made w 48 #[.int .i64 0, .int .i64 0, .int .i64 0, .int .u8 0, .int .i64 0, .int .i64 0, .string ⟨#[]⟩, .nilFunc, .nilFunc, .nilFunc])
  clear he hst hpl
  clear hF hp
  go_enter Tryd.func24, Tryd.ntmps24
  go_wp2_with fail
  refine (HS.out _ (by (repeat' (first | (with_reducible exact Below.refl _ _) | (with_reducible assumption) | (with_reducible refine Below.alloc ?_ ?_ _) | (with_reducible refine Below.setCell ?_ ?_ _) | (with_reducible refine below_row ?_ ?_ _) | (with_reducible refine Below.drew ?_) | (with_reducible refine below_drewN ?_ _) | (with_reducible refine Below.trans ?_ (Below.mono (by assumption) ?_)) | (first | exact Nat.le_refl _ | omega | (simp; done) | (simp; omega)))))).mono ?_
  rintro e w1 ⟨rfl, rfl⟩
  go_wp2_with fail
  refine (scales_any _).mono ?_
  rintro e w2 ⟨b1, b2, b3, b4, rfl, -, -, hb2⟩
  have s2 := hb2.size; try simp only [World.size_alloc, World.size_setCell, World.size_drew, setRow_size] at s2
  have LA := Lib.hid (((Lies.new (u := w.alloc (.cells #[.int .i64 0, .int .i64 0, .int .i64 0, .int .u8 0, .int .i64 0, .int .i64 0, .string ⟨#[]⟩, .nilFunc, .nilFunc, .nilFunc] 48)) (t := 9) (cs := #[.string a, .string b, .string c, .string p]) rfl).alloc _).after hb2)
  have LL := Lib.hid ((Lies.new (u := (w.alloc (.cells #[.int .i64 0, .int .i64 0, .int .i64 0, .int .u8 0, .int .i64 0, .int .i64 0, .string ⟨#[]⟩, .nilFunc, .nilFunc, .nilFunc] 48)).alloc (.cells #[.string a, .string b, .string c, .string p] 9)) (t := 61) (cs := #[.slice (some ⟨w.heap.size + 1, 0, none⟩) 4 4]) rfl).after hb2)
  simp only [World.size_alloc] at LA LL
  have LZ := Lib.hid (((LZ0.out.alloc (.cells #[.string a, .string b, .string c, .string p] 9)).alloc (.cells #[.slice (some ⟨w.heap.size + 1, 0, none⟩) 4 4] 61)).after hb2)
  go_wp2_with fail
  refine (HF.out _ _ 4 _ _ ⟨(LL.out.alloc _).cell 0, (LA.out.alloc _).cell 3, b1, b2, b3, b4, Lies.new rfl⟩).mono ?_
  rintro e w3 ⟨⟨c1, c2, rfl⟩, hb3⟩
  have s3 := hb3.size; try simp only [World.size_alloc, World.size_setCell, World.size_drew, setRow_size] at s3
  have LA3 := Lib.hid ((LA.out.alloc _).after hb3)
  have LL3 := Lib.hid ((LL.out.alloc _).after hb3)
  have q0 := LL3.out.cell 0
  have r0 := LA3.out.cell 0
  have r1 := LA3.out.cell 1
  have r2 := LA3.out.cell 2
  have zA := LA3.out.lt
  have zL := LL3.out.lt
  have e1 : ¬ w3.heap.size = w.heap.size + 1 := by omega
  have e2 : ¬ w3.heap.size = w.heap.size + 1 + 1 := by omega
  have e3 : ¬ w.heap.size + 1 = w3.heap.size := by omega
  have e4 : ¬ w.heap.size + 1 + 1 = w3.heap.size := by omega
  have hbw : Below w.heap.size w w3 := by (repeat' (first | (with_reducible exact Below.refl _ _) | (with_reducible assumption) | (with_reducible refine Below.alloc ?_ ?_ _) | (with_reducible refine Below.setCell ?_ ?_ _) | (with_reducible refine below_row ?_ ?_ _) | (with_reducible refine Below.drew ?_) | (with_reducible refine below_drewN ?_ _) | (with_reducible refine Below.trans ?_ (Below.mono (by assumption) ?_)) | (first | exact Nat.le_refl _ | omega | (simp; done) | (simp; omega))))
  have LZ3 := Lib.hid ((LZ.out.alloc _).after hb3)
  have zZ := LZ3.out.lt
  clear HF HS LZ LZ0 hb2 hb3 s2 LA LL
  go_wp2_with fail
  go_region_held3 (fun W => W.cell? ⟨w.heap.size + 1 + 1, 0, none⟩ = some (.slice (some ⟨w.heap.size + 1, 0, none⟩) 4 4) ∧ W.cell? ⟨w.heap.size + 1, 0, none⟩ = some (.string a) ∧ W.cell? ⟨w.heap.size + 1, 1, none⟩ = some (.string b) ∧ W.cell? ⟨w.heap.size + 1, 2, none⟩ = some (.string c) ∧
      W.cell? ⟨w3.heap.size, 0, none⟩ = some (.int .u8 un) ∧ W.cell? ⟨w3.heap.size, 1, none⟩ = some (.int .i64 st) ∧ W.cell? ⟨w3.heap.size, 2, none⟩ = some (.int .i64 pl) ∧ W.cell? ⟨w3.heap.size, 3, none⟩ = some (.string p) ∧
      W.cell? ⟨w3.heap.size, 4, none⟩ = some (.func (.func 57) #[] #[.pointer (some ⟨c1, 0, none⟩)]) ∧ W.cell? ⟨w3.heap.size, 5, none⟩ = some (.func (.func 58) #[] #[.pointer (some ⟨c1, 0, none⟩)]) ∧
      W.cell? ⟨w3.heap.size, 6, none⟩ = some (.func (.func 59) #[] #[.pointer (some ⟨c2, 0, none⟩), .pointer (some ⟨c1, 0, none⟩)])) (go_keep)
      (first | (go_at_call 52; refine (HN.out _ _ c1 c2 (by assumption)).mono ?_; rintro e w' ⟨rfl, hb2⟩; have hw' : Below w3.heap.size w3 w' := Below.trans (by (repeat' (first | (with_reducible exact Below.refl _ _) | (with_reducible assumption) | (with_reducible refine Below.alloc ?_ ?_ _) | (with_reducible refine Below.setCell ?_ ?_ _) | (with_reducible refine below_row ?_ ?_ _) | (with_reducible refine Below.drew ?_) | (with_reducible refine below_drewN ?_ _) | (with_reducible refine Below.trans ?_ (Below.mono (by assumption) ?_)) | (first | exact Nat.le_refl _ | omega | (simp; done) | (simp; omega))))) (hb2.mono (Below.size (B := w3.heap.size) (by (repeat' (first | (with_reducible exact Below.refl _ _) | (with_reducible assumption) | (with_reducible refine Below.alloc ?_ ?_ _) | (with_reducible refine Below.setCell ?_ ?_ _) | (with_reducible refine below_row ?_ ?_ _) | (with_reducible refine Below.drew ?_) | (with_reducible refine below_drewN ?_ _) | (with_reducible refine Below.trans ?_ (Below.mono (by assumption) ?_)) | (first | exact Nat.le_refl _ | omega | (simp; done) | (simp; omega))))))); have hb4 : Below (w3.heap.size + 1) (w3.alloc (.cells #[.int .u8 un, .int .i64 st, .int .i64 (pl : Int), .string p, .func (.func 57) #[] #[.pointer (some ⟨c1, 0, none⟩)], .func (.func 58) #[] #[.pointer (some ⟨c1, 0, none⟩)], .func (.func 59) #[] #[.pointer (some ⟨c2, 0, none⟩), .pointer (some ⟨c1, 0, none⟩)]] 44)) w' := Below.trans (by (repeat' (first | (with_reducible exact Below.refl _ _) | (with_reducible assumption) | (with_reducible refine Below.alloc ?_ ?_ _) | (with_reducible refine Below.setCell ?_ ?_ _) | (with_reducible refine below_row ?_ ?_ _) | (with_reducible refine Below.drew ?_) | (with_reducible refine below_drewN ?_ _) | (with_reducible refine Below.trans ?_ (Below.mono (by assumption) ?_)) | (first | exact Nat.le_refl _ | omega | (simp; done) | (simp; omega))))) (hb2.mono (by first | omega | (simp; done) | (simp; omega))); have LS := (Lies.made w3 44 #[.int .u8 un, .int .i64 st, .int .i64 (pl : Int), .string p, .func (.func 57) #[] #[.pointer (some ⟨c1, 0, none⟩)], .func (.func 58) #[] #[.pointer (some ⟨c1, 0, none⟩)], .func (.func 59) #[] #[.pointer (some ⟨c2, 0, none⟩), .pointer (some ⟨c1, 0, none⟩)]]).keep hb4 (by simp); have c0 := LS.cell 0; have c1' := LS.cell 1; have c2' := LS.cell 2; have c3 := LS.cell 3; have c4 := LS.cell 4; have c5 := LS.cell 5; have c6 := LS.cell 6; have LA4 := LA3.out.after hw'; have LL4 := LL3.out.after hw'; have d0 := LL4.cell 0; have d1 := LA4.cell 0; have d2 := LA4.cell 1; have d3 := LA4.cell 2; have sz : w3.heap.size + 1 ≤ w'.heap.size := (World.size_alloc _ _ ▸ hb4.size); clear LS LA4 LL4))
  clear q0 r0 r1 r2 HN ha hb hc
  have LZ4 := Lib.hid (LZ3.out.after hw')
  have z4 := LZ4.out.lt
  have hbz : Below w.heap.size w w' := hbw.trans (hw'.mono hbw.size)
  clear hw' hb4 LA3 LL3 LZ3 d0 d1 d2 d3 hb2 hbw s3 zA zL zZ e1 e2 e3 e4
  have zs := sz
  clear sz
  go_wp2_with fail
  refine (Check_no _ _ _ _ hd).mono ?_
  rintro e w5 ⟨rfl, hb5⟩
  have s5 := hb5.size; try simp only [World.size_alloc, World.size_setCell, World.size_drew, setRow_size] at s5
  go_wp2
  exact body_panic rfl ⟨rfl, by (repeat' (first | (with_reducible exact Below.refl _ _) | (with_reducible assumption) | (with_reducible refine Below.alloc ?_ ?_ _) | (with_reducible refine Below.setCell ?_ ?_ _) | (with_reducible refine below_row ?_ ?_ _) | (with_reducible refine Below.drew ?_) | (with_reducible refine below_drewN ?_ _) | (with_reducible refine Below.trans ?_ (Below.mono (by assumption) ?_)) | (first | exact Nat.le_refl _ | omega | (simp; done) | (simp; omega))))⟩
theorem toList_inj {x y : ByteArray} (h : x.toList = y.toList) : x = y := by
  rw [ByteArray.toList_eq, ByteArray.toList_eq] at h
  exact ByteArray.ext (Array.toList_inj.1 h)
/-- read has a size. -/
def GotDraft (un st n l u : Int) (pl : Nat) (m : ByteArray) (w : World) (e : Ending) (w' : World) : Prop :=
  (∃ c1 c2, e = .returned (.agg #[.int .i64 n, .int .i64 l, .int .i64 u, .int .u8 un, .int .i64 st, .int .i64 (pl : Int), .string m, .func (.func 57) #[] #[.pointer (some ⟨c1, 0, none⟩)], .func (.func 58) #[] #[.pointer (some ⟨c1, 0, none⟩)], .func (.func 59) #[] #[.pointer (some ⟨c2, 0, none⟩), .pointer (some ⟨c1, 0, none⟩)]])) ∧ Below w.heap.size w w'
set_option maxHeartbeats 4000000 in
set_option maxRecDepth 100000 in
theorem read_other (un st : Int) (pl : Nat) (s a b c p : ByteArray) (w : World) (he : Env w) (hl : s.size ≤ 1000000) (hp : piecesB s = [a, b, c, p]) (hst : st = 100 ∨ st = 254) (hpl : pl = 3 ∨ pl = 4)
    (hF : ∀ bl ba cap g W, Ready p bl ba cap g W → Calls Tryd.prog 44 #[.slice (some ⟨g, 0, none⟩) 2 2, .func (.func 51) #[] #[.pointer (some ⟨bl, 0, none⟩)]] W (FoundSc un st pl p W)) (hm : p.size ≤ 10)
    (h3 : a.size ≤ 1000000 ∧ b.size ≤ 1000000 ∧ c.size ≤ 1000000) (va vb vc : Int) (hva : numL st a.data.toList = some va) (hvb : numL st b.data.toList = some vb) (hvc : numL st c.data.toList = some vc) (hd : okD va (va + vb) (va + vc) = true) (ht : ¬ bs (textL st pl p.data.toList va (va + vb) (va + vc)) = s) :
    Calls Tryd.prog 24 #[.string s] w (Panics w) := by
  have HS := Lib.hid (split_four s a b c p w he hl hp)
  have HF := Lib.hid hF
  obtain ⟨V, hV⟩ : ∃ V : ByteArray → Int, ∀ x v, numL st x.data.toList = some v → V x = v := ⟨fun x => (numL st x.data.toList).getD 0, fun x v h => by simp only [h, Option.getD_some]⟩
  have HN : Hid (∀ x W c1 c2, Has st x → Calls Tryd.prog 52 #[.agg #[.int .u8 un, .int .i64 st, .int .i64 (pl : Int), .string p, .func (.func 57) #[] #[.pointer (some ⟨c1, 0, none⟩)], .func (.func 58) #[] #[.pointer (some ⟨c1, 0, none⟩)], .func (.func 59) #[] #[.pointer (some ⟨c2, 0, none⟩), .pointer (some ⟨c1, 0, none⟩)]], .string x] W fun e w' => e = .returned (.int .i64 (V x)) ∧ Below W.heap.size W w') := Lib.hid (fun x W c1 c2 ⟨⟨v, hx⟩, hsz⟩ => by
    have h := number_any un st pl p c1 c2 x W hst hsz
    rw [hx] at h
    rw [hV x v hx]
    exact h)
  have ba := numL_bd hst hva
  have bb := numL_bd hst hvb
  have bc := numL_bd hst hvc
  have ea := hV a va hva
  have eb := hV b vb hvb
  have ec := hV c vc hvc
  have ha : Has st a := ⟨⟨va, hva⟩, h3.1⟩
  have hb : Has st b := ⟨⟨vb, hvb⟩, h3.2.1⟩
  have hc : Has st c := ⟨⟨vc, hvc⟩, h3.2.2⟩
  clear hva hvb hvc hV
  rw [← ea] at ba
  rw [← eb] at bb
  rw [← ec] at bc
  rw [← ea, ← eb, ← ec] at hd
  rw [← ea, ← eb, ← ec] at ht
  obtain ⟨B, hB⟩ : ∃ B, bs (textL st pl p.data.toList (V a) (V a + V b) (V a + V c)) = B := ⟨_, rfl⟩
  rw [hB] at ht
  have hne : (B.toList == s.toList) = false := by
    rw [beq_eq_false_iff_ne]; exact fun e => ht (toList_inj e)
  clear ht
  have HT : Hid (∀ W c1 c2, Below w.heap.size w W → Calls Tryd.prog 21 #[.agg #[.int .i64 (V a), .int .i64 (V a + V b), .int .i64 (V a + V c), .int .u8 un, .int .i64 st, .int .i64 (pl : Int), .string p, .func (.func 57) #[] #[.pointer (some ⟨c1, 0, none⟩)], .func (.func 58) #[] #[.pointer (some ⟨c1, 0, none⟩)], .func (.func 59) #[] #[.pointer (some ⟨c2, 0, none⟩), .pointer (some ⟨c1, 0, none⟩)]]] W fun e w' => e = .returned (.string B) ∧ Below W.heap.size W w') := Lib.hid (fun W c1 c2 hW => hB ▸ text_any un st (V a) (V a + V b) (V a + V c) pl p c1 c2 W (he.after hW) hst hpl hd hm)
  clear hB
  have EA := Lib.hid ea
  have EB := Lib.hid eb
  have EC := Lib.hid ec
  clear ea eb ec hl h3
  obtain ⟨ba0, ba1⟩ := ba
  obtain ⟨bb0, bb1⟩ := bb
  obtain ⟨bc0, bc1⟩ := bc
  have LZ0 := Lib.hid (Lies.made w 48 #[.int .i64 0, .int .i64 0, .int .i64 0, .int .u8 0, .int .i64 0, .int .i64 0, .string ⟨#[]⟩, .nilFunc, .nilFunc, .nilFunc])
  clear he hst hpl
  clear hF hp
  go_enter Tryd.func24, Tryd.ntmps24
  go_wp2_with fail
  refine (HS.out _ (by (repeat' (first | (with_reducible exact Below.refl _ _) | (with_reducible assumption) | (with_reducible refine Below.alloc ?_ ?_ _) | (with_reducible refine Below.setCell ?_ ?_ _) | (with_reducible refine below_row ?_ ?_ _) | (with_reducible refine Below.drew ?_) | (with_reducible refine below_drewN ?_ _) | (with_reducible refine Below.trans ?_ (Below.mono (by assumption) ?_)) | (first | exact Nat.le_refl _ | omega | (simp; done) | (simp; omega)))))).mono ?_
  rintro e w1 ⟨rfl, rfl⟩
  go_wp2_with fail
  refine (scales_any _).mono ?_
  rintro e w2 ⟨b1, b2, b3, b4, rfl, -, -, hb2⟩
  have s2 := hb2.size; try simp only [World.size_alloc, World.size_setCell, World.size_drew, setRow_size] at s2
  have LA := Lib.hid (((Lies.new (u := w.alloc (.cells #[.int .i64 0, .int .i64 0, .int .i64 0, .int .u8 0, .int .i64 0, .int .i64 0, .string ⟨#[]⟩, .nilFunc, .nilFunc, .nilFunc] 48)) (t := 9) (cs := #[.string a, .string b, .string c, .string p]) rfl).alloc _).after hb2)
  have LL := Lib.hid ((Lies.new (u := (w.alloc (.cells #[.int .i64 0, .int .i64 0, .int .i64 0, .int .u8 0, .int .i64 0, .int .i64 0, .string ⟨#[]⟩, .nilFunc, .nilFunc, .nilFunc] 48)).alloc (.cells #[.string a, .string b, .string c, .string p] 9)) (t := 61) (cs := #[.slice (some ⟨w.heap.size + 1, 0, none⟩) 4 4]) rfl).after hb2)
  simp only [World.size_alloc] at LA LL
  have LZ := Lib.hid (((LZ0.out.alloc (.cells #[.string a, .string b, .string c, .string p] 9)).alloc (.cells #[.slice (some ⟨w.heap.size + 1, 0, none⟩) 4 4] 61)).after hb2)
  go_wp2_with fail
  refine (HF.out _ _ 4 _ _ ⟨(LL.out.alloc _).cell 0, (LA.out.alloc _).cell 3, b1, b2, b3, b4, Lies.new rfl⟩).mono ?_
  rintro e w3 ⟨⟨c1, c2, rfl⟩, hb3⟩
  have s3 := hb3.size; try simp only [World.size_alloc, World.size_setCell, World.size_drew, setRow_size] at s3
  have LA3 := Lib.hid ((LA.out.alloc _).after hb3)
  have LL3 := Lib.hid ((LL.out.alloc _).after hb3)
  have q0 := LL3.out.cell 0
  have r0 := LA3.out.cell 0
  have r1 := LA3.out.cell 1
  have r2 := LA3.out.cell 2
  have zA := LA3.out.lt
  have zL := LL3.out.lt
  have e1 : ¬ w3.heap.size = w.heap.size + 1 := by omega
  have e2 : ¬ w3.heap.size = w.heap.size + 1 + 1 := by omega
  have e3 : ¬ w.heap.size + 1 = w3.heap.size := by omega
  have e4 : ¬ w.heap.size + 1 + 1 = w3.heap.size := by omega
  have hbw : Below w.heap.size w w3 := by (repeat' (first | (with_reducible exact Below.refl _ _) | (with_reducible assumption) | (with_reducible refine Below.alloc ?_ ?_ _) | (with_reducible refine Below.setCell ?_ ?_ _) | (with_reducible refine below_row ?_ ?_ _) | (with_reducible refine Below.drew ?_) | (with_reducible refine below_drewN ?_ _) | (with_reducible refine Below.trans ?_ (Below.mono (by assumption) ?_)) | (first | exact Nat.le_refl _ | omega | (simp; done) | (simp; omega))))
  have LZ3 := Lib.hid ((LZ.out.alloc _).after hb3)
  have zZ := LZ3.out.lt
  clear HF HS LZ LZ0 hb2 hb3 s2 LA LL
  go_wp2_with fail
  go_region_held3 (fun W => W.cell? ⟨w.heap.size + 1 + 1, 0, none⟩ = some (.slice (some ⟨w.heap.size + 1, 0, none⟩) 4 4) ∧ W.cell? ⟨w.heap.size + 1, 0, none⟩ = some (.string a) ∧ W.cell? ⟨w.heap.size + 1, 1, none⟩ = some (.string b) ∧ W.cell? ⟨w.heap.size + 1, 2, none⟩ = some (.string c) ∧
      W.cell? ⟨w3.heap.size, 0, none⟩ = some (.int .u8 un) ∧ W.cell? ⟨w3.heap.size, 1, none⟩ = some (.int .i64 st) ∧ W.cell? ⟨w3.heap.size, 2, none⟩ = some (.int .i64 pl) ∧ W.cell? ⟨w3.heap.size, 3, none⟩ = some (.string p) ∧
      W.cell? ⟨w3.heap.size, 4, none⟩ = some (.func (.func 57) #[] #[.pointer (some ⟨c1, 0, none⟩)]) ∧ W.cell? ⟨w3.heap.size, 5, none⟩ = some (.func (.func 58) #[] #[.pointer (some ⟨c1, 0, none⟩)]) ∧
      W.cell? ⟨w3.heap.size, 6, none⟩ = some (.func (.func 59) #[] #[.pointer (some ⟨c2, 0, none⟩), .pointer (some ⟨c1, 0, none⟩)])) (go_keep)
      (first | (go_at_call 52; refine (HN.out _ _ c1 c2 (by assumption)).mono ?_; rintro e w' ⟨rfl, hb2⟩; have hw' : Below w3.heap.size w3 w' := Below.trans (by (repeat' (first | (with_reducible exact Below.refl _ _) | (with_reducible assumption) | (with_reducible refine Below.alloc ?_ ?_ _) | (with_reducible refine Below.setCell ?_ ?_ _) | (with_reducible refine below_row ?_ ?_ _) | (with_reducible refine Below.drew ?_) | (with_reducible refine below_drewN ?_ _) | (with_reducible refine Below.trans ?_ (Below.mono (by assumption) ?_)) | (first | exact Nat.le_refl _ | omega | (simp; done) | (simp; omega))))) (hb2.mono (Below.size (B := w3.heap.size) (by (repeat' (first | (with_reducible exact Below.refl _ _) | (with_reducible assumption) | (with_reducible refine Below.alloc ?_ ?_ _) | (with_reducible refine Below.setCell ?_ ?_ _) | (with_reducible refine below_row ?_ ?_ _) | (with_reducible refine Below.drew ?_) | (with_reducible refine below_drewN ?_ _) | (with_reducible refine Below.trans ?_ (Below.mono (by assumption) ?_)) | (first | exact Nat.le_refl _ | omega | (simp; done) | (simp; omega))))))); have hb4 : Below (w3.heap.size + 1) (w3.alloc (.cells #[.int .u8 un, .int .i64 st, .int .i64 (pl : Int), .string p, .func (.func 57) #[] #[.pointer (some ⟨c1, 0, none⟩)], .func (.func 58) #[] #[.pointer (some ⟨c1, 0, none⟩)], .func (.func 59) #[] #[.pointer (some ⟨c2, 0, none⟩), .pointer (some ⟨c1, 0, none⟩)]] 44)) w' := Below.trans (by (repeat' (first | (with_reducible exact Below.refl _ _) | (with_reducible assumption) | (with_reducible refine Below.alloc ?_ ?_ _) | (with_reducible refine Below.setCell ?_ ?_ _) | (with_reducible refine below_row ?_ ?_ _) | (with_reducible refine Below.drew ?_) | (with_reducible refine below_drewN ?_ _) | (with_reducible refine Below.trans ?_ (Below.mono (by assumption) ?_)) | (first | exact Nat.le_refl _ | omega | (simp; done) | (simp; omega))))) (hb2.mono (by first | omega | (simp; done) | (simp; omega))); have LS := (Lies.made w3 44 #[.int .u8 un, .int .i64 st, .int .i64 (pl : Int), .string p, .func (.func 57) #[] #[.pointer (some ⟨c1, 0, none⟩)], .func (.func 58) #[] #[.pointer (some ⟨c1, 0, none⟩)], .func (.func 59) #[] #[.pointer (some ⟨c2, 0, none⟩), .pointer (some ⟨c1, 0, none⟩)]]).keep hb4 (by simp); have c0 := LS.cell 0; have c1' := LS.cell 1; have c2' := LS.cell 2; have c3 := LS.cell 3; have c4 := LS.cell 4; have c5 := LS.cell 5; have c6 := LS.cell 6; have LA4 := LA3.out.after hw'; have LL4 := LL3.out.after hw'; have d0 := LL4.cell 0; have d1 := LA4.cell 0; have d2 := LA4.cell 1; have d3 := LA4.cell 2; have sz : w3.heap.size + 1 ≤ w'.heap.size := (World.size_alloc _ _ ▸ hb4.size); clear LS LA4 LL4))
  clear q0 r0 r1 r2 HN ha hb hc
  have LZ4 := Lib.hid (LZ3.out.after hw')
  have z4 := LZ4.out.lt
  have hbz : Below w.heap.size w w' := hbw.trans (hw'.mono hbw.size)
  clear hw' hb4 LA3 LL3 LZ3 d0 d1 d2 d3 hb2 hbw s3 zA zL zZ e1 e2 e3 e4
  have zs := sz
  clear sz
  go_wp2_with fail
  refine (Check_ok _ _ _ _ hd).mono ?_
  rintro e w5 ⟨rfl, hb5⟩
  have s5 := hb5.size; try simp only [World.size_alloc, World.size_setCell, World.size_drew, setRow_size] at s5
  have hbx : Below w.heap.size w w5 := by (repeat' (first | (with_reducible exact Below.refl _ _) | (with_reducible assumption) | (with_reducible refine Below.alloc ?_ ?_ _) | (with_reducible refine Below.setCell ?_ ?_ _) | (with_reducible refine below_row ?_ ?_ _) | (with_reducible refine Below.drew ?_) | (with_reducible refine below_drewN ?_ _) | (with_reducible refine Below.trans ?_ (Below.mono (by assumption) ?_)) | (first | exact Nat.le_refl _ | omega | (simp; done) | (simp; omega))))
  have LD := Lib.hid ((Lies.made w' 48 #[.int .i64 (V a), .int .i64 (V a + V b), .int .i64 (V a + V c), .int .u8 un, .int .i64 st, .int .i64 (pl : Int), .string p, .func (.func 57) #[] #[.pointer (some ⟨c1, 0, none⟩)], .func (.func 58) #[] #[.pointer (some ⟨c1, 0, none⟩)], .func (.func 59) #[] #[.pointer (some ⟨c2, 0, none⟩), .pointer (some ⟨c1, 0, none⟩)]]).after hb5)
  have LY := Lib.hid ((LZ4.out.alloc (.cells #[.int .i64 (V a), .int .i64 (V a + V b), .int .i64 (V a + V c), .int .u8 un, .int .i64 st, .int .i64 (pl : Int), .string p, .func (.func 57) #[] #[.pointer (some ⟨c1, 0, none⟩)], .func (.func 58) #[] #[.pointer (some ⟨c1, 0, none⟩)], .func (.func 59) #[] #[.pointer (some ⟨c2, 0, none⟩), .pointer (some ⟨c1, 0, none⟩)]] 48)).after hb5)
  have y0 := fun i => LD.out.cell i
  have zd := LD.out.lt
  clear hb5 c0 c1' c2' c3 c4 c5 c6 LZ4
  go_wp2_with fail
  refine (HT.out _ c1 c2 hbx).mono ?_
  rintro e w6 ⟨rfl, hb6⟩
  have s6 := hb6.size; try simp only [World.size_alloc, World.size_setCell, World.size_drew, setRow_size] at s6
  have LD6 := Lib.hid (LD.out.after hb6)
  have LY6 := Lib.hid (LY.out.after hb6)
  have hby : Below w.heap.size w w6 := by (repeat' (first | (with_reducible exact Below.refl _ _) | (with_reducible assumption) | (with_reducible refine Below.alloc ?_ ?_ _) | (with_reducible refine Below.setCell ?_ ?_ _) | (with_reducible refine below_row ?_ ?_ _) | (with_reducible refine Below.drew ?_) | (with_reducible refine below_drewN ?_ _) | (with_reducible refine Below.trans ?_ (Below.mono (by assumption) ?_)) | (first | exact Nat.le_refl _ | omega | (simp; done) | (simp; omega))))
  clear LD LY hb6 hbx y0
  go_wp2
  exact body_panic rfl ⟨rfl, by (repeat' (first | (with_reducible exact Below.refl _ _) | (with_reducible assumption) | (with_reducible refine Below.alloc ?_ ?_ _) | (with_reducible refine Below.setCell ?_ ?_ _) | (with_reducible refine below_row ?_ ?_ _) | (with_reducible refine Below.drew ?_) | (with_reducible refine below_drewN ?_ _) | (with_reducible refine Below.trans ?_ (Below.mono (by assumption) ?_)) | (first | exact Nat.le_refl _ | omega | (simp; done) | (simp; omega))))⟩
set_option maxHeartbeats 4000000 in
set_option maxRecDepth 100000 in
theorem read_good (un st : Int) (pl : Nat) (s a b c p : ByteArray) (w : World) (he : Env w) (hl : s.size ≤ 1000000) (hp : piecesB s = [a, b, c, p]) (hst : st = 100 ∨ st = 254) (hpl : pl = 3 ∨ pl = 4)
    (hF : ∀ bl ba cap g W, Ready p bl ba cap g W → Calls Tryd.prog 44 #[.slice (some ⟨g, 0, none⟩) 2 2, .func (.func 51) #[] #[.pointer (some ⟨bl, 0, none⟩)]] W (FoundSc un st pl p W)) (hm : p.size ≤ 10)
    (h3 : a.size ≤ 1000000 ∧ b.size ≤ 1000000 ∧ c.size ≤ 1000000) (va vb vc : Int) (hva : numL st a.data.toList = some va) (hvb : numL st b.data.toList = some vb) (hvc : numL st c.data.toList = some vc) (hd : okD va (va + vb) (va + vc) = true) (ht : bs (textL st pl p.data.toList va (va + vb) (va + vc)) = s) :
    Calls Tryd.prog 24 #[.string s] w (GotDraft un st va (va + vb) (va + vc) pl p w) := by
  have HS := Lib.hid (split_four s a b c p w he hl hp)
  have HF := Lib.hid hF
  obtain ⟨V, hV⟩ : ∃ V : ByteArray → Int, ∀ x v, numL st x.data.toList = some v → V x = v := ⟨fun x => (numL st x.data.toList).getD 0, fun x v h => by simp only [h, Option.getD_some]⟩
  have HN : Hid (∀ x W c1 c2, Has st x → Calls Tryd.prog 52 #[.agg #[.int .u8 un, .int .i64 st, .int .i64 (pl : Int), .string p, .func (.func 57) #[] #[.pointer (some ⟨c1, 0, none⟩)], .func (.func 58) #[] #[.pointer (some ⟨c1, 0, none⟩)], .func (.func 59) #[] #[.pointer (some ⟨c2, 0, none⟩), .pointer (some ⟨c1, 0, none⟩)]], .string x] W fun e w' => e = .returned (.int .i64 (V x)) ∧ Below W.heap.size W w') := Lib.hid (fun x W c1 c2 ⟨⟨v, hx⟩, hsz⟩ => by
    have h := number_any un st pl p c1 c2 x W hst hsz
    rw [hx] at h
    rw [hV x v hx]
    exact h)
  have ba := numL_bd hst hva
  have bb := numL_bd hst hvb
  have bc := numL_bd hst hvc
  have ea := hV a va hva
  have eb := hV b vb hvb
  have ec := hV c vc hvc
  have ha : Has st a := ⟨⟨va, hva⟩, h3.1⟩
  have hb : Has st b := ⟨⟨vb, hvb⟩, h3.2.1⟩
  have hc : Has st c := ⟨⟨vc, hvc⟩, h3.2.2⟩
  clear hva hvb hvc hV
  rw [← ea] at ba
  rw [← eb] at bb
  rw [← ec] at bc
  rw [← ea, ← eb, ← ec] at hd
  rw [← ea, ← eb, ← ec] at ht
  have HT : Hid (∀ W c1 c2, Below w.heap.size w W → Calls Tryd.prog 21 #[.agg #[.int .i64 (V a), .int .i64 (V a + V b), .int .i64 (V a + V c), .int .u8 un, .int .i64 st, .int .i64 (pl : Int), .string p, .func (.func 57) #[] #[.pointer (some ⟨c1, 0, none⟩)], .func (.func 58) #[] #[.pointer (some ⟨c1, 0, none⟩)], .func (.func 59) #[] #[.pointer (some ⟨c2, 0, none⟩), .pointer (some ⟨c1, 0, none⟩)]]] W fun e w' => e = .returned (.string s) ∧ Below W.heap.size W w') := Lib.hid (fun W c1 c2 hW => ht ▸ text_any un st (V a) (V a + V b) (V a + V c) pl p c1 c2 W (he.after hW) hst hpl hd hm)
  clear ht
  have EA := Lib.hid ea
  have EB := Lib.hid eb
  have EC := Lib.hid ec
  clear ea eb ec hl h3
  obtain ⟨ba0, ba1⟩ := ba
  obtain ⟨bb0, bb1⟩ := bb
  obtain ⟨bc0, bc1⟩ := bc
  have LZ0 := Lib.hid (Lies.made w 48 #[.int .i64 0, .int .i64 0, .int .i64 0, .int .u8 0, .int .i64 0, .int .i64 0, .string ⟨#[]⟩, .nilFunc, .nilFunc, .nilFunc])
  clear he hst hpl
  clear hF hp
  go_enter Tryd.func24, Tryd.ntmps24
  go_wp2_with fail
  refine (HS.out _ (by (repeat' (first | (with_reducible exact Below.refl _ _) | (with_reducible assumption) | (with_reducible refine Below.alloc ?_ ?_ _) | (with_reducible refine Below.setCell ?_ ?_ _) | (with_reducible refine below_row ?_ ?_ _) | (with_reducible refine Below.drew ?_) | (with_reducible refine below_drewN ?_ _) | (with_reducible refine Below.trans ?_ (Below.mono (by assumption) ?_)) | (first | exact Nat.le_refl _ | omega | (simp; done) | (simp; omega)))))).mono ?_
  rintro e w1 ⟨rfl, rfl⟩
  go_wp2_with fail
  refine (scales_any _).mono ?_
  rintro e w2 ⟨b1, b2, b3, b4, rfl, -, -, hb2⟩
  have s2 := hb2.size; try simp only [World.size_alloc, World.size_setCell, World.size_drew, setRow_size] at s2
  have LA := Lib.hid (((Lies.new (u := w.alloc (.cells #[.int .i64 0, .int .i64 0, .int .i64 0, .int .u8 0, .int .i64 0, .int .i64 0, .string ⟨#[]⟩, .nilFunc, .nilFunc, .nilFunc] 48)) (t := 9) (cs := #[.string a, .string b, .string c, .string p]) rfl).alloc _).after hb2)
  have LL := Lib.hid ((Lies.new (u := (w.alloc (.cells #[.int .i64 0, .int .i64 0, .int .i64 0, .int .u8 0, .int .i64 0, .int .i64 0, .string ⟨#[]⟩, .nilFunc, .nilFunc, .nilFunc] 48)).alloc (.cells #[.string a, .string b, .string c, .string p] 9)) (t := 61) (cs := #[.slice (some ⟨w.heap.size + 1, 0, none⟩) 4 4]) rfl).after hb2)
  simp only [World.size_alloc] at LA LL
  have LZ := Lib.hid (((LZ0.out.alloc (.cells #[.string a, .string b, .string c, .string p] 9)).alloc (.cells #[.slice (some ⟨w.heap.size + 1, 0, none⟩) 4 4] 61)).after hb2)
  go_wp2_with fail
  refine (HF.out _ _ 4 _ _ ⟨(LL.out.alloc _).cell 0, (LA.out.alloc _).cell 3, b1, b2, b3, b4, Lies.new rfl⟩).mono ?_
  rintro e w3 ⟨⟨c1, c2, rfl⟩, hb3⟩
  have s3 := hb3.size; try simp only [World.size_alloc, World.size_setCell, World.size_drew, setRow_size] at s3
  have LA3 := Lib.hid ((LA.out.alloc _).after hb3)
  have LL3 := Lib.hid ((LL.out.alloc _).after hb3)
  have q0 := LL3.out.cell 0
  have r0 := LA3.out.cell 0
  have r1 := LA3.out.cell 1
  have r2 := LA3.out.cell 2
  have zA := LA3.out.lt
  have zL := LL3.out.lt
  have e1 : ¬ w3.heap.size = w.heap.size + 1 := by omega
  have e2 : ¬ w3.heap.size = w.heap.size + 1 + 1 := by omega
  have e3 : ¬ w.heap.size + 1 = w3.heap.size := by omega
  have e4 : ¬ w.heap.size + 1 + 1 = w3.heap.size := by omega
  have hbw : Below w.heap.size w w3 := by (repeat' (first | (with_reducible exact Below.refl _ _) | (with_reducible assumption) | (with_reducible refine Below.alloc ?_ ?_ _) | (with_reducible refine Below.setCell ?_ ?_ _) | (with_reducible refine below_row ?_ ?_ _) | (with_reducible refine Below.drew ?_) | (with_reducible refine below_drewN ?_ _) | (with_reducible refine Below.trans ?_ (Below.mono (by assumption) ?_)) | (first | exact Nat.le_refl _ | omega | (simp; done) | (simp; omega))))
  have LZ3 := Lib.hid ((LZ.out.alloc _).after hb3)
  have zZ := LZ3.out.lt
  clear HF HS LZ LZ0 hb2 hb3 s2 LA LL
  go_wp2_with fail
  go_region_held3 (fun W => W.cell? ⟨w.heap.size + 1 + 1, 0, none⟩ = some (.slice (some ⟨w.heap.size + 1, 0, none⟩) 4 4) ∧ W.cell? ⟨w.heap.size + 1, 0, none⟩ = some (.string a) ∧ W.cell? ⟨w.heap.size + 1, 1, none⟩ = some (.string b) ∧ W.cell? ⟨w.heap.size + 1, 2, none⟩ = some (.string c) ∧
      W.cell? ⟨w3.heap.size, 0, none⟩ = some (.int .u8 un) ∧ W.cell? ⟨w3.heap.size, 1, none⟩ = some (.int .i64 st) ∧ W.cell? ⟨w3.heap.size, 2, none⟩ = some (.int .i64 pl) ∧ W.cell? ⟨w3.heap.size, 3, none⟩ = some (.string p) ∧
      W.cell? ⟨w3.heap.size, 4, none⟩ = some (.func (.func 57) #[] #[.pointer (some ⟨c1, 0, none⟩)]) ∧ W.cell? ⟨w3.heap.size, 5, none⟩ = some (.func (.func 58) #[] #[.pointer (some ⟨c1, 0, none⟩)]) ∧
      W.cell? ⟨w3.heap.size, 6, none⟩ = some (.func (.func 59) #[] #[.pointer (some ⟨c2, 0, none⟩), .pointer (some ⟨c1, 0, none⟩)])) (go_keep)
      (first | (go_at_call 52; refine (HN.out _ _ c1 c2 (by assumption)).mono ?_; rintro e w' ⟨rfl, hb2⟩; have hw' : Below w3.heap.size w3 w' := Below.trans (by (repeat' (first | (with_reducible exact Below.refl _ _) | (with_reducible assumption) | (with_reducible refine Below.alloc ?_ ?_ _) | (with_reducible refine Below.setCell ?_ ?_ _) | (with_reducible refine below_row ?_ ?_ _) | (with_reducible refine Below.drew ?_) | (with_reducible refine below_drewN ?_ _) | (with_reducible refine Below.trans ?_ (Below.mono (by assumption) ?_)) | (first | exact Nat.le_refl _ | omega | (simp; done) | (simp; omega))))) (hb2.mono (Below.size (B := w3.heap.size) (by (repeat' (first | (with_reducible exact Below.refl _ _) | (with_reducible assumption) | (with_reducible refine Below.alloc ?_ ?_ _) | (with_reducible refine Below.setCell ?_ ?_ _) | (with_reducible refine below_row ?_ ?_ _) | (with_reducible refine Below.drew ?_) | (with_reducible refine below_drewN ?_ _) | (with_reducible refine Below.trans ?_ (Below.mono (by assumption) ?_)) | (first | exact Nat.le_refl _ | omega | (simp; done) | (simp; omega))))))); have hb4 : Below (w3.heap.size + 1) (w3.alloc (.cells #[.int .u8 un, .int .i64 st, .int .i64 (pl : Int), .string p, .func (.func 57) #[] #[.pointer (some ⟨c1, 0, none⟩)], .func (.func 58) #[] #[.pointer (some ⟨c1, 0, none⟩)], .func (.func 59) #[] #[.pointer (some ⟨c2, 0, none⟩), .pointer (some ⟨c1, 0, none⟩)]] 44)) w' := Below.trans (by (repeat' (first | (with_reducible exact Below.refl _ _) | (with_reducible assumption) | (with_reducible refine Below.alloc ?_ ?_ _) | (with_reducible refine Below.setCell ?_ ?_ _) | (with_reducible refine below_row ?_ ?_ _) | (with_reducible refine Below.drew ?_) | (with_reducible refine below_drewN ?_ _) | (with_reducible refine Below.trans ?_ (Below.mono (by assumption) ?_)) | (first | exact Nat.le_refl _ | omega | (simp; done) | (simp; omega))))) (hb2.mono (by first | omega | (simp; done) | (simp; omega))); have LS := (Lies.made w3 44 #[.int .u8 un, .int .i64 st, .int .i64 (pl : Int), .string p, .func (.func 57) #[] #[.pointer (some ⟨c1, 0, none⟩)], .func (.func 58) #[] #[.pointer (some ⟨c1, 0, none⟩)], .func (.func 59) #[] #[.pointer (some ⟨c2, 0, none⟩), .pointer (some ⟨c1, 0, none⟩)]]).keep hb4 (by simp); have c0 := LS.cell 0; have c1' := LS.cell 1; have c2' := LS.cell 2; have c3 := LS.cell 3; have c4 := LS.cell 4; have c5 := LS.cell 5; have c6 := LS.cell 6; have LA4 := LA3.out.after hw'; have LL4 := LL3.out.after hw'; have d0 := LL4.cell 0; have d1 := LA4.cell 0; have d2 := LA4.cell 1; have d3 := LA4.cell 2; have sz : w3.heap.size + 1 ≤ w'.heap.size := (World.size_alloc _ _ ▸ hb4.size); clear LS LA4 LL4))
  clear q0 r0 r1 r2 HN ha hb hc
  have LZ4 := Lib.hid (LZ3.out.after hw')
  have z4 := LZ4.out.lt
  have hbz : Below w.heap.size w w' := hbw.trans (hw'.mono hbw.size)
  clear hw' hb4 LA3 LL3 LZ3 d0 d1 d2 d3 hb2 hbw s3 zA zL zZ e1 e2 e3 e4
  have zs := sz
  clear sz
  go_wp2_with fail
  refine (Check_ok _ _ _ _ hd).mono ?_
  rintro e w5 ⟨rfl, hb5⟩
  have s5 := hb5.size; try simp only [World.size_alloc, World.size_setCell, World.size_drew, setRow_size] at s5
  have hbx : Below w.heap.size w w5 := by (repeat' (first | (with_reducible exact Below.refl _ _) | (with_reducible assumption) | (with_reducible refine Below.alloc ?_ ?_ _) | (with_reducible refine Below.setCell ?_ ?_ _) | (with_reducible refine below_row ?_ ?_ _) | (with_reducible refine Below.drew ?_) | (with_reducible refine below_drewN ?_ _) | (with_reducible refine Below.trans ?_ (Below.mono (by assumption) ?_)) | (first | exact Nat.le_refl _ | omega | (simp; done) | (simp; omega))))
  have LD := Lib.hid ((Lies.made w' 48 #[.int .i64 (V a), .int .i64 (V a + V b), .int .i64 (V a + V c), .int .u8 un, .int .i64 st, .int .i64 (pl : Int), .string p, .func (.func 57) #[] #[.pointer (some ⟨c1, 0, none⟩)], .func (.func 58) #[] #[.pointer (some ⟨c1, 0, none⟩)], .func (.func 59) #[] #[.pointer (some ⟨c2, 0, none⟩), .pointer (some ⟨c1, 0, none⟩)]]).after hb5)
  have LY := Lib.hid ((LZ4.out.alloc (.cells #[.int .i64 (V a), .int .i64 (V a + V b), .int .i64 (V a + V c), .int .u8 un, .int .i64 st, .int .i64 (pl : Int), .string p, .func (.func 57) #[] #[.pointer (some ⟨c1, 0, none⟩)], .func (.func 58) #[] #[.pointer (some ⟨c1, 0, none⟩)], .func (.func 59) #[] #[.pointer (some ⟨c2, 0, none⟩), .pointer (some ⟨c1, 0, none⟩)]] 48)).after hb5)
  have y0 := fun i => LD.out.cell i
  have zd := LD.out.lt
  clear hb5 c0 c1' c2' c3 c4 c5 c6 LZ4
  go_wp2_with fail
  refine (HT.out _ c1 c2 hbx).mono ?_
  rintro e w6 ⟨rfl, hb6⟩
  have s6 := hb6.size; try simp only [World.size_alloc, World.size_setCell, World.size_drew, setRow_size] at s6
  have LD6 := Lib.hid (LD.out.after hb6)
  have LY6 := Lib.hid (LY.out.after hb6)
  have hby : Below w.heap.size w w6 := by (repeat' (first | (with_reducible exact Below.refl _ _) | (with_reducible assumption) | (with_reducible refine Below.alloc ?_ ?_ _) | (with_reducible refine Below.setCell ?_ ?_ _) | (with_reducible refine below_row ?_ ?_ _) | (with_reducible refine Below.drew ?_) | (with_reducible refine below_drewN ?_ _) | (with_reducible refine Below.trans ?_ (Below.mono (by assumption) ?_)) | (first | exact Nat.le_refl _ | omega | (simp; done) | (simp; omega))))
  have y1 := fun i => LD6.out.cell i
  have zd6 := LD6.out.lt
  clear LD LY hb6 hbx y0
  go_wp2_with (refine wpList_store_row rfl 48 _ _ rfl w.heap.size #[.int .i64 (V a), .int .i64 (V a + V b), .int .i64 (V a + V c), .int .u8 un, .int .i64 st, .int .i64 (pl : Int), .string p, .func (.func 57) #[] #[.pointer (some ⟨c1, 0, none⟩)], .func (.func 58) #[] #[.pointer (some ⟨c1, 0, none⟩)], .func (.func 59) #[] #[.pointer (some ⟨c2, 0, none⟩), .pointer (some ⟨c1, 0, none⟩)]] rfl rfl _ _ LY6.out (by kernel_rfl) rfl (by kernel_rfl) ?_)
  refine bodyPost_ret (results_cell_row rfl _ _ w.heap.size _ _ (0, 0) _ rfl (LY6.out.row _) Tryd.underlying48 rfl (by kernel_rfl)) rfl ⟨⟨c1, c2, by rw [EA.out, EB.out, EC.out]⟩, by (repeat' (first | (with_reducible exact Below.refl _ _) | (with_reducible assumption) | (with_reducible refine Below.alloc ?_ ?_ _) | (with_reducible refine Below.setCell ?_ ?_ _) | (with_reducible refine below_row ?_ ?_ _) | (with_reducible refine Below.drew ?_) | (with_reducible refine below_drewN ?_ _) | (with_reducible refine Below.trans ?_ (Below.mono (by assumption) ?_)) | (first | exact Nat.le_refl _ | omega | (simp; done) | (simp; omega))))⟩
end Go.Proofs.YtjejjeomknkglaaDoor
