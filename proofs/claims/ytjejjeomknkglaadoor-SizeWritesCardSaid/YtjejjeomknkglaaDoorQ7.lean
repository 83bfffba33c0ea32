/- The reference: Read in every case. -/
import Derived.Test.YtjejjeomknkglaaDoorQ6
namespace Go.Proofs.YtjejjeomknkglaaDoor
set_option linter.unusedVariables false
set_option linter.unusedSimpArgs false
open Go.RowKit Go.Sort

def valB (X : ByteArray) : Int := valL X.data.toList
theorem valB_bs (l : List UInt8) : valB (bs l) = valL l := by unfold valB; rw [bs_list]
theorem round_ok (un st : Int) (pl : Nat) (mk : List UInt8) (V : ByteArray → Int) (A B C : ByteArray) (hun : (un = 1 ∧ st = 100 ∧ pl = 3 ∧ mk = mmL) ∨ (un = 2 ∧ st = 254 ∧ pl = 4 ∧ mk = inL)) :
    Round Tryd.prog V A B C un st (okD (V A * st) ((V A + V B) * st) ((V A + V C) * st)) (bs (textL st pl mk (V A * st) ((V A + V B) * st) ((V A + V C) * st))) where
  step := fun W => rStep_b un st W (by rcases hun with ⟨rfl, rfl, -⟩ | ⟨rfl, rfl, -⟩ <;> rfl)
  dim := fun W => rDim_any _ _ _ W
  text := fun h W => rwritten_any un st _ _ _ pl mk W hun h (by simp [exactS, Int.mul_emod_left])
theorem rwords_four (s : ByteArray) (a b c m : List UInt8) (h : s.size ≤ 80) (h4 : wordsL [] s.data.toList = [a, b, c, m]) (W : World) :
    Calls Tryd.prog 25 #[.string s] W fun e w' => ∃ g cap, e = .returned (.slice (some ⟨g, 0, none⟩) 4 cap) ∧ W.heap.size ≤ g ∧ g < w'.heap.size ∧ W3 w' g (bs a) (bs b) (bs c) ∧ Below W.heap.size W w' := by
  refine (rwords_any s W h).mono ?_
  rw [h4]
  rintro e w' ⟨g, cap, rfl, hown, hb⟩
  have h1 := hown.lt g rfl
  exact ⟨g, cap, rfl, h1.1, h1.2, ⟨hown.cellAt 0 (by show 0 < 4 * 1; omega), hown.cellAt 1 (by show 1 < 4 * 1; omega), hown.cellAt 2 (by show 2 < 4 * 1; omega)⟩, hb⟩
theorem rRead_any (s : ByteArray) (w : World) : Calls Tryd.prog 10 #[.string s] w (DidRead (readS s) w) := by
  rw [← rreadS_eq]
  unfold rreadS
  by_cases h : 80 < s.size
  · rw [if_pos h]; exact rRead_long s w h
  · rw [if_neg h]
    have h' : s.size ≤ 80 := by omega
    split
    · rename_i a b c m h4
      have hlen : ∀ x ∈ wordsL [] s.data.toList, x.length ≤ 80 := fun x hx => by have := words_short x hx; rw [← Lib.size_eq s] at this; simp at this; omega
      rw [h4] at hlen
      have HW := Lib.hid (fun W => rwords_four s a b c m h' h4 W)
      have HV : Hid (∀ X W, (X = bs a ∨ X = bs b ∨ X = bs c) → Calls Tryd.prog 26 #[.string X] W fun e w' => e = .returned (.int .i64 (valB X)) ∧ w' = W) := Lib.hid (fun X W hX => rvalue_any X W (by
        have ha := hlen a (by simp); have hb := hlen b (by simp); have hc := hlen c (by simp)
        rcases hX with rfl | rfl | rfl <;> rw [bs_size] <;> omega))
      have hV : ∀ X, -10000000000 < valB X ∧ valB X < 10000000000 := fun X => valL_bd _
      have R1 := round_ok 1 100 3 mmL valB (bs a) (bs b) (bs c) (.inl ⟨rfl, rfl, rfl, rfl⟩)
      have R2 := round_ok 2 254 4 inL valB (bs a) (bs b) (bs c) (.inr ⟨rfl, rfl, rfl, rfl⟩)
      have e1 : tryR 100 a b c = (valB (bs a) * 100, (valB (bs a) + valB (bs b)) * 100, (valB (bs a) + valB (bs c)) * 100) := by rw [valB_bs, valB_bs, valB_bs]; rfl
      have e2 : tryR 254 a b c = (valB (bs a) * 254, (valB (bs a) + valB (bs b)) * 254, (valB (bs a) + valB (bs c)) * 254) := by rw [valB_bs, valB_bs, valB_bs]; rfl
      rw [e1, e2]
      have c1 : ∀ d, takesR 100 3 mmL d s ↔ (okD d.1 d.2.1 d.2.2 = true ∧ bs (textL 100 3 mmL d.1 d.2.1 d.2.2) = s) := fun d => Iff.rfl
      have c2 : ∀ d, takesR 254 4 inL d s ↔ (okD d.1 d.2.1 d.2.2 = true ∧ bs (textL 254 4 inL d.1 d.2.1 d.2.2) = s) := fun d => Iff.rfl
      by_cases t1 : takesR 100 3 mmL (valB (bs a) * 100, (valB (bs a) + valB (bs b)) * 100, (valB (bs a) + valB (bs c)) * 100) s
      · rw [if_pos t1]
        obtain ⟨o, t⟩ := (c1 _).1 t1
        rw [show okD _ _ _ = true from o] at R1
        exact rRead_hit1 s _ _ _ _ ⟨#[]⟩ _ w h' HW HV hV R1 t
      · rw [if_neg t1]
        have n1 := fun x => t1 ((c1 _).2 x)
        by_cases t2 : takesR 254 4 inL (valB (bs a) * 254, (valB (bs a) + valB (bs b)) * 254, (valB (bs a) + valB (bs c)) * 254) s
        · rw [if_pos t2]
          obtain ⟨o, t⟩ := (c2 _).1 t2
          rw [show okD _ _ _ = true from o] at R2
          by_cases o1 : okD (valB (bs a) * 100) ((valB (bs a) + valB (bs b)) * 100) ((valB (bs a) + valB (bs c)) * 100) = true
          · rw [o1] at R1
            exact rRead_NH s _ _ _ _ _ _ w h' HW HV hV R1 R2 (fun t => n1 ⟨o1, t⟩) t
          · rw [show okD _ _ _ = false from by simpa using o1] at R1
            exact rRead_FH s _ _ _ _ _ _ w h' HW HV hV R1 R2 t
        · rw [if_neg t2]
          have n2 := fun x => t2 ((c2 _).2 x)
          by_cases o1 : okD (valB (bs a) * 100) ((valB (bs a) + valB (bs b)) * 100) ((valB (bs a) + valB (bs c)) * 100) = true <;> by_cases o2 : okD (valB (bs a) * 254) ((valB (bs a) + valB (bs b)) * 254) ((valB (bs a) + valB (bs c)) * 254) = true
          · rw [o1] at R1; rw [o2] at R2
            exact rRead_NN s _ _ _ _ _ _ w h' HW HV hV R1 R2 (fun t => n1 ⟨o1, t⟩) (fun t => n2 ⟨o2, t⟩)
          · rw [o1] at R1; rw [show okD (valB (bs a) * 254) _ _ = false from by simpa using o2] at R2
            exact rRead_NF s _ _ _ _ _ _ w h' HW HV hV R1 R2 (fun t => n1 ⟨o1, t⟩)
          · rw [show okD (valB (bs a) * 100) _ _ = false from by simpa using o1] at R1; rw [o2] at R2
            exact rRead_FN s _ _ _ _ _ _ w h' HW HV hV R1 R2 (fun t => n2 ⟨o2, t⟩)
          · rw [show okD (valB (bs a) * 100) _ _ = false from by simpa using o1] at R1; rw [show okD (valB (bs a) * 254) _ _ = false from by simpa using o2] at R2
            exact rRead_FF s _ _ _ _ _ _ w h' HW HV hV R1 R2
    · rename_i hn
      refine rRead_words s w h' fun hl => ?_
      match hL : wordsL [] s.data.toList, hl with
      | [a, b, c, m], _ => exact hn a b c m hL
end Go.Proofs.YtjejjeomknkglaaDoor
