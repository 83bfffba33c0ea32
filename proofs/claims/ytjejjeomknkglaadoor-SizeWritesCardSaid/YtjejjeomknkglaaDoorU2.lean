/- The walks of package size: read in every case; Read. -/
import Derived.Test.YtjejjeomknkglaaDoorU1
import Derived.Test.YtjejjeomknkglaaDoorT9
import Derived.Recover
namespace Go.Proofs.YtjejjeomknkglaaDoor
set_option linter.unusedVariables false
set_option linter.unusedSimpArgs false
open Go.RowKit

theorem pieces_size {s x : ByteArray} (h : x ∈ piecesB s) : x.size ≤ s.size := by
  have key : ∀ (k : Nat) (s x : ByteArray), x ∈ Lib.splitB ⟨#[32]⟩ 0 k s → x.size ≤ s.size := by
    intro k
    induction k with
    | zero => intro s x h; simp only [Lib.splitB_zero, List.mem_singleton] at h; rw [h]; exact Nat.le_refl _
    | succ k ih =>
      intro s x h
      unfold Lib.splitB at h
      split at h
      · simp only [List.mem_singleton] at h; rw [h]; exact Nat.le_refl _
      · rcases List.mem_cons.1 h with rfl | h
        · rw [ByteArray.size_extract]; omega
        · have := ih _ _ h
          rw [ByteArray.size_extract] at this
          omega
  exact key _ s x h

/-- What read comes to. -/
def ReadR (r : Option (D3 × Int)) (w : World) (e : Ending) (w' : World) : Prop :=
  match r with
  | some (d, u) => ∃ un st pl m c1 c2, u = un ∧ e = .returned (.agg #[.int .i64 d.1, .int .i64 d.2.1, .int .i64 d.2.2, .int .u8 un, .int .i64 st, .int .i64 pl, .string m, .func (.func 57) #[] #[.pointer (some ⟨c1, 0, none⟩)], .func (.func 58) #[] #[.pointer (some ⟨c1, 0, none⟩)], .func (.func 59) #[] #[.pointer (some ⟨c2, 0, none⟩), .pointer (some ⟨c1, 0, none⟩)]]) ∧ Below w.heap.size w w'
  | none => Panics w e w'

theorem read_unit (un st : Int) (pl : Nat) (s a b c p : ByteArray) (w : World) (he : Env w) (hl : s.size ≤ 1000000) (hp : piecesB s = [a, b, c, p]) (hst : st = 100 ∨ st = 254) (hpl : pl = 3 ∨ pl = 4)
    (hF : ∀ bl ba cap g W, Ready p bl ba cap g W → Calls Tryd.prog 44 #[.slice (some ⟨g, 0, none⟩) 2 2, .func (.func 51) #[] #[.pointer (some ⟨bl, 0, none⟩)]] W (FoundSc un st pl p W)) (hm : p.size ≤ 10) :
    Calls Tryd.prog 24 #[.string s] w (ReadR (readU un st pl p a b c s) w) := by
  have h3 : a.size ≤ 1000000 ∧ b.size ≤ 1000000 ∧ c.size ≤ 1000000 := by
    have h1 : a ∈ piecesB s := by rw [hp]; simp
    have h2 : b ∈ piecesB s := by rw [hp]; simp
    have h3 : c ∈ piecesB s := by rw [hp]; simp
    have := pieces_size h1; have := pieces_size h2; have := pieces_size h3
    omega
  unfold readU
  cases ha : numL st a.data.toList with
  | none => exact read_num1 un st pl s a b c p w he hl hp hst hpl hF hm h3 ⟨ha, h3.1⟩
  | some va =>
    cases hb : numL st b.data.toList with
    | none => exact read_num2 un st pl s a b c p w he hl hp hst hpl hF hm h3 ⟨⟨va, ha⟩, h3.1⟩ ⟨hb, h3.2.1⟩
    | some vb =>
      cases hc : numL st c.data.toList with
      | none => exact read_num3 un st pl s a b c p w he hl hp hst hpl hF hm h3 ⟨⟨va, ha⟩, h3.1⟩ ⟨⟨vb, hb⟩, h3.2.1⟩ ⟨hc, h3.2.2⟩
      | some vc =>
        by_cases hd : okD va (va + vb) (va + vc) = true
        · by_cases ht : bs (textL st pl p.data.toList va (va + vb) (va + vc)) = s
          · simp only [if_pos (And.intro hd ht)]
            refine (read_good un st pl s a b c p w he hl hp hst hpl hF hm h3 va vb vc ha hb hc hd ht).mono ?_
            rintro e w' ⟨⟨c1, c2, rfl⟩, hbw⟩
            exact ⟨un, st, pl, p, c1, c2, rfl, rfl, hbw⟩
          · simp only [if_neg (fun h : okD va (va + vb) (va + vc) = true ∧ _ => ht h.2)]
            exact read_other un st pl s a b c p w he hl hp hst hpl hF hm h3 va vb vc ha hb hc hd ht
        · simp only [if_neg (fun h : okD va (va + vb) (va + vc) = true ∧ _ => hd h.1)]
          exact read_dim un st pl s a b c p w he hl hp hst hpl hF hm h3 va vb vc ha hb hc (by simpa using hd)
theorem read_any (s : ByteArray) (w : World) (he : Env w) (hl : s.size ≤ 1000000) : Calls Tryd.prog 24 #[.string s] w (ReadR (readS s) w) := by
  have hle : (piecesB s).length ≤ 4 := by
    have := Lib.splitB_length_le ⟨#[32]⟩ 0 (min 4 (s.size + 1) - 1) s
    show (Lib.splitB ⟨#[32]⟩ 0 (min 4 (s.size + 1) - 1) s).length ≤ 4
    omega
  by_cases h4 : (piecesB s).length < 4
  · have hn : readS s = none := by
      unfold readS
      split
      · rename_i h; rw [h] at h4; simp at h4
      · rfl
    rw [hn]
    exact read_few s w he hl h4
  · obtain ⟨a, b, c, p, hp⟩ : ∃ a b c p, piecesB s = [a, b, c, p] := by
      match hq : piecesB s, h4, hle with
      | [a, b, c, p], _, _ => exact ⟨a, b, c, p, rfl⟩
      | [], h, _ => simp at h
      | [_], h, _ => simp at h
      | [_, _], h, _ => simp at h
      | [_, _, _], h, _ => simp at h
      | _ :: _ :: _ :: _ :: _ :: _, _, h => simp at h
    unfold readS
    rw [hp]
    simp only
    by_cases h1 : p = ⟨#[109, 109]⟩
    · rw [if_pos h1]
      subst h1
      exact read_unit 1 100 3 s a b c _ w he hl hp (.inl rfl) (.inl rfl) firstM_1 (by decide)
    · rw [if_neg h1]
      by_cases h2 : p = ⟨#[105, 110]⟩
      · rw [if_pos h2]
        subst h2
        exact read_unit 2 254 4 s a b c _ w he hl hp (.inr rfl) (.inr rfl) firstM_2 (by decide)
      · rw [if_neg h2]
        exact read_mark s a b c p w he hl hp (by rw [beq_eq_false_iff_ne]; exact fun e => h1 (toList_inj e).symm) (by rw [beq_eq_false_iff_ne]; exact fun e => h2 (toList_inj e).symm)
end Go.Proofs.YtjejjeomknkglaaDoor
